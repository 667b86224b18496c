/- A key's block, in the program: filled, and added to. -/
import Derived.Test.YtmhehnimgkmmaaaDoorMacB
import Derived.Deep.RegionHeld3
import Derived.Deep.DeepCutAuto
import Derived.IntWalk
import Derived.Lib.Hide
namespace Go.Proofs.YtmhehnimgkmmaaaDoor
set_option maxRecDepth 100000
open Go.RowKit
set_option linter.unusedVariables false
set_option linter.unusedSimpArgs false
attribute [local go_sem] cell_re

set_option maxRecDepth 200000 in
set_option maxHeartbeats 8000000 in
theorem macAdded (zs : List Int) (hb : Byted zs) (hl : zs.length = 64) (x : Int) (hx : 0 ≤ x ∧ x ≤ 255) (X : Array Value) (hX : Hid ((ints .u8 zs).toArray = X)) (w : World) :
    Calls Tryd.prog 27 #[.agg X, .int .u8 x] w fun e w' => e = .returned (.agg (ints .u8 (addedL zs x)).toArray) ∧ Below w.heap.size w w' := by
  have hH := Lib.hid hb
  have hL := Lib.hid hl
  obtain ⟨x0, x1⟩ := hx
  have hAl : Hid ((addedL zs x).length = 64) := by show _ = _; rw [addedL_length, hl]
  obtain ⟨D, hD⟩ : ∃ D, Hid (addedL zs x = D) := ⟨_, rfl⟩
  rw [hD.out] at hAl ⊢
  obtain ⟨Y, hY⟩ : ∃ Y, Hid ((ints .u8 D).toArray = Y) := ⟨_, rfl⟩
  rw [hY.out]
  clear hb hl
  go_enter Tryd.func27, Tryd.ntmps27
  go_upto_region 1 with (first
    | (refine walk_boxed rfl 54 _ rfl .u8 zs X hX rfl ?_; intro w1 hP hB1 hs1)
    | (refine walk_arr (o := ⟨some 4, _, _, _, _, _⟩) rfl 54 rfl .u8 (List.replicate 64 0) (by kernel_rfl) ?_; intro w2 hR hB2 hs2))
  replace hP := hP.call hB2
  have hB := below_then hB1 hB2
  have hgR : w.heap.size ≤ w1.heap.size := hB1.size
  have hne : w.heap.size ≠ w1.heap.size := by omega
  have hgp : w.heap.size < w2.heap.size := hP.lt
  clear hB1 hB2 hs1 hs2
  generalize w1.heap.size = gr at *
  rw [← addedTo_zero zs x] at hP
  have hPL := Lib.hid (addedTo_length zs x)
  go_wp2
  go_loopw [6] (fun v6 wr => ∃ (i : Nat), i ≤ 64 ∧ v6 = .int .i64 i ∧ Arr .u8 wr w.heap.size (addedTo zs x i) ∧ Arr .u8 wr gr (List.replicate 64 0) ∧ Below w.heap.size w wr) (fun v6 _ => 64 - (intOf v6).toNat)
  case atStart => exact ⟨0, by omega, rfl, hP, hR, hB⟩
  case round =>
    clear hR hP hB
    obtain ⟨i, hi, rfl, hP, hR, hB⟩ := hrel
    by_cases hlt : i < 64
    · have hpl := hPL.out i
      have hc := hP.c i (by rw [hpl, hL.out]; exact hlt)
      have hf := hP.f i (by rw [hpl, hL.out]; exact hlt)
      rw [addedTo_get zs x i (by rw [hL.out]; exact hlt)] at hc
      have hnx := addedTo_succ zs x i (by rw [hL.out]; exact hlt)
      have hv := hH.out.at_ i
      have hset := Lib.hid (fun v : Int => hP.set i v (by rw [hpl, hL.out]; exact hlt))
      have hsR := Lib.hid (fun v : Value => hR.apart (Ne.symm hne) i v)
      have hBs := Lib.hid (fun v : Value => hB.setCell (p := ⟨w.heap.size, i, none⟩) (Nat.le_refl _) v)
      have hnx' := Lib.hid hnx
      generalize zs.getD i 0 = v at *
      obtain ⟨v0, v1⟩ := hv
      have hgl := hP.lt
      have j1 : (i : Int) < 64 := by omega
      clear hP hR hpl hB hnx
      go_wp2
      go_roundw
      case rel => exact ⟨i + 1, by omega, by go_num, by rw [← hnx'.out]; exact hset.out _, hsR.out _, hBs.out _⟩
      case measure => simp [intOf]; omega
    · obtain rfl : i = 64 := by omega
      rw [addedTo_all zs x 64 hL.out] at hP
      rw [hD.out] at hP
      go_wp2_with (first
        | (refine walk_read rfl 54 _ rfl hP rfl 64 _ Tryd.underlying54 (by kernel_rfl) hAl.out Y hY ?_)
        | (refine walk_store rfl 54 _ _ rfl hR rfl Y hY rfl (by rw [hAl.out]; kernel_rfl) (by rw [hAl.out]; rfl) ?_; intro w5 hA5 hs5 ho5))
      refine bodyPost_ret (results_cell_mid rfl _ _ gr (ints .u8 D) _ rfl hA5.range Tryd.underlying54 rfl (by rw [ints, List.length_map, hAl.out]; kernel_rfl)) rfl ?_
      exact ⟨by rw [hY.out], below_only hB ho5 hgR hs5⟩

end Go.Proofs.YtmhehnimgkmmaaaDoor
