/- A digest out of a state, in the program. -/
import Derived.Test.YtmhehnimgkmmaaaDoorHasE
import Derived.Deep.RegionHeld3
import Derived.Deep.DeepCutAuto
import Derived.IntWalk
namespace Go.Proofs.YtmhehnimgkmmaaaDoor
set_option maxRecDepth 100000
open Go.RowKit
set_option linter.unusedVariables false
attribute [local go_sem] cell_re

set_option maxRecDepth 200000 in
set_option maxHeartbeats 8000000 in
theorem hashDigest (s : S8) (hs : s.Ok) (w : World) :
    Calls Tryd.prog 38 #[.agg (ints .u32 (wordsOf s)).toArray] w fun e w' => e = .returned (.agg (ints .u8 (digestOf s)).toArray) ∧ Below w.heap.size w w' := by
  have hH := Lib.hid hs
  have hwu := Lib.hid (fun i => wordsOf_u32 hs i)
  have hdg := Lib.hid (fun (i k : Nat) (hi : i < 8) (hk : k < 4) => digest_get s hs i k hi hk)
  have hDl := Lib.hid (digestOf_length s)
  have hWl := Lib.hid (show (wordsOf s).length = 8 from rfl)
  obtain ⟨WS, hWS⟩ : ∃ W, Hid (wordsOf s = W) := ⟨_, rfl⟩
  obtain ⟨D, hD⟩ : ∃ D, Hid (digestOf s = D) := ⟨_, rfl⟩
  rw [hWS.out] at hwu hdg hWl
  rw [hD.out] at hdg hDl
  obtain ⟨X0, hX0⟩ : ∃ X, Hid ((ints .u32 WS).toArray = X) := ⟨_, rfl⟩
  rw [hWS.out, hX0.out, hD.out]
  clear hs hH hWS
  go_enter Tryd.func38, Tryd.ntmps38
  go_upto_region 2 with (first
    | (refine walk_boxed (o := ⟨some 1, _, _, _, _, _⟩) rfl 67 _ rfl .u32 WS X0 hX0 rfl ?_; intro w1 hA1 hB1 hs1)
    | (refine walk_arr (o := ⟨some 2, _, _, _, _, _⟩) rfl 46 rfl .u8 (List.replicate 32 0) (by kernel_rfl) ?_; intro w2 hR2 hB2 hs2)
    | (refine walk_arr (o := ⟨some 3, _, _, _, _, _⟩) rfl 46 rfl .u8 (List.replicate 32 0) (by kernel_rfl) ?_; intro w3 hD3 hB3 hs3))
  have hA := (hA1.call hB2).call hB3
  have hR := hR2.call hB3
  have hB := below_then (below_then hB1 hB2) hB3
  have hne1 : w.heap.size ≠ w2.heap.size := by omega
  have hne2 : w1.heap.size ≠ w2.heap.size := by omega
  have hgR : w.heap.size ≤ w1.heap.size := by omega
  have hgD : w.heap.size ≤ w2.heap.size := by omega
  obtain ⟨Z, hZ⟩ : ∃ Z, Hid ((List.replicate 32 0 : List Int) = Z) := ⟨_, rfl⟩
  have hZl : Hid (Z.length = 32) := (by rw [← hZ.out]; exact (rfl : _ = _))
  replace hD3 : Arr .u8 w3 w2.heap.size (fillTo D 32 0) := hD3
  rw [hZ.out] at hR
  clear hA1 hR2 hB1 hB2 hB3 hs1 hs2 hs3 hZ
  generalize w1.heap.size = gr at *
  generalize w2.heap.size = gd at *
  go_wp2
  go_loopw [7] (fun v7 wr => ∃ (i : Nat), i ≤ 32 ∧ v7 = .int .i64 i ∧ Arr .u32 wr w.heap.size WS ∧ Arr .u8 wr gr Z ∧ Arr .u8 wr gd (fillTo D 32 i) ∧ Below w.heap.size w wr) (fun v7 _ => 32 - (intOf v7).toNat)
  case atStart => exact ⟨0, by omega, rfl, hA, hR, hD3, hB⟩
  case round =>
    clear hA hR hD3 hB
    obtain ⟨i, hi, rfl, hA, hR, hE, hB⟩ := hrel
    by_cases hlt : i < 32
    · have hfl := fillTo_length D 32 i (by rw [hDl.out]; omega) (by omega)
      have cs := hA.c (i / 4) (by rw [hWl.out]; omega)
      obtain ⟨x0, x1⟩ := hwu.out (i / 4)
      have hval := hdg.out (i / 4) (i % 4) (by omega) (by omega)
      rw [show 4 * (i / 4) + i % 4 = i by omega] at hval
      have hst := Lib.hid (fun (v : Int) (hv : v = D.getD i 0) => (show Arr .u32 (wr.setCell ⟨gd, i, none⟩ (.int .u8 v)) w.heap.size WS ∧ Arr .u8 (wr.setCell ⟨gd, i, none⟩ (.int .u8 v)) gr Z ∧ Arr .u8 (wr.setCell ⟨gd, i, none⟩ (.int .u8 v)) gd (fillTo D 32 (i + 1)) ∧ Below w.heap.size w (wr.setCell ⟨gd, i, none⟩ (.int .u8 v)) from by
        subst hv
        exact ⟨hA.apart hne1 i _, hR.apart hne2 i _, by rw [← fillTo_set D 32 i (by rw [hDl.out]; exact hlt) hlt]; exact hE.set i _ (by omega), hB.setCell (p := ⟨gd, i, none⟩) hgD _⟩))
      have ce := hE.c i (by omega)
      have fe := hE.f i (by omega)
      have le := hE.lt
      have la := hA.lt
      generalize (fillTo D 32 i).getD i 0 = vI at *
      generalize WS.getD (i / 4) 0 = x at *
      generalize D.getD i 0 = dv at *
      have q0 : ((i : Int) / 4).toNat = i / 4 := by omega
      have q1 : (0 : Int) ≤ (i : Int) / 4 := by omega
      have q2 : (i : Int) / 4 < 8 := by omega
      have j1 : (i : Int) < 32 := by omega
      clear hA hR hE hB hfl
      have h4 : i % 4 = 0 ∨ i % 4 = 1 ∨ i % 4 = 2 ∨ i % 4 = 3 := by omega
      rcases h4 with hm | hm | hm | hm
      · have hmi : (i : Int) % 4 = 0 := by omega
        have pw : (256 : Int) ^ (3 - 0) = 16777216 := by decide
        rw [hm, pw] at hval
        have hv := Lib.hid (show x / 16777216 = dv by rw [hval]; first | done | omega)
        clear hm pw hval
        go_wp2
        go_round
        case rel =>
          obtain ⟨k1, k2, k3, k4⟩ := hst.out _ hv.out
          exact ⟨i + 1, by omega, by go_num, k1, k2, k3, k4⟩
        case measure => simp [intOf]; omega
      · have hmi : (i : Int) % 4 = 1 := by omega
        have pw : (256 : Int) ^ (3 - 1) = 65536 := by decide
        rw [hm, pw] at hval
        have hv := Lib.hid (show x / 65536 % 256 = dv by rw [hval]; first | done | omega)
        clear hm pw hval
        go_wp2
        go_round
        case rel =>
          obtain ⟨k1, k2, k3, k4⟩ := hst.out _ hv.out
          exact ⟨i + 1, by omega, by go_num, k1, k2, k3, k4⟩
        case measure => simp [intOf]; omega
      · have hmi : (i : Int) % 4 = 2 := by omega
        have pw : (256 : Int) ^ (3 - 2) = 256 := by decide
        rw [hm, pw] at hval
        have hv := Lib.hid (show x / 256 % 256 = dv by rw [hval]; first | done | omega)
        clear hm pw hval
        go_wp2
        go_round
        case rel =>
          obtain ⟨k1, k2, k3, k4⟩ := hst.out _ hv.out
          exact ⟨i + 1, by omega, by go_num, k1, k2, k3, k4⟩
        case measure => simp [intOf]; omega
      · have hmi : (i : Int) % 4 = 3 := by omega
        have pw : (256 : Int) ^ (3 - 3) = 1 := by decide
        rw [hm, pw] at hval
        have hv := Lib.hid (show x % 256 = dv by rw [hval]; first | done | omega)
        clear hm pw hval
        go_wp2
        go_round
        case rel =>
          obtain ⟨k1, k2, k3, k4⟩ := hst.out _ hv.out
          exact ⟨i + 1, by omega, by go_num, k1, k2, k3, k4⟩
        case measure => simp [intOf]; omega
    · obtain rfl : i = 32 := by omega
      rw [fillTo_all D 32 hDl.out] at hE
      obtain ⟨Y, hY⟩ : ∃ Y, Hid ((ints .u8 D).toArray = Y) := ⟨_, rfl⟩
      rw [show ((32 : Nat) : Int) = 32 from rfl]
      go_wp2_with (first
        | (refine walk_read rfl 46 _ rfl hE rfl 32 _ Tryd.underlying46 (by kernel_rfl) hDl.out Y hY ?_)
        | (refine walk_store rfl 46 _ _ rfl hR rfl Y hY rfl (by rw [hDl.out]; kernel_rfl) (by rw [hDl.out, hZl.out]) ?_; intro w9 hR9 hs9 ho9))
      refine bodyPost_ret (results_cell_mid rfl _ _ gr (ints .u8 D) _ rfl hR9.range Tryd.underlying46 rfl (by rw [ints, List.length_map, hDl.out]; kernel_rfl)) rfl ?_
      exact ⟨rfl, below_only hB ho9 hgR hs9⟩

end Go.Proofs.YtmhehnimgkmmaaaDoor
