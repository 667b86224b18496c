/- A key's block, in the program: filled. -/
import Derived.Test.YtmhehnimgkmmaaaDoorMacC
import Derived.Deep.RegionHeld3
import Derived.Deep.DeepCutAuto
import Derived.IntWalk
import Derived.Lib.Hide
namespace Go.Proofs.YtmhehnimgkmmaaaDoor
set_option maxRecDepth 100000
open Go.RowKit
set_option linter.unusedVariables false
set_option linter.unusedSimpArgs false
attribute [local go_sem] cell_re

set_option maxRecDepth 200000 in
set_option maxHeartbeats 8000000 in
theorem macFilled (key : List Int) (hb : Byted key) (hl : key.length ≤ 1000000000) (p : Option Addr) (n c : Nat) (hn : n = key.length) (hnc : n ≤ c) (w : World) (hT : Steps w) (hK : At .u8 w p key) :
    Calls Tryd.prog 26 #[.slice p n c] w fun e w' => e = .returned (.agg (ints .u8 (filledL key)).toArray) ∧ Below w.heap.size w w' := by
  have hFl := Lib.hid (filledL_length key)
  have hko : keyOf key ++ (List.replicate 64 0).drop (keyOf key).length = filledL key := by
    unfold filledL
    rw [List.drop_replicate]
  have hkl := keyOf_length key
  have hWl : Hid ((List.replicate 64 (0 : Int)).length = 64) := List.length_replicate ..
  have jn : (n : Int) ≤ 1000000000 := by omega
  have hN := Lib.hid hn
  have hb' := Lib.hid hb
  have hl' := Lib.hid hl
  have hK0 := Lib.hid hK
  have hT0 := Lib.hid hT
  by_cases hlong : 64 < key.length
  · have e : keyOf key = sha key := if_pos hlong
    rw [e] at hko hkl
    have j1 : (64 : Int) < (n : Int) := by omega
    have j2 : ¬ (n : Int) ≤ 64 := by omega
    obtain ⟨F, hF⟩ : ∃ F, Hid (filledL key = F) := ⟨_, rfl⟩
    rw [hF.out] at hko hFl ⊢
    obtain ⟨D, hD⟩ : ∃ D, Hid (sha key = D) := ⟨_, rfl⟩
    have hDl : Hid (D.length = 32) := by show _ = _; rw [← hD.out]; rfl
    rw [hD.out] at hko hkl
    have hfin := Lib.hid hko
    obtain ⟨Y, hY⟩ : ∃ Y, Hid ((ints .u8 F).toArray = Y) := ⟨_, rfl⟩
    obtain ⟨YD, hYD⟩ : ∃ Y, Hid ((ints .u8 D).toArray = Y) := ⟨_, rfl⟩
    rw [hY.out]
    have hflat : [key].flatten = key := by simp
    have dO := Lib.hid (fun (W : World) (h : Below w.heap.size w W) => hashOf [key] (joinTo_byted (fun x hx => by obtain rfl := List.mem_singleton.mp hx; exact hb'.out)) (by rw [hflat]; exact hl'.out) 1 1 rfl (by decide) (some ⟨W.heap.size, 0, none⟩) (W.alloc (.cells #[.slice p n c] 48)) (hT0.out.call (h.alloc h.size _)) (Parts.lit [.slice p n c] _ _ rfl [key] (fun j hj => by obtain rfl : j = 0 := (by simpa using hj); exact ⟨_, rfl, (hK0.out.call h).part hN.out hnc hb'.out⟩)))
    rw [hflat, hD.out, hYD.out] at dO
    clear hn hb hl hK hT hlong e hflat hko
    go_enter Tryd.func26, Tryd.ntmps26
    go_upto_region 4 with (first
      | (refine walk_arr (o := ⟨some 2, _, _, _, _, _⟩) rfl 54 rfl .u8 (List.replicate 64 0) (by kernel_rfl) ?_; intro w1 hR1 hB1 hs1; replace hs1 := Lib.hid hs1)
      | (refine walk_arr (o := ⟨some 3, _, _, _, _, _⟩) rfl 54 rfl .u8 (List.replicate 64 0) (by kernel_rfl) ?_; intro w2 hW2 hB2 hs2; replace hs2 := Lib.hid hs2; have hR2 := hR1.call hB2; have hBw2 := below_then hB1 hB2)
      | (go_at_call 24; refine (dO.out w2 hBw2).mono ?_; rintro e' w3 ⟨rfl, hB3⟩; have hBx := (Below.refl w2.heap.size w2).alloc (Nat.le_refl _) (.cells #[.slice p n c] 48); have hB23 := below_then hBx hB3; have hR3 := hR2.call hB23; have hW3 := hW2.call hB23; have hBw3 := below_then hBw2 hB23)
      | (refine walk_arr (o := ⟨some 4, _, _, _, _, _⟩) rfl 46 rfl .u8 (List.replicate 32 0) (by kernel_rfl) ?_; intro w4 hA4 hB4 hs4; clear hs4; have hR4 := hR3.call hB4; have hW4 := hW3.call hB4; have hBw4 := below_then hBw3 hB4)
      | (refine walk_store rfl 46 _ _ rfl hA4 rfl YD hYD rfl (by rw [hDl.out]; kernel_rfl) (by rw [hDl.out]; rfl) ?_; intro w5 hA5 hs5 ho5))
    have hne35 : w3.heap.size ≠ w1.heap.size := by have h1 := hB23.size; have h2 := hs2.out; omega
    have hne35r : w3.heap.size ≠ w.heap.size := by have h1 := hB23.size; have h2 := hs2.out; have h3 := hB1.size; omega
    have hR := hR4.only ho5 (Ne.symm hne35r) hs5
    have hW := hW4.only ho5 (Ne.symm hne35) hs5
    have hgW : w.heap.size ≤ w1.heap.size := hB1.size
    have hne : w.heap.size ≠ w1.heap.size := by have := hs1.out; omega
    have hB := below_only hBw4 ho5 (by have h1 := hBw3.size; omega) hs5
    have hKx := hA5.at_
    have hKl : Hid (32 = D.length) := hDl.out.symm
    have hle : D.length ≤ (List.replicate 64 (0 : Int)).length := by rw [hDl.out]; simp
    clear dO hA4 hs5 ho5 hR2 hR3 hR4 hW3 hW4 hB1 hB2 hBw2 hB3 hBx hB23 hBw3 hB4 hBw4 hs1 hs2 hne35 hne35r
    clear hR1 hW2
    generalize w1.heap.size = gw at *
    generalize w3.heap.size = gd at *
    have hle := Lib.hid hle
    go_wp2_with (first
      | (refine walk_copy (g := gw) (m := 64) (zs := List.replicate 64 0) rfl _ _ 48 48 rfl 5 Tryd.underlying48 (by kernel_rfl) rfl hW hWl.out.symm rfl hKx hKl.out hle.out ?_; intro w6 hA6 hs6 ho6; rw [hfin.out] at hA6; have hR6 := hR.only ho6 hne hs6; have hB6 := below_only hB ho6 hgW hs6)
      | (refine walk_read rfl 54 _ rfl hA6 rfl 64 _ Tryd.underlying54 (by kernel_rfl) hFl.out Y hY ?_)
      | (refine walk_store rfl 54 _ _ rfl hR6 rfl Y hY rfl (by rw [hFl.out]; kernel_rfl) (by rw [hFl.out]; rfl) ?_; intro w7 hA7 hs7 ho7))
    refine bodyPost_ret (results_cell_mid rfl _ _ w.heap.size (ints .u8 F) _ rfl hA7.range Tryd.underlying54 rfl (by rw [ints, List.length_map, hFl.out]; kernel_rfl)) rfl ?_
    exact ⟨by rw [hY.out], below_only hB6 ho7 (Nat.le_refl _) hs7⟩
  · have e : keyOf key = key := if_neg hlong
    rw [e] at hko hkl
    have j1 : ¬ (64 : Int) < (n : Int) := by omega
    have j2 : (n : Int) ≤ 64 := by omega
    obtain ⟨F, hF⟩ : ∃ F, Hid (filledL key = F) := ⟨_, rfl⟩
    rw [hF.out] at hko hFl ⊢
    have hfin := Lib.hid hko
    obtain ⟨Y, hY⟩ : ∃ Y, Hid ((ints .u8 F).toArray = Y) := ⟨_, rfl⟩
    rw [hY.out]
    clear hn hb hl hK hT hlong e hko
    go_enter Tryd.func26, Tryd.ntmps26
    go_upto_region 2 with (first
      | (refine walk_arr (o := ⟨some 2, _, _, _, _, _⟩) rfl 54 rfl .u8 (List.replicate 64 0) (by kernel_rfl) ?_; intro w1 hR1 hB1 hs1; replace hs1 := Lib.hid hs1)
      | (refine walk_arr (o := ⟨some 3, _, _, _, _, _⟩) rfl 54 rfl .u8 (List.replicate 64 0) (by kernel_rfl) ?_; intro w2 hW hB2 hs2; replace hs2 := Lib.hid hs2; have hR := hR1.call hB2; have hB := below_then hB1 hB2))
    have hgW : w.heap.size ≤ w1.heap.size := hB1.size
    have hne : w.heap.size ≠ w1.heap.size := by have := hs1.out; omega
    have hKx := hK0.out.call hB
    have hKl := hN.out
    have hle : key.length ≤ (List.replicate 64 (0 : Int)).length := by rw [hWl.out]; exact hkl
    clear hR1 hB1 hB2 hs1 hs2
    generalize w1.heap.size = gw at *
    replace hKl := Lib.hid hKl
    have hle := Lib.hid hle
    go_wp2_with (first
      | (refine walk_copy (g := gw) (m := 64) (zs := List.replicate 64 0) rfl _ _ 48 48 rfl 5 Tryd.underlying48 (by kernel_rfl) rfl hW hWl.out.symm rfl hKx hKl.out hle.out ?_; intro w6 hA6 hs6 ho6; rw [hfin.out] at hA6; have hR6 := hR.only ho6 hne hs6; have hB6 := below_only hB ho6 hgW hs6)
      | (refine walk_read rfl 54 _ rfl hA6 rfl 64 _ Tryd.underlying54 (by kernel_rfl) hFl.out Y hY ?_)
      | (refine walk_store rfl 54 _ _ rfl hR6 rfl Y hY rfl (by rw [hFl.out]; kernel_rfl) (by rw [hFl.out]; rfl) ?_; intro w7 hA7 hs7 ho7))
    refine bodyPost_ret (results_cell_mid rfl _ _ w.heap.size (ints .u8 F) _ rfl hA7.range Tryd.underlying54 rfl (by rw [ints, List.length_map, hFl.out]; kernel_rfl)) rfl ?_
    exact ⟨by rw [hY.out], below_only hB6 ho7 (Nat.le_refl _) hs7⟩

end Go.Proofs.YtmhehnimgkmmaaaDoor
