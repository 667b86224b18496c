/- The document's codes and tags. -/
import Derived.Test.YtmhehnimgkmmaaaDoorMacG
import Derived.Deep.RegionHeld3
import Derived.Deep.DeepCutAuto
import Derived.IntWalk
import Derived.Lib.Hide
namespace Go.Proofs.YtmhehnimgkmmaaaDoor
set_option maxRecDepth 100000
open Go.RowKit
set_option linter.unusedVariables false
set_option linter.unusedSimpArgs false
attribute [local go_sem] cell_re

set_option maxRecDepth 200000 in
set_option maxHeartbeats 8000000 in
theorem ref9Code (key : List Int) (hkb : Byted key) (hkl : key.length ≤ 1000000) (b : List Int) (hbb : Byted b) (hbl : b.length ≤ 1000000) (kp : Option Addr) (kn kc : Nat) (hkn : kn = key.length) (p : Option Addr) (n c : Nat) (hn : n = b.length) (w : World) (hK : At .u8 w kp key) (hX : At .u8 w p b) :
    Calls Tryd.prog 23 #[.slice kp kn kc, .slice p n c] w fun e w' => e = .returned (.agg (ints .u8 (codeL key b)).toArray) ∧ Below w.heap.size w w' := by
  obtain ⟨i0, hi0, hz0, hz1, hz2⟩ := info_parts infoByte
  have dP1 := Lib.hid (fun (W : World) (h : Below w.heap.size w W) => ref9Pad key hkb hkl 54 (by decide) kp kn kc hkn W (hK.call h))
  have dP2 := Lib.hid (fun (W : World) (h : Below w.heap.size w W) => ref9Pad key hkb hkl 92 (by decide) kp kn kc hkn W (hK.call h))
  have hcode : codeL key b = sha (addedL (filledL key) 92 ++ sha (addedL (filledL key) 54 ++ b)) := rfl
  have hL6 : Hid ((addedL (filledL key) 54).length = 64) := by show _ = _; rw [addedL_length, filledL_length]
  have hL7 : Hid ((addedL (filledL key) 92).length = 64) := by show _ = _; rw [addedL_length, filledL_length]
  have hb6 := Lib.hid (addedL_byted (filledL key) 54)
  have hb7 := Lib.hid (addedL_byted (filledL key) 92)
  obtain ⟨A6, hA6⟩ : ∃ A, Hid (addedL (filledL key) 54 = A) := ⟨_, rfl⟩
  obtain ⟨A7, hA7⟩ : ∃ A, Hid (addedL (filledL key) 92 = A) := ⟨_, rfl⟩
  rw [hA6.out] at dP1 hL6 hb6 hcode
  rw [hA7.out] at dP2 hL7 hb7 hcode
  have dO1 := Lib.hid (fun (W : World) (q : Option Addr) (m d : Nat) (hm : m = (A6 ++ b).length) (h : At .u8 W q (A6 ++ b)) => ref8Of (A6 ++ b) (hb6.out.append hbb) (by rw [List.length_append, hL6.out]; omega) m hm q d W h)
  obtain ⟨I8, hI8⟩ : ∃ I, Hid (sha (A6 ++ b) = I) := ⟨_, Lib.hid rfl⟩
  have hIl : Hid (I8.length = 32) := by show _ = _; rw [← hI8.out]; rfl
  have hIb : Hid (Byted I8) := by rw [← hI8.out]; exact Lib.hid (sha_byted _)
  rw [hI8.out] at hcode dO1
  have dO2 := Lib.hid (fun (W : World) (q : Option Addr) (m d : Nat) (hm : m = (A7 ++ I8).length) (h : At .u8 W q (A7 ++ I8)) => ref8Of (A7 ++ I8) (hb7.out.append hIb.out) (by rw [List.length_append, hL7.out, hIl.out]; decide) m hm q d W h)
  obtain ⟨D, hD⟩ : ∃ D, Hid (sha (A7 ++ I8) = D) := ⟨_, Lib.hid rfl⟩
  have hDl : Hid (D.length = 32) := by show _ = _; rw [← hD.out]; rfl
  rw [hD.out] at hcode dO2
  rw [hcode]
  obtain ⟨Y, hY⟩ : ∃ Y, Hid ((ints .u8 D).toArray = Y) := ⟨_, rfl⟩
  obtain ⟨YI, hYI⟩ : ∃ Y, Hid ((ints .u8 I8).toArray = Y) := ⟨_, rfl⟩
  rw [hY.out] at dO2 ⊢
  rw [hYI.out] at dO1
  have hN := Lib.hid hn
  have hX0 := Lib.hid hX
  have hbl' := Lib.hid hbl
  clear hkb hkl hbb hbl hkn hn hK hX hcode
  go_enter Tryd.func23, Tryd.ntmps23
  go_upto_region 2 with (first
    | (refine walk_arr (o := ⟨some 4, _, _, _, _, _⟩) rfl 46 rfl .u8 (List.replicate 32 0) (by kernel_rfl) ?_; intro w1 aR b1 s1; clear s1; have hx1 := hX0.out.call b1)
    | (go_at_call 28; refine (dP1.out w1 b1).mono ?_; intro e' w2 hr; obtain ⟨q2, n2, c2, rfl, m2, b2⟩ := hr.mine; have aR2 := aR.call b2; have hB2 := below_then b1 b2; have hx2 := hx1.call b2; have hle2 : Hid ((n2 + n) * (1 + 1) ≤ 1000000000000) := (by have h1 := m2.len; have h2 := hL6.out; have h3 := hN.out; have h4 := hbl'.out; show _ ≤ _; omega); have hs1 : w1.heap.size ≤ w2.heap.size := b2.size)
    | (at_builtin; refine walk_mine (k := .u8) (o := ⟨some 9, _, _, _, _, _⟩) rfl _ _ 48 rfl i0 (.int .u8 0) 1 Tryd.underlying48 hi0 hz0 hz1 hz2 rfl m2 rfl hx2 hN.out rfl hle2.out hs1 b2 ?_; intro q3 n3 c3 w3 m3 b3 e3 g3)
    | (go_at_call 25; refine (dO1.out w3 q3 n3 c3 m3.len m3.at_).mono ?_; rintro e' w4 ⟨rfl, b4⟩; have aR3 := aR.call b3; have aR4 := aR3.call b4; have hB3 := below_then b1 b3; have hB4 := below_then hB3 b4)
    | (refine walk_arr (o := ⟨some 5, _, _, _, _, _⟩) rfl 46 rfl .u8 (List.replicate 32 0) (by kernel_rfl) ?_; intro w5 k5 b5 s5; clear s5; have aR5 := aR4.call b5; have hB5 := below_then hB4 b5)
    | (refine walk_store rfl 46 _ _ rfl k5 rfl YI hYI rfl (by rw [hIl.out]; kernel_rfl) (by rw [hIl.out]; rfl) ?_; intro w6 k6 s6 o6; have aR6 := aR5.only o6 (Nat.ne_of_lt aR4.lt) s6; have hB6 := below_only hB5 o6 hB4.size s6; clear s6))
  clear aR b1 hx1 m2 b2 aR2 hB2 hx2 hle2 hs1 m3 b3 e3 g3 aR3 hB3 b4 aR4 k5 b5 aR5 hB5 o6 hB4 dP1 dO1
  try simp only [Act.put, List.setIfInBounds_toArray, List.set_cons_zero, List.set_cons_succ]
  replace k6 := k6.drew
  replace aR6 := aR6.drew
  replace hB6 := hB6.drew
  refine wp_region_held_drew (S := fun _ => True) (by kernel_rfl) trivial (fun _ => ?_)
  generalize w6.drew = w10 at *
  generalize w4.heap.size = g5 at *
  refine wpAnyH_take (i := 0) (oi := ⟨some 11, .move (.tmp 0), _, _, _, _⟩) (v := .slice kp kn kc) rfl (by kernel_rfl) (by kernel_rfl) (by kernel_rfl) (fun _ _ _ h => h) (Or.inl ⟨by rfl, by intro w _; go_simp⟩) trivial ?_
  try simp only [Act.put, List.setIfInBounds_toArray, List.set_cons_zero, List.set_cons_succ]
  refine wpAnyH_take (i := 2) (oi := ⟨some 13, .slice 46 (.tmp 5) none none none, _, _, _, _⟩) (v := .slice (some ⟨g5, 0, none⟩) 32 32) rfl (by kernel_rfl) (by kernel_rfl) (by kernel_rfl) (fun _ _ _ h => h) (Or.inl ⟨by rfl, by intro w _; go_simp⟩) trivial ?_
  try simp only [Act.put, List.setIfInBounds_toArray, List.set_cons_zero, List.set_cons_succ]
  refine wpAnyH_ready (rs := [1]) (by kernel_rfl) (by simp) ?_
  refine AllReadyH.cons (o := ⟨some 12, .call { callee := .value (.func 28), args := #[.tmp 11, .const (.int .u8 92)], argTypes := #[48, 5] }, _, _, _, _⟩) rfl (fun K hK => ?_) AllReadyH.nil
  go_simp
  refine (dP2.out w10 hB6).mono ?_
  intro e' w11 hr
  obtain ⟨q11, n11, c11, rfl, m11, b11⟩ := hr.mine
  have k11 := k6.call b11
  have aR11 := aR6.call b11
  have hle11 : Hid ((n11 + 32) * (1 + 1) ≤ 1000000000000) := by have h1 := m11.len; have h2 := hL7.out; show _ ≤ _; omega
  have hs11 : w10.heap.size ≤ w11.heap.size := b11.size
  refine hK.out _ _ trivial (fun _ => ?_)
  clear hK K
  try simp only [Act.put, List.setIfInBounds_toArray, List.set_cons_zero, List.set_cons_succ]
  refine wpAnyH_ready (rs := [3]) (by kernel_rfl) (by simp) ?_
  refine AllReadyH.cons (o := ⟨some 14, .call { callee := .builtin .append, args := #[.tmp 12, .tmp 13], argTypes := #[48, 48] }, _, _, _, _⟩) rfl (fun K hK => ?_) AllReadyH.nil
  rw [if_pos (by rfl)]
  refine oper_mine (k := .u8) _ _ 48 rfl i0 (.int .u8 0) 1 Tryd.underlying48 hi0 hz0 hz1 hz2 rfl m11 rfl k11.at_ hIl.out.symm rfl hle11.out hs11 b11 ?_
  intro q12 n12 c12 w12 m12 b12 e12 g12
  refine hK.out _ _ trivial (fun _ => ?_)
  clear hK K
  try simp only [Act.put, List.setIfInBounds_toArray, List.set_cons_zero, List.set_cons_succ]
  have aR12 := aR6.call b12
  have hB12 := below_then hB6 b12
  refine wpAnyH_ready (rs := [4]) (by kernel_rfl) (by simp) ?_
  refine AllReadyH.cons (o := ⟨some 15, .call { callee := .value (.func 25), args := #[.tmp 14], argTypes := #[48] }, _, _, _, _⟩) rfl (fun K hK => ?_) AllReadyH.nil
  go_simp
  refine (dO2.out w12 q12 n12 c12 m12.len m12.at_).mono ?_
  rintro e' w13 ⟨rfl, b13⟩
  have aR13 := aR12.call b13
  have hB13 := below_then hB12 b13
  refine hK.out _ _ trivial (fun _ => ?_)
  clear hK K
  try simp only [Act.put, List.setIfInBounds_toArray, List.set_cons_zero, List.set_cons_succ]
  refine wpAnyH_ready (rs := [5]) (by kernel_rfl) (by simp) ?_
  refine AllReadyH.cons (o := ⟨none, .store 46 (.tmp 4) (.tmp 15), _, _, _, _⟩) rfl (fun K hK => ?_) AllReadyH.nil
  rw [if_pos (by rfl)]
  refine oper_store 46 _ _ rfl aR13 rfl Y hY rfl (by rw [hDl.out]; kernel_rfl) (by rw [hDl.out]; rfl) ?_
  intro w14 aR14 s14 o14
  have hB14 := below_only hB13 o14 (Nat.le_refl _) s14
  refine hK.out _ _ trivial (fun _ => ?_)
  clear hK K
  try simp only [Act.put, List.setIfInBounds_toArray, List.set_cons_zero, List.set_cons_succ]
  refine wpAnyH_done (by kernel_rfl) ?_ _
  go_wp2
  refine bodyPost_ret (results_cell_mid rfl _ _ w.heap.size (ints .u8 D) _ rfl aR14.range Tryd.underlying46 rfl (by rw [ints, List.length_map, hDl.out]; kernel_rfl)) rfl ?_
  exact ⟨by rw [hY.out], hB14⟩
end Go.Proofs.YtmhehnimgkmmaaaDoor
