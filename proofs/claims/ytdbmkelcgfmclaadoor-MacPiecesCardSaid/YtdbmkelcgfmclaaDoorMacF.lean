/- The tag, and whether it is right, in the program. -/
import Derived.Test.YtdbmkelcgfmclaaDoorMacE
import Derived.Test.YtdbmkelcgfmclaaDoorMacA
import Derived.Deep.RegionHeld3
import Derived.Deep.DeepCutAuto
import Derived.IntWalk
import Derived.Laws.Cover3
import Derived.Lib.Hide
namespace Go.Proofs.YtdbmkelcgfmclaaDoor
set_option maxRecDepth 100000
open Go.RowKit
set_option linter.unusedVariables false
set_option linter.unusedSimpArgs false
attribute [local go_sem] cell_re

theorem Arr.take {k : IntKind} {w : World} {g : Nat} {zs : List Int} (h : Arr k w g zs) (m : Nat) : Arr k w g (zs.take m) :=
  ⟨h.lt, fun j hj => by rw [List.length_take] at hj; rw [h.c j (by omega), List.getD_eq_getElem?_getD, List.getD_eq_getElem?_getD, List.getElem?_take, if_pos (by omega)], fun j hj => by rw [List.length_take] at hj; exact h.f j (by omega)⟩
set_option maxRecDepth 200000 in
set_option maxHeartbeats 8000000 in
theorem macTag (key : List Int) (hkb : Byted key) (hkl : key.length = 32) (K : Array Value) (hK : Hid ((ints .u8 key).toArray = K)) (l : List (List Int)) (hlb : ∀ x ∈ l, Byted x) (hll : l.flatten.length ≤ 1000000) (p : Option Addr) (n c : Nat) (hn : n = l.length) (hn9 : n ≤ 1000000) (hpc : p = none → c = 0) (w : World) (hT : Steps w) (hP : Parts w p l) :
    Calls Tryd.prog 12 #[.agg K, .slice p n c] w fun e w' => e = .returned (.agg (ints .u8 (tagL key l.flatten)).toArray) ∧ Below w.heap.size w w' := by
  have dC := Lib.hid (fun (W : World) (g : Nat) (h : Below w.heap.size w W) (hA : Arr .u8 W g key) => macCode key hkb (by omega) (some ⟨g, 0, none⟩) 32 32 hkl.symm (Nat.le_refl _) l hlb hll p n c hn hn9 hpc W (hT.call h) hA.at_ (hP.call h))
  have htag : tagL key l.flatten = (codeL key l.flatten).take 16 := rfl
  obtain ⟨C, hC⟩ : ∃ C, Hid (codeL key l.flatten = C) := ⟨_, Lib.hid rfl⟩
  have hCl : Hid (C.length = 32) := by rw [← hC.out]; exact Lib.hid rfl
  rw [hC.out] at dC htag
  rw [htag]
  obtain ⟨D, hD⟩ : ∃ D, Hid (C.take 16 = D) := ⟨_, rfl⟩
  have hDl : Hid (D.length = 16) := by show _ = _; rw [← hD.out, List.length_take, hCl.out]; rfl
  rw [hD.out]
  obtain ⟨Y, hY⟩ : ∃ Y, Hid ((ints .u8 D).toArray = Y) := ⟨_, rfl⟩
  obtain ⟨YC, hYC⟩ : ∃ Y, Hid ((ints .u8 C).toArray = Y) := ⟨_, rfl⟩
  rw [hY.out]
  rw [hYC.out] at dC
  have hsa : ∀ (W1 : World) (a : Option Addr), (Instr.arrayAt 26 (.slice a 16 32)).run Tryd.prog W1 = .ok (.pointer a) W1 := fun W1 a => Go.run_arrayAt (P := Tryd.prog) W1 26 5 16 a 16 32 Tryd.underlying26 (Nat.le_refl _)
  clear hkb hkl hlb hll hn hT hP htag
  go_enter Tryd.func12, Tryd.ntmps12
  go_wp2_with (first
    | (refine walk_boxed rfl 24 _ rfl .u8 key K hK rfl ?_; intro w1 k1 b1 s1; clear s1)
    | (refine walk_arr (o := ⟨some 4, _, _, _, _, _⟩) rfl 26 rfl .u8 (List.replicate 16 0) (by kernel_rfl) ?_; intro w2 aR b2 s2; clear s2; have k2 := k1.call b2; have hB2 := below_then b1 b2; have hwl : w.heap.size ≤ w1.heap.size := b1.size)
    | (go_at_call 9; refine (dC.out w2 w.heap.size hB2 k2).mono ?_; rintro e' w3 ⟨rfl, b3⟩; have aR3 := aR.call b3; have hB3 := below_then hB2 b3)
    | (refine walk_arr (o := ⟨some 5, _, _, _, _, _⟩) rfl 31 rfl .u8 (List.replicate 32 0) (by kernel_rfl) ?_; intro w4 kC b4 s4; clear s4; have aR4 := aR3.call b4; have hB4 := below_then hB3 b4)
    | (refine walk_store rfl 31 _ _ rfl kC rfl YC hYC rfl (by rw [hCl.out]; kernel_rfl) (by rw [hCl.out]; rfl) ?_; intro w5 kC5 s5 o5; have aR5 := aR4.only o5 (Nat.ne_of_lt aR3.lt) s5; have hB5 := below_only hB4 o5 hB3.size s5; clear s5; have kT := kC5.take 16; rw [hD.out] at kT)
    | (refine walk_read rfl 26 _ rfl kT rfl 16 _ Tryd.underlying26 (by kernel_rfl) hDl.out Y hY ?_)
    | (refine walk_store rfl 26 _ _ rfl aR5 rfl Y hY rfl (by rw [hDl.out]; kernel_rfl) (by rw [hDl.out]; rfl) ?_; intro w6 aR6 s6 o6))
  refine bodyPost_ret (results_cell_mid rfl _ _ w1.heap.size (ints .u8 D) _ rfl aR6.range Tryd.underlying26 rfl (by rw [ints, List.length_map, hDl.out]; kernel_rfl)) rfl ?_
  exact ⟨by rw [hY.out], below_only hB5 o6 hwl s6⟩
set_option maxRecDepth 200000 in
set_option maxHeartbeats 8000000 in
theorem macRight (key : List Int) (hkb : Byted key) (hkl : key.length = 32) (K : Array Value) (hK : Hid ((ints .u8 key).toArray = K)) (t : List Int) (htb : Byted t) (htl : t.length = 16) (T : Array Value) (hTa : Hid ((ints .u8 t).toArray = T)) (l : List (List Int)) (hlb : ∀ x ∈ l, Byted x) (hll : l.flatten.length ≤ 1000000) (p : Option Addr) (n c : Nat) (hn : n = l.length) (hn9 : n ≤ 1000000) (hpc : p = none → c = 0) (w : World) (hT : Steps w) (hP : Parts w p l) :
    Calls Tryd.prog 13 #[.agg K, .agg T, .slice p n c] w fun e w' => e = .returned (.bool (decide (t = tagL key l.flatten))) ∧ Below w.heap.size w w' := by
  have dT := Lib.hid (fun (W : World) (h : Below w.heap.size w W) => macTag key hkb hkl K hK l hlb hll p n c hn hn9 hpc W (hT.call h) (hP.call h))
  have hdb := tagL_byted key l.flatten
  have hdl : (tagL key l.flatten).length = 16 := tagL_length _ _
  have hkl' := Lib.hid hkl
  have htl' := Lib.hid htl
  obtain ⟨D, hD⟩ : ∃ D, Hid (tagL key l.flatten = D) := ⟨_, Lib.hid rfl⟩
  rw [hD.out] at dT hdb hdl ⊢
  have dE := Lib.hid (fun (W : World) (g g' : Nat) (hA : Arr .u8 W g t) (hA' : Arr .u8 W g' D) => macEqual t D htb hdb (by omega) (by omega) 16 16 (some ⟨g, 0, none⟩) (some ⟨g', 0, none⟩) 16 16 htl.symm hdl.symm W hA.at_ hA'.at_)
  have hDl := Lib.hid hdl
  obtain ⟨Y, hY⟩ : ∃ Y, Hid ((ints .u8 D).toArray = Y) := ⟨_, rfl⟩
  rw [hY.out] at dT
  obtain ⟨R, hR⟩ : ∃ R, Hid (decide (t = D) = R) := ⟨_, rfl⟩
  rw [hR.out] at dE ⊢
  clear hkb hkl hlb hll hn hT hP htb htl hdb hdl
  go_enter Tryd.func13, Tryd.ntmps13
  go_upto_region 2 with (first
    | (refine walk_boxed (o := ⟨some 3, _, _, _, _, _⟩) rfl 24 _ rfl .u8 key K hK rfl ?_; intro w1 k1 b1 s1; clear s1)
    | (refine walk_boxed (o := ⟨some 4, _, _, _, _, _⟩) rfl 26 _ rfl .u8 t T hTa rfl ?_; intro w2 t2 b2 s2; clear s2; have k2 := k1.call b2; have hB2 := below_then b1 b2)
    | (refine walk_read rfl 24 _ rfl k2 rfl 32 _ Tryd.underlying24 (by kernel_rfl) hkl'.out K hK ?_)
    | (go_at_call 12; refine (dT.out w2 hB2).mono ?_; rintro e' w3 ⟨rfl, b3⟩; have t3 := t2.call b3; have hB3 := below_then hB2 b3)
    | (refine walk_arr (o := ⟨some 7, _, _, _, _, _⟩) rfl 26 rfl .u8 (List.replicate 16 0) (by kernel_rfl) ?_; intro w4 r4 b4 s4; clear s4; have t4 := t3.call b4; have hB4 := below_then hB3 b4)
    | (refine walk_store rfl 26 _ _ rfl r4 rfl Y hY rfl (by rw [hDl.out]; kernel_rfl) (by rw [hDl.out]; rfl) ?_; intro w5 r5 s5 o5; have t5 := t4.only o5 (Nat.ne_of_lt t3.lt) s5; have hB5 := below_only hB4 o5 hB3.size s5; clear s5))
  try simp only [Act.put, List.setIfInBounds_toArray, List.set_cons_zero, List.set_cons_succ]
  replace t5 := t5.drew
  replace r5 := r5.drew
  replace hB5 := hB5.drew
  refine wp_region_held_drew (S := fun _ => True) (by kernel_rfl) trivial (fun _ => ?_)
  generalize w5.drew = w10 at *
  generalize w3.heap.size = gr at *
  generalize w1.heap.size = gt at *
  refine wpAnyH_take (i := 0) (oi := ⟨some 11, .slice 26 (.tmp 4) none none none, _, _, _, _⟩) (v := .slice (some ⟨gt, 0, none⟩) 16 16) rfl (by kernel_rfl) (by kernel_rfl) (by kernel_rfl) (fun _ _ _ h => h) (Or.inl ⟨by rfl, by intro w _; go_simp⟩) trivial ?_
  try simp only [Act.put, List.setIfInBounds_toArray, List.set_cons_zero, List.set_cons_succ]
  refine wpAnyH_take (i := 1) (oi := ⟨some 12, .slice 26 (.tmp 7) none none none, _, _, _, _⟩) (v := .slice (some ⟨gr, 0, none⟩) 16 16) rfl (by kernel_rfl) (by kernel_rfl) (by kernel_rfl) (fun _ _ _ h => h) (Or.inl ⟨by rfl, by intro w _; go_simp⟩) trivial ?_
  try simp only [Act.put, List.setIfInBounds_toArray, List.set_cons_zero, List.set_cons_succ]
  refine wpAnyH_ready (rs := [2]) (by kernel_rfl) (by simp) ?_
  refine AllReadyH.cons (o := ⟨some 13, .call { callee := .value (.func 15), args := #[.tmp 11, .tmp 12], argTypes := #[22, 22] }, _, _, _, _⟩) rfl (fun K hK => ?_) AllReadyH.nil
  go_simp
  refine (dE.out w10 gt gr t5 r5).mono ?_
  rintro e' w11 ⟨rfl, b11⟩
  have hB11 := below_then hB5 b11
  refine hK.out _ _ trivial (fun _ => ?_)
  clear hK K
  try simp only [Act.put, List.setIfInBounds_toArray, List.set_cons_zero, List.set_cons_succ]
  refine wpAnyH_ready (rs := [3]) (by kernel_rfl) (by simp) ?_
  refine AllReadyH.cons (o := ⟨some 6, .assign (.tmp 13), _, _, _, _⟩) rfl (fun K hK => ?_) AllReadyH.nil
  go_simp
  refine hK.out _ _ trivial (fun _ => ?_)
  clear hK K
  try simp only [Act.put, List.setIfInBounds_toArray, List.set_cons_zero, List.set_cons_succ]
  refine wpAnyH_done (by kernel_rfl) ?_ _
  go_wp2
  go_ret
  exact ⟨rfl, hB11⟩

end Go.Proofs.YtdbmkelcgfmclaaDoor
