/- The document's codes and tags. -/
import Derived.Test.YtdbmkelcgfmclaaDoorMacG
import Derived.Deep.RegionHeld3
import Derived.Deep.DeepCutAuto
import Derived.IntWalk
import Derived.Lib.Hide
namespace Go.Proofs.YtdbmkelcgfmclaaDoor
set_option maxRecDepth 100000
open Go.RowKit
set_option linter.unusedVariables false
set_option linter.unusedSimpArgs false
attribute [local go_sem] cell_re

set_option maxRecDepth 200000 in
set_option maxHeartbeats 8000000 in
theorem ref9Code (key : List Int) (hkb : Byted key) (hkl : key.length ≤ 1000000) (b : List Int) (hbb : Byted b) (hbl : b.length ≤ 1000000) (kp : Option Addr) (kn kc : Nat) (hkn : kn = key.length) (p : Option Addr) (n c : Nat) (hn : n = b.length) (w : World) (hK : At .u8 w kp key) (hX : At .u8 w p b) :
    Calls Tryd.prog 11 #[.slice kp kn kc, .slice p n c] w fun e w' => e = .returned (.agg (ints .u8 (codeL key b)).toArray) ∧ Below w.heap.size w w' := by
  obtain ⟨i0, hi0, hz0, hz1, hz2⟩ := info_parts infoByte
  have dP1 := Lib.hid (fun (W : World) (h : Below w.heap.size w W) => ref9Pad key hkb hkl 54 (by decide) kp kn kc hkn W (hK.call h))
  have dP2 := Lib.hid (fun (W : World) (h : Below w.heap.size w W) => ref9Pad key hkb hkl 92 (by decide) kp kn kc hkn W (hK.call h))
  have hcode : codeL key b = sha (addedL (filledL key) 92 ++ sha (addedL (filledL key) 54 ++ b)) := rfl
  have hL6 : Hid ((addedL (filledL key) 54).length = 64) := by show _ = _; rw [addedL_length, filledL_length]
  have hL7 : Hid ((addedL (filledL key) 92).length = 64) := by show _ = _; rw [addedL_length, filledL_length]
  have hb6 := Lib.hid (addedL_byted (filledL key) 54)
  have hb7 := Lib.hid (addedL_byted (filledL key) 92)
  obtain ⟨A6, hA6⟩ : ∃ A, Hid (addedL (filledL key) 54 = A) := ⟨_, rfl⟩
  obtain ⟨A7, hA7⟩ : ∃ A, Hid (addedL (filledL key) 92 = A) := ⟨_, rfl⟩
  rw [hA6.out] at dP1 hL6 hb6 hcode
  rw [hA7.out] at dP2 hL7 hb7 hcode
  have dO1 := Lib.hid (fun (W : World) (q : Option Addr) (m d : Nat) (hm : m = (A6 ++ b).length) (h : At .u8 W q (A6 ++ b)) => ref8Of (A6 ++ b) (hb6.out.append hbb) (by rw [List.length_append, hL6.out]; omega) m hm q d W h)
  obtain ⟨I8, hI8⟩ : ∃ I, Hid (sha (A6 ++ b) = I) := ⟨_, Lib.hid rfl⟩
  have hIl : Hid (I8.length = 32) := by show _ = _; rw [← hI8.out]; rfl
  have hIb : Hid (Byted I8) := by rw [← hI8.out]; exact Lib.hid (sha_byted _)
  rw [hI8.out] at hcode dO1
  have dO2 := Lib.hid (fun (W : World) (q : Option Addr) (m d : Nat) (hm : m = (A7 ++ I8).length) (h : At .u8 W q (A7 ++ I8)) => ref8Of (A7 ++ I8) (hb7.out.append hIb.out) (by rw [List.length_append, hL7.out, hIl.out]; decide) m hm q d W h)
  obtain ⟨D, hD⟩ : ∃ D, Hid (sha (A7 ++ I8) = D) := ⟨_, Lib.hid rfl⟩
  have hDl : Hid (D.length = 32) := by show _ = _; rw [← hD.out]; rfl
  rw [hD.out] at hcode dO2
  rw [hcode]
  obtain ⟨Y, hY⟩ : ∃ Y, Hid ((ints .u8 D).toArray = Y) := ⟨_, rfl⟩
  obtain ⟨YI, hYI⟩ : ∃ Y, Hid ((ints .u8 I8).toArray = Y) := ⟨_, rfl⟩
  rw [hY.out] at dO2 ⊢
  rw [hYI.out] at dO1
  have hN := Lib.hid hn
  have hX0 := Lib.hid hX
  have hbl' := Lib.hid hbl
  clear hkb hkl hbb hbl hkn hn hK hX hcode
  go_enter Tryd.func11, Tryd.ntmps11
  go_upto_region 2 with (first
    | (refine walk_arr (o := ⟨some 4, _, _, _, _, _⟩) rfl 31 rfl .u8 (List.replicate 32 0) (by kernel_rfl) ?_; intro w1 aR b1 s1; clear s1; have hx1 := hX0.out.call b1)
    | (go_at_call 24; refine (dP1.out w1 b1).mono ?_; intro e' w2 hr; obtain ⟨q2, n2, c2, rfl, m2, b2⟩ := hr.mine; have aR2 := aR.call b2; have hB2 := below_then b1 b2; have hx2 := hx1.call b2; have hle2 : Hid ((n2 + n) * (1 + 1) ≤ 1000000000000) := (by have h1 := m2.len; have h2 := hL6.out; have h3 := hN.out; have h4 := hbl'.out; show _ ≤ _; omega); have hs1 : w1.heap.size ≤ w2.heap.size := b2.size)
    | (at_builtin; refine walk_mine (k := .u8) (o := ⟨some 9, _, _, _, _, _⟩) rfl _ _ 22 rfl i0 (.int .u8 0) 1 Tryd.underlying22 hi0 hz0 hz1 hz2 rfl m2 rfl hx2 hN.out rfl hle2.out hs1 b2 ?_; intro q3 n3 c3 w3 m3 b3 e3 g3)
    | (go_at_call 23; refine (dO1.out w3 q3 n3 c3 m3.len m3.at_).mono ?_; rintro e' w4 ⟨rfl, b4⟩; have aR3 := aR.call b3; have aR4 := aR3.call b4; have hB3 := below_then b1 b3; have hB4 := below_then hB3 b4)
    | (refine walk_arr (o := ⟨some 5, _, _, _, _, _⟩) rfl 31 rfl .u8 (List.replicate 32 0) (by kernel_rfl) ?_; intro w5 k5 b5 s5; clear s5; have aR5 := aR4.call b5; have hB5 := below_then hB4 b5)
    | (refine walk_store rfl 31 _ _ rfl k5 rfl YI hYI rfl (by rw [hIl.out]; kernel_rfl) (by rw [hIl.out]; rfl) ?_; intro w6 k6 s6 o6; have aR6 := aR5.only o6 (Nat.ne_of_lt aR4.lt) s6; have hB6 := below_only hB5 o6 hB4.size s6; clear s6))
  clear aR b1 hx1 m2 b2 aR2 hB2 hx2 hle2 hs1 m3 b3 e3 g3 aR3 hB3 b4 aR4 k5 b5 aR5 hB5 o6 hB4 dP1 dO1
  try simp only [Act.put, List.setIfInBounds_toArray, List.set_cons_zero, List.set_cons_succ]
  replace k6 := k6.drew
  replace aR6 := aR6.drew
  replace hB6 := hB6.drew
  refine wp_region_held_drew (S := fun _ => True) (by kernel_rfl) trivial (fun _ => ?_)
  generalize w6.drew = w10 at *
  generalize w4.heap.size = g5 at *
  refine wpAnyH_take (i := 0) (oi := ⟨some 11, .move (.tmp 0), _, _, _, _⟩) (v := .slice kp kn kc) rfl (by kernel_rfl) (by kernel_rfl) (by kernel_rfl) (fun _ _ _ h => h) (Or.inl ⟨by rfl, by intro w _; go_simp⟩) trivial ?_
  try simp only [Act.put, List.setIfInBounds_toArray, List.set_cons_zero, List.set_cons_succ]
  refine wpAnyH_take (i := 2) (oi := ⟨some 13, .slice 31 (.tmp 5) none none none, _, _, _, _⟩) (v := .slice (some ⟨g5, 0, none⟩) 32 32) rfl (by kernel_rfl) (by kernel_rfl) (by kernel_rfl) (fun _ _ _ h => h) (Or.inl ⟨by rfl, by intro w _; go_simp⟩) trivial ?_
  try simp only [Act.put, List.setIfInBounds_toArray, List.set_cons_zero, List.set_cons_succ]
  refine wpAnyH_ready (rs := [1]) (by kernel_rfl) (by simp) ?_
  refine AllReadyH.cons (o := ⟨some 12, .call { callee := .value (.func 24), args := #[.tmp 11, .const (.int .u8 92)], argTypes := #[22, 5] }, _, _, _, _⟩) rfl (fun K hK => ?_) AllReadyH.nil
  go_simp
  refine (dP2.out w10 hB6).mono ?_
  intro e' w11 hr
  obtain ⟨q11, n11, c11, rfl, m11, b11⟩ := hr.mine
  have k11 := k6.call b11
  have aR11 := aR6.call b11
  have hle11 : Hid ((n11 + 32) * (1 + 1) ≤ 1000000000000) := by have h1 := m11.len; have h2 := hL7.out; show _ ≤ _; omega
  have hs11 : w10.heap.size ≤ w11.heap.size := b11.size
  refine hK.out _ _ trivial (fun _ => ?_)
  clear hK K
  try simp only [Act.put, List.setIfInBounds_toArray, List.set_cons_zero, List.set_cons_succ]
  refine wpAnyH_ready (rs := [3]) (by kernel_rfl) (by simp) ?_
  refine AllReadyH.cons (o := ⟨some 14, .call { callee := .builtin .append, args := #[.tmp 12, .tmp 13], argTypes := #[22, 22] }, _, _, _, _⟩) rfl (fun K hK => ?_) AllReadyH.nil
  rw [if_pos (by rfl)]
  refine oper_mine (k := .u8) _ _ 22 rfl i0 (.int .u8 0) 1 Tryd.underlying22 hi0 hz0 hz1 hz2 rfl m11 rfl k11.at_ hIl.out.symm rfl hle11.out hs11 b11 ?_
  intro q12 n12 c12 w12 m12 b12 e12 g12
  refine hK.out _ _ trivial (fun _ => ?_)
  clear hK K
  try simp only [Act.put, List.setIfInBounds_toArray, List.set_cons_zero, List.set_cons_succ]
  have aR12 := aR6.call b12
  have hB12 := below_then hB6 b12
  refine wpAnyH_ready (rs := [4]) (by kernel_rfl) (by simp) ?_
  refine AllReadyH.cons (o := ⟨some 15, .call { callee := .value (.func 23), args := #[.tmp 14], argTypes := #[22] }, _, _, _, _⟩) rfl (fun K hK => ?_) AllReadyH.nil
  go_simp
  refine (dO2.out w12 q12 n12 c12 m12.len m12.at_).mono ?_
  rintro e' w13 ⟨rfl, b13⟩
  have aR13 := aR12.call b13
  have hB13 := below_then hB12 b13
  refine hK.out _ _ trivial (fun _ => ?_)
  clear hK K
  try simp only [Act.put, List.setIfInBounds_toArray, List.set_cons_zero, List.set_cons_succ]
  refine wpAnyH_ready (rs := [5]) (by kernel_rfl) (by simp) ?_
  refine AllReadyH.cons (o := ⟨none, .store 31 (.tmp 4) (.tmp 15), _, _, _, _⟩) rfl (fun K hK => ?_) AllReadyH.nil
  rw [if_pos (by rfl)]
  refine oper_store 31 _ _ rfl aR13 rfl Y hY rfl (by rw [hDl.out]; kernel_rfl) (by rw [hDl.out]; rfl) ?_
  intro w14 aR14 s14 o14
  have hB14 := below_only hB13 o14 (Nat.le_refl _) s14
  refine hK.out _ _ trivial (fun _ => ?_)
  clear hK K
  try simp only [Act.put, List.setIfInBounds_toArray, List.set_cons_zero, List.set_cons_succ]
  refine wpAnyH_done (by kernel_rfl) ?_ _
  go_wp2
  refine bodyPost_ret (results_cell_mid rfl _ _ w.heap.size (ints .u8 D) _ rfl aR14.range Tryd.underlying31 rfl (by rw [ints, List.length_map, hDl.out]; kernel_rfl)) rfl ?_
  exact ⟨by rw [hY.out], hB14⟩
set_option maxRecDepth 200000 in
set_option maxHeartbeats 8000000 in
theorem ref9Tag (key : List Int) (hkb : Byted key) (hkl : key.length = 32) (K : Array Value) (hK : Hid ((ints .u8 key).toArray = K)) (b : List Int) (hbb : Byted b) (hbl : b.length ≤ 1000000) (p : Option Addr) (n c : Nat) (hn : n = b.length) (w : World) (hX : At .u8 w p b) :
    Calls Tryd.prog 8 #[.agg K, .slice p n c] w fun e w' => e = .returned (.agg (ints .u8 (tagL key b)).toArray) ∧ Below w.heap.size w w' := by
  have dC := Lib.hid (fun (W : World) (g : Nat) (h : Below w.heap.size w W) (hA : Arr .u8 W g key) => ref9Code key hkb (by omega) b hbb hbl (some ⟨g, 0, none⟩) 32 32 hkl.symm p n c hn W hA.at_ (hX.call h))
  have htag : tagL key b = (codeL key b).take 16 := rfl
  obtain ⟨C, hC⟩ : ∃ C, Hid (codeL key b = C) := ⟨_, Lib.hid rfl⟩
  have hCl : Hid (C.length = 32) := by rw [← hC.out]; exact Lib.hid rfl
  rw [hC.out] at dC htag
  rw [htag]
  have hf16 : Hid (fillTo C 16 16 = C.take 16) := by show _ = _; simp [fillTo]
  obtain ⟨D, hD⟩ : ∃ D, Hid (C.take 16 = D) := ⟨_, rfl⟩
  have hDl : Hid (D.length = 16) := by show _ = _; rw [← hD.out, List.length_take, hCl.out]; rfl
  rw [hD.out] at hf16 ⊢
  obtain ⟨Y, hY⟩ : ∃ Y, Hid ((ints .u8 D).toArray = Y) := ⟨_, rfl⟩
  obtain ⟨YC, hYC⟩ : ∃ Y, Hid ((ints .u8 C).toArray = Y) := ⟨_, rfl⟩
  rw [hY.out]
  rw [hYC.out] at dC
  have hf0 : Hid (fillTo C 16 0 = List.replicate 16 0) := by show _ = _; simp [fillTo]
  clear hkb hkl hbb hbl hn hX htag
  go_enter Tryd.func8, Tryd.ntmps8
  go_upto_region 3 with (first
    | (refine walk_boxed rfl 24 _ rfl .u8 key K hK rfl ?_; intro w1 k1 b1 s1; clear s1)
    | (refine walk_arr (o := ⟨some 4, _, _, _, _, _⟩) rfl 26 rfl .u8 (List.replicate 16 0) (by kernel_rfl) ?_; intro w2 aR b2 s2; clear s2; have k2 := k1.call b2; have hB2 := below_then b1 b2; have hwl : w.heap.size ≤ w1.heap.size := b1.size)
    | (go_at_call 11; refine (dC.out w2 w.heap.size hB2 k2).mono ?_; rintro e' w3 ⟨rfl, b3⟩; have aR3 := aR.call b3; have hB3 := below_then hB2 b3)
    | (refine walk_arr (o := ⟨some 5, _, _, _, _, _⟩) rfl 31 rfl .u8 (List.replicate 32 0) (by kernel_rfl) ?_; intro w4 kC b4 s4; clear s4; have aR4 := aR3.call b4; have hB4 := below_then hB3 b4)
    | (refine walk_store (ys := C) rfl 31 _ _ rfl kC rfl YC hYC rfl (by rw [hCl.out]; kernel_rfl) (by rw [hCl.out]; rfl) ?_; intro w5 kC5 s5 o5; have aR5 := aR4.only o5 (Nat.ne_of_lt aR3.lt) s5; have hB5 := below_only hB4 o5 hB3.size s5; clear s5)
    | (refine walk_arr (o := ⟨some 6, _, _, _, _, _⟩) rfl 26 rfl .u8 (List.replicate 16 0) (by kernel_rfl) ?_; intro w6 k6 b6 s6; clear s6; have aR6 := aR5.call b6; have kC6 := kC5.call b6; have hB6 := below_then hB5 b6)
    | (refine walk_store (ys := List.replicate 16 0) rfl 26 _ _ rfl k6 rfl _ (Lib.hid rfl) rfl (by kernel_rfl) rfl ?_; intro w7 k7 s7 o7; have aR7 := aR6.only o7 (Nat.ne_of_lt aR5.lt) s7; have kC7 := kC6.only o7 (Nat.ne_of_lt kC5.lt) s7; have hB7 := below_only hB6 o7 hB5.size s7; clear s7))
  have q6r : w1.heap.size ≠ w5.heap.size := Nat.ne_of_lt aR5.lt
  have q6c : w3.heap.size ≠ w5.heap.size := Nat.ne_of_lt kC5.lt
  have q6w : w.heap.size ≤ w5.heap.size := hB5.size
  clear k1 b1 aR b2 k2 hB2 b3 aR3 hB3 kC b4 aR4 hB4 kC5 o5 aR5 k6 b6 aR6 kC6 hB6 o7 hB5
  generalize w1.heap.size = gr at *
  generalize w3.heap.size = gc at *
  generalize w5.heap.size = g6 at *
  rw [← hf0.out] at k7
  try simp only [Act.put, List.setIfInBounds_toArray, List.set_cons_zero, List.set_cons_succ]
  go_wp2
  go_loopw [7] (fun v7 wr => ∃ (i : Nat), i ≤ 16 ∧ v7 = .int .i64 i ∧ Arr .u8 wr g6 (fillTo C 16 i) ∧ Arr .u8 wr gc C ∧ Arr .u8 wr gr (List.replicate 16 0) ∧ Below w.heap.size w wr) (fun v7 _ => 16 - (intOf v7).toNat)
  case atStart => exact ⟨0, by omega, rfl, k7, kC7, aR7, hB7⟩
  case round =>
    clear k7 kC7 aR7 hB7
    obtain ⟨i, hi, rfl, k, kC, aR, hB⟩ := hrel
    by_cases hlt : i < 16
    · have hcl := hCl.out
      have hfl := fillTo_length C 16 i (by omega) (by omega)
      have hc := kC.c i (by omega)
      have hf6 := k.f i (by omega)
      have hex : (wr.cell? ⟨g6, i, none⟩).isSome = true := by rw [k.c i (by omega)]; rfl
      have hnx := Lib.hid (fillTo_set C 16 i (by omega) hlt)
      have hset := Lib.hid (fun v : Int => k.set i v (by omega))
      have hsC := Lib.hid (fun v : Value => kC.apart q6c i v)
      have hsR := Lib.hid (fun v : Value => aR.apart q6r i v)
      have hBs := Lib.hid (fun v : Value => hB.setCell (p := ⟨g6, i, none⟩) q6w v)
      have hg6 := k.lt
      have hgc := kC.lt
      have hc6 := k.c i (by omega)
      generalize (fillTo C 16 i).getD i 0 = v6 at hc6
      generalize C.getD i 0 = v at *
      have j1 : (i : Int) < 16 := by omega
      have j2 : (i : Int) < 32 := by omega
      have j3 : i < 32 := by omega
      clear k kC aR hB hcl hfl
      go_wp2
      go_roundw
      case rel => exact ⟨i + 1, by omega, by go_num, by rw [← hnx.out]; exact hset.out _, hsC.out _, hsR.out _, hBs.out _⟩
      case measure => simp [intOf]; omega
    · obtain rfl : i = 16 := by omega
      rw [hf16.out] at k
      go_wp2_with (first
        | (refine walk_read rfl 26 _ rfl k rfl 16 _ Tryd.underlying26 (by kernel_rfl) hDl.out Y hY ?_)
        | (refine walk_store rfl 26 _ _ rfl aR rfl Y hY rfl (by rw [hDl.out]; kernel_rfl) (by rw [hDl.out]; rfl) ?_; intro w8 aR8 s8 o8))
      refine bodyPost_ret (results_cell_mid rfl _ _ gr (ints .u8 D) _ rfl aR8.range Tryd.underlying26 rfl (by rw [ints, List.length_map, hDl.out]; kernel_rfl)) rfl ?_
      exact ⟨by rw [hY.out], below_only hB o8 hwl s8⟩

end Go.Proofs.YtdbmkelcgfmclaaDoor
