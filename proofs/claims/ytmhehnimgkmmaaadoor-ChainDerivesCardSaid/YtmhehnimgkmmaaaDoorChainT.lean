/- A key that is derived, in the program and in the document. -/
import Derived.Test.YtmhehnimgkmmaaaDoorChainC
import Derived.Test.YtmhehnimgkmmaaaDoorMacE
import Derived.Test.YtmhehnimgkmmaaaDoorMacH
import Derived.Deep.RegionHeld3
import Derived.Deep.DeepCutAuto
import Derived.IntWalk
import Derived.Lib.Hide
namespace Go.Proofs.YtmhehnimgkmmaaaDoor
set_option maxRecDepth 100000
open Go.RowKit
set_option linter.unusedVariables false
set_option linter.unusedSimpArgs false
attribute [local go_sem] cell_re

set_option maxRecDepth 200000 in
set_option maxHeartbeats 8000000 in
theorem chainBytes (n : Int) (h0 : 0 ≤ n) (h1 : n ≤ 18446744073709551615) (w : World) :
    Calls Tryd.prog 21 #[.int .u64 n] w fun e w' => e = .returned (.agg (ints .u8 (bigs 8 n)).toArray) ∧ Below w.heap.size w w' := by
  have h8 := bigs8 n
  obtain ⟨L, hL⟩ : ∃ L, Hid (bigs 8 n = L) := ⟨_, Lib.hid rfl⟩
  have hLl : Hid (L.length = 8) := by show _ = _; rw [← hL.out]; exact bigs_len 8 n
  rw [hL.out] at h8 ⊢
  have e0 : n / 72057594037927936 % 256 = n / 72057594037927936 := by omega
  rw [e0] at h8
  have hg : Hid (∀ i, L.getD i 0 = [n / 72057594037927936, n / 281474976710656 % 256, n / 1099511627776 % 256, n / 4294967296 % 256, n / 16777216 % 256, n / 65536 % 256, n / 256 % 256, n % 256].getD i 0) := fun i => by rw [h8]
  obtain ⟨Y, hY⟩ : ∃ Y, Hid ((ints .u8 L).toArray = Y) := ⟨_, rfl⟩
  clear h8 e0
  go_enter Tryd.func21, Tryd.ntmps21
  go_upto_region 2 with (first
    | (refine walk_arr (o := ⟨some 2, _, _, _, _, _⟩) rfl 44 rfl .u8 (List.replicate 8 0) (by kernel_rfl) ?_; intro w1 r1 b1 s1; clear s1)
    | (refine walk_arr (o := ⟨some 3, _, _, _, _, _⟩) rfl 44 rfl .u8 (List.replicate 8 0) (by kernel_rfl) ?_; intro w2 a2 b2 s2; clear s2; have r2 := r1.call b2; have hB2 := below_then b1 b2; have hwl : w.heap.size ≤ w1.heap.size := b1.size))
  have hne := Nat.ne_of_lt r1.lt
  clear r1 b1 b2
  generalize w1.heap.size = ga at *
  rw [← headTo_zero L 8] at a2
  go_wp2
  go_loopw [5] (fun v5 wr => ∃ (i : Nat), i ≤ 8 ∧ v5 = .int .i64 i ∧ Arr .u8 wr ga (headTo L 8 i) ∧ Arr .u8 wr w.heap.size (List.replicate 8 0) ∧ Below w.heap.size w wr) (fun v5 _ => 8 - (intOf v5).toNat)
  case atStart => exact ⟨0, Nat.zero_le _, rfl, a2, r2, hB2⟩
  case round =>
    clear a2 r2 hB2
    obtain ⟨i, hi, rfl, aI, rI, hB⟩ := hrel
    by_cases hlt : i < 8
    · have hal := headTo_length hLl.out i hi
      have hc := aI.c i (by rw [hal]; exact hlt)
      have hf := aI.f i (by rw [hal]; exact hlt)
      have hlt' := aI.lt
      have hset := Lib.hid (aI.set i (L.getD i 0) (by rw [hal]; exact hlt))
      rw [headTo_succ hLl.out i hlt, hg.out i] at hset
      have hr := Lib.hid (fun v : Value => rI.apart hne i v)
      have hb := Lib.hid (fun v : Value => hB.setCell (p := ⟨ga, i, none⟩) hwl v)
      clear aI rI hB hal hi
      generalize (headTo L 8 i).getD i 0 = u at hc
      have hcase : i = 0 ∨ i = 1 ∨ i = 2 ∨ i = 3 ∨ i = 4 ∨ i = 5 ∨ i = 6 ∨ i = 7 := by omega
      clear hlt
      rcases hcase with rfl | rfl | rfl | rfl | rfl | rfl | rfl | rfl
      · go_wp2
        go_roundw
        case rel => exact ⟨1, by decide, by go_num, hset.out, hr.out _, hb.out _⟩
        case measure => decide
      · go_wp2
        go_roundw
        case rel => exact ⟨2, by decide, by go_num, hset.out, hr.out _, hb.out _⟩
        case measure => decide
      · go_wp2
        go_roundw
        case rel => exact ⟨3, by decide, by go_num, hset.out, hr.out _, hb.out _⟩
        case measure => decide
      · go_wp2
        go_roundw
        case rel => exact ⟨4, by decide, by go_num, hset.out, hr.out _, hb.out _⟩
        case measure => decide
      · go_wp2
        go_roundw
        case rel => exact ⟨5, by decide, by go_num, hset.out, hr.out _, hb.out _⟩
        case measure => decide
      · go_wp2
        go_roundw
        case rel => exact ⟨6, by decide, by go_num, hset.out, hr.out _, hb.out _⟩
        case measure => decide
      · go_wp2
        go_roundw
        case rel => exact ⟨7, by decide, by go_num, hset.out, hr.out _, hb.out _⟩
        case measure => decide
      · go_wp2
        go_roundw
        case rel => exact ⟨8, by decide, by go_num, hset.out, hr.out _, hb.out _⟩
        case measure => decide
    · obtain rfl : i = 8 := by omega
      rw [headTo_all hLl.out] at aI
      go_wp2_with (first
        | (refine walk_read rfl 44 _ rfl aI rfl 8 _ Tryd.underlying44 (by kernel_rfl) hLl.out Y hY ?_)
        | (refine walk_store rfl 44 _ _ rfl rI rfl Y hY rfl (by rw [hLl.out]; kernel_rfl) (by rw [hLl.out]; rfl) ?_; intro w6 r6 s6 o6; have hB6 := below_only hB o6 (Nat.le_refl _) s6))
      refine bodyPost_ret (results_cell_mid rfl _ _ w.heap.size (ints .u8 L) _ rfl r6.range Tryd.underlying44 rfl (by rw [ints, List.length_map, hLl.out]; kernel_rfl)) rfl ?_
      exact ⟨rfl, hB6⟩
set_option maxRecDepth 200000 in
set_option maxHeartbeats 8000000 in
theorem chainDerive (key : List Int) (hkb : Byted key) (hkl : key.length = 32) (K : Array Value) (hK : Hid ((ints .u8 key).toArray = K)) (s : ByteArray) (hs : s.size ≤ 1000) (n : Int) (h0 : 0 ≤ n) (h1 : n ≤ 18446744073709551615) (w : World) (hT : Steps w) :
    Calls Tryd.prog 16 #[.agg K, .string s, .int .u64 n] w fun e w' => e = .returned (.agg (ints .u8 (derivedL key (textL s) n)).toArray) ∧ Below w.heap.size w w' := by
  have hkl' := Lib.hid hkl
  have dN := Lib.hid (fun W => chainBytes n h0 h1 W)
  have hfl : [textL s, [0], bigs 8 n].flatten = textL s ++ [0] ++ bigs 8 n := by simp
  have hfb : ∀ x ∈ [textL s, [0], bigs 8 n], Byted x := fun x hx => by
    simp only [List.mem_cons, List.not_mem_nil, or_false] at hx
    rcases hx with rfl | rfl | rfl
    · exact textL_byted s
    · exact fun y hy => by rw [List.mem_singleton] at hy; subst hy; decide
    · exact bigs_byted 8 n
  have hll : [textL s, [0], bigs 8 n].flatten.length ≤ 1000000 := by rw [hfl, List.length_append, List.length_append, textL_length, bigs_len]; simp; omega
  have hbl : (bigs 8 n).length = 8 := bigs_len 8 n
  have hbb := bigs_byted 8 n
  have hD0 : codeL key [textL s, [0], bigs 8 n].flatten = derivedL key (textL s) n := by rw [hfl]; rfl
  have dC0 := fun (W : World) (gp : Nat) (h : Below w.heap.size w W) (hA : Arr .u8 W w.heap.size key) (hP : Parts W (some ⟨gp, 0, none⟩) [textL s, [0], bigs 8 n]) => macCode key hkb (by omega) (some ⟨w.heap.size, 0, none⟩) 32 32 hkl.symm (Nat.le_refl _) [textL s, [0], bigs 8 n] hfb hll (some ⟨gp, 0, none⟩) 3 3 rfl (by decide) (fun e => by cases e) W (hT.call h) hA.at_ hP
  rw [hD0] at dC0
  obtain ⟨D, hD⟩ : ∃ D, Hid (derivedL key (textL s) n = D) := ⟨_, Lib.hid rfl⟩
  have hDl : Hid (D.length = 32) := by rw [← hD.out]; exact Lib.hid rfl
  obtain ⟨Y, hY⟩ : ∃ Y, Hid ((ints .u8 D).toArray = Y) := ⟨_, rfl⟩
  rw [hD.out] at dC0 ⊢
  rw [hY.out] at dC0
  obtain ⟨NB, hNB⟩ : ∃ L, Hid (bigs 8 n = L) := ⟨_, Lib.hid rfl⟩
  rw [hNB.out] at dC0 dN hbl hbb
  replace hbl := Lib.hid hbl
  replace hbb := Lib.hid hbb
  obtain ⟨YN, hYN⟩ : ∃ Y, Hid ((ints .u8 NB).toArray = Y) := ⟨_, rfl⟩
  rw [hYN.out] at dN
  have dC1 := Lib.hid dC0
  clear dC0 hD0 hll hfb hfl hkb hkl hT
  go_enter Tryd.func16, Tryd.ntmps16
  go_upto_region 2 with (first
    | (refine walk_boxed rfl 23 _ rfl .u8 key K hK rfl ?_; intro w1 k b1 s1; clear s1)
    | (refine walk_arr (o := ⟨some 6, _, _, _, _, _⟩) rfl 23 rfl .u8 (List.replicate 32 0) (by kernel_rfl) ?_; intro w2 r b2 s2; clear s2; replace k := k.call b2; have hB2 := below_then b1 b2; have hgr : w.heap.size ≤ w1.heap.size := b1.size)
    | (go_at_call 21; refine (dN.out w2).mono ?_; rintro e' w3 ⟨rfl, b3⟩; replace k := k.call b3; replace r := r.call b3; have hB3 := below_then hB2 b3)
    | (refine walk_arr (o := ⟨some 7, _, _, _, _, _⟩) rfl 44 rfl .u8 (List.replicate 8 0) (by kernel_rfl) ?_; intro w4 nb b4 s4; clear s4; have q1 := Nat.ne_of_lt k.lt; have q2 := Nat.ne_of_lt r.lt; replace k := k.call b4; replace r := r.call b4; have hB4 := below_then hB3 b4)
    | (refine walk_store rfl 44 _ _ rfl nb rfl YN hYN rfl (by rw [hbl.out]; kernel_rfl) (by rw [hbl.out]; rfl) ?_; intro w5' nb' s5 o5; replace k := k.only o5 q1 s5; replace r := r.only o5 q2 s5; have hB5' := below_only hB4 o5 hB3.size s5))
  try simp only [Act.put, List.setIfInBounds_toArray, List.set_cons_zero, List.set_cons_succ]
  clear nb b1 b2 b3 b4 hB2 hB3 hB4 s5 o5 q1 q2
  generalize w3.heap.size = gn at *
  generalize w1.heap.size = gr at *
  obtain ⟨w5, hw5⟩ : ∃ W, W = w5'.drew := ⟨_, rfl⟩
  have nb : Arr .u8 w5 gn NB := by rw [hw5]; exact nb'.drew
  replace k : Arr .u8 w5 w.heap.size key := by rw [hw5]; exact k.drew
  replace r : Arr .u8 w5 gr (List.replicate 32 0) := by rw [hw5]; exact r.drew
  have hB5 : Below w.heap.size w w5 := by rw [hw5]; exact hB5'.drew
  have z5 : Below w5.heap.size w5 w5 := Below.refl _ _
  have dC := Lib.hid (fun (W : World) (gp : Nat) (h : Below w5.heap.size w5 W) => dC1.out W gp (below_then hB5 h))
  have dP := Lib.hid (fun (W : World) (gt ct go_ : Nat) (t : Roomy gt W gt s.size ct (textL s)) (o1 : Arr .u8 W go_ [0]) (nb : Arr .u8 W gn NB) => Parts.lit (w := W) [.slice (some ⟨gt, 0, none⟩) s.size ct, .slice (some ⟨go_, 0, none⟩) 1 1, .slice (some ⟨gn, 0, none⟩) 8 8] #[.slice (some ⟨gt, 0, none⟩) s.size ct, .slice (some ⟨go_, 0, none⟩) 1 1, .slice (some ⟨gn, 0, none⟩) 8 8] 48 rfl [textL s, [0], NB] (fun j hj => by
    have : j = 0 ∨ j = 1 ∨ j = 2 := by simp at hj; omega
    rcases this with rfl | rfl | rfl
    · exact ⟨_, rfl, t.at_.part (textL_length s).symm t.hi (textL_byted s)⟩
    · exact ⟨_, rfl, o1.part rfl (fun y hy => by rw [List.mem_singleton] at hy; subst hy; decide)⟩
    · exact ⟨_, rfl, nb.part hbl.out.symm hbb.out⟩))
  clear nb' hB5' dC1 dN
  refine wp_region_held_drew (S := fun _ => True) (by kernel_rfl) trivial (fun _ => ?_)
  rw [← hw5]
  clear hw5
  refine wpAnyH_take (i := 0) (oi := ⟨some 10, .slice 23 (.tmp 3) none none none, _, _, _, _⟩) (v := .slice (some ⟨w.heap.size, 0, none⟩) 32 32) rfl (by kernel_rfl) (by kernel_rfl) (by kernel_rfl) (fun _ _ _ h => h) (Or.inl ⟨by rfl, by intro W _; go_simp⟩) (trivial) ?_
  try simp only [Act.put, List.setIfInBounds_toArray, List.set_cons_zero, List.set_cons_succ]
  refine wpAnyH_take (i := 1) (oi := ⟨some 11, .move (.tmp 1), _, _, _, _⟩) (v := .string s) rfl (by kernel_rfl) (by kernel_rfl) (by kernel_rfl) (fun _ _ _ h => h) (Or.inl ⟨by rfl, by intro W _; go_simp⟩) (trivial) ?_
  try simp only [Act.put, List.setIfInBounds_toArray, List.set_cons_zero, List.set_cons_succ]
  refine wpAnyH_take (i := 4) (oi := ⟨some 14, .slice 44 (.tmp 7) none none none, _, _, _, _⟩) (v := .slice (some ⟨gn, 0, none⟩) 8 8) rfl (by kernel_rfl) (by kernel_rfl) (by kernel_rfl) (fun _ _ _ h => h) (Or.inl ⟨by rfl, by intro W _; go_simp⟩) (trivial) ?_
  try simp only [Act.put, List.setIfInBounds_toArray, List.set_cons_zero, List.set_cons_succ]
  refine wpAnyH_ready (rs := [2, 3]) (by kernel_rfl) (by simp) ?_
  refine AllReadyH.cons (o := ⟨some 12, .convert 9 48 (.tmp 11), _, _, _, _⟩) rfl (fun K hK => ?_) ?_
  · skip
    rw [if_pos (by rfl)]
    refine oper_text 9 48 5 _ rfl Tryd.underlying9 Tryd.underlying48 Tryd.underlying5 s rfl ?_
    intro w6 ct t b6
    replace k := k.call b6
    replace r := r.call b6
    replace nb := nb.call b6
    have z6 := below_then z5 b6
    refine hK.out _ _ (trivial) (fun _ => ?_)
    clear hK K
    try simp only [Act.put, List.setIfInBounds_toArray, List.set_cons_zero, List.set_cons_succ]
    refine wpAnyH_ready (rs := [3]) (by kernel_rfl) (by simp) ?_
    refine AllReadyH.cons (o := ⟨some 13, .buildSlice 48 1 #[(0, .const (.int .u8 0))], _, _, _, _⟩) rfl (fun K hK => ?_) AllReadyH.nil
    go_simp
    have f7 := And.intro (Arr.new (k := .u8) w6 [0] #[.int .u8 0] 5 rfl) ((Below.refl w6.heap.size w6).alloc (Nat.le_refl _) (.cells #[.int .u8 0] 5))
    generalize World.alloc w6 (.cells #[.int .u8 0] 5) = w7 at f7 ⊢
    obtain ⟨o1, b7⟩ := f7
    replace k := k.call b7
    replace r := r.call b7
    replace nb := nb.call b7
    replace t := t.call b7
    have z7 := below_then z6 b7
    refine hK.out _ _ (trivial) (fun _ => ?_)
    clear hK K
    try simp only [Act.put, List.setIfInBounds_toArray, List.set_cons_zero, List.set_cons_succ]
    refine wpAnyH_ready (rs := [5]) (by kernel_rfl) (by simp) ?_
    refine AllReadyH.cons (o := ⟨some 15, .buildSlice 52 3 #[(0, .tmp 12), (1, .tmp 13), (2, .tmp 14)], _, _, _, _⟩) rfl (fun K hK => ?_) AllReadyH.nil
    go_simp
    have f8 := And.intro (dP.out w7 w5.heap.size ct w6.heap.size t o1 nb) ((Below.refl w7.heap.size w7).alloc (Nat.le_refl _) (.cells #[.slice (some ⟨w5.heap.size, 0, none⟩) s.size ct, .slice (some ⟨w6.heap.size, 0, none⟩) 1 1, .slice (some ⟨gn, 0, none⟩) 8 8] 48))
    generalize World.alloc w7 (.cells #[.slice (some ⟨w5.heap.size, 0, none⟩) s.size ct, .slice (some ⟨w6.heap.size, 0, none⟩) 1 1, .slice (some ⟨gn, 0, none⟩) 8 8] 48) = w8 at f8 ⊢
    obtain ⟨pr, b8⟩ := f8
    replace k := k.call b8
    replace r := r.call b8
    replace nb := nb.call b8
    replace t := t.call b8
    replace o1 := o1.call b8
    have z8 := below_then z7 b8
    refine hK.out _ _ (trivial) (fun _ => ?_)
    clear hK K
    try simp only [Act.put, List.setIfInBounds_toArray, List.set_cons_zero, List.set_cons_succ]
    refine wpAnyH_ready (rs := [6]) (by kernel_rfl) (by simp) ?_
    refine AllReadyH.cons (o := ⟨some 16, .call { callee := .value (.func 22), args := #[.tmp 10, .tmp 15], argTypes := #[48, 52] }, _, _, _, _⟩) rfl (fun K hK => ?_) AllReadyH.nil
    go_simp
    refine (dC.out w8 w7.heap.size z8 k pr).mono ?_
    rintro e' w9 ⟨rfl, b9⟩
    replace k := k.call b9
    replace r := r.call b9
    replace nb := nb.call b9
    replace t := t.call b9
    replace o1 := o1.call b9
    have z9 := below_then z8 b9
    refine hK.out _ _ (trivial) (fun _ => ?_)
    clear hK K
    try simp only [Act.put, List.setIfInBounds_toArray, List.set_cons_zero, List.set_cons_succ]
    refine wpAnyH_ready (rs := [7]) (by kernel_rfl) (by simp) ?_
    refine AllReadyH.cons (o := ⟨none, .store 23 (.tmp 6) (.tmp 16), _, _, _, _⟩) rfl (fun K hK => ?_) AllReadyH.nil
    rw [if_pos (by rfl)]
    refine oper_store 23 _ _ rfl r rfl Y hY rfl (by rw [hDl.out]; kernel_rfl) (by rw [hDl.out]; rfl) ?_
    intro w10 r' s10 o10
    have z10 := below_only (below_then hB5 z9) o10 hgr s10
    refine hK.out _ _ (trivial) (fun _ => ?_)
    clear hK K
    try simp only [Act.put, List.setIfInBounds_toArray, List.set_cons_zero, List.set_cons_succ]
    refine wpAnyH_done (by kernel_rfl) ?_ _
    go_wp2
    refine bodyPost_ret (results_cell_mid rfl _ _ gr (ints .u8 D) _ rfl r'.range Tryd.underlying23 rfl (by rw [ints, List.length_map, hDl.out]; kernel_rfl)) rfl ?_
    exact ⟨by rw [hY.out], z10⟩
  refine AllReadyH.cons (o := ⟨some 13, .buildSlice 48 1 #[(0, .const (.int .u8 0))], _, _, _, _⟩) rfl (fun K hK => ?_) ?_
  · skip
    go_simp
    have f6 := And.intro (Arr.new (k := .u8) w5 [0] #[.int .u8 0] 5 rfl) ((Below.refl w5.heap.size w5).alloc (Nat.le_refl _) (.cells #[.int .u8 0] 5))
    generalize World.alloc w5 (.cells #[.int .u8 0] 5) = w6 at f6 ⊢
    obtain ⟨o1, b6⟩ := f6
    replace k := k.call b6
    replace r := r.call b6
    replace nb := nb.call b6
    have z6 := below_then z5 b6
    refine hK.out _ _ (trivial) (fun _ => ?_)
    clear hK K
    try simp only [Act.put, List.setIfInBounds_toArray, List.set_cons_zero, List.set_cons_succ]
    refine wpAnyH_ready (rs := [2]) (by kernel_rfl) (by simp) ?_
    refine AllReadyH.cons (o := ⟨some 12, .convert 9 48 (.tmp 11), _, _, _, _⟩) rfl (fun K hK => ?_) AllReadyH.nil
    rw [if_pos (by rfl)]
    refine oper_text 9 48 5 _ rfl Tryd.underlying9 Tryd.underlying48 Tryd.underlying5 s rfl ?_
    intro w7 ct t b7
    replace k := k.call b7
    replace r := r.call b7
    replace nb := nb.call b7
    replace o1 := o1.call b7
    have z7 := below_then z6 b7
    refine hK.out _ _ (trivial) (fun _ => ?_)
    clear hK K
    try simp only [Act.put, List.setIfInBounds_toArray, List.set_cons_zero, List.set_cons_succ]
    refine wpAnyH_ready (rs := [5]) (by kernel_rfl) (by simp) ?_
    refine AllReadyH.cons (o := ⟨some 15, .buildSlice 52 3 #[(0, .tmp 12), (1, .tmp 13), (2, .tmp 14)], _, _, _, _⟩) rfl (fun K hK => ?_) AllReadyH.nil
    go_simp
    have f8 := And.intro (dP.out w7 w6.heap.size ct w5.heap.size t o1 nb) ((Below.refl w7.heap.size w7).alloc (Nat.le_refl _) (.cells #[.slice (some ⟨w6.heap.size, 0, none⟩) s.size ct, .slice (some ⟨w5.heap.size, 0, none⟩) 1 1, .slice (some ⟨gn, 0, none⟩) 8 8] 48))
    generalize World.alloc w7 (.cells #[.slice (some ⟨w6.heap.size, 0, none⟩) s.size ct, .slice (some ⟨w5.heap.size, 0, none⟩) 1 1, .slice (some ⟨gn, 0, none⟩) 8 8] 48) = w8 at f8 ⊢
    obtain ⟨pr, b8⟩ := f8
    replace k := k.call b8
    replace r := r.call b8
    replace nb := nb.call b8
    replace o1 := o1.call b8
    replace t := t.call b8
    have z8 := below_then z7 b8
    refine hK.out _ _ (trivial) (fun _ => ?_)
    clear hK K
    try simp only [Act.put, List.setIfInBounds_toArray, List.set_cons_zero, List.set_cons_succ]
    refine wpAnyH_ready (rs := [6]) (by kernel_rfl) (by simp) ?_
    refine AllReadyH.cons (o := ⟨some 16, .call { callee := .value (.func 22), args := #[.tmp 10, .tmp 15], argTypes := #[48, 52] }, _, _, _, _⟩) rfl (fun K hK => ?_) AllReadyH.nil
    go_simp
    refine (dC.out w8 w7.heap.size z8 k pr).mono ?_
    rintro e' w9 ⟨rfl, b9⟩
    replace k := k.call b9
    replace r := r.call b9
    replace nb := nb.call b9
    replace o1 := o1.call b9
    replace t := t.call b9
    have z9 := below_then z8 b9
    refine hK.out _ _ (trivial) (fun _ => ?_)
    clear hK K
    try simp only [Act.put, List.setIfInBounds_toArray, List.set_cons_zero, List.set_cons_succ]
    refine wpAnyH_ready (rs := [7]) (by kernel_rfl) (by simp) ?_
    refine AllReadyH.cons (o := ⟨none, .store 23 (.tmp 6) (.tmp 16), _, _, _, _⟩) rfl (fun K hK => ?_) AllReadyH.nil
    rw [if_pos (by rfl)]
    refine oper_store 23 _ _ rfl r rfl Y hY rfl (by rw [hDl.out]; kernel_rfl) (by rw [hDl.out]; rfl) ?_
    intro w10 r' s10 o10
    have z10 := below_only (below_then hB5 z9) o10 hgr s10
    refine hK.out _ _ (trivial) (fun _ => ?_)
    clear hK K
    try simp only [Act.put, List.setIfInBounds_toArray, List.set_cons_zero, List.set_cons_succ]
    refine wpAnyH_done (by kernel_rfl) ?_ _
    go_wp2
    refine bodyPost_ret (results_cell_mid rfl _ _ gr (ints .u8 D) _ rfl r'.range Tryd.underlying23 rfl (by rw [ints, List.length_map, hDl.out]; kernel_rfl)) rfl ?_
    exact ⟨by rw [hY.out], z10⟩
  exact AllReadyH.nil
set_option maxRecDepth 200000 in
set_option maxHeartbeats 8000000 in
theorem ref10Derive (key : List Int) (hkb : Byted key) (hkl : key.length = 32) (K : Array Value) (hK : Hid ((ints .u8 key).toArray = K)) (s : ByteArray) (hs : s.size ≤ 1000) (n : Int) (h0 : 0 ≤ n) (h1 : n ≤ 18446744073709551615) (w : World) :
    Calls Tryd.prog 17 #[.agg K, .string s, .int .u64 n] w fun e w' => e = .returned (.agg (ints .u8 (derivedL key (textL s) n)).toArray) ∧ Below w.heap.size w w' := by
  obtain ⟨i0, hi0, hz0, hz1, hz2⟩ := info_parts infoByte
  have hkl' := Lib.hid hkl
  have hbb : Byted (textL s ++ [0] ++ bigs 8 n) := ((textL_byted s).append (fun y hy => by rw [List.mem_singleton] at hy; subst hy; decide)).append (bigs_byted 8 n)
  have hbl : s.size + 1 + 8 = (textL s ++ [0] ++ bigs 8 n).length := by rw [List.length_append, List.length_append, textL_length, bigs_len]; rfl
  have dC0 := fun (W : World) (g cap : Nat) (hA : At .u8 W (some ⟨w.heap.size, 0, none⟩) key) (hX : At .u8 W (some ⟨g, 0, none⟩) (textL s ++ [0] ++ bigs 8 n)) => ref9Code key hkb (by omega) (textL s ++ [0] ++ bigs 8 n) hbb (by rw [← hbl]; omega) (some ⟨w.heap.size, 0, none⟩) 32 32 hkl.symm (some ⟨g, 0, none⟩) (s.size + 1 + 8) cap hbl W hA hX
  obtain ⟨D, hD⟩ : ∃ D, Hid (derivedL key (textL s) n = D) := ⟨_, Lib.hid rfl⟩
  have hDl : Hid (D.length = 32) := by rw [← hD.out]; exact Lib.hid rfl
  obtain ⟨Y, hY⟩ : ∃ Y, Hid ((ints .u8 D).toArray = Y) := ⟨_, rfl⟩
  rw [show codeL key (textL s ++ [0] ++ bigs 8 n) = D from hD.out] at dC0
  rw [hD.out]
  rw [hY.out] at dC0
  have dC := Lib.hid dC0
  have hU := Lib.hid h1
  have hlen1 : Hid ((s.size + 1) * (1 + 1) ≤ 1000000000000) := by show _ ≤ _; omega
  have hlen : Hid ((s.size + 1 + 8) * (1 + 1) ≤ 1000000000000) := by show _ ≤ _; omega
  clear dC0 hbb hbl hkb hkl h1 hs
  go_enter Tryd.func17, Tryd.ntmps17
  go_upto_region 2 with (first
    | (refine walk_boxed rfl 23 _ rfl .u8 key K hK rfl ?_; intro w1 k1 b1 s1; clear s1)
    | (refine walk_arr (o := ⟨some 6, _, _, _, _, _⟩) rfl 23 rfl .u8 (List.replicate 32 0) (by kernel_rfl) ?_; intro w2 r2 b2 s2; clear s2; have k2 := k1.call b2; have hB2 := below_then b1 b2; have hgr : w.heap.size ≤ w1.heap.size := b1.size)
    | (refine walk_text rfl 9 48 5 _ rfl Tryd.underlying9 Tryd.underlying48 Tryd.underlying5 s rfl ?_; intro w3 ct t3 b3; have bl : Below w3.heap.size w3 (w3.alloc (.cells #[.int .u8 0] 5)) := (Below.refl _ _).alloc (Nat.le_refl _) _; have t4 := t3.call bl; have b4 := below_then b3 bl; have o4 := (Arr.new (k := .u8) w3 [0] #[.int .u8 0] 5 rfl).at_)
    | (at_builtin; refine walk_roomy rfl _ _ 48 rfl 5 i0 (.int .u8 0) 1 Tryd.underlying48 hi0 hz0 hz1 hz2 rfl t4 rfl o4 rfl rfl (by decide) hlen1.out ?_; intro g7 cap7 w6 ro6 b6; have b26 := b4.trans b6))
  have k6 := k2.call b26
  have r6 := r2.call b26
  have hB6 := below_then hB2 b26
  have hkw2 : w.heap.size < w2.heap.size := k2.lt
  have hrw2 : w1.heap.size < w2.heap.size := r2.lt
  have hw2 : w.heap.size ≤ w2.heap.size := hB2.size
  clear k1 k2 r2 b1 b2 hB2 b3 t3 bl t4 b4 o4 b6 b26
  generalize w1.heap.size = gr at *
  have own0 := Mine.lit (k := .u8) (e := 5) (B := w6.heap.size) w6 [] #[] 0 rfl rfl (Nat.le_refl _) (by unfold maxLen; omega)
  have hB0 := (Below.refl w6.heap.size w6).alloc (Nat.le_refl _) (.cells #[] 5)
  go_wp2
  go_loopw [2, 8, 9] (fun v2 v8 v9 wr => ∃ (i : Nat) (x : Int) (q : Option Addr) (cap : Nat), i ≤ 8 ∧ v9 = .int .i64 i ∧ v2 = .int .u64 x ∧ 0 ≤ x ∧ x ≤ 18446744073709551615 ∧ Hid (x = n / 256 ^ i) ∧ v8 = .slice q i cap ∧ Mine .u8 5 w6.heap.size wr q i cap (bigs i n) ∧ Below w6.heap.size w6 wr) (fun _ _ v9 _ => 8 - (intOf v9).toNat)
  case atStart => exact ⟨0, n, _, 0, Nat.zero_le _, rfl, rfl, h0, hU.out, by show n = _; simp, rfl, own0, hB0⟩
  case round =>
    clear own0 hB0
    obtain ⟨i, x, q, cap, hi, rfl, rfl, x0, x1, hx, rfl, own, hB⟩ := hrel
    by_cases hlt : i < 8
    · have at1 := Lib.hid ((own.call ((Below.refl wr.heap.size wr).alloc (Nat.le_refl _) (.cells #[.int .u8 (x % 256)] 5))).at_)
      have own1 := Lib.hid (Mine.lit (k := .u8) (e := 5) (B := w6.heap.size) wr [x % 256] #[.int .u8 (x % 256)] 1 rfl rfl hB.size (by unfold maxLen; omega))
      have hl1 : Hid ((1 + i) * (1 + 1) ≤ 1000000000000) := by show _ ≤ _; omega
      have hB1 := Lib.hid (hB.alloc hB.size (.cells #[.int .u8 (x % 256)] 5))
      have hlen' := Lib.hid own.len
      have e1 : Hid (x / 256 = n / 256 ^ (i + 1)) := by show _ = _; rw [big_next, hx.out]
      have e2 : Hid ([x % 256] ++ bigs i n = bigs (i + 1) n) := by show _ = _; rw [bigs_cons, hx.out]
      have j1 : (i : Int) < 8 := by omega
      clear own hB hx
      go_wp2_with (at_builtin; refine walk_mine (k := .u8) rfl _ _ 48 rfl i0 (.int .u8 0) 1 Tryd.underlying48 hi0 hz0 hz1 hz2 rfl own1.out rfl at1.out hlen'.out rfl hl1.out hB1.out.size hB1.out ?_; intro q' n' cap' w' m' hB' en' g')
      rw [e2.out] at m'
      have hn' := en'.out
      go_roundw
      case rel =>
        obtain rfl : n' = i + 1 := by omega
        exact ⟨i + 1, x / 256, q', cap', by omega, by go_num, rfl, by omega, by omega, e1, rfl, m', hB'⟩
      case measure => simp [intOf]; omega
    · obtain rfl : i = 8 := by omega
      have ro := (ro6.call hB).drew
      have kd := (k6.call hB).drew
      have rd := (r6.call hB).drew
      have hBd := (below_then hB6 hB).drew
      have m8 := own.drew
      clear own hB hx x0 x1 ro6 k6 r6 hB6
      generalize q = q8 at *
      generalize cap = cap8 at *
      go_upto_region 8 with fail
      refine wp_region_held_drew (S := fun _ => True) (by kernel_rfl) trivial (fun _ => ?_)
      generalize wr.drew = wd at *
      refine wpAnyH_take (i := 0) (oi := ⟨some 27, .slice 23 (.tmp 3) none none none, _, _, _, _⟩) (v := .slice (some ⟨w.heap.size, 0, none⟩) 32 32) rfl (by kernel_rfl) (by kernel_rfl) (by kernel_rfl) (fun _ _ _ h => h) (Or.inl ⟨by rfl, by intro W _; go_simp⟩) (trivial) ?_
      try simp only [Act.put, List.setIfInBounds_toArray, List.set_cons_zero, List.set_cons_succ]
      refine wpAnyH_take (i := 1) (oi := ⟨some 28, .move (.tmp 7), _, _, _, _⟩) (v := .slice (some ⟨g7, 0, none⟩) (s.size + 1) cap7) rfl (by kernel_rfl) (by kernel_rfl) (by kernel_rfl) (fun _ _ _ h => h) (Or.inl ⟨by rfl, by intro W _; go_simp⟩) (trivial) ?_
      try simp only [Act.put, List.setIfInBounds_toArray, List.set_cons_zero, List.set_cons_succ]
      refine wpAnyH_take (i := 2) (oi := ⟨some 29, .move (.tmp 8), _, _, _, _⟩) (v := .slice q8 8 cap8) rfl (by kernel_rfl) (by kernel_rfl) (by kernel_rfl) (fun _ _ _ h => h) (Or.inl ⟨by rfl, by intro W _; go_simp⟩) (trivial) ?_
      try simp only [Act.put, List.setIfInBounds_toArray, List.set_cons_zero, List.set_cons_succ]
      refine wpAnyH_ready (rs := [3]) (by kernel_rfl) (by simp) ?_
      refine AllReadyH.cons (o := ⟨some 30, .call { callee := .builtin .append, args := #[.tmp 28, .tmp 29], argTypes := #[48, 48] }, _, _, _, _⟩) rfl (fun K hK => ?_) AllReadyH.nil
      rw [if_pos (by rfl)]
      refine oper_roomy _ _ 48 rfl 5 i0 (.int .u8 0) 1 Tryd.underlying48 hi0 hz0 hz1 hz2 rfl ro rfl m8.at_ rfl m8.len (by decide) hlen.out ?_
      intro g9 cap9 w9 ro9 b9
      have k9 := kd.below b9 hkw2
      have r9 := rd.below b9 hrw2
      have h9 := hBd.trans (b9.mono hw2)
      refine hK.out _ _ (trivial) (fun _ => ?_)
      clear hK K
      try simp only [Act.put, List.setIfInBounds_toArray, List.set_cons_zero, List.set_cons_succ]
      refine wpAnyH_ready (rs := [4]) (by kernel_rfl) (by simp) ?_
      refine AllReadyH.cons (o := ⟨some 31, .call { callee := .value (.func 23), args := #[.tmp 27, .tmp 30], argTypes := #[48, 48] }, _, _, _, _⟩) rfl (fun K hK => ?_) AllReadyH.nil
      go_simp
      refine (dC.out w9 g9 cap9 k9.at_ ro9.at_).mono ?_
      rintro e' w10 ⟨rfl, b10⟩
      have r10 := r9.call b10
      have h10 := below_then h9 b10
      refine hK.out _ _ (trivial) (fun _ => ?_)
      clear hK K
      try simp only [Act.put, List.setIfInBounds_toArray, List.set_cons_zero, List.set_cons_succ]
      refine wpAnyH_ready (rs := [5]) (by kernel_rfl) (by simp) ?_
      refine AllReadyH.cons (o := ⟨none, .store 23 (.tmp 6) (.tmp 31), _, _, _, _⟩) rfl (fun K hK => ?_) AllReadyH.nil
      rw [if_pos (by rfl)]
      refine oper_store 23 _ _ rfl r10 rfl Y hY rfl (by rw [hDl.out]; kernel_rfl) (by rw [hDl.out]; rfl) ?_
      intro w11 r11 s11 o11
      have h11 := below_only h10 o11 hgr s11
      refine hK.out _ _ (trivial) (fun _ => ?_)
      clear hK K
      try simp only [Act.put, List.setIfInBounds_toArray, List.set_cons_zero, List.set_cons_succ]
      refine wpAnyH_done (by kernel_rfl) ?_ _
      go_wp2
      refine bodyPost_ret (results_cell_mid rfl _ _ gr (ints .u8 D) _ rfl r11.range Tryd.underlying23 rfl (by rw [ints, List.length_map, hDl.out]; kernel_rfl)) rfl ?_
      exact ⟨by rw [hY.out], h11⟩

end Go.Proofs.YtmhehnimgkmmaaaDoor
