/- The code, in the program. -/
import Derived.Test.YtmhehnimgkmmaaaDoorMacD
import Derived.Test.YtmhehnimgkmmaaaDoorBase
import Derived.Deep.RegionHeld3
import Derived.Deep.DeepCutAuto
import Derived.IntWalk
import Derived.Lib.Hide
namespace Go.Proofs.YtmhehnimgkmmaaaDoor
set_option maxRecDepth 100000
open Go.RowKit
set_option linter.unusedVariables false
set_option linter.unusedSimpArgs false
attribute [local go_sem] cell_re

theorem infoRow : (Tryd.prog.info? 48).map (fun i => (i.zero, i.size, i.bytes)) = some (some (.slice none 0 0), 1, 24) := by kernel_rfl
set_option maxRecDepth 200000 in
set_option maxHeartbeats 8000000 in
theorem macBoth (F : List Int) (hb : Byted F) (hl : F.length = 64) (X : Array Value) (hX : Hid ((ints .u8 F).toArray = X)) : (∀ W, Calls Tryd.prog 27 #[.agg X, .int .u8 54] W fun e w' => e = .returned (.agg (ints .u8 (addedL F 54)).toArray) ∧ Below W.heap.size W w') ∧ (∀ W, Calls Tryd.prog 27 #[.agg X, .int .u8 92] W fun e w' => e = .returned (.agg (ints .u8 (addedL F 92)).toArray) ∧ Below W.heap.size W w') :=
  ⟨fun W => macAdded F hb hl 54 (by decide) X hX W, fun W => macAdded F hb hl 92 (by decide) X hX W⟩
set_option maxRecDepth 200000 in
set_option maxHeartbeats 8000000 in
theorem macCode (key : List Int) (hkb : Byted key) (hkl : key.length ≤ 1000000) (kp : Option Addr) (kn kc : Nat) (hkn : kn = key.length) (hkc : kn ≤ kc) (l : List (List Int)) (hlb : ∀ x ∈ l, Byted x) (hll : l.flatten.length ≤ 1000000) (p : Option Addr) (n c : Nat) (hn : n = l.length) (hn9 : n ≤ 1000000) (hpc : p = none → c = 0) (w : World) (hT : Steps w) (hK : At .u8 w kp key) (hP : Parts w p l) :
    Calls Tryd.prog 22 #[.slice kp kn kc, .slice p n c] w fun e w' => e = .returned (.agg (ints .u8 (codeL key l.flatten)).toArray) ∧ Below w.heap.size w w' := by
  have dF := Lib.hid (fun (W : World) (h : Below w.heap.size w W) => macFilled key hkb (by omega) kp kn kc hkn hkc W (hT.call h) (hK.call h))
  have hFb := Lib.hid (filledL_byted hkb)
  have hFl := Lib.hid (filledL_length key)
  have hcode : codeL key l.flatten = sha (addedL (filledL key) 92 ++ sha (addedL (filledL key) 54 ++ l.flatten)) := rfl
  have hT0 := Lib.hid hT
  have hP0 := Lib.hid hP
  obtain ⟨F, hF⟩ : ∃ F, Hid (filledL key = F) := ⟨_, rfl⟩
  rw [hF.out] at dF hFb hFl hcode
  obtain ⟨X, hX⟩ : ∃ X, Hid ((ints .u8 F).toArray = X) := ⟨_, rfl⟩
  rw [hX.out] at dF
  obtain ⟨d1', d3'⟩ := macBoth F hFb.out hFl.out X hX
  have hL6 : Hid ((addedL F 54).length = 64) := by show _ = _; rw [addedL_length, hFl.out]
  have hL7 : Hid ((addedL F 92).length = 64) := by show _ = _; rw [addedL_length, hFl.out]
  have hb6 := Lib.hid (addedL_byted F 54)
  have hb7 := Lib.hid (addedL_byted F 92)
  obtain ⟨A6, hA6⟩ : ∃ A, Hid (addedL F 54 = A) := ⟨_, rfl⟩
  obtain ⟨A7, hA7⟩ : ∃ A, Hid (addedL F 92 = A) := ⟨_, rfl⟩
  rw [hA6.out] at d1' hL6 hb6 hcode
  rw [hA7.out] at d3' hL7 hb7 hcode
  obtain ⟨X6, hX6⟩ : ∃ X, Hid ((ints .u8 A6).toArray = X) := ⟨_, rfl⟩
  obtain ⟨X7, hX7⟩ : ∃ X, Hid ((ints .u8 A7).toArray = X) := ⟨_, rfl⟩
  rw [hX6.out] at d1'
  rw [hX7.out] at d3'
  have d1 := Lib.hid d1'
  have d3 := Lib.hid d3'
  obtain ⟨I8, hI8⟩ : ∃ I, Hid (sha (A6 ++ l.flatten) = I) := ⟨_, Lib.hid rfl⟩
  have hIl : Hid (I8.length = 32) := by show _ = _; rw [← hI8.out]; rfl
  have hIb : Hid (Byted I8) := by rw [← hI8.out]; exact Lib.hid (sha_byted _)
  rw [hI8.out] at hcode
  obtain ⟨D, hD⟩ : ∃ D, Hid (sha (A7 ++ I8) = D) := ⟨_, Lib.hid rfl⟩
  have hDl : Hid (D.length = 32) := by show _ = _; rw [← hD.out]; rfl
  rw [hD.out] at hcode
  rw [hcode]
  obtain ⟨Y, hY⟩ : ∃ Y, Hid ((ints .u8 D).toArray = Y) := ⟨_, rfl⟩
  obtain ⟨YI, hYI⟩ : ∃ Y, Hid ((ints .u8 I8).toArray = Y) := ⟨_, rfl⟩
  rw [hY.out]
  -- the digest of the first block and the parts; of the second and that digest
  have hf1 : ([A6] ++ l).flatten = A6 ++ l.flatten := by simp
  have hf2 : [A7, I8].flatten = A7 ++ I8 := by simp
  have hN := Lib.hid hn
  have hLL := Lib.hid hll
  have hBB := Lib.hid hlb
  have dO1 := Lib.hid (fun (W : World) (q : Option Addr) (m d : Nat) (hm : m = n + 1) (hT : Steps W) (hP : Parts W q ([A6] ++ l)) => hashOf ([A6] ++ l) (joinTo_byted (fun x hx => by rcases List.mem_append.mp hx with h | h; (obtain rfl := List.mem_singleton.mp h; exact hb6.out); exact hBB.out x h)) (by rw [hf1, List.length_append, hL6.out]; have := hLL.out; omega) m d (by rw [hm, hN.out]; simp) (by omega) q W hT hP)
  have dO2 := Lib.hid (fun (W : World) (q : Option Addr) (m d : Nat) (hm : m = 2) (hT : Steps W) (hP : Parts W q [A7, I8]) => hashOf [A7, I8] (joinTo_byted (fun x hx => by simp only [List.mem_cons, List.not_mem_nil, or_false] at hx; rcases hx with rfl | rfl; exact hb7.out; exact hIb.out)) (by rw [hf2, List.length_append, hL7.out, hIl.out]; decide) m d hm (by omega) q W hT hP)
  rw [hf1, hI8.out, hYI.out] at dO1
  rw [hf2, hD.out, hY.out] at dO2
  clear hkb hkl hkn hkc hlb hll hn hT hK hP d1' d3' hcode hf1 hf2
  go_enter Tryd.func22, Tryd.ntmps22
  go_upto_region 2 with (first
    | (refine walk_arr (o := ⟨some 4, _, _, _, _, _⟩) rfl 46 rfl .u8 (List.replicate 32 0) (by kernel_rfl) ?_; intro w1 aR1 hB1 hs1; clear hs1)
    | (go_at_call 26; refine (dF.out w1 hB1).mono ?_; rintro e' w2 ⟨rfl, hb2⟩; have aR2 := aR1.call hb2; have hB2 := below_then hB1 hb2)
    | (refine walk_arr (o := ⟨some 5, _, _, _, _, _⟩) rfl 54 rfl .u8 (List.replicate 64 0) (by kernel_rfl) ?_; intro w3 aF3 hb3 hs3; clear hs3; have aR3 := aR2.call hb3; have hB3 := below_then hB2 hb3)
    | (refine walk_store rfl 54 _ _ rfl aF3 rfl X hX rfl (by rw [hFl.out]; kernel_rfl) (by rw [hFl.out]; rfl) ?_; intro w4 aF hs4 ho4; have aR := aR3.only ho4 (Nat.ne_of_lt aR2.lt) hs4; have hB := below_only hB3 ho4 hB2.size hs4))
  clear aR1 hB1 hb2 aR2 hB2 aF3 hb3 aR3 hB3 hs4 ho4
  generalize w2.heap.size = g5 at *
  try simp only [Act.put, List.setIfInBounds_toArray, List.set_cons_zero, List.set_cons_succ]
  go_cut [6, 7] (fun s6 s7 wx => ∃ g6 g7, s6 = .pointer (some ⟨g6, 0, none⟩) ∧ s7 = .pointer (some ⟨g7, 0, none⟩) ∧ Arr .u8 wx g6 A6 ∧ Arr .u8 wx g7 A7 ∧ g6 ≠ g7 ∧ w.heap.size ≤ g6 ∧ w.heap.size ≤ g7 ∧ Arr .u8 wx w.heap.size (List.replicate 32 0) ∧ Below w.heap.size w wx)
  case first =>
    replace aF := aF.drew
    replace aR := aR.drew
    replace hB := hB.drew
    refine wp_region_held_drew (S := fun W' => W'.rangeAt g5 0 (ints .u8 F)) (by kernel_rfl) aF.range (fun _ => ?_)
    generalize w4.drew = w10 at *
    refine wpAnyH_take (i := 0) (v := .agg X) rfl (by kernel_rfl) (by kernel_rfl) (by kernel_rfl) (fun _ _ _ h => h) (by rw [← hX.out]; exact yieldsIf_load_mid (by rfl) 54 (.tmp 5) rfl g5 0 rfl (ints .u8 F) _ (fun _ h => h) Tryd.underlying54 rfl (by rw [ints, List.length_map, hFl.out]; kernel_rfl)) (by exact aF.range) ?_
    try simp only [Act.put, List.setIfInBounds_toArray, List.set_cons_zero, List.set_cons_succ]
    refine wpAnyH_take (i := 2) (v := .agg X) rfl (by kernel_rfl) (by kernel_rfl) (by kernel_rfl) (fun _ _ _ h => h) (by rw [← hX.out]; exact yieldsIf_load_mid (by rfl) 54 (.tmp 5) rfl g5 0 rfl (ints .u8 F) _ (fun _ h => h) Tryd.underlying54 rfl (by rw [ints, List.length_map, hFl.out]; kernel_rfl)) (by exact aF.range) ?_
    try simp only [Act.put, List.setIfInBounds_toArray, List.set_cons_zero, List.set_cons_succ]
    refine wpAnyH_ready (rs := [1, 4, 5]) (by kernel_rfl) (by simp) ?_
    refine AllReadyH.cons (o := ⟨some 12, .call { callee := .value (.func 27), args := #[.tmp 11, .const (.int .u8 54)], argTypes := #[54, 5] }, _, _, _, _⟩) rfl (fun K hK => ?_) ?_
    · skip
      go_simp
      refine (d1.out w10).mono ?_
      rintro e' w11 ⟨rfl, b10⟩
      replace aF := aF.call b10
      replace aR := aR.call b10
      replace hB := below_then hB b10
      refine hK.out _ _ aF.range (fun _ => ?_)
      clear hK K
      try simp only [Act.put, List.setIfInBounds_toArray, List.set_cons_zero, List.set_cons_succ]
      refine wpAnyH_ready (rs := [3, 4, 5]) (by kernel_rfl) (by simp) ?_
      refine AllReadyH.cons (o := ⟨some 14, .call { callee := .value (.func 27), args := #[.tmp 13, .const (.int .u8 92)], argTypes := #[54, 5] }, _, _, _, _⟩) rfl (fun K hK => ?_) ?_
      · skip
        go_simp
        refine (d3.out w11).mono ?_
        rintro e' w12 ⟨rfl, b11⟩
        replace aF := aF.call b11
        replace aR := aR.call b11
        replace hB := below_then hB b11
        refine hK.out _ _ aF.range (fun _ => ?_)
        clear hK K
        try simp only [Act.put, List.setIfInBounds_toArray, List.set_cons_zero, List.set_cons_succ]
        refine wpAnyH_ready (rs := [4, 5]) (by kernel_rfl) (by simp) ?_
        refine AllReadyH.cons (o := ⟨some 6, .alloc 54, _, _, _, _⟩) rfl (fun K hK => ?_) ?_
        · skip
          rw [if_pos (by rfl)]
          refine oper_arr 54 rfl .u8 (List.replicate 64 0) (by kernel_rfl) ?_
          intro w13 k6 b12 s12
          clear s12
          have q6f : g5 ≠ w12.heap.size := Nat.ne_of_lt aF.lt
          have q6r : w.heap.size ≠ w12.heap.size := Nat.ne_of_lt aR.lt
          have q6w : w.heap.size ≤ w12.heap.size := hB.size
          replace aF := aF.call b12
          replace aR := aR.call b12
          replace hB := below_then hB b12
          refine hK.out _ _ aF.range (fun _ => ?_)
          clear hK K
          try simp only [Act.put, List.setIfInBounds_toArray, List.set_cons_zero, List.set_cons_succ]
          refine wpAnyH_ready (rs := [5]) (by kernel_rfl) (by simp) ?_
          refine AllReadyH.cons (o := ⟨some 7, .alloc 54, _, _, _, _⟩) rfl (fun K hK => ?_) ?_
          · skip
            rw [if_pos (by rfl)]
            refine oper_arr 54 rfl .u8 (List.replicate 64 0) (by kernel_rfl) ?_
            intro w14 k7 b13 s13
            clear s13
            have q7f : g5 ≠ w13.heap.size := Nat.ne_of_lt aF.lt
            have q7r : w.heap.size ≠ w13.heap.size := Nat.ne_of_lt aR.lt
            have q7w : w.heap.size ≤ w13.heap.size := hB.size
            have q67 : w12.heap.size ≠ w13.heap.size := Nat.ne_of_lt k6.lt
            replace aF := aF.call b13
            replace aR := aR.call b13
            replace k6 := k6.call b13
            replace hB := below_then hB b13
            refine hK.out _ _ aF.range (fun _ => ?_)
            clear hK K
            try simp only [Act.put, List.setIfInBounds_toArray, List.set_cons_zero, List.set_cons_succ]
            refine wpAnyH_ready (rs := [6]) (by kernel_rfl) (by simp) ?_
            refine AllReadyH.cons (o := ⟨none, .store 54 (.tmp 6) (.tmp 12), _, _, _, _⟩) rfl (fun K hK => ?_) ?_
            · skip
              rw [if_pos (by rfl)]
              refine oper_store 54 _ _ rfl k6 rfl X6 hX6 rfl (by rw [hL6.out]; kernel_rfl) (by rw [hL6.out]; rfl) ?_
              intro w15 k6' s14 o14
              replace aF := aF.only o14 q6f s14
              replace aR := aR.only o14 q6r s14
              replace hB := below_only hB o14 q6w s14
              replace k7 := k7.only o14 (Ne.symm q67) s14
              replace k6 := k6'
              clear k6' s14 o14
              refine hK.out _ _ aF.range (fun _ => ?_)
              clear hK K
              try simp only [Act.put, List.setIfInBounds_toArray, List.set_cons_zero, List.set_cons_succ]
              refine wpAnyH_ready (rs := [7]) (by kernel_rfl) (by simp) ?_
              refine AllReadyH.cons (o := ⟨none, .store 54 (.tmp 7) (.tmp 14), _, _, _, _⟩) rfl (fun K hK => ?_) ?_
              · skip
                rw [if_pos (by rfl)]
                refine oper_store 54 _ _ rfl k7 rfl X7 hX7 rfl (by rw [hL7.out]; kernel_rfl) (by rw [hL7.out]; rfl) ?_
                intro w16 k7' s15 o15
                replace aF := aF.only o15 q7f s15
                replace aR := aR.only o15 q7r s15
                replace hB := below_only hB o15 q7w s15
                replace k6 := k6.only o15 q67 s15
                replace k7 := k7'
                clear k7' s15 o15
                refine hK.out _ _ aF.range (fun _ => ?_)
                clear hK K
                try simp only [Act.put, List.setIfInBounds_toArray, List.set_cons_zero, List.set_cons_succ]
                refine wpAnyH_done (by kernel_rfl) ?_ _
                go_wp2_with fail
                go_meet
                exact ⟨_, _, rfl, rfl, k6, k7, q67, q6w, q7w, aR, hB⟩
              exact AllReadyH.nil
            exact AllReadyH.nil
          exact AllReadyH.nil
        refine AllReadyH.cons (o := ⟨some 7, .alloc 54, _, _, _, _⟩) rfl (fun K hK => ?_) ?_
        · skip
          rw [if_pos (by rfl)]
          refine oper_arr 54 rfl .u8 (List.replicate 64 0) (by kernel_rfl) ?_
          intro w13 k7 b12 s12
          clear s12
          have q7f : g5 ≠ w12.heap.size := Nat.ne_of_lt aF.lt
          have q7r : w.heap.size ≠ w12.heap.size := Nat.ne_of_lt aR.lt
          have q7w : w.heap.size ≤ w12.heap.size := hB.size
          replace aF := aF.call b12
          replace aR := aR.call b12
          replace hB := below_then hB b12
          refine hK.out _ _ aF.range (fun _ => ?_)
          clear hK K
          try simp only [Act.put, List.setIfInBounds_toArray, List.set_cons_zero, List.set_cons_succ]
          refine wpAnyH_ready (rs := [4]) (by kernel_rfl) (by simp) ?_
          refine AllReadyH.cons (o := ⟨some 6, .alloc 54, _, _, _, _⟩) rfl (fun K hK => ?_) ?_
          · skip
            rw [if_pos (by rfl)]
            refine oper_arr 54 rfl .u8 (List.replicate 64 0) (by kernel_rfl) ?_
            intro w14 k6 b13 s13
            clear s13
            have q6f : g5 ≠ w13.heap.size := Nat.ne_of_lt aF.lt
            have q6r : w.heap.size ≠ w13.heap.size := Nat.ne_of_lt aR.lt
            have q6w : w.heap.size ≤ w13.heap.size := hB.size
            have q67 : w13.heap.size ≠ w12.heap.size := Ne.symm (Nat.ne_of_lt k7.lt)
            replace aF := aF.call b13
            replace aR := aR.call b13
            replace k7 := k7.call b13
            replace hB := below_then hB b13
            refine hK.out _ _ aF.range (fun _ => ?_)
            clear hK K
            try simp only [Act.put, List.setIfInBounds_toArray, List.set_cons_zero, List.set_cons_succ]
            refine wpAnyH_ready (rs := [6]) (by kernel_rfl) (by simp) ?_
            refine AllReadyH.cons (o := ⟨none, .store 54 (.tmp 6) (.tmp 12), _, _, _, _⟩) rfl (fun K hK => ?_) ?_
            · skip
              rw [if_pos (by rfl)]
              refine oper_store 54 _ _ rfl k6 rfl X6 hX6 rfl (by rw [hL6.out]; kernel_rfl) (by rw [hL6.out]; rfl) ?_
              intro w15 k6' s14 o14
              replace aF := aF.only o14 q6f s14
              replace aR := aR.only o14 q6r s14
              replace hB := below_only hB o14 q6w s14
              replace k7 := k7.only o14 (Ne.symm q67) s14
              replace k6 := k6'
              clear k6' s14 o14
              refine hK.out _ _ aF.range (fun _ => ?_)
              clear hK K
              try simp only [Act.put, List.setIfInBounds_toArray, List.set_cons_zero, List.set_cons_succ]
              refine wpAnyH_ready (rs := [7]) (by kernel_rfl) (by simp) ?_
              refine AllReadyH.cons (o := ⟨none, .store 54 (.tmp 7) (.tmp 14), _, _, _, _⟩) rfl (fun K hK => ?_) ?_
              · skip
                rw [if_pos (by rfl)]
                refine oper_store 54 _ _ rfl k7 rfl X7 hX7 rfl (by rw [hL7.out]; kernel_rfl) (by rw [hL7.out]; rfl) ?_
                intro w16 k7' s15 o15
                replace aF := aF.only o15 q7f s15
                replace aR := aR.only o15 q7r s15
                replace hB := below_only hB o15 q7w s15
                replace k6 := k6.only o15 q67 s15
                replace k7 := k7'
                clear k7' s15 o15
                refine hK.out _ _ aF.range (fun _ => ?_)
                clear hK K
                try simp only [Act.put, List.setIfInBounds_toArray, List.set_cons_zero, List.set_cons_succ]
                refine wpAnyH_done (by kernel_rfl) ?_ _
                go_wp2_with fail
                go_meet
                exact ⟨_, _, rfl, rfl, k6, k7, q67, q6w, q7w, aR, hB⟩
              exact AllReadyH.nil
            exact AllReadyH.nil
          exact AllReadyH.nil
        exact AllReadyH.nil
      refine AllReadyH.cons (o := ⟨some 6, .alloc 54, _, _, _, _⟩) rfl (fun K hK => ?_) ?_
      · skip
        rw [if_pos (by rfl)]
        refine oper_arr 54 rfl .u8 (List.replicate 64 0) (by kernel_rfl) ?_
        intro w12 k6 b11 s11
        clear s11
        have q6f : g5 ≠ w11.heap.size := Nat.ne_of_lt aF.lt
        have q6r : w.heap.size ≠ w11.heap.size := Nat.ne_of_lt aR.lt
        have q6w : w.heap.size ≤ w11.heap.size := hB.size
        replace aF := aF.call b11
        replace aR := aR.call b11
        replace hB := below_then hB b11
        refine hK.out _ _ aF.range (fun _ => ?_)
        clear hK K
        try simp only [Act.put, List.setIfInBounds_toArray, List.set_cons_zero, List.set_cons_succ]
        refine wpAnyH_ready (rs := [3, 5]) (by kernel_rfl) (by simp) ?_
        refine AllReadyH.cons (o := ⟨some 14, .call { callee := .value (.func 27), args := #[.tmp 13, .const (.int .u8 92)], argTypes := #[54, 5] }, _, _, _, _⟩) rfl (fun K hK => ?_) ?_
        · skip
          go_simp
          refine (d3.out w12).mono ?_
          rintro e' w13 ⟨rfl, b12⟩
          replace aF := aF.call b12
          replace aR := aR.call b12
          replace k6 := k6.call b12
          replace hB := below_then hB b12
          refine hK.out _ _ aF.range (fun _ => ?_)
          clear hK K
          try simp only [Act.put, List.setIfInBounds_toArray, List.set_cons_zero, List.set_cons_succ]
          refine wpAnyH_ready (rs := [5]) (by kernel_rfl) (by simp) ?_
          refine AllReadyH.cons (o := ⟨some 7, .alloc 54, _, _, _, _⟩) rfl (fun K hK => ?_) ?_
          · skip
            rw [if_pos (by rfl)]
            refine oper_arr 54 rfl .u8 (List.replicate 64 0) (by kernel_rfl) ?_
            intro w14 k7 b13 s13
            clear s13
            have q7f : g5 ≠ w13.heap.size := Nat.ne_of_lt aF.lt
            have q7r : w.heap.size ≠ w13.heap.size := Nat.ne_of_lt aR.lt
            have q7w : w.heap.size ≤ w13.heap.size := hB.size
            have q67 : w11.heap.size ≠ w13.heap.size := Nat.ne_of_lt k6.lt
            replace aF := aF.call b13
            replace aR := aR.call b13
            replace k6 := k6.call b13
            replace hB := below_then hB b13
            refine hK.out _ _ aF.range (fun _ => ?_)
            clear hK K
            try simp only [Act.put, List.setIfInBounds_toArray, List.set_cons_zero, List.set_cons_succ]
            refine wpAnyH_ready (rs := [6]) (by kernel_rfl) (by simp) ?_
            refine AllReadyH.cons (o := ⟨none, .store 54 (.tmp 6) (.tmp 12), _, _, _, _⟩) rfl (fun K hK => ?_) ?_
            · skip
              rw [if_pos (by rfl)]
              refine oper_store 54 _ _ rfl k6 rfl X6 hX6 rfl (by rw [hL6.out]; kernel_rfl) (by rw [hL6.out]; rfl) ?_
              intro w15 k6' s14 o14
              replace aF := aF.only o14 q6f s14
              replace aR := aR.only o14 q6r s14
              replace hB := below_only hB o14 q6w s14
              replace k7 := k7.only o14 (Ne.symm q67) s14
              replace k6 := k6'
              clear k6' s14 o14
              refine hK.out _ _ aF.range (fun _ => ?_)
              clear hK K
              try simp only [Act.put, List.setIfInBounds_toArray, List.set_cons_zero, List.set_cons_succ]
              refine wpAnyH_ready (rs := [7]) (by kernel_rfl) (by simp) ?_
              refine AllReadyH.cons (o := ⟨none, .store 54 (.tmp 7) (.tmp 14), _, _, _, _⟩) rfl (fun K hK => ?_) ?_
              · skip
                rw [if_pos (by rfl)]
                refine oper_store 54 _ _ rfl k7 rfl X7 hX7 rfl (by rw [hL7.out]; kernel_rfl) (by rw [hL7.out]; rfl) ?_
                intro w16 k7' s15 o15
                replace aF := aF.only o15 q7f s15
                replace aR := aR.only o15 q7r s15
                replace hB := below_only hB o15 q7w s15
                replace k6 := k6.only o15 q67 s15
                replace k7 := k7'
                clear k7' s15 o15
                refine hK.out _ _ aF.range (fun _ => ?_)
                clear hK K
                try simp only [Act.put, List.setIfInBounds_toArray, List.set_cons_zero, List.set_cons_succ]
                refine wpAnyH_done (by kernel_rfl) ?_ _
                go_wp2_with fail
                go_meet
                exact ⟨_, _, rfl, rfl, k6, k7, q67, q6w, q7w, aR, hB⟩
              exact AllReadyH.nil
            exact AllReadyH.nil
          exact AllReadyH.nil
        refine AllReadyH.cons (o := ⟨some 7, .alloc 54, _, _, _, _⟩) rfl (fun K hK => ?_) ?_
        · skip
          rw [if_pos (by rfl)]
          refine oper_arr 54 rfl .u8 (List.replicate 64 0) (by kernel_rfl) ?_
          intro w13 k7 b12 s12
          clear s12
          have q7f : g5 ≠ w12.heap.size := Nat.ne_of_lt aF.lt
          have q7r : w.heap.size ≠ w12.heap.size := Nat.ne_of_lt aR.lt
          have q7w : w.heap.size ≤ w12.heap.size := hB.size
          have q67 : w11.heap.size ≠ w12.heap.size := Nat.ne_of_lt k6.lt
          replace aF := aF.call b12
          replace aR := aR.call b12
          replace k6 := k6.call b12
          replace hB := below_then hB b12
          refine hK.out _ _ aF.range (fun _ => ?_)
          clear hK K
          try simp only [Act.put, List.setIfInBounds_toArray, List.set_cons_zero, List.set_cons_succ]
          refine wpAnyH_ready (rs := [3]) (by kernel_rfl) (by simp) ?_
          refine AllReadyH.cons (o := ⟨some 14, .call { callee := .value (.func 27), args := #[.tmp 13, .const (.int .u8 92)], argTypes := #[54, 5] }, _, _, _, _⟩) rfl (fun K hK => ?_) ?_
          · skip
            go_simp
            refine (d3.out w13).mono ?_
            rintro e' w14 ⟨rfl, b13⟩
            replace aF := aF.call b13
            replace aR := aR.call b13
            replace k6 := k6.call b13
            replace k7 := k7.call b13
            replace hB := below_then hB b13
            refine hK.out _ _ aF.range (fun _ => ?_)
            clear hK K
            try simp only [Act.put, List.setIfInBounds_toArray, List.set_cons_zero, List.set_cons_succ]
            refine wpAnyH_ready (rs := [6]) (by kernel_rfl) (by simp) ?_
            refine AllReadyH.cons (o := ⟨none, .store 54 (.tmp 6) (.tmp 12), _, _, _, _⟩) rfl (fun K hK => ?_) ?_
            · skip
              rw [if_pos (by rfl)]
              refine oper_store 54 _ _ rfl k6 rfl X6 hX6 rfl (by rw [hL6.out]; kernel_rfl) (by rw [hL6.out]; rfl) ?_
              intro w15 k6' s14 o14
              replace aF := aF.only o14 q6f s14
              replace aR := aR.only o14 q6r s14
              replace hB := below_only hB o14 q6w s14
              replace k7 := k7.only o14 (Ne.symm q67) s14
              replace k6 := k6'
              clear k6' s14 o14
              refine hK.out _ _ aF.range (fun _ => ?_)
              clear hK K
              try simp only [Act.put, List.setIfInBounds_toArray, List.set_cons_zero, List.set_cons_succ]
              refine wpAnyH_ready (rs := [7]) (by kernel_rfl) (by simp) ?_
              refine AllReadyH.cons (o := ⟨none, .store 54 (.tmp 7) (.tmp 14), _, _, _, _⟩) rfl (fun K hK => ?_) ?_
              · skip
                rw [if_pos (by rfl)]
                refine oper_store 54 _ _ rfl k7 rfl X7 hX7 rfl (by rw [hL7.out]; kernel_rfl) (by rw [hL7.out]; rfl) ?_
                intro w16 k7' s15 o15
                replace aF := aF.only o15 q7f s15
                replace aR := aR.only o15 q7r s15
                replace hB := below_only hB o15 q7w s15
                replace k6 := k6.only o15 q67 s15
                replace k7 := k7'
                clear k7' s15 o15
                refine hK.out _ _ aF.range (fun _ => ?_)
                clear hK K
                try simp only [Act.put, List.setIfInBounds_toArray, List.set_cons_zero, List.set_cons_succ]
                refine wpAnyH_done (by kernel_rfl) ?_ _
                go_wp2_with fail
                go_meet
                exact ⟨_, _, rfl, rfl, k6, k7, q67, q6w, q7w, aR, hB⟩
              exact AllReadyH.nil
            exact AllReadyH.nil
          exact AllReadyH.nil
        exact AllReadyH.nil
      refine AllReadyH.cons (o := ⟨some 7, .alloc 54, _, _, _, _⟩) rfl (fun K hK => ?_) ?_
      · skip
        rw [if_pos (by rfl)]
        refine oper_arr 54 rfl .u8 (List.replicate 64 0) (by kernel_rfl) ?_
        intro w12 k7 b11 s11
        clear s11
        have q7f : g5 ≠ w11.heap.size := Nat.ne_of_lt aF.lt
        have q7r : w.heap.size ≠ w11.heap.size := Nat.ne_of_lt aR.lt
        have q7w : w.heap.size ≤ w11.heap.size := hB.size
        replace aF := aF.call b11
        replace aR := aR.call b11
        replace hB := below_then hB b11
        refine hK.out _ _ aF.range (fun _ => ?_)
        clear hK K
        try simp only [Act.put, List.setIfInBounds_toArray, List.set_cons_zero, List.set_cons_succ]
        refine wpAnyH_ready (rs := [3, 4]) (by kernel_rfl) (by simp) ?_
        refine AllReadyH.cons (o := ⟨some 14, .call { callee := .value (.func 27), args := #[.tmp 13, .const (.int .u8 92)], argTypes := #[54, 5] }, _, _, _, _⟩) rfl (fun K hK => ?_) ?_
        · skip
          go_simp
          refine (d3.out w12).mono ?_
          rintro e' w13 ⟨rfl, b12⟩
          replace aF := aF.call b12
          replace aR := aR.call b12
          replace k7 := k7.call b12
          replace hB := below_then hB b12
          refine hK.out _ _ aF.range (fun _ => ?_)
          clear hK K
          try simp only [Act.put, List.setIfInBounds_toArray, List.set_cons_zero, List.set_cons_succ]
          refine wpAnyH_ready (rs := [4]) (by kernel_rfl) (by simp) ?_
          refine AllReadyH.cons (o := ⟨some 6, .alloc 54, _, _, _, _⟩) rfl (fun K hK => ?_) ?_
          · skip
            rw [if_pos (by rfl)]
            refine oper_arr 54 rfl .u8 (List.replicate 64 0) (by kernel_rfl) ?_
            intro w14 k6 b13 s13
            clear s13
            have q6f : g5 ≠ w13.heap.size := Nat.ne_of_lt aF.lt
            have q6r : w.heap.size ≠ w13.heap.size := Nat.ne_of_lt aR.lt
            have q6w : w.heap.size ≤ w13.heap.size := hB.size
            have q67 : w13.heap.size ≠ w11.heap.size := Ne.symm (Nat.ne_of_lt k7.lt)
            replace aF := aF.call b13
            replace aR := aR.call b13
            replace k7 := k7.call b13
            replace hB := below_then hB b13
            refine hK.out _ _ aF.range (fun _ => ?_)
            clear hK K
            try simp only [Act.put, List.setIfInBounds_toArray, List.set_cons_zero, List.set_cons_succ]
            refine wpAnyH_ready (rs := [6]) (by kernel_rfl) (by simp) ?_
            refine AllReadyH.cons (o := ⟨none, .store 54 (.tmp 6) (.tmp 12), _, _, _, _⟩) rfl (fun K hK => ?_) ?_
            · skip
              rw [if_pos (by rfl)]
              refine oper_store 54 _ _ rfl k6 rfl X6 hX6 rfl (by rw [hL6.out]; kernel_rfl) (by rw [hL6.out]; rfl) ?_
              intro w15 k6' s14 o14
              replace aF := aF.only o14 q6f s14
              replace aR := aR.only o14 q6r s14
              replace hB := below_only hB o14 q6w s14
              replace k7 := k7.only o14 (Ne.symm q67) s14
              replace k6 := k6'
              clear k6' s14 o14
              refine hK.out _ _ aF.range (fun _ => ?_)
              clear hK K
              try simp only [Act.put, List.setIfInBounds_toArray, List.set_cons_zero, List.set_cons_succ]
              refine wpAnyH_ready (rs := [7]) (by kernel_rfl) (by simp) ?_
              refine AllReadyH.cons (o := ⟨none, .store 54 (.tmp 7) (.tmp 14), _, _, _, _⟩) rfl (fun K hK => ?_) ?_
              · skip
                rw [if_pos (by rfl)]
                refine oper_store 54 _ _ rfl k7 rfl X7 hX7 rfl (by rw [hL7.out]; kernel_rfl) (by rw [hL7.out]; rfl) ?_
                intro w16 k7' s15 o15
                replace aF := aF.only o15 q7f s15
                replace aR := aR.only o15 q7r s15
                replace hB := below_only hB o15 q7w s15
                replace k6 := k6.only o15 q67 s15
                replace k7 := k7'
                clear k7' s15 o15
                refine hK.out _ _ aF.range (fun _ => ?_)
                clear hK K
                try simp only [Act.put, List.setIfInBounds_toArray, List.set_cons_zero, List.set_cons_succ]
                refine wpAnyH_done (by kernel_rfl) ?_ _
                go_wp2_with fail
                go_meet
                exact ⟨_, _, rfl, rfl, k6, k7, q67, q6w, q7w, aR, hB⟩
              exact AllReadyH.nil
            exact AllReadyH.nil
          exact AllReadyH.nil
        refine AllReadyH.cons (o := ⟨some 6, .alloc 54, _, _, _, _⟩) rfl (fun K hK => ?_) ?_
        · skip
          rw [if_pos (by rfl)]
          refine oper_arr 54 rfl .u8 (List.replicate 64 0) (by kernel_rfl) ?_
          intro w13 k6 b12 s12
          clear s12
          have q6f : g5 ≠ w12.heap.size := Nat.ne_of_lt aF.lt
          have q6r : w.heap.size ≠ w12.heap.size := Nat.ne_of_lt aR.lt
          have q6w : w.heap.size ≤ w12.heap.size := hB.size
          have q67 : w12.heap.size ≠ w11.heap.size := Ne.symm (Nat.ne_of_lt k7.lt)
          replace aF := aF.call b12
          replace aR := aR.call b12
          replace k7 := k7.call b12
          replace hB := below_then hB b12
          refine hK.out _ _ aF.range (fun _ => ?_)
          clear hK K
          try simp only [Act.put, List.setIfInBounds_toArray, List.set_cons_zero, List.set_cons_succ]
          refine wpAnyH_ready (rs := [3]) (by kernel_rfl) (by simp) ?_
          refine AllReadyH.cons (o := ⟨some 14, .call { callee := .value (.func 27), args := #[.tmp 13, .const (.int .u8 92)], argTypes := #[54, 5] }, _, _, _, _⟩) rfl (fun K hK => ?_) ?_
          · skip
            go_simp
            refine (d3.out w13).mono ?_
            rintro e' w14 ⟨rfl, b13⟩
            replace aF := aF.call b13
            replace aR := aR.call b13
            replace k6 := k6.call b13
            replace k7 := k7.call b13
            replace hB := below_then hB b13
            refine hK.out _ _ aF.range (fun _ => ?_)
            clear hK K
            try simp only [Act.put, List.setIfInBounds_toArray, List.set_cons_zero, List.set_cons_succ]
            refine wpAnyH_ready (rs := [6]) (by kernel_rfl) (by simp) ?_
            refine AllReadyH.cons (o := ⟨none, .store 54 (.tmp 6) (.tmp 12), _, _, _, _⟩) rfl (fun K hK => ?_) ?_
            · skip
              rw [if_pos (by rfl)]
              refine oper_store 54 _ _ rfl k6 rfl X6 hX6 rfl (by rw [hL6.out]; kernel_rfl) (by rw [hL6.out]; rfl) ?_
              intro w15 k6' s14 o14
              replace aF := aF.only o14 q6f s14
              replace aR := aR.only o14 q6r s14
              replace hB := below_only hB o14 q6w s14
              replace k7 := k7.only o14 (Ne.symm q67) s14
              replace k6 := k6'
              clear k6' s14 o14
              refine hK.out _ _ aF.range (fun _ => ?_)
              clear hK K
              try simp only [Act.put, List.setIfInBounds_toArray, List.set_cons_zero, List.set_cons_succ]
              refine wpAnyH_ready (rs := [7]) (by kernel_rfl) (by simp) ?_
              refine AllReadyH.cons (o := ⟨none, .store 54 (.tmp 7) (.tmp 14), _, _, _, _⟩) rfl (fun K hK => ?_) ?_
              · skip
                rw [if_pos (by rfl)]
                refine oper_store 54 _ _ rfl k7 rfl X7 hX7 rfl (by rw [hL7.out]; kernel_rfl) (by rw [hL7.out]; rfl) ?_
                intro w16 k7' s15 o15
                replace aF := aF.only o15 q7f s15
                replace aR := aR.only o15 q7r s15
                replace hB := below_only hB o15 q7w s15
                replace k6 := k6.only o15 q67 s15
                replace k7 := k7'
                clear k7' s15 o15
                refine hK.out _ _ aF.range (fun _ => ?_)
                clear hK K
                try simp only [Act.put, List.setIfInBounds_toArray, List.set_cons_zero, List.set_cons_succ]
                refine wpAnyH_done (by kernel_rfl) ?_ _
                go_wp2_with fail
                go_meet
                exact ⟨_, _, rfl, rfl, k6, k7, q67, q6w, q7w, aR, hB⟩
              exact AllReadyH.nil
            exact AllReadyH.nil
          exact AllReadyH.nil
        exact AllReadyH.nil
      exact AllReadyH.nil
    refine AllReadyH.cons (o := ⟨some 6, .alloc 54, _, _, _, _⟩) rfl (fun K hK => ?_) ?_
    · skip
      rw [if_pos (by rfl)]
      refine oper_arr 54 rfl .u8 (List.replicate 64 0) (by kernel_rfl) ?_
      intro w11 k6 b10 s10
      clear s10
      have q6f : g5 ≠ w10.heap.size := Nat.ne_of_lt aF.lt
      have q6r : w.heap.size ≠ w10.heap.size := Nat.ne_of_lt aR.lt
      have q6w : w.heap.size ≤ w10.heap.size := hB.size
      replace aF := aF.call b10
      replace aR := aR.call b10
      replace hB := below_then hB b10
      refine hK.out _ _ aF.range (fun _ => ?_)
      clear hK K
      try simp only [Act.put, List.setIfInBounds_toArray, List.set_cons_zero, List.set_cons_succ]
      refine wpAnyH_ready (rs := [1, 5]) (by kernel_rfl) (by simp) ?_
      refine AllReadyH.cons (o := ⟨some 12, .call { callee := .value (.func 27), args := #[.tmp 11, .const (.int .u8 54)], argTypes := #[54, 5] }, _, _, _, _⟩) rfl (fun K hK => ?_) ?_
      · skip
        go_simp
        refine (d1.out w11).mono ?_
        rintro e' w12 ⟨rfl, b11⟩
        replace aF := aF.call b11
        replace aR := aR.call b11
        replace k6 := k6.call b11
        replace hB := below_then hB b11
        refine hK.out _ _ aF.range (fun _ => ?_)
        clear hK K
        try simp only [Act.put, List.setIfInBounds_toArray, List.set_cons_zero, List.set_cons_succ]
        refine wpAnyH_ready (rs := [3, 5]) (by kernel_rfl) (by simp) ?_
        refine AllReadyH.cons (o := ⟨some 14, .call { callee := .value (.func 27), args := #[.tmp 13, .const (.int .u8 92)], argTypes := #[54, 5] }, _, _, _, _⟩) rfl (fun K hK => ?_) ?_
        · skip
          go_simp
          refine (d3.out w12).mono ?_
          rintro e' w13 ⟨rfl, b12⟩
          replace aF := aF.call b12
          replace aR := aR.call b12
          replace k6 := k6.call b12
          replace hB := below_then hB b12
          refine hK.out _ _ aF.range (fun _ => ?_)
          clear hK K
          try simp only [Act.put, List.setIfInBounds_toArray, List.set_cons_zero, List.set_cons_succ]
          refine wpAnyH_ready (rs := [5]) (by kernel_rfl) (by simp) ?_
          refine AllReadyH.cons (o := ⟨some 7, .alloc 54, _, _, _, _⟩) rfl (fun K hK => ?_) ?_
          · skip
            rw [if_pos (by rfl)]
            refine oper_arr 54 rfl .u8 (List.replicate 64 0) (by kernel_rfl) ?_
            intro w14 k7 b13 s13
            clear s13
            have q7f : g5 ≠ w13.heap.size := Nat.ne_of_lt aF.lt
            have q7r : w.heap.size ≠ w13.heap.size := Nat.ne_of_lt aR.lt
            have q7w : w.heap.size ≤ w13.heap.size := hB.size
            have q67 : w10.heap.size ≠ w13.heap.size := Nat.ne_of_lt k6.lt
            replace aF := aF.call b13
            replace aR := aR.call b13
            replace k6 := k6.call b13
            replace hB := below_then hB b13
            refine hK.out _ _ aF.range (fun _ => ?_)
            clear hK K
            try simp only [Act.put, List.setIfInBounds_toArray, List.set_cons_zero, List.set_cons_succ]
            refine wpAnyH_ready (rs := [6]) (by kernel_rfl) (by simp) ?_
            refine AllReadyH.cons (o := ⟨none, .store 54 (.tmp 6) (.tmp 12), _, _, _, _⟩) rfl (fun K hK => ?_) ?_
            · skip
              rw [if_pos (by rfl)]
              refine oper_store 54 _ _ rfl k6 rfl X6 hX6 rfl (by rw [hL6.out]; kernel_rfl) (by rw [hL6.out]; rfl) ?_
              intro w15 k6' s14 o14
              replace aF := aF.only o14 q6f s14
              replace aR := aR.only o14 q6r s14
              replace hB := below_only hB o14 q6w s14
              replace k7 := k7.only o14 (Ne.symm q67) s14
              replace k6 := k6'
              clear k6' s14 o14
              refine hK.out _ _ aF.range (fun _ => ?_)
              clear hK K
              try simp only [Act.put, List.setIfInBounds_toArray, List.set_cons_zero, List.set_cons_succ]
              refine wpAnyH_ready (rs := [7]) (by kernel_rfl) (by simp) ?_
              refine AllReadyH.cons (o := ⟨none, .store 54 (.tmp 7) (.tmp 14), _, _, _, _⟩) rfl (fun K hK => ?_) ?_
              · skip
                rw [if_pos (by rfl)]
                refine oper_store 54 _ _ rfl k7 rfl X7 hX7 rfl (by rw [hL7.out]; kernel_rfl) (by rw [hL7.out]; rfl) ?_
                intro w16 k7' s15 o15
                replace aF := aF.only o15 q7f s15
                replace aR := aR.only o15 q7r s15
                replace hB := below_only hB o15 q7w s15
                replace k6 := k6.only o15 q67 s15
                replace k7 := k7'
                clear k7' s15 o15
                refine hK.out _ _ aF.range (fun _ => ?_)
                clear hK K
                try simp only [Act.put, List.setIfInBounds_toArray, List.set_cons_zero, List.set_cons_succ]
                refine wpAnyH_done (by kernel_rfl) ?_ _
                go_wp2_with fail
                go_meet
                exact ⟨_, _, rfl, rfl, k6, k7, q67, q6w, q7w, aR, hB⟩
              exact AllReadyH.nil
            exact AllReadyH.nil
          exact AllReadyH.nil
        refine AllReadyH.cons (o := ⟨some 7, .alloc 54, _, _, _, _⟩) rfl (fun K hK => ?_) ?_
        · skip
          rw [if_pos (by rfl)]
          refine oper_arr 54 rfl .u8 (List.replicate 64 0) (by kernel_rfl) ?_
          intro w13 k7 b12 s12
          clear s12
          have q7f : g5 ≠ w12.heap.size := Nat.ne_of_lt aF.lt
          have q7r : w.heap.size ≠ w12.heap.size := Nat.ne_of_lt aR.lt
          have q7w : w.heap.size ≤ w12.heap.size := hB.size
          have q67 : w10.heap.size ≠ w12.heap.size := Nat.ne_of_lt k6.lt
          replace aF := aF.call b12
          replace aR := aR.call b12
          replace k6 := k6.call b12
          replace hB := below_then hB b12
          refine hK.out _ _ aF.range (fun _ => ?_)
          clear hK K
          try simp only [Act.put, List.setIfInBounds_toArray, List.set_cons_zero, List.set_cons_succ]
          refine wpAnyH_ready (rs := [3]) (by kernel_rfl) (by simp) ?_
          refine AllReadyH.cons (o := ⟨some 14, .call { callee := .value (.func 27), args := #[.tmp 13, .const (.int .u8 92)], argTypes := #[54, 5] }, _, _, _, _⟩) rfl (fun K hK => ?_) ?_
          · skip
            go_simp
            refine (d3.out w13).mono ?_
            rintro e' w14 ⟨rfl, b13⟩
            replace aF := aF.call b13
            replace aR := aR.call b13
            replace k6 := k6.call b13
            replace k7 := k7.call b13
            replace hB := below_then hB b13
            refine hK.out _ _ aF.range (fun _ => ?_)
            clear hK K
            try simp only [Act.put, List.setIfInBounds_toArray, List.set_cons_zero, List.set_cons_succ]
            refine wpAnyH_ready (rs := [6]) (by kernel_rfl) (by simp) ?_
            refine AllReadyH.cons (o := ⟨none, .store 54 (.tmp 6) (.tmp 12), _, _, _, _⟩) rfl (fun K hK => ?_) ?_
            · skip
              rw [if_pos (by rfl)]
              refine oper_store 54 _ _ rfl k6 rfl X6 hX6 rfl (by rw [hL6.out]; kernel_rfl) (by rw [hL6.out]; rfl) ?_
              intro w15 k6' s14 o14
              replace aF := aF.only o14 q6f s14
              replace aR := aR.only o14 q6r s14
              replace hB := below_only hB o14 q6w s14
              replace k7 := k7.only o14 (Ne.symm q67) s14
              replace k6 := k6'
              clear k6' s14 o14
              refine hK.out _ _ aF.range (fun _ => ?_)
              clear hK K
              try simp only [Act.put, List.setIfInBounds_toArray, List.set_cons_zero, List.set_cons_succ]
              refine wpAnyH_ready (rs := [7]) (by kernel_rfl) (by simp) ?_
              refine AllReadyH.cons (o := ⟨none, .store 54 (.tmp 7) (.tmp 14), _, _, _, _⟩) rfl (fun K hK => ?_) ?_
              · skip
                rw [if_pos (by rfl)]
                refine oper_store 54 _ _ rfl k7 rfl X7 hX7 rfl (by rw [hL7.out]; kernel_rfl) (by rw [hL7.out]; rfl) ?_
                intro w16 k7' s15 o15
                replace aF := aF.only o15 q7f s15
                replace aR := aR.only o15 q7r s15
                replace hB := below_only hB o15 q7w s15
                replace k6 := k6.only o15 q67 s15
                replace k7 := k7'
                clear k7' s15 o15
                refine hK.out _ _ aF.range (fun _ => ?_)
                clear hK K
                try simp only [Act.put, List.setIfInBounds_toArray, List.set_cons_zero, List.set_cons_succ]
                refine wpAnyH_done (by kernel_rfl) ?_ _
                go_wp2_with fail
                go_meet
                exact ⟨_, _, rfl, rfl, k6, k7, q67, q6w, q7w, aR, hB⟩
              exact AllReadyH.nil
            exact AllReadyH.nil
          exact AllReadyH.nil
        exact AllReadyH.nil
      refine AllReadyH.cons (o := ⟨some 7, .alloc 54, _, _, _, _⟩) rfl (fun K hK => ?_) ?_
      · skip
        rw [if_pos (by rfl)]
        refine oper_arr 54 rfl .u8 (List.replicate 64 0) (by kernel_rfl) ?_
        intro w12 k7 b11 s11
        clear s11
        have q7f : g5 ≠ w11.heap.size := Nat.ne_of_lt aF.lt
        have q7r : w.heap.size ≠ w11.heap.size := Nat.ne_of_lt aR.lt
        have q7w : w.heap.size ≤ w11.heap.size := hB.size
        have q67 : w10.heap.size ≠ w11.heap.size := Nat.ne_of_lt k6.lt
        replace aF := aF.call b11
        replace aR := aR.call b11
        replace k6 := k6.call b11
        replace hB := below_then hB b11
        refine hK.out _ _ aF.range (fun _ => ?_)
        clear hK K
        try simp only [Act.put, List.setIfInBounds_toArray, List.set_cons_zero, List.set_cons_succ]
        refine wpAnyH_ready (rs := [1]) (by kernel_rfl) (by simp) ?_
        refine AllReadyH.cons (o := ⟨some 12, .call { callee := .value (.func 27), args := #[.tmp 11, .const (.int .u8 54)], argTypes := #[54, 5] }, _, _, _, _⟩) rfl (fun K hK => ?_) ?_
        · skip
          go_simp
          refine (d1.out w12).mono ?_
          rintro e' w13 ⟨rfl, b12⟩
          replace aF := aF.call b12
          replace aR := aR.call b12
          replace k6 := k6.call b12
          replace k7 := k7.call b12
          replace hB := below_then hB b12
          refine hK.out _ _ aF.range (fun _ => ?_)
          clear hK K
          try simp only [Act.put, List.setIfInBounds_toArray, List.set_cons_zero, List.set_cons_succ]
          refine wpAnyH_ready (rs := [3]) (by kernel_rfl) (by simp) ?_
          refine AllReadyH.cons (o := ⟨some 14, .call { callee := .value (.func 27), args := #[.tmp 13, .const (.int .u8 92)], argTypes := #[54, 5] }, _, _, _, _⟩) rfl (fun K hK => ?_) ?_
          · skip
            go_simp
            refine (d3.out w13).mono ?_
            rintro e' w14 ⟨rfl, b13⟩
            replace aF := aF.call b13
            replace aR := aR.call b13
            replace k6 := k6.call b13
            replace k7 := k7.call b13
            replace hB := below_then hB b13
            refine hK.out _ _ aF.range (fun _ => ?_)
            clear hK K
            try simp only [Act.put, List.setIfInBounds_toArray, List.set_cons_zero, List.set_cons_succ]
            refine wpAnyH_ready (rs := [6]) (by kernel_rfl) (by simp) ?_
            refine AllReadyH.cons (o := ⟨none, .store 54 (.tmp 6) (.tmp 12), _, _, _, _⟩) rfl (fun K hK => ?_) ?_
            · skip
              rw [if_pos (by rfl)]
              refine oper_store 54 _ _ rfl k6 rfl X6 hX6 rfl (by rw [hL6.out]; kernel_rfl) (by rw [hL6.out]; rfl) ?_
              intro w15 k6' s14 o14
              replace aF := aF.only o14 q6f s14
              replace aR := aR.only o14 q6r s14
              replace hB := below_only hB o14 q6w s14
              replace k7 := k7.only o14 (Ne.symm q67) s14
              replace k6 := k6'
              clear k6' s14 o14
              refine hK.out _ _ aF.range (fun _ => ?_)
              clear hK K
              try simp only [Act.put, List.setIfInBounds_toArray, List.set_cons_zero, List.set_cons_succ]
              refine wpAnyH_ready (rs := [7]) (by kernel_rfl) (by simp) ?_
              refine AllReadyH.cons (o := ⟨none, .store 54 (.tmp 7) (.tmp 14), _, _, _, _⟩) rfl (fun K hK => ?_) ?_
              · skip
                rw [if_pos (by rfl)]
                refine oper_store 54 _ _ rfl k7 rfl X7 hX7 rfl (by rw [hL7.out]; kernel_rfl) (by rw [hL7.out]; rfl) ?_
                intro w16 k7' s15 o15
                replace aF := aF.only o15 q7f s15
                replace aR := aR.only o15 q7r s15
                replace hB := below_only hB o15 q7w s15
                replace k6 := k6.only o15 q67 s15
                replace k7 := k7'
                clear k7' s15 o15
                refine hK.out _ _ aF.range (fun _ => ?_)
                clear hK K
                try simp only [Act.put, List.setIfInBounds_toArray, List.set_cons_zero, List.set_cons_succ]
                refine wpAnyH_done (by kernel_rfl) ?_ _
                go_wp2_with fail
                go_meet
                exact ⟨_, _, rfl, rfl, k6, k7, q67, q6w, q7w, aR, hB⟩
              exact AllReadyH.nil
            exact AllReadyH.nil
          exact AllReadyH.nil
        exact AllReadyH.nil
      exact AllReadyH.nil
    refine AllReadyH.cons (o := ⟨some 7, .alloc 54, _, _, _, _⟩) rfl (fun K hK => ?_) ?_
    · skip
      rw [if_pos (by rfl)]
      refine oper_arr 54 rfl .u8 (List.replicate 64 0) (by kernel_rfl) ?_
      intro w11 k7 b10 s10
      clear s10
      have q7f : g5 ≠ w10.heap.size := Nat.ne_of_lt aF.lt
      have q7r : w.heap.size ≠ w10.heap.size := Nat.ne_of_lt aR.lt
      have q7w : w.heap.size ≤ w10.heap.size := hB.size
      replace aF := aF.call b10
      replace aR := aR.call b10
      replace hB := below_then hB b10
      refine hK.out _ _ aF.range (fun _ => ?_)
      clear hK K
      try simp only [Act.put, List.setIfInBounds_toArray, List.set_cons_zero, List.set_cons_succ]
      refine wpAnyH_ready (rs := [1, 4]) (by kernel_rfl) (by simp) ?_
      refine AllReadyH.cons (o := ⟨some 12, .call { callee := .value (.func 27), args := #[.tmp 11, .const (.int .u8 54)], argTypes := #[54, 5] }, _, _, _, _⟩) rfl (fun K hK => ?_) ?_
      · skip
        go_simp
        refine (d1.out w11).mono ?_
        rintro e' w12 ⟨rfl, b11⟩
        replace aF := aF.call b11
        replace aR := aR.call b11
        replace k7 := k7.call b11
        replace hB := below_then hB b11
        refine hK.out _ _ aF.range (fun _ => ?_)
        clear hK K
        try simp only [Act.put, List.setIfInBounds_toArray, List.set_cons_zero, List.set_cons_succ]
        refine wpAnyH_ready (rs := [3, 4]) (by kernel_rfl) (by simp) ?_
        refine AllReadyH.cons (o := ⟨some 14, .call { callee := .value (.func 27), args := #[.tmp 13, .const (.int .u8 92)], argTypes := #[54, 5] }, _, _, _, _⟩) rfl (fun K hK => ?_) ?_
        · skip
          go_simp
          refine (d3.out w12).mono ?_
          rintro e' w13 ⟨rfl, b12⟩
          replace aF := aF.call b12
          replace aR := aR.call b12
          replace k7 := k7.call b12
          replace hB := below_then hB b12
          refine hK.out _ _ aF.range (fun _ => ?_)
          clear hK K
          try simp only [Act.put, List.setIfInBounds_toArray, List.set_cons_zero, List.set_cons_succ]
          refine wpAnyH_ready (rs := [4]) (by kernel_rfl) (by simp) ?_
          refine AllReadyH.cons (o := ⟨some 6, .alloc 54, _, _, _, _⟩) rfl (fun K hK => ?_) ?_
          · skip
            rw [if_pos (by rfl)]
            refine oper_arr 54 rfl .u8 (List.replicate 64 0) (by kernel_rfl) ?_
            intro w14 k6 b13 s13
            clear s13
            have q6f : g5 ≠ w13.heap.size := Nat.ne_of_lt aF.lt
            have q6r : w.heap.size ≠ w13.heap.size := Nat.ne_of_lt aR.lt
            have q6w : w.heap.size ≤ w13.heap.size := hB.size
            have q67 : w13.heap.size ≠ w10.heap.size := Ne.symm (Nat.ne_of_lt k7.lt)
            replace aF := aF.call b13
            replace aR := aR.call b13
            replace k7 := k7.call b13
            replace hB := below_then hB b13
            refine hK.out _ _ aF.range (fun _ => ?_)
            clear hK K
            try simp only [Act.put, List.setIfInBounds_toArray, List.set_cons_zero, List.set_cons_succ]
            refine wpAnyH_ready (rs := [6]) (by kernel_rfl) (by simp) ?_
            refine AllReadyH.cons (o := ⟨none, .store 54 (.tmp 6) (.tmp 12), _, _, _, _⟩) rfl (fun K hK => ?_) ?_
            · skip
              rw [if_pos (by rfl)]
              refine oper_store 54 _ _ rfl k6 rfl X6 hX6 rfl (by rw [hL6.out]; kernel_rfl) (by rw [hL6.out]; rfl) ?_
              intro w15 k6' s14 o14
              replace aF := aF.only o14 q6f s14
              replace aR := aR.only o14 q6r s14
              replace hB := below_only hB o14 q6w s14
              replace k7 := k7.only o14 (Ne.symm q67) s14
              replace k6 := k6'
              clear k6' s14 o14
              refine hK.out _ _ aF.range (fun _ => ?_)
              clear hK K
              try simp only [Act.put, List.setIfInBounds_toArray, List.set_cons_zero, List.set_cons_succ]
              refine wpAnyH_ready (rs := [7]) (by kernel_rfl) (by simp) ?_
              refine AllReadyH.cons (o := ⟨none, .store 54 (.tmp 7) (.tmp 14), _, _, _, _⟩) rfl (fun K hK => ?_) ?_
              · skip
                rw [if_pos (by rfl)]
                refine oper_store 54 _ _ rfl k7 rfl X7 hX7 rfl (by rw [hL7.out]; kernel_rfl) (by rw [hL7.out]; rfl) ?_
                intro w16 k7' s15 o15
                replace aF := aF.only o15 q7f s15
                replace aR := aR.only o15 q7r s15
                replace hB := below_only hB o15 q7w s15
                replace k6 := k6.only o15 q67 s15
                replace k7 := k7'
                clear k7' s15 o15
                refine hK.out _ _ aF.range (fun _ => ?_)
                clear hK K
                try simp only [Act.put, List.setIfInBounds_toArray, List.set_cons_zero, List.set_cons_succ]
                refine wpAnyH_done (by kernel_rfl) ?_ _
                go_wp2_with fail
                go_meet
                exact ⟨_, _, rfl, rfl, k6, k7, q67, q6w, q7w, aR, hB⟩
              exact AllReadyH.nil
            exact AllReadyH.nil
          exact AllReadyH.nil
        refine AllReadyH.cons (o := ⟨some 6, .alloc 54, _, _, _, _⟩) rfl (fun K hK => ?_) ?_
        · skip
          rw [if_pos (by rfl)]
          refine oper_arr 54 rfl .u8 (List.replicate 64 0) (by kernel_rfl) ?_
          intro w13 k6 b12 s12
          clear s12
          have q6f : g5 ≠ w12.heap.size := Nat.ne_of_lt aF.lt
          have q6r : w.heap.size ≠ w12.heap.size := Nat.ne_of_lt aR.lt
          have q6w : w.heap.size ≤ w12.heap.size := hB.size
          have q67 : w12.heap.size ≠ w10.heap.size := Ne.symm (Nat.ne_of_lt k7.lt)
          replace aF := aF.call b12
          replace aR := aR.call b12
          replace k7 := k7.call b12
          replace hB := below_then hB b12
          refine hK.out _ _ aF.range (fun _ => ?_)
          clear hK K
          try simp only [Act.put, List.setIfInBounds_toArray, List.set_cons_zero, List.set_cons_succ]
          refine wpAnyH_ready (rs := [3]) (by kernel_rfl) (by simp) ?_
          refine AllReadyH.cons (o := ⟨some 14, .call { callee := .value (.func 27), args := #[.tmp 13, .const (.int .u8 92)], argTypes := #[54, 5] }, _, _, _, _⟩) rfl (fun K hK => ?_) ?_
          · skip
            go_simp
            refine (d3.out w13).mono ?_
            rintro e' w14 ⟨rfl, b13⟩
            replace aF := aF.call b13
            replace aR := aR.call b13
            replace k6 := k6.call b13
            replace k7 := k7.call b13
            replace hB := below_then hB b13
            refine hK.out _ _ aF.range (fun _ => ?_)
            clear hK K
            try simp only [Act.put, List.setIfInBounds_toArray, List.set_cons_zero, List.set_cons_succ]
            refine wpAnyH_ready (rs := [6]) (by kernel_rfl) (by simp) ?_
            refine AllReadyH.cons (o := ⟨none, .store 54 (.tmp 6) (.tmp 12), _, _, _, _⟩) rfl (fun K hK => ?_) ?_
            · skip
              rw [if_pos (by rfl)]
              refine oper_store 54 _ _ rfl k6 rfl X6 hX6 rfl (by rw [hL6.out]; kernel_rfl) (by rw [hL6.out]; rfl) ?_
              intro w15 k6' s14 o14
              replace aF := aF.only o14 q6f s14
              replace aR := aR.only o14 q6r s14
              replace hB := below_only hB o14 q6w s14
              replace k7 := k7.only o14 (Ne.symm q67) s14
              replace k6 := k6'
              clear k6' s14 o14
              refine hK.out _ _ aF.range (fun _ => ?_)
              clear hK K
              try simp only [Act.put, List.setIfInBounds_toArray, List.set_cons_zero, List.set_cons_succ]
              refine wpAnyH_ready (rs := [7]) (by kernel_rfl) (by simp) ?_
              refine AllReadyH.cons (o := ⟨none, .store 54 (.tmp 7) (.tmp 14), _, _, _, _⟩) rfl (fun K hK => ?_) ?_
              · skip
                rw [if_pos (by rfl)]
                refine oper_store 54 _ _ rfl k7 rfl X7 hX7 rfl (by rw [hL7.out]; kernel_rfl) (by rw [hL7.out]; rfl) ?_
                intro w16 k7' s15 o15
                replace aF := aF.only o15 q7f s15
                replace aR := aR.only o15 q7r s15
                replace hB := below_only hB o15 q7w s15
                replace k6 := k6.only o15 q67 s15
                replace k7 := k7'
                clear k7' s15 o15
                refine hK.out _ _ aF.range (fun _ => ?_)
                clear hK K
                try simp only [Act.put, List.setIfInBounds_toArray, List.set_cons_zero, List.set_cons_succ]
                refine wpAnyH_done (by kernel_rfl) ?_ _
                go_wp2_with fail
                go_meet
                exact ⟨_, _, rfl, rfl, k6, k7, q67, q6w, q7w, aR, hB⟩
              exact AllReadyH.nil
            exact AllReadyH.nil
          exact AllReadyH.nil
        exact AllReadyH.nil
      refine AllReadyH.cons (o := ⟨some 6, .alloc 54, _, _, _, _⟩) rfl (fun K hK => ?_) ?_
      · skip
        rw [if_pos (by rfl)]
        refine oper_arr 54 rfl .u8 (List.replicate 64 0) (by kernel_rfl) ?_
        intro w12 k6 b11 s11
        clear s11
        have q6f : g5 ≠ w11.heap.size := Nat.ne_of_lt aF.lt
        have q6r : w.heap.size ≠ w11.heap.size := Nat.ne_of_lt aR.lt
        have q6w : w.heap.size ≤ w11.heap.size := hB.size
        have q67 : w11.heap.size ≠ w10.heap.size := Ne.symm (Nat.ne_of_lt k7.lt)
        replace aF := aF.call b11
        replace aR := aR.call b11
        replace k7 := k7.call b11
        replace hB := below_then hB b11
        refine hK.out _ _ aF.range (fun _ => ?_)
        clear hK K
        try simp only [Act.put, List.setIfInBounds_toArray, List.set_cons_zero, List.set_cons_succ]
        refine wpAnyH_ready (rs := [1]) (by kernel_rfl) (by simp) ?_
        refine AllReadyH.cons (o := ⟨some 12, .call { callee := .value (.func 27), args := #[.tmp 11, .const (.int .u8 54)], argTypes := #[54, 5] }, _, _, _, _⟩) rfl (fun K hK => ?_) ?_
        · skip
          go_simp
          refine (d1.out w12).mono ?_
          rintro e' w13 ⟨rfl, b12⟩
          replace aF := aF.call b12
          replace aR := aR.call b12
          replace k6 := k6.call b12
          replace k7 := k7.call b12
          replace hB := below_then hB b12
          refine hK.out _ _ aF.range (fun _ => ?_)
          clear hK K
          try simp only [Act.put, List.setIfInBounds_toArray, List.set_cons_zero, List.set_cons_succ]
          refine wpAnyH_ready (rs := [3]) (by kernel_rfl) (by simp) ?_
          refine AllReadyH.cons (o := ⟨some 14, .call { callee := .value (.func 27), args := #[.tmp 13, .const (.int .u8 92)], argTypes := #[54, 5] }, _, _, _, _⟩) rfl (fun K hK => ?_) ?_
          · skip
            go_simp
            refine (d3.out w13).mono ?_
            rintro e' w14 ⟨rfl, b13⟩
            replace aF := aF.call b13
            replace aR := aR.call b13
            replace k6 := k6.call b13
            replace k7 := k7.call b13
            replace hB := below_then hB b13
            refine hK.out _ _ aF.range (fun _ => ?_)
            clear hK K
            try simp only [Act.put, List.setIfInBounds_toArray, List.set_cons_zero, List.set_cons_succ]
            refine wpAnyH_ready (rs := [6]) (by kernel_rfl) (by simp) ?_
            refine AllReadyH.cons (o := ⟨none, .store 54 (.tmp 6) (.tmp 12), _, _, _, _⟩) rfl (fun K hK => ?_) ?_
            · skip
              rw [if_pos (by rfl)]
              refine oper_store 54 _ _ rfl k6 rfl X6 hX6 rfl (by rw [hL6.out]; kernel_rfl) (by rw [hL6.out]; rfl) ?_
              intro w15 k6' s14 o14
              replace aF := aF.only o14 q6f s14
              replace aR := aR.only o14 q6r s14
              replace hB := below_only hB o14 q6w s14
              replace k7 := k7.only o14 (Ne.symm q67) s14
              replace k6 := k6'
              clear k6' s14 o14
              refine hK.out _ _ aF.range (fun _ => ?_)
              clear hK K
              try simp only [Act.put, List.setIfInBounds_toArray, List.set_cons_zero, List.set_cons_succ]
              refine wpAnyH_ready (rs := [7]) (by kernel_rfl) (by simp) ?_
              refine AllReadyH.cons (o := ⟨none, .store 54 (.tmp 7) (.tmp 14), _, _, _, _⟩) rfl (fun K hK => ?_) ?_
              · skip
                rw [if_pos (by rfl)]
                refine oper_store 54 _ _ rfl k7 rfl X7 hX7 rfl (by rw [hL7.out]; kernel_rfl) (by rw [hL7.out]; rfl) ?_
                intro w16 k7' s15 o15
                replace aF := aF.only o15 q7f s15
                replace aR := aR.only o15 q7r s15
                replace hB := below_only hB o15 q7w s15
                replace k6 := k6.only o15 q67 s15
                replace k7 := k7'
                clear k7' s15 o15
                refine hK.out _ _ aF.range (fun _ => ?_)
                clear hK K
                try simp only [Act.put, List.setIfInBounds_toArray, List.set_cons_zero, List.set_cons_succ]
                refine wpAnyH_done (by kernel_rfl) ?_ _
                go_wp2_with fail
                go_meet
                exact ⟨_, _, rfl, rfl, k6, k7, q67, q6w, q7w, aR, hB⟩
              exact AllReadyH.nil
            exact AllReadyH.nil
          exact AllReadyH.nil
        exact AllReadyH.nil
      exact AllReadyH.nil
    exact AllReadyH.nil
  case rest =>
    clear aF aR hB d1 d3 dF
    obtain ⟨g6, g7, rfl, rfl, k6, k7, q67, q6w, q7w, aR, hB⟩ := hcut
    obtain ⟨j0, hj0, hy0, hy1, hy2⟩ := info_parts infoRow
    obtain ⟨vs, hvl, hvo, hvp, hsrc⟩ := (hP0.out.call hB).values
    have own := World.ownsRow_lit (base := wc.heap.size) (e := 48) (size := 1) wc #[.slice (some ⟨g6, 0, none⟩) 64 64] 1 (Nat.le_refl _) (by unfold maxLen; omega) (by simp)
    have hsrc' : Hid (vs = [] ∨ ∃ ad, p = some ad ∧ ∀ j u, vs[j]? = some u → (wc.alloc (.cells #[.slice (some ⟨g6, 0, none⟩) 64 64] 48)).cell? (ad.add j) = some u) := by
      rcases hsrc with h | ⟨b, off, e, hbl, h⟩
      · left
        exact List.eq_nil_of_length_eq_zero (by rw [hvl, h]; rfl)
      · exact Or.inr ⟨_, e, fun j u hu => by
          have := h j u hu
          rw [Addr.add_mid] at this ⊢
          exact (((Below.refl wc.heap.size wc).alloc (Nat.le_refl _) _).cell (p := ⟨b, off + j, none⟩) hbl).trans this⟩
    have hvp' := Lib.hid hvp
    have hvn : Hid (vs.length = n) := by show _ = _; rw [hvl, hN.out]
    have hvo' := Lib.hid hvo
    have hle := Lib.hid (show (1 + n) * (24 + 1) ≤ 1000000000000 by omega)
    have hBx := (Below.refl wc.heap.size wc).alloc (Nat.le_refl _) (.cells #[.slice (some ⟨g6, 0, none⟩) 64 64] 48)
    have hv6 := Lib.hid (k6.part hL6.out.symm hb6.out)
    clear hsrc hvp hvo hvl
    go_upto_region 4 with (first
      | (at_builtin; refine walk_values (o := ⟨some 18, _, _, _, _, _⟩) rfl _ _ 52 rfl wc.heap.size 48 j0 (.slice none 0 0) 24 Tryd.underlying52 hj0 hy0 hy1 hy2 rfl (.slice (some ⟨wc.heap.size, 0, none⟩) 1 1) 1 [.slice (some ⟨g6, 0, none⟩) 64 64] rfl own p n c vs rfl hvn.out hsrc'.out hvo'.out hpc hle.out hBx.size ?_; intro q' n' c' w20 own' e20 k20 gr20; have hB20 := hBx.grown gr20 hBx.size (fun k hk => (own.lt k hk).1); have hP20 : Hid (Parts w20 q' ([A6] ++ l)) := Parts.own own' (by simp) (by have h1 := e20.out; have h2 := hN.out; simp; omega) (fun j hj => by
          rcases j with _ | j
          · exact ⟨_, rfl, hv6.out.call hB20⟩
          · have hj' : j < l.length := (by simpa using hj)
            obtain ⟨v, hv, hpv⟩ := hvp'.out j hj'
            exact ⟨v, hv, hpv.call hB20⟩); have hBw20 := below_then hB hB20; have hT20 := Lib.hid (hT0.out.call hBw20); have k7a := k7.call hB20; have aRa := aR.call hB20; have hn20 : Hid (n' = n + 1) := (by have := e20.out; show _ = _; omega))
      | (go_at_call 24; refine (dO1.out w20 q' n' c' hn20.out hT20.out hP20.out).mono ?_; rintro e' w21 ⟨rfl, b21⟩; have k7b := k7a.call b21; have aRb := aRa.call b21; have hBw21 := below_then hBw20 b21)
      | (refine walk_arr (o := ⟨some 8, _, _, _, _, _⟩) rfl 46 rfl .u8 (List.replicate 32 0) (by kernel_rfl) ?_; intro w22 k8 b22 s22; clear s22; have k7c := k7b.call b22; have aRc := aRb.call b22; have hBw22 := below_then hBw21 b22)
      | (refine walk_store rfl 46 _ _ rfl k8 rfl YI hYI rfl (by rw [hIl.out]; kernel_rfl) (by rw [hIl.out]; rfl) ?_; intro w23 k8d s23 o23; have k7d := k7c.only o23 (Nat.ne_of_lt k7b.lt) s23; have aRd := aRc.only o23 (Nat.ne_of_lt aRb.lt) s23; have hBw23 := below_only hBw22 o23 hBw21.size s23))
    clear own own' hsrc' hvp' hvn hvo' hle hBx hv6 gr20 k20 e20 hB20 hP20 hBw20 hT20 k7a aRa hn20 b21 k7b aRb k8 b22 k7c aRc hBw22 s23 o23 k6 k7 aR hB hBw21 dO1
    generalize w21.heap.size = g8 at *
    try simp only [Act.put, List.setIfInBounds_toArray, List.set_cons_zero, List.set_cons_succ]
    replace k7d := k7d.drew
    replace k8d := k8d.drew
    replace aRd := aRd.drew
    replace hBw23 := hBw23.drew
    refine wp_region_held_drew (S := fun _ => True) (by kernel_rfl) trivial (fun _ => ?_)
    generalize w23.drew = w30 at *
    refine wpAnyH_take (i := 0) (oi := ⟨some 20, .slice 54 (.tmp 7) none none none, _, _, _, _⟩) (v := .slice (some ⟨g7, 0, none⟩) 64 64) rfl (by kernel_rfl) (by kernel_rfl) (by kernel_rfl) (fun _ _ _ h => h) (Or.inl ⟨by rfl, by intro w _; go_simp⟩) trivial ?_
    try simp only [Act.put, List.setIfInBounds_toArray, List.set_cons_zero, List.set_cons_succ]
    refine wpAnyH_take (i := 1) (oi := ⟨some 21, .slice 46 (.tmp 8) none none none, _, _, _, _⟩) (v := .slice (some ⟨g8, 0, none⟩) 32 32) rfl (by kernel_rfl) (by kernel_rfl) (by kernel_rfl) (fun _ _ _ h => h) (Or.inl ⟨by rfl, by intro w _; go_simp⟩) trivial ?_
    try simp only [Act.put, List.setIfInBounds_toArray, List.set_cons_zero, List.set_cons_succ]
    refine wpAnyH_ready (rs := [2]) (by kernel_rfl) (by simp) ?_
    refine AllReadyH.cons (o := ⟨some 22, .buildSlice 52 2 #[(0, .tmp 20), (1, .tmp 21)], _, _, _, _⟩) rfl (fun K hK => ?_) AllReadyH.nil
    go_simp
    refine hK.out _ _ trivial (fun _ => ?_)
    clear hK K
    try simp only [Act.put, List.setIfInBounds_toArray, List.set_cons_zero, List.set_cons_succ]
    have hP31 : Hid (Parts (w30.alloc (.cells #[.slice (some ⟨g7, 0, none⟩) 64 64, .slice (some ⟨g8, 0, none⟩) 32 32] 48)) (some ⟨w30.heap.size, 0, none⟩) [A7, I8]) := Parts.lit [.slice (some ⟨g7, 0, none⟩) 64 64, .slice (some ⟨g8, 0, none⟩) 32 32] _ _ rfl _ (fun j hj => by
      have : j = 0 ∨ j = 1 := by simp at hj; omega
      rcases this with rfl | rfl
      · exact ⟨_, rfl, k7d.part hL7.out.symm hb7.out⟩
      · exact ⟨_, rfl, k8d.part hIl.out.symm hIb.out⟩)
    have aR31 := aRd.alloc (.cells #[.slice (some ⟨g7, 0, none⟩) 64 64, .slice (some ⟨g8, 0, none⟩) 32 32] 48)
    have hB31 := hBw23.alloc hBw23.size (.cells #[.slice (some ⟨g7, 0, none⟩) 64 64, .slice (some ⟨g8, 0, none⟩) 32 32] 48)
    have hT31 := hT0.out.call hB31
    refine wpAnyH_ready (rs := [3]) (by kernel_rfl) (by simp) ?_
    refine AllReadyH.cons (o := ⟨some 23, .call { callee := .value (.func 24), args := #[.tmp 22], argTypes := #[52] }, _, _, _, _⟩) rfl (fun K hK => ?_) AllReadyH.nil
    go_simp
    refine (dO2.out _ _ 2 2 rfl hT31 hP31.out).mono ?_
    rintro e' w32 ⟨rfl, b32⟩
    have aR32 := aR31.call b32
    have hB32 := below_then hB31 b32
    refine hK.out _ _ trivial (fun _ => ?_)
    clear hK K
    try simp only [Act.put, List.setIfInBounds_toArray, List.set_cons_zero, List.set_cons_succ]
    refine wpAnyH_ready (rs := [4]) (by kernel_rfl) (by simp) ?_
    refine AllReadyH.cons (o := ⟨none, .store 46 (.tmp 4) (.tmp 23), _, _, _, _⟩) rfl (fun K hK => ?_) AllReadyH.nil
    rw [if_pos (by rfl)]
    refine oper_store 46 _ _ rfl aR32 rfl Y hY rfl (by rw [hDl.out]; kernel_rfl) (by rw [hDl.out]; rfl) ?_
    intro w33 aR33 s33 o33
    have hB33 := below_only hB32 o33 (Nat.le_refl _) s33
    refine hK.out _ _ trivial (fun _ => ?_)
    clear hK K
    try simp only [Act.put, List.setIfInBounds_toArray, List.set_cons_zero, List.set_cons_succ]
    refine wpAnyH_done (by kernel_rfl) ?_ _
    go_wp2
    refine bodyPost_ret (results_cell_mid rfl _ _ w.heap.size (ints .u8 D) _ rfl aR33.range Tryd.underlying46 rfl (by rw [ints, List.length_map, hDl.out]; kernel_rfl)) rfl ?_
    exact ⟨by rw [hY.out], hB33⟩

end Go.Proofs.YtmhehnimgkmmaaaDoor
