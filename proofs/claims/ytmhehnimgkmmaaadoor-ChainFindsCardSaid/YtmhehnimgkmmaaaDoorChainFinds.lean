/- In how few steps a key leads to a commitment is found as the document says, or refused. -/
import Derived.Test.YtmhehnimgkmmaaaDoorRows
import Derived.Test.YtmhehnimgkmmaaaDoorCards
import Derived.Test.YtmhehnimgkmmaaaDoorTie
import Derived.Test.YtmhehnimgkmmaaaDoorChainS
import Derived.Test.YtmhehnimgkmmaaaDoorBaseN
import Derived.Test.YtmhehnimgkmmaaaDoorLawC
import Derived.Test.YtmhehnimgkmmaaaDoorMacV
import Derived.ChangeMaps5
import Derived.WalkKit
import Derived.ProofKit
import Derived.OpenShut
import Derived.SevenTiedAt
import Derived.LaidMore
import Derived.Stop.Joined
import Derived.Deep.RegionHeld3
namespace Go.Proofs.YtmhehnimgkmmaaaDoor.chainFinds
set_option maxRecDepth 100000
open Go.ChangeShapes Go.WideShapes Go.ChangeAt Go.RowKit
set_option linter.unusedVariables false

set_option linter.unusedSimpArgs false
attribute [local go_sem] cell_re
/-- A number of steps, cut: outside, or at most 30. -/
def Cut30 (m : Int) : Prop := (m < 0 ∨ 512 < m) ∨ ∃ j : Nat, m = j ∧ j ≤ 30
theorem finds (k : List Int) (hkb : Byted k) (hkl : k.length = 32) (K : Array Value) (hK : Hid ((ints .u8 k).toArray = K)) (com : List Int) (hcl : com.length = 32) (C : Array Value) (hC : Hid ((ints .u8 com).toArray = C)) (m : Int) (hm : Cut30 m) (w : World) (hT : Steps w) :
    ∃ A E : Int, (∀ W, Below w.heap.size w W → Calls Tryd.prog 13 #[.agg K, .agg C, .int .i64 m] W fun e w' => e = .returned (.tuple #[.int .i64 A, .int .i64 E]) ∧ Below W.heap.size W w') ∧ (∀ W, Calls Tryd.prog 14 #[.agg K, .agg C, .int .i64 m] W fun e w' => e = .returned (.tuple #[.int .i64 A, .int .i64 E]) ∧ Below W.heap.size W w') := by
  rcases hm with h | ⟨j, rfl, hj⟩
  · exact ⟨0, 2, fun W _ => chainFind_no k hkb hkl K hK com hcl C hC m h W, fun W => ref10Find_no k hkb hkl K hK com hcl C hC m h W⟩
  · exact ⟨_, _, fun W h => chainFind k hkb hkl K hK com hcl C hC j (by omega) W (hT.call h), fun W => ref10Find k hkb hkl K hK com hcl C hC j (by omega) W⟩
set_option maxRecDepth 200000 in
set_option maxHeartbeats 8000000 in
theorem walk (k com : List Int) (at_ most : Int) (w : World) (hkl : k.length = 32) (hkb : Byted k) (hcl : com.length = 32) (hcb : Byted com) (hat0 : Half at_) (hmost : Half most) (hS : Steps w) : Calls Tryd.prog 4 #[.agg (ints .u8 k).toArray, .agg (ints .u8 com).toArray, .int .i64 at_, .int .i64 most] w fun e w' => e = .returned (.bool true) ∧ Below w.heap.size w w' := by
  have hT0 := Lib.hid hS
  have hkb' := Lib.hid hkb
  have hkl' := Lib.hid hkl
  have hcl' := Lib.hid hcl
  have hat : Hid (-9223372036854775808 ≤ at_ ∧ at_ ≤ 9223372036854775807) := hat0
  obtain ⟨hm0, hm1⟩ := hmost
  have dW := Lib.hid (fun (W : World) (h : Below w.heap.size w W) => works W (hS.call h))
  obtain ⟨iE, hiE⟩ := Option.isSome_iff_exists.mp (show (Tryd.prog.info? 5).isSome = true by kernel_rfl)
  obtain ⟨Ck, hCk⟩ : ∃ c, Hid (ints .u8 k = c) := ⟨_, Lib.hid rfl⟩
  have hKa : Hid ((ints .u8 k).toArray = Ck.toArray) := by show _ = _; rw [hCk.out]
  have hiK' : Hid ((Tryd.prog.info? 23).map (·.size) = some Ck.length) := by show _ = _; rw [← hCk.out, ints, List.length_map, hkl]; kernel_rfl
  rw [hKa.out]
  obtain ⟨C, hC⟩ : ∃ C, Hid ((ints .u8 com).toArray = C) := ⟨_, rfl⟩
  rw [hC.out]
  clear hS hkl hkb hcl hcb hat0 hiE
  go_enter Tryd.func4, Tryd.ntmps4
  go_upto_region 1 with (first
    | (refine walk_boxed (o := ⟨some 4, _, _, _, _, _⟩) rfl 23 _ rfl .u8 k Ck.toArray hKa rfl ?_; intro w1 k1 b1 s1; clear s1)
    | (refine walk_boxed (o := ⟨some 5, _, _, _, _, _⟩) rfl 23 _ rfl .u8 com C hC rfl ?_; intro w2 c2 b2 s2; clear s2; have k2 := k1.call b2; have hB2 := below_then b1 b2))
  clear k1 b1 b2
  generalize w1.heap.size = gc at *
  obtain ⟨B, hBd⟩ : ∃ B : Bool, Hid (B = (decide (30 < most) && decide (most ≤ 512))) := ⟨_, Lib.hid rfl⟩
  go_cut [3, 24] (fun s3 s24 wx => s3 = .int .i64 most ∧ s24 = .bool B ∧ Arr .u8 wx w.heap.size k ∧ Arr .u8 wx gc com ∧ Below w.heap.size w wx)
  case first =>
    by_cases h1 : 30 < most
    · by_cases h2 : most ≤ 512
      · have e : Hid (B = true) := by show _ = _; rw [hBd.out, decide_eq_true h1, decide_eq_true h2]; rfl
        go_wp2
        go_meet
        exact ⟨rfl, by rw [e.out], k2, c2, hB2⟩
      · have e : Hid (B = false) := by show _ = _; rw [hBd.out, decide_eq_false h2]; exact Bool.and_false _
        go_wp2
        go_meet
        exact ⟨rfl, by rw [e.out], k2, c2, hB2⟩
    · have e : Hid (B = false) := by show _ = _; rw [hBd.out, decide_eq_false h1]; rfl
      go_wp2
      go_meet
      exact ⟨rfl, by rw [e.out], k2, c2, hB2⟩
  clear k2 c2 hB2
  obtain ⟨rfl, rfl, k2, c2, hB2⟩ := hcut
  go_upto_if 24 with fail
  go_cut [3] from 25 to 27 (fun s3 wx => ∃ m : Int, s3 = .int .i64 m ∧ Cut30 m ∧ Arr .u8 wx w.heap.size k ∧ Arr .u8 wx gc com ∧ Below w.heap.size w wx)
  case first =>
    cases B with
    | true =>
      have h := hBd.out.symm
      rw [Bool.and_eq_true, decide_eq_true_eq, decide_eq_true_eq] at h
      obtain ⟨h1, h2⟩ := h
      have hcut30 : Hid (Cut30 (most % 31)) := Or.inr ⟨(most % 31).toNat, by omega, by omega⟩
      go_wp2
      go_meet
      exact ⟨_, rfl, hcut30.out, k2, c2, hB2⟩
    | false =>
      have hcut30 : Hid (Cut30 most) := by
        have h := hBd.out.symm
        by_cases h1 : 30 < most
        · by_cases h2 : most ≤ 512
          · rw [decide_eq_true h1, decide_eq_true h2] at h; cases h
          · exact Or.inl (Or.inr (by omega))
        · by_cases h0 : most < 0
          · exact Or.inl (Or.inl h0)
          · exact Or.inr ⟨most.toNat, by omega, by omega⟩
      go_wp2
      go_meet
      exact ⟨_, rfl, hcut30.out, k2, c2, hB2⟩
  case rest =>
    clear k2 c2 hB2
    obtain ⟨m, rfl, hm, k2, c2, hB2⟩ := hcut
    obtain ⟨A1, E1, F1, R1⟩ := finds k hkb'.out hkl'.out Ck.toArray hKa com hcl'.out C hC m hm wc (hT0.out.call hB2)
    replace F1 := Lib.hid (F1 wc (Below.refl _ _))
    replace R1 := Lib.hid R1
    replace hm := Lib.hid hm
    go_upto_region 5 with (first
      | (refine walk_read rfl 23 _ rfl k2 rfl 32 _ Tryd.underlying23 (by kernel_rfl) hkl'.out Ck.toArray hKa ?_)
      | (refine walk_read rfl 23 _ rfl c2 rfl 32 _ Tryd.underlying23 (by kernel_rfl) hcl'.out C hC ?_)
      | (go_at_call 13; refine F1.out.mono ?_; rintro e' w3 ⟨rfl, b3⟩; have k3 := k2.call b3; have c3 := c2.call b3; have hB3 := below_then hB2 b3)
      | (refine walk_read rfl 23 _ rfl k3 rfl 32 _ Tryd.underlying23 (by kernel_rfl) hkl'.out Ck.toArray hKa ?_)
      | (refine walk_read rfl 23 _ rfl c3 rfl 32 _ Tryd.underlying23 (by kernel_rfl) hcl'.out C hC ?_)
      | (go_at_call 14; refine (R1.out w3).mono ?_; rintro e' w4 ⟨rfl, b4⟩; have k4 := k3.call b4; have hB4 := below_then hB3 b4))
    try simp only [Act.put, List.setIfInBounds_toArray, List.set_cons_zero, List.set_cons_succ]
    clear k2 c2 hB2 b3 k3 c3 hB3 b4 F1 R1
    have hrng : Hid (∀ W', Below w4.heap.size w4 W' → W'.rangeAt w.heap.size 0 Ck) := fun W' h => by rw [← hCk.out]; exact (k4.call h).range
    have huK : Tryd.prog.underlying 23 = some (.array 32 5) := Tryd.underlying23
    have hiK := hiK'.out
    have zd : Below w4.heap.size w4 w4.drew := (Below.refl _ _).drew
    refine wp_region_held_drew (S := fun W' => W'.rangeAt w.heap.size 0 Ck) (by kernel_rfl) (hrng.out _ zd) (fun _ => ?_)
    generalize w4.drew = wd at zd ⊢
    refine wpAnyH_take (i := 0) (oi := ⟨some 42, .load 23 (.tmp 4), _, _, _, _⟩) (v := .agg Ck.toArray) rfl (by kernel_rfl) (by kernel_rfl) (by kernel_rfl) (fun _ _ _ h => h) (yieldsIf_load_mid (by rfl) 23 (.tmp 4) rfl w.heap.size 0 rfl Ck _ (fun _ h => h) huK rfl hiK) (hrng.out _ zd) ?_
    try simp only [Act.put, List.setIfInBounds_toArray, List.set_cons_zero, List.set_cons_succ]
    refine wpAnyH_take (i := 1) (oi := ⟨some 43, .move (.tmp 2), _, _, _, _⟩) (v := .int .i64 at_) rfl (by kernel_rfl) (by kernel_rfl) (by kernel_rfl) (fun _ _ _ h => h) (Or.inl ⟨by rfl, by intro W _; go_simp⟩) (hrng.out _ zd) ?_
    try simp only [Act.put, List.setIfInBounds_toArray, List.set_cons_zero, List.set_cons_succ]
    refine wpAnyH_ready (rs := [2, 7]) (by kernel_rfl) (by simp) ?_
    refine AllReadyH.cons (o := ⟨some 44, .call { callee := .value (.func 15), args := #[.tmp 43, .const (.int .i64 31)], argTypes := #[3, 3] }, _, _, _, _⟩) rfl (fun K hK => ?_) ?_
    · skip
      obtain ⟨a, ha, dM⟩ := baseAmongN at_ hat.out 31 (by decide) (by decide) wd
      go_simp
      refine dM.mono ?_
      rintro e' v5 ⟨rfl, b5⟩
      have z5 := below_then zd b5
      refine hK.out _ _ (hrng.out _ z5) (fun _ => ?_)
      clear hK K
      try simp only [Act.put, List.setIfInBounds_toArray, List.set_cons_zero, List.set_cons_succ]
      refine wpAnyH_ready (rs := [3, 7]) (by kernel_rfl) (by simp) ?_
      refine AllReadyH.cons (o := ⟨some 45, .call { callee := .value (.func 8), args := #[.tmp 42, .tmp 44], argTypes := #[23, 3] }, _, _, _, _⟩) rfl (fun K hK => ?_) ?_
      · skip
        obtain ⟨P, hP⟩ : ∃ P, Hid (keyAt k a = P) := ⟨_, Lib.hid rfl⟩
        have hPl : Hid (P.length = 32) := by rw [← hP.out]; exact Lib.hid (keyAt_length hkl'.out a)
        obtain ⟨YP, hYP⟩ : ∃ Y, Hid ((ints .u8 P).toArray = Y) := ⟨_, rfl⟩
        have dQ := ref10Walk k hkb'.out hkl'.out Ck.toArray hKa a (by omega) v5
        rw [hP.out, hYP.out] at dQ
        go_simp
        refine dQ.mono ?_
        rintro e' v6 ⟨rfl, b6⟩
        clear dQ
        have z6 := below_then z5 b6
        refine hK.out _ _ (hrng.out _ z6) (fun _ => ?_)
        clear hK K
        try simp only [Act.put, List.setIfInBounds_toArray, List.set_cons_zero, List.set_cons_succ]
        refine wpAnyH_take (i := 4) (oi := ⟨some 41, .move (.tmp 45), _, _, _, _⟩) (v := .tuple #[.agg YP, .int .i64 0]) rfl (by kernel_rfl) (by kernel_rfl) (by kernel_rfl) (fun _ _ _ h => h) (Or.inl ⟨by rfl, by intro W _; go_simp⟩) (hrng.out _ z6) ?_
        try simp only [Act.put, List.setIfInBounds_toArray, List.set_cons_zero, List.set_cons_succ]
        refine wpAnyH_take (i := 5) (oi := ⟨some 46, .extract (.tmp 41) 0, _, _, _, _⟩) (v := .agg YP) rfl (by kernel_rfl) (by kernel_rfl) (by kernel_rfl) (fun _ _ _ h => h) (Or.inl ⟨by rfl, by intro W _; go_simp⟩) (hrng.out _ z6) ?_
        try simp only [Act.put, List.setIfInBounds_toArray, List.set_cons_zero, List.set_cons_succ]
        refine wpAnyH_take (i := 6) (oi := ⟨some 47, .extract (.tmp 41) 1, _, _, _, _⟩) (v := .int .i64 0) rfl (by kernel_rfl) (by kernel_rfl) (by kernel_rfl) (fun _ _ _ h => h) (Or.inl ⟨by rfl, by intro W _; go_simp⟩) (hrng.out _ z6) ?_
        try simp only [Act.put, List.setIfInBounds_toArray, List.set_cons_zero, List.set_cons_succ]
        refine wpAnyH_ready (rs := [7]) (by kernel_rfl) (by simp) ?_
        refine AllReadyH.cons (o := ⟨some 13, .alloc 23, _, _, _, _⟩) rfl (fun K hK => ?_) AllReadyH.nil
        rw [if_pos (by rfl)]
        refine oper_arr 23 rfl .u8 (List.replicate 32 0) (by kernel_rfl) ?_
        intro v7 p b7 s7
        clear s7
        have q13 : w4.heap.size ≤ v6.heap.size := z6.size
        have z7 := below_then z6 b7
        refine hK.out _ _ (hrng.out _ z7) (fun _ => ?_)
        clear hK K
        try simp only [Act.put, List.setIfInBounds_toArray, List.set_cons_zero, List.set_cons_succ]
        refine wpAnyH_ready (rs := [8]) (by kernel_rfl) (by simp) ?_
        refine AllReadyH.cons (o := ⟨none, .store 23 (.tmp 13) (.tmp 46), _, _, _, _⟩) rfl (fun K hK => ?_) AllReadyH.nil
        rw [if_pos (by rfl)]
        refine oper_store 23 _ _ rfl p rfl YP hYP rfl (by rw [hPl.out]; kernel_rfl) (by rw [hPl.out]; rfl) ?_
        intro v8 p9 s8 o8
        have z8 := below_only z7 o8 q13 s8
        clear s8 o8
        refine hK.out _ _ (hrng.out _ z8) (fun _ => ?_)
        clear hK K
        try simp only [Act.put, List.setIfInBounds_toArray, List.set_cons_zero, List.set_cons_succ]
        refine wpAnyH_take (i := 9) (oi := ⟨some 14, .assign (.tmp 47), _, _, _, _⟩) (v := .int .i64 0) rfl (by kernel_rfl) (by kernel_rfl) (by kernel_rfl) (fun _ _ _ h => h) (Or.inl ⟨by rfl, by intro W _; go_simp⟩) (hrng.out _ z8) ?_
        try simp only [Act.put, List.setIfInBounds_toArray, List.set_cons_zero, List.set_cons_succ]
        refine wpAnyH_done (by kernel_rfl) ?_ _
        have k9 := k4.call z8
        have h9 := below_then hB4 z8
        obtain ⟨A2, E2, F2, R2⟩ := finds k hkb'.out hkl'.out Ck.toArray hKa P hPl.out YP hYP m hm.out v8 (hT0.out.call h9)
        replace F2 := Lib.hid (F2 v8 (Below.refl _ _))
        replace R2 := Lib.hid R2
        go_wp2_with (first
          | (refine walk_read rfl 23 _ rfl k9 rfl 32 _ Tryd.underlying23 (by kernel_rfl) hkl'.out Ck.toArray hKa ?_)
          | (refine walk_read rfl 23 _ rfl p9 rfl 32 _ Tryd.underlying23 (by kernel_rfl) hPl.out YP hYP ?_)
          | (go_at_call 13; refine F2.out.mono ?_; rintro e' w20 ⟨rfl, b20⟩; have k20 := k9.call b20; have p20 := p9.call b20; have h20 := below_then h9 b20)
          | (refine walk_read rfl 23 _ rfl k20 rfl 32 _ Tryd.underlying23 (by kernel_rfl) hkl'.out Ck.toArray hKa ?_)
          | (refine walk_read rfl 23 _ rfl p20 rfl 32 _ Tryd.underlying23 (by kernel_rfl) hPl.out YP hYP ?_)
          | (go_at_call 14; refine (R2.out w20).mono ?_; rintro e' w21 ⟨rfl, b21⟩; have h21 := below_then h20 b21)
          | (go_at_call 12; refine (dW.out w21 h21).mono ?_; rintro e' w22 ⟨rfl, b22⟩; have h22 := below_then h21 b22))
        go_ret
        exact ⟨rfl, h22⟩
      refine AllReadyH.cons (o := ⟨some 13, .alloc 23, _, _, _, _⟩) rfl (fun K hK => ?_) ?_
      · skip
        rw [if_pos (by rfl)]
        refine oper_arr 23 rfl .u8 (List.replicate 32 0) (by kernel_rfl) ?_
        intro v6 p b6 s6
        clear s6
        have q13 : w4.heap.size ≤ v5.heap.size := z5.size
        have z6 := below_then z5 b6
        refine hK.out _ _ (hrng.out _ z6) (fun _ => ?_)
        clear hK K
        try simp only [Act.put, List.setIfInBounds_toArray, List.set_cons_zero, List.set_cons_succ]
        refine wpAnyH_ready (rs := [3]) (by kernel_rfl) (by simp) ?_
        refine AllReadyH.cons (o := ⟨some 45, .call { callee := .value (.func 8), args := #[.tmp 42, .tmp 44], argTypes := #[23, 3] }, _, _, _, _⟩) rfl (fun K hK => ?_) AllReadyH.nil
        obtain ⟨P, hP⟩ : ∃ P, Hid (keyAt k a = P) := ⟨_, Lib.hid rfl⟩
        have hPl : Hid (P.length = 32) := by rw [← hP.out]; exact Lib.hid (keyAt_length hkl'.out a)
        obtain ⟨YP, hYP⟩ : ∃ Y, Hid ((ints .u8 P).toArray = Y) := ⟨_, rfl⟩
        have dQ := ref10Walk k hkb'.out hkl'.out Ck.toArray hKa a (by omega) v6
        rw [hP.out, hYP.out] at dQ
        go_simp
        refine dQ.mono ?_
        rintro e' v7 ⟨rfl, b7⟩
        clear dQ
        replace p := p.call b7
        have z7 := below_then z6 b7
        refine hK.out _ _ (hrng.out _ z7) (fun _ => ?_)
        clear hK K
        try simp only [Act.put, List.setIfInBounds_toArray, List.set_cons_zero, List.set_cons_succ]
        refine wpAnyH_take (i := 4) (oi := ⟨some 41, .move (.tmp 45), _, _, _, _⟩) (v := .tuple #[.agg YP, .int .i64 0]) rfl (by kernel_rfl) (by kernel_rfl) (by kernel_rfl) (fun _ _ _ h => h) (Or.inl ⟨by rfl, by intro W _; go_simp⟩) (hrng.out _ z7) ?_
        try simp only [Act.put, List.setIfInBounds_toArray, List.set_cons_zero, List.set_cons_succ]
        refine wpAnyH_take (i := 5) (oi := ⟨some 46, .extract (.tmp 41) 0, _, _, _, _⟩) (v := .agg YP) rfl (by kernel_rfl) (by kernel_rfl) (by kernel_rfl) (fun _ _ _ h => h) (Or.inl ⟨by rfl, by intro W _; go_simp⟩) (hrng.out _ z7) ?_
        try simp only [Act.put, List.setIfInBounds_toArray, List.set_cons_zero, List.set_cons_succ]
        refine wpAnyH_take (i := 6) (oi := ⟨some 47, .extract (.tmp 41) 1, _, _, _, _⟩) (v := .int .i64 0) rfl (by kernel_rfl) (by kernel_rfl) (by kernel_rfl) (fun _ _ _ h => h) (Or.inl ⟨by rfl, by intro W _; go_simp⟩) (hrng.out _ z7) ?_
        try simp only [Act.put, List.setIfInBounds_toArray, List.set_cons_zero, List.set_cons_succ]
        refine wpAnyH_ready (rs := [8]) (by kernel_rfl) (by simp) ?_
        refine AllReadyH.cons (o := ⟨none, .store 23 (.tmp 13) (.tmp 46), _, _, _, _⟩) rfl (fun K hK => ?_) AllReadyH.nil
        rw [if_pos (by rfl)]
        refine oper_store 23 _ _ rfl p rfl YP hYP rfl (by rw [hPl.out]; kernel_rfl) (by rw [hPl.out]; rfl) ?_
        intro v8 p9 s8 o8
        have z8 := below_only z7 o8 q13 s8
        clear s8 o8
        refine hK.out _ _ (hrng.out _ z8) (fun _ => ?_)
        clear hK K
        try simp only [Act.put, List.setIfInBounds_toArray, List.set_cons_zero, List.set_cons_succ]
        refine wpAnyH_take (i := 9) (oi := ⟨some 14, .assign (.tmp 47), _, _, _, _⟩) (v := .int .i64 0) rfl (by kernel_rfl) (by kernel_rfl) (by kernel_rfl) (fun _ _ _ h => h) (Or.inl ⟨by rfl, by intro W _; go_simp⟩) (hrng.out _ z8) ?_
        try simp only [Act.put, List.setIfInBounds_toArray, List.set_cons_zero, List.set_cons_succ]
        refine wpAnyH_done (by kernel_rfl) ?_ _
        have k9 := k4.call z8
        have h9 := below_then hB4 z8
        obtain ⟨A2, E2, F2, R2⟩ := finds k hkb'.out hkl'.out Ck.toArray hKa P hPl.out YP hYP m hm.out v8 (hT0.out.call h9)
        replace F2 := Lib.hid (F2 v8 (Below.refl _ _))
        replace R2 := Lib.hid R2
        go_wp2_with (first
          | (refine walk_read rfl 23 _ rfl k9 rfl 32 _ Tryd.underlying23 (by kernel_rfl) hkl'.out Ck.toArray hKa ?_)
          | (refine walk_read rfl 23 _ rfl p9 rfl 32 _ Tryd.underlying23 (by kernel_rfl) hPl.out YP hYP ?_)
          | (go_at_call 13; refine F2.out.mono ?_; rintro e' w20 ⟨rfl, b20⟩; have k20 := k9.call b20; have p20 := p9.call b20; have h20 := below_then h9 b20)
          | (refine walk_read rfl 23 _ rfl k20 rfl 32 _ Tryd.underlying23 (by kernel_rfl) hkl'.out Ck.toArray hKa ?_)
          | (refine walk_read rfl 23 _ rfl p20 rfl 32 _ Tryd.underlying23 (by kernel_rfl) hPl.out YP hYP ?_)
          | (go_at_call 14; refine (R2.out w20).mono ?_; rintro e' w21 ⟨rfl, b21⟩; have h21 := below_then h20 b21)
          | (go_at_call 12; refine (dW.out w21 h21).mono ?_; rintro e' w22 ⟨rfl, b22⟩; have h22 := below_then h21 b22))
        go_ret
        exact ⟨rfl, h22⟩
      exact AllReadyH.nil
    refine AllReadyH.cons (o := ⟨some 13, .alloc 23, _, _, _, _⟩) rfl (fun K hK => ?_) ?_
    · skip
      rw [if_pos (by rfl)]
      refine oper_arr 23 rfl .u8 (List.replicate 32 0) (by kernel_rfl) ?_
      intro v5 p b5 s5
      clear s5
      have q13 : w4.heap.size ≤ wd.heap.size := zd.size
      have z5 := below_then zd b5
      refine hK.out _ _ (hrng.out _ z5) (fun _ => ?_)
      clear hK K
      try simp only [Act.put, List.setIfInBounds_toArray, List.set_cons_zero, List.set_cons_succ]
      refine wpAnyH_ready (rs := [2]) (by kernel_rfl) (by simp) ?_
      refine AllReadyH.cons (o := ⟨some 44, .call { callee := .value (.func 15), args := #[.tmp 43, .const (.int .i64 31)], argTypes := #[3, 3] }, _, _, _, _⟩) rfl (fun K hK => ?_) AllReadyH.nil
      obtain ⟨a, ha, dM⟩ := baseAmongN at_ hat.out 31 (by decide) (by decide) v5
      go_simp
      refine dM.mono ?_
      rintro e' v6 ⟨rfl, b6⟩
      replace p := p.call b6
      have z6 := below_then z5 b6
      refine hK.out _ _ (hrng.out _ z6) (fun _ => ?_)
      clear hK K
      try simp only [Act.put, List.setIfInBounds_toArray, List.set_cons_zero, List.set_cons_succ]
      refine wpAnyH_ready (rs := [3]) (by kernel_rfl) (by simp) ?_
      refine AllReadyH.cons (o := ⟨some 45, .call { callee := .value (.func 8), args := #[.tmp 42, .tmp 44], argTypes := #[23, 3] }, _, _, _, _⟩) rfl (fun K hK => ?_) AllReadyH.nil
      obtain ⟨P, hP⟩ : ∃ P, Hid (keyAt k a = P) := ⟨_, Lib.hid rfl⟩
      have hPl : Hid (P.length = 32) := by rw [← hP.out]; exact Lib.hid (keyAt_length hkl'.out a)
      obtain ⟨YP, hYP⟩ : ∃ Y, Hid ((ints .u8 P).toArray = Y) := ⟨_, rfl⟩
      have dQ := ref10Walk k hkb'.out hkl'.out Ck.toArray hKa a (by omega) v6
      rw [hP.out, hYP.out] at dQ
      go_simp
      refine dQ.mono ?_
      rintro e' v7 ⟨rfl, b7⟩
      clear dQ
      replace p := p.call b7
      have z7 := below_then z6 b7
      refine hK.out _ _ (hrng.out _ z7) (fun _ => ?_)
      clear hK K
      try simp only [Act.put, List.setIfInBounds_toArray, List.set_cons_zero, List.set_cons_succ]
      refine wpAnyH_take (i := 4) (oi := ⟨some 41, .move (.tmp 45), _, _, _, _⟩) (v := .tuple #[.agg YP, .int .i64 0]) rfl (by kernel_rfl) (by kernel_rfl) (by kernel_rfl) (fun _ _ _ h => h) (Or.inl ⟨by rfl, by intro W _; go_simp⟩) (hrng.out _ z7) ?_
      try simp only [Act.put, List.setIfInBounds_toArray, List.set_cons_zero, List.set_cons_succ]
      refine wpAnyH_take (i := 5) (oi := ⟨some 46, .extract (.tmp 41) 0, _, _, _, _⟩) (v := .agg YP) rfl (by kernel_rfl) (by kernel_rfl) (by kernel_rfl) (fun _ _ _ h => h) (Or.inl ⟨by rfl, by intro W _; go_simp⟩) (hrng.out _ z7) ?_
      try simp only [Act.put, List.setIfInBounds_toArray, List.set_cons_zero, List.set_cons_succ]
      refine wpAnyH_take (i := 6) (oi := ⟨some 47, .extract (.tmp 41) 1, _, _, _, _⟩) (v := .int .i64 0) rfl (by kernel_rfl) (by kernel_rfl) (by kernel_rfl) (fun _ _ _ h => h) (Or.inl ⟨by rfl, by intro W _; go_simp⟩) (hrng.out _ z7) ?_
      try simp only [Act.put, List.setIfInBounds_toArray, List.set_cons_zero, List.set_cons_succ]
      refine wpAnyH_ready (rs := [8]) (by kernel_rfl) (by simp) ?_
      refine AllReadyH.cons (o := ⟨none, .store 23 (.tmp 13) (.tmp 46), _, _, _, _⟩) rfl (fun K hK => ?_) AllReadyH.nil
      rw [if_pos (by rfl)]
      refine oper_store 23 _ _ rfl p rfl YP hYP rfl (by rw [hPl.out]; kernel_rfl) (by rw [hPl.out]; rfl) ?_
      intro v8 p9 s8 o8
      have z8 := below_only z7 o8 q13 s8
      clear s8 o8
      refine hK.out _ _ (hrng.out _ z8) (fun _ => ?_)
      clear hK K
      try simp only [Act.put, List.setIfInBounds_toArray, List.set_cons_zero, List.set_cons_succ]
      refine wpAnyH_take (i := 9) (oi := ⟨some 14, .assign (.tmp 47), _, _, _, _⟩) (v := .int .i64 0) rfl (by kernel_rfl) (by kernel_rfl) (by kernel_rfl) (fun _ _ _ h => h) (Or.inl ⟨by rfl, by intro W _; go_simp⟩) (hrng.out _ z8) ?_
      try simp only [Act.put, List.setIfInBounds_toArray, List.set_cons_zero, List.set_cons_succ]
      refine wpAnyH_done (by kernel_rfl) ?_ _
      have k9 := k4.call z8
      have h9 := below_then hB4 z8
      obtain ⟨A2, E2, F2, R2⟩ := finds k hkb'.out hkl'.out Ck.toArray hKa P hPl.out YP hYP m hm.out v8 (hT0.out.call h9)
      replace F2 := Lib.hid (F2 v8 (Below.refl _ _))
      replace R2 := Lib.hid R2
      go_wp2_with (first
        | (refine walk_read rfl 23 _ rfl k9 rfl 32 _ Tryd.underlying23 (by kernel_rfl) hkl'.out Ck.toArray hKa ?_)
        | (refine walk_read rfl 23 _ rfl p9 rfl 32 _ Tryd.underlying23 (by kernel_rfl) hPl.out YP hYP ?_)
        | (go_at_call 13; refine F2.out.mono ?_; rintro e' w20 ⟨rfl, b20⟩; have k20 := k9.call b20; have p20 := p9.call b20; have h20 := below_then h9 b20)
        | (refine walk_read rfl 23 _ rfl k20 rfl 32 _ Tryd.underlying23 (by kernel_rfl) hkl'.out Ck.toArray hKa ?_)
        | (refine walk_read rfl 23 _ rfl p20 rfl 32 _ Tryd.underlying23 (by kernel_rfl) hPl.out YP hYP ?_)
        | (go_at_call 14; refine (R2.out w20).mono ?_; rintro e' w21 ⟨rfl, b21⟩; have h21 := below_then h20 b21)
        | (go_at_call 12; refine (dW.out w21 h21).mono ?_; rintro e' w22 ⟨rfl, b22⟩; have h22 := below_then h21 b22))
      go_ret
      exact ⟨rfl, h22⟩
    exact AllReadyH.nil


set_option maxRecDepth 100000 in
theorem lifted (os : Os) (started : os.Started) (H : Type) (enc : TypeId × Value → H) :
    ReturnsInHanded {} Tryd.checked os 4 .any (fun w args => (Rows.chainFindsSpec.pre enc Tryd.prog Tryd.f4 [] false w args ∧ laidMetH Tryd.prog laidT w) ∧ sizedMet enc Tryd.prog Tryd.f4 (OpenSpec.ofChange Rows.chainFindsSpec) false w args)
      (Rows.chainFindsSpec.post enc Tryd.prog Tryd.f4 false true false false) := by
  refine returnsInHanded_of_change_and (C := Tryd.checked) (X := fun w _ => laidMetH Tryd.prog laidT w) (fun _ _ _ hh h => h.of_heap hh) own started (by kernel_rfl) Tryd.func4
    (ChangeSpec.witness_shaped (enc := enc) (C := Tryd.checked) (os := os) (X := fun w _ => laidMetH Tryd.prog laidT w) false (World.doorLaid Tryd.prog 400 os) #[.agg #[.int .u8 0, .int .u8 0, .int .u8 0, .int .u8 0, .int .u8 0, .int .u8 0, .int .u8 0, .int .u8 0, .int .u8 0, .int .u8 0, .int .u8 0, .int .u8 0, .int .u8 0, .int .u8 0, .int .u8 0, .int .u8 0, .int .u8 0, .int .u8 0, .int .u8 0, .int .u8 0, .int .u8 0, .int .u8 0, .int .u8 0, .int .u8 0, .int .u8 0, .int .u8 0, .int .u8 0, .int .u8 0, .int .u8 0, .int .u8 0, .int .u8 0, .int .u8 0], .agg #[.int .u8 0, .int .u8 0, .int .u8 0, .int .u8 0, .int .u8 0, .int .u8 0, .int .u8 0, .int .u8 0, .int .u8 0, .int .u8 0, .int .u8 0, .int .u8 0, .int .u8 0, .int .u8 0, .int .u8 0, .int .u8 0, .int .u8 0, .int .u8 0, .int .u8 0, .int .u8 0, .int .u8 0, .int .u8 0, .int .u8 0, .int .u8 0, .int .u8 0, .int .u8 0, .int .u8 0, .int .u8 0, .int .u8 0, .int .u8 0, .int .u8 0, .int .u8 0], .int .i64 0, .int .i64 0] 8 rfl (World.shaped_of_RefB (by kernel_rfl) (by kernel_rfl)) (by kernel_rfl) (by kernel_rfl) (by kernel_rfl) (door_met os _)) ?_
  intro W1 base args ds gs before hval0 hW _ _ hL _
  have hval : ∀ (j : Nat) t v, Tryd.f4.params[j]? = some t → args[j]? = some v → Value.okWide Tryd.prog W1 .any base t v := hval0
  have hW' := hW
  obtain ⟨p, q, hA0, hV, rfl, hfz, hnd⟩ := hW
  have hA : DataW.TrodAll enc Tryd.prog W1 0 (fun _ => true) true Tryd.f4.params.toList args.toList ds p := hA0
  rw [Tryd.params4] at hA hval
  obtain ⟨v0, vs0, d0, ds0, p0, q0, hargs, rfl, rfl, h0, r0⟩ := trodAll_cons hA
  obtain ⟨v1, vs1, d1, ds1, p1, q1, rfl, rfl, rfl, h1, r1⟩ := trodAll_cons r0
  obtain ⟨v2, vs2, d2, ds2, p2, q2, rfl, rfl, rfl, h2, r2⟩ := trodAll_cons r1
  obtain ⟨v3, vs3, d3, ds3, p3, q3, rfl, rfl, rfl, h3, r3⟩ := trodAll_cons r2
  obtain ⟨rfl, rfl, rfl⟩ := trodAll_nil r3
  obtain rfl : args = #[v0, v1, v2, v3] := by cases args; simp_all
  obtain ⟨rfl, rfl⟩ := trodVars_none hV
  obtain ⟨k, w0, u0, rfl⟩ := open_bytes Tryd.underlying23 Tryd.underlying5 (by kernel_rfl) (by kernel_rfl) (hval 0 23 v0 rfl rfl) h0
  obtain ⟨com, w1, u1, rfl⟩ := open_bytes Tryd.underlying23 Tryd.underlying5 (by kernel_rfl) (by kernel_rfl) (hval 1 23 v1 rfl rfl) h1
  obtain ⟨at_, rfl, e2, -, w2⟩ := open_int Tryd.underlying3 (hval 2 3 v2 rfl rfl) h2
  obtain ⟨most, rfl, e3, -, w3⟩ := open_int Tryd.underlying3 (hval 3 3 v3 rfl rfl) h3
  have hS := steps_of_laid hL
  clear hA0 hval0 hval hA hL
  refine (walk k com at_ most W1 w0 u0 w1 u1 (half_of_wf w2) (half_of_wf w3) hS).mono fun e W' ⟨he, hg⟩ => ?_
  subst he
  exact ⟨_, rfl, law_post laidOut (by kernel_rfl) rfl (by kernel_rfl) Tryd.underlying4 hW' rfl hg⟩

theorem over : Rows.ChainFindsSaid :=
  OpenClaim.holds_of_wide 4 Tryd.f4 rfl rfl rfl rfl rfl rfl rfl ⟨rfl, rfl, rfl, rfl, rfl⟩ rfl rfl rfl rfl rfl (by kernel_rfl) Tryd.func4 (by kernel_rfl)
    (of_decide_eq_true (by kernel_rfl)) (by unfold Func.isWrapper; first | (rw [if_pos (by decide +kernel)]; kernel_rfl) | (rw [if_neg (by decide +kernel)]; exact ⟨rfl, rfl⟩))
    (fun os started H enc _ => lifted os started H enc)

theorem proved : Rows.ChainFindsCardSaid :=
  Claim7.holds_tied_plain_at .later [] [.data] true (true, "0c10252f28b6da1395fae618ed1ae5e714fac5f9ac13cbcf9c33c3ee577a0903") false
    over (fun _ h => by cases h) (by kernel_rfl) (fun _ h => by cases h) chainFinds_row_tie rfl ⟨rfl, rfl⟩ (by kernel_rfl) rfl
    (fun f fn hf hfn => by
      obtain rfl : f = 4 := Option.some.inj ((show Tryd.prog.funcNamed "pelorus/peloruslaw10.ChainFinds" = some 4 by kernel_rfl).symm.trans hf) |>.symm
      obtain rfl : fn = Tryd.f4 := (Option.some.inj (Tryd.func4.symm.trans hfn)).symm
      exact ⟨by kernel_rfl, fun j t ht => by
        rw [Tryd.params4] at ht
        have hm : t ∈ [23, 23, 3, 3] := by simpa using Array.mem_of_getElem? ht
        have hall : ([23, 23, 3, 3].all fun u => !Tryd.prog.wantsStandIn u) = true := by kernel_rfl
        exact (show Tryd.prog.wantsStandIn t = false by simpa using List.all_eq_true.1 hall t hm)⟩)
    (by kernel_rfl)
end Go.Proofs.YtmhehnimgkmmaaaDoor.chainFinds
