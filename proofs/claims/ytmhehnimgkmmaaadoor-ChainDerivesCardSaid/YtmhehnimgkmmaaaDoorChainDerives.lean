/- Any key derived by any label and number is as the document says. -/
import Derived.Test.YtmhehnimgkmmaaaDoorRows
import Derived.Test.YtmhehnimgkmmaaaDoorCards
import Derived.Test.YtmhehnimgkmmaaaDoorTie
import Derived.Test.YtmhehnimgkmmaaaDoorChainT
import Derived.Test.YtmhehnimgkmmaaaDoorHasEq
import Derived.Test.YtmhehnimgkmmaaaDoorLawC
import Derived.Test.YtmhehnimgkmmaaaDoorMacV
import Derived.ChangeMaps5
import Derived.WalkKit
import Derived.ProofKit
import Derived.OpenShut
import Derived.SevenTiedAt
import Derived.LaidMore
import Derived.Stop.Joined
import Derived.Deep.RegionHeld3
namespace Go.Proofs.YtmhehnimgkmmaaaDoor.chainDerives
set_option maxRecDepth 100000
open Go.ChangeShapes Go.WideShapes Go.ChangeAt Go.RowKit
set_option linter.unusedVariables false

set_option linter.unusedSimpArgs false
attribute [local go_sem] cell_re
attribute [local go_sem] ByteArray.size_extract
set_option maxRecDepth 200000 in
set_option maxHeartbeats 8000000 in
theorem walk (k : List Int) (s : ByteArray) (n : Int) (w : World) (hkl : k.length = 32) (hkb : Byted k) (hs : s.size ≤ maxLen) (hn : 0 ≤ n ∧ n ≤ 18446744073709551615) (hS : Steps w) : Calls Tryd.prog 5 #[.agg (ints .u8 k).toArray, .string s, .int .u64 n] w fun e w' => e = .returned (.bool true) ∧ Below w.heap.size w w' := by
  have hT0 := Lib.hid hS
  have hkb' := Lib.hid hkb
  have hkl' := Lib.hid hkl
  have hn' := Lib.hid hn
  unfold maxLen at hs
  obtain ⟨iE, hiE⟩ := Option.isSome_iff_exists.mp (show (Tryd.prog.info? 5).isSome = true by kernel_rfl)
  obtain ⟨Ck, hCk⟩ : ∃ c, Hid (ints .u8 k = c) := ⟨_, Lib.hid rfl⟩
  have hKa : Hid ((ints .u8 k).toArray = Ck.toArray) := by show _ = _; rw [hCk.out]
  have hiK' : Hid ((Tryd.prog.info? 23).map (·.size) = some Ck.length) := by show _ = _; rw [← hCk.out, ints, List.length_map, hkl]; kernel_rfl
  rw [hKa.out]
  clear hS hkl hkb hn
  go_enter Tryd.func5, Tryd.ntmps5
  go_upto_region 1 with (refine walk_boxed rfl 23 _ rfl .u8 k Ck.toArray hKa rfl ?_; intro w1 k1 b1 s1; clear s1)
  go_cut [1] (fun s1 wx => ∃ t : ByteArray, s1 = .string t ∧ t.size ≤ 1000 ∧ Arr .u8 wx w.heap.size k ∧ Below w.heap.size w wx)
  case first =>
    by_cases hle : s.size ≤ 100
    · have j1 : (s.size : Int) ≤ 100 := by omega
      have j2 : (0 : Int) ≤ (s.size : Int) := by omega
      go_wp2
      go_meet
      exact ⟨_, rfl, by first | (simp [ByteArray.size_extract]; omega) | omega, k1, b1⟩
    · have j1 : ¬ (s.size : Int) ≤ 100 := by omega
      have j2 : (100 : Int) ≤ (s.size : Int) := by omega
      have j3 : (100 : Int) < (s.size : Int) := by omega
      go_wp2
      go_meet
      exact ⟨_, rfl, by first | (simp [ByteArray.size_extract]; omega) | omega, k1, b1⟩
  case rest =>
    clear k1 b1 hs
    obtain ⟨t, rfl, hts, k1, hB1⟩ := hcut
    have dP0 := fun (W : World) (h : Below wc.heap.size wc W) => chainDerive k hkb'.out hkl'.out Ck.toArray hKa t hts n hn'.out.1 hn'.out.2 W (hT0.out.call (below_then hB1 h))
    have dR0 := fun (W : World) => ref10Derive k hkb'.out hkl'.out Ck.toArray hKa t hts n hn'.out.1 hn'.out.2 W
    have hDl := derivedL_length k (textL t) n
    obtain ⟨D, hD⟩ : ∃ D, Hid (derivedL k (textL t) n = D) := ⟨_, Lib.hid rfl⟩
    rw [hD.out] at dP0 dR0 hDl
    have hq := Lib.hid (fun W1 : World => equal_ints (P := Tryd.prog) (t := 23) (e := 5) (k := .u8) Tryd.underlying23 hiE (by kernel_rfl) (by kernel_rfl) Tryd.underlying5 D hDl W1)
    obtain ⟨Y, hY⟩ : ∃ Y, Hid ((ints .u8 D).toArray = Y) := ⟨_, rfl⟩
    rw [hY.out] at dP0 dR0 hq
    have dP := Lib.hid dP0
    have dR := Lib.hid dR0
    have dW := Lib.hid (fun (W : World) (h : Below wc.heap.size wc W) => works W (hT0.out.call (below_then hB1 h)))
    have hrng : Hid (∀ W', Below wc.heap.size wc W' → W'.rangeAt w.heap.size 0 Ck) := fun W' h => by rw [← hCk.out]; exact (k1.call h).range
    have huK : Tryd.prog.underlying 23 = some (.array 32 5) := Tryd.underlying23
    have hiK := hiK'.out
    have hq1 := hq.out
    have zd : Below wc.heap.size wc wc.drew := (Below.refl _ _).drew
    clear dP0 dR0 hDl hiE k1 hts
    go_upto_region 2 with fail
    refine wp_region_held_drew (S := fun W' => W'.rangeAt w.heap.size 0 Ck) (by kernel_rfl) (hrng.out _ zd) (fun _ => ?_)
    generalize wc.drew = wd at zd ⊢
    refine wpAnyH_take (i := 0) (oi := ⟨some 12, .load 23 (.tmp 3), _, _, _, _⟩) (v := .agg Ck.toArray) rfl (by kernel_rfl) (by kernel_rfl) (by kernel_rfl) (fun _ _ _ h => h) (yieldsIf_load_mid (by rfl) 23 (.tmp 3) rfl w.heap.size 0 rfl Ck _ (fun _ h => h) huK rfl hiK) (hrng.out _ zd) ?_
    try simp only [Act.put, List.setIfInBounds_toArray, List.set_cons_zero, List.set_cons_succ]
    refine wpAnyH_take (i := 1) (oi := ⟨some 13, .move (.tmp 1), _, _, _, _⟩) (v := .string t) rfl (by kernel_rfl) (by kernel_rfl) (by kernel_rfl) (fun _ _ _ h => h) (Or.inl ⟨by rfl, by intro W _; go_simp⟩) (hrng.out _ zd) ?_
    try simp only [Act.put, List.setIfInBounds_toArray, List.set_cons_zero, List.set_cons_succ]
    refine wpAnyH_take (i := 2) (oi := ⟨some 14, .move (.tmp 2), _, _, _, _⟩) (v := .int .u64 n) rfl (by kernel_rfl) (by kernel_rfl) (by kernel_rfl) (fun _ _ _ h => h) (Or.inl ⟨by rfl, by intro W _; go_simp⟩) (hrng.out _ zd) ?_
    try simp only [Act.put, List.setIfInBounds_toArray, List.set_cons_zero, List.set_cons_succ]
    refine wpAnyH_take (i := 4) (oi := ⟨some 16, .load 23 (.tmp 3), _, _, _, _⟩) (v := .agg Ck.toArray) rfl (by kernel_rfl) (by kernel_rfl) (by kernel_rfl) (fun _ _ _ h => h) (yieldsIf_load_mid (by rfl) 23 (.tmp 3) rfl w.heap.size 0 rfl Ck _ (fun _ h => h) huK rfl hiK) (hrng.out _ zd) ?_
    try simp only [Act.put, List.setIfInBounds_toArray, List.set_cons_zero, List.set_cons_succ]
    refine wpAnyH_take (i := 5) (oi := ⟨some 17, .move (.tmp 1), _, _, _, _⟩) (v := .string t) rfl (by kernel_rfl) (by kernel_rfl) (by kernel_rfl) (fun _ _ _ h => h) (Or.inl ⟨by rfl, by intro W _; go_simp⟩) (hrng.out _ zd) ?_
    try simp only [Act.put, List.setIfInBounds_toArray, List.set_cons_zero, List.set_cons_succ]
    refine wpAnyH_take (i := 6) (oi := ⟨some 18, .move (.tmp 2), _, _, _, _⟩) (v := .int .u64 n) rfl (by kernel_rfl) (by kernel_rfl) (by kernel_rfl) (fun _ _ _ h => h) (Or.inl ⟨by rfl, by intro W _; go_simp⟩) (hrng.out _ zd) ?_
    try simp only [Act.put, List.setIfInBounds_toArray, List.set_cons_zero, List.set_cons_succ]
    refine wpAnyH_ready (rs := [3]) (by kernel_rfl) (by simp) ?_
    refine AllReadyH.cons (o := ⟨some 15, .call { callee := .value (.func 16), args := #[.tmp 12, .tmp 13, .tmp 14], argTypes := #[23, 9, 38] }, _, _, _, _⟩) rfl (fun K hK => ?_) AllReadyH.nil
    go_simp
    refine (dP.out wd zd).mono ?_
    rintro e' v1 ⟨rfl, b1⟩
    have z1 := below_then zd b1
    refine hK.out _ _ (hrng.out _ z1) (fun _ => ?_)
    clear hK K
    try simp only [Act.put, List.setIfInBounds_toArray, List.set_cons_zero, List.set_cons_succ]
    refine wpAnyH_ready (rs := [7]) (by kernel_rfl) (by simp) ?_
    refine AllReadyH.cons (o := ⟨some 19, .call { callee := .value (.func 17), args := #[.tmp 16, .tmp 17, .tmp 18], argTypes := #[23, 9, 38] }, _, _, _, _⟩) rfl (fun K hK => ?_) AllReadyH.nil
    go_simp
    refine (dR.out v1).mono ?_
    rintro e' v2 ⟨rfl, b2⟩
    have z2 := below_then z1 b2
    refine hK.out _ _ (hrng.out _ z2) (fun _ => ?_)
    clear hK K
    try simp only [Act.put, List.setIfInBounds_toArray, List.set_cons_zero, List.set_cons_succ]
    refine wpAnyH_take (i := 8) (oi := ⟨some 20, .binOp .eql 23 (.tmp 15) (.tmp 19) 23, _, _, _, _⟩) (v := .bool true) rfl (by kernel_rfl) (by kernel_rfl) (by kernel_rfl) (fun _ _ _ h => h) (Or.inl ⟨by rfl, by intro W _; go_simp⟩) (hrng.out _ z2) ?_
    try simp only [Act.put, List.setIfInBounds_toArray, List.set_cons_zero, List.set_cons_succ]
    refine wpAnyH_take (i := 9) (oi := ⟨some 21, .move (.tmp 20), _, _, _, _⟩) (v := .bool true) rfl (by kernel_rfl) (by kernel_rfl) (by kernel_rfl) (fun _ _ _ h => h) (Or.inl ⟨by rfl, by intro W _; go_simp⟩) (hrng.out _ z2) ?_
    try simp only [Act.put, List.setIfInBounds_toArray, List.set_cons_zero, List.set_cons_succ]
    refine wpAnyH_ready (rs := [10]) (by kernel_rfl) (by simp) ?_
    refine AllReadyH.cons (o := ⟨some 22, .call { callee := .value (.func 12), args := #[], argTypes := #[] }, _, _, _, _⟩) rfl (fun K hK => ?_) AllReadyH.nil
    go_simp
    refine (dW.out v2 z2).mono ?_
    rintro e' v3 ⟨rfl, b3⟩
    have z3 := below_then z2 b3
    refine hK.out _ _ (hrng.out _ z3) (fun _ => ?_)
    clear hK K
    try simp only [Act.put, List.setIfInBounds_toArray, List.set_cons_zero, List.set_cons_succ]
    refine wpAnyH_take (i := 11) (oi := ⟨some 23, .pick (.tmp 21) (.tmp 22) (.const (.bool false)), _, _, _, _⟩) (v := .bool true) rfl (by kernel_rfl) (by kernel_rfl) (by kernel_rfl) (fun _ _ _ h => h) (Or.inl ⟨by rfl, by intro W _; go_simp⟩) (hrng.out _ z3) ?_
    try simp only [Act.put, List.setIfInBounds_toArray, List.set_cons_zero, List.set_cons_succ]
    refine wpAnyH_take (i := 12) (oi := ⟨some 6, .assign (.tmp 23), _, _, _, _⟩) (v := .bool true) rfl (by kernel_rfl) (by kernel_rfl) (by kernel_rfl) (fun _ _ _ h => h) (Or.inl ⟨by rfl, by intro W _; go_simp⟩) (hrng.out _ z3) ?_
    try simp only [Act.put, List.setIfInBounds_toArray, List.set_cons_zero, List.set_cons_succ]
    refine wpAnyH_done (by kernel_rfl) ?_ _
    go_wp2
    go_ret
    exact ⟨rfl, below_then hB1 z3⟩


set_option maxRecDepth 100000 in
theorem lifted (os : Os) (started : os.Started) (H : Type) (enc : TypeId × Value → H) :
    ReturnsInHanded {} Tryd.checked os 5 .any (fun w args => (Rows.chainDerivesSpec.pre enc Tryd.prog Tryd.f5 [] false w args ∧ laidMetH Tryd.prog laidT w) ∧ sizedMet enc Tryd.prog Tryd.f5 (OpenSpec.ofChange Rows.chainDerivesSpec) false w args)
      (Rows.chainDerivesSpec.post enc Tryd.prog Tryd.f5 false true false false) := by
  refine returnsInHanded_of_change_and (C := Tryd.checked) (X := fun w _ => laidMetH Tryd.prog laidT w) (fun _ _ _ hh h => h.of_heap hh) own started (by kernel_rfl) Tryd.func5
    (ChangeSpec.witness_shaped (enc := enc) (C := Tryd.checked) (os := os) (X := fun w _ => laidMetH Tryd.prog laidT w) false (World.doorLaid Tryd.prog 400 os) #[.agg #[.int .u8 0, .int .u8 0, .int .u8 0, .int .u8 0, .int .u8 0, .int .u8 0, .int .u8 0, .int .u8 0, .int .u8 0, .int .u8 0, .int .u8 0, .int .u8 0, .int .u8 0, .int .u8 0, .int .u8 0, .int .u8 0, .int .u8 0, .int .u8 0, .int .u8 0, .int .u8 0, .int .u8 0, .int .u8 0, .int .u8 0, .int .u8 0, .int .u8 0, .int .u8 0, .int .u8 0, .int .u8 0, .int .u8 0, .int .u8 0, .int .u8 0, .int .u8 0], .string ⟨#[]⟩, .int .u64 0] 8 rfl (World.shaped_of_RefB (by kernel_rfl) (by kernel_rfl)) (by kernel_rfl) (by kernel_rfl) (by kernel_rfl) (door_met os _)) ?_
  intro W1 base args ds gs before hval0 hW _ _ hL _
  have hval : ∀ (j : Nat) t v, Tryd.f5.params[j]? = some t → args[j]? = some v → Value.okWide Tryd.prog W1 .any base t v := hval0
  have hW' := hW
  obtain ⟨p, q, hA0, hV, rfl, hfz, hnd⟩ := hW
  have hA : DataW.TrodAll enc Tryd.prog W1 0 (fun _ => true) true Tryd.f5.params.toList args.toList ds p := hA0
  rw [Tryd.params5] at hA hval
  obtain ⟨v0, vs0, d0, ds0, p0, q0, hargs, rfl, rfl, h0, r0⟩ := trodAll_cons hA
  obtain ⟨v1, vs1, d1, ds1, p1, q1, rfl, rfl, rfl, h1, r1⟩ := trodAll_cons r0
  obtain ⟨v2, vs2, d2, ds2, p2, q2, rfl, rfl, rfl, h2, r2⟩ := trodAll_cons r1
  obtain ⟨rfl, rfl, rfl⟩ := trodAll_nil r2
  obtain rfl : args = #[v0, v1, v2] := by cases args; simp_all
  obtain ⟨rfl, rfl⟩ := trodVars_none hV
  obtain ⟨k, w0, u0, rfl⟩ := open_bytes Tryd.underlying23 Tryd.underlying5 (by kernel_rfl) (by kernel_rfl) (hval 0 23 v0 rfl rfl) h0
  obtain ⟨s, rfl, -, -, w1⟩ := Go.ChangeMaps.open_string Tryd.underlying9 (hval 1 9 v1 rfl rfl) h1
  obtain ⟨n, rfl, e2, -, w2⟩ := open_int Tryd.underlying38 (hval 2 38 v2 rfl rfl) h2
  have hS := steps_of_laid hL
  clear hA0 hval0 hval hA hL
  refine (walk k s n W1 w0 u0 w1 (word_of_wf w2) hS).mono fun e W' ⟨he, hg⟩ => ?_
  subst he
  exact ⟨_, rfl, law_post laidOut (by kernel_rfl) rfl (by kernel_rfl) Tryd.underlying4 hW' rfl hg⟩

theorem over : Rows.ChainDerivesSaid :=
  OpenClaim.holds_of_wide 5 Tryd.f5 rfl rfl rfl rfl rfl rfl rfl ⟨rfl, rfl, rfl, rfl, rfl⟩ rfl rfl rfl rfl rfl (by kernel_rfl) Tryd.func5 (by kernel_rfl)
    (of_decide_eq_true (by kernel_rfl)) (by unfold Func.isWrapper; first | (rw [if_pos (by decide +kernel)]; kernel_rfl) | (rw [if_neg (by decide +kernel)]; exact ⟨rfl, rfl⟩))
    (fun os started H enc _ => lifted os started H enc)

theorem proved : Rows.ChainDerivesCardSaid :=
  Claim7.holds_tied_plain_at .later [] [.data] true (true, "0c10252f28b6da1395fae618ed1ae5e714fac5f9ac13cbcf9c33c3ee577a0903") false
    over (fun _ h => by cases h) (by kernel_rfl) (fun _ h => by cases h) chainDerives_row_tie rfl ⟨rfl, rfl⟩ (by kernel_rfl) rfl
    (fun f fn hf hfn => by
      obtain rfl : f = 5 := Option.some.inj ((show Tryd.prog.funcNamed "pelorus/peloruslaw10.ChainDerives" = some 5 by kernel_rfl).symm.trans hf) |>.symm
      obtain rfl : fn = Tryd.f5 := (Option.some.inj (Tryd.func5.symm.trans hfn)).symm
      exact ⟨by kernel_rfl, fun j t ht => by
        rw [Tryd.params5] at ht
        have hm : t ∈ [23, 9, 38] := by simpa using Array.mem_of_getElem? ht
        have hall : ([23, 9, 38].all fun u => !Tryd.prog.wantsStandIn u) = true := by kernel_rfl
        exact (show Tryd.prog.wantsStandIn t = false by simpa using List.all_eq_true.1 hall t hm)⟩)
    (by kernel_rfl)
end Go.Proofs.YtmhehnimgkmmaaaDoor.chainDerives
