import Derived.Test.YtodfcbpcgcgijaaDoorRows
import Derived.Test.YtodfcbpcgcgijaaDoorCards
import Derived.Test.YtodfcbpcgcgijaaDoorTie
import Derived.Test.YtodfcbpcgcgijaaDoorMatW
import Derived.Test.YtodfcbpcgcgijaaDoorMatP
import Derived.Test.YtodfcbpcgcgijaaDoorJH
import Derived.WalkKit
import Derived.ProofKit
import Derived.OpenShut
import Derived.SevenTiedAt
import Derived.LaidMore
import Derived.Stop.Joined
import Derived.Deep.RegionHeld3
/- What turns about any axis by any angle is as the document's answers have it, or refused. -/
namespace Go.Proofs.YtodfcbpcgcgijaaDoor.matAbout
set_option maxRecDepth 100000
open Go.ChangeShapes Go.WideShapes Go.ChangeAt Go.RowKit
set_option linter.unusedVariables false

attribute [local go_sem] cell_re eqW_self eqV_self eqM_self
attribute [local go_sem ↓] run_eqlW run_neqW run_eqlV run_eqlM run_indexM0 run_indexM1 run_indexM2

theorem aboutOf_form (k c s : Int) : ∃ v0 v1 v2 v3 v4 v5 v6 v7 v8 e, aboutOf k c s = .tuple #[M9 v0 v1 v2 v3 v4 v5 v6 v7 v8, .int .i64 e] := by
  unfold aboutOf
  split
  · exact ⟨_, _, _, _, _, _, _, _, _, _, rfl⟩
  · split
    · exact ⟨_, _, _, _, _, _, _, _, _, _, rfl⟩
    · split
      · exact ⟨_, _, _, _, _, _, _, _, _, _, rfl⟩
      · exact ⟨_, _, _, _, _, _, _, _, _, _, rfl⟩

set_option maxRecDepth 100000 in
set_option maxHeartbeats 4000000 in
theorem walk (K : MatC) (k a : Int) (hk : Half k) (ha : 0 ≤ a ∧ a ≤ 4294967295) (w : World) (hS : Steps w) : Calls Tryd.prog 4 #[.int .i64 k, .int .u32 a] w fun e' w' => e' = .returned (.bool true) ∧ Below w.heap.size w w' := by
  have d1 := Lib.hid (fun (W1 : World) (h : Steps W1) => K.about k a hk ha W1 h)
  have d2 := Lib.hid (fun W1 : World => ref7About k a hk ha W1)
  obtain ⟨v0, v1, v2, v3, v4, v5, v6, v7, v8, r, hv⟩ := aboutOf_form k (cosA a) (sinA a)
  rw [hv] at d1 d2
  clear hv hk ha
  have hO : Below w.heap.size w w := Below.refl _ _
  go_enter Tryd.func4, Tryd.ntmps4
  go_wp2_with fail
  refine (d1.out _ (hS.call hO)).mono ?_
  rintro e' w1 ⟨rfl, hb1⟩
  replace hO := below_then hO hb1
  clear hb1
  have hA := Nine.new w1 v0 v1 v2 v3 v4 v5 v6 v7 v8 26
  replace hO := hO.alloc hO.size (.cells #[.int .i64 v0, .int .i64 v1, .int .i64 v2, .int .i64 v3, .int .i64 v4, .int .i64 v5, .int .i64 v6, .int .i64 v7, .int .i64 v8] 26)
  go_wp2_with fail
  refine (d2.out _).mono ?_
  rintro e' w2 ⟨rfl, hb1⟩
  replace hA := hA.call hb1
  replace hO := below_then hO hb1
  clear hb1
  have hB := Nine.new w2 v0 v1 v2 v3 v4 v5 v6 v7 v8 26
  replace hA := hA.alloc (.cells #[.int .i64 v0, .int .i64 v1, .int .i64 v2, .int .i64 v3, .int .i64 v4, .int .i64 v5, .int .i64 v6, .int .i64 v7, .int .i64 v8] 26)
  replace hO := hO.alloc hO.size (.cells #[.int .i64 v0, .int .i64 v1, .int .i64 v2, .int .i64 v3, .int .i64 v4, .int .i64 v5, .int .i64 v6, .int .i64 v7, .int .i64 v8] 26)
  obtain ⟨a'l, a'0, a'1, a'2, a'3, a'4, a'5, a'6, a'7, a'8, -, -, -, -, -, -, -, -, -⟩ := (id hA : Nine _ _ v0 v1 v2 v3 v4 v5 v6 v7 v8)
  obtain ⟨b'l, b'0, b'1, b'2, b'3, b'4, b'5, b'6, b'7, b'8, -, -, -, -, -, -, -, -, -⟩ := (id hB : Nine _ _ v0 v1 v2 v3 v4 v5 v6 v7 v8)
  clear hA hB
  go_wp2_with fail
  refine (works K _ (hS.call hO)).mono ?_
  rintro e' w3 ⟨rfl, hb1⟩
  replace hO := below_then hO hb1
  go_wp2
  go_ret
  exact ⟨rfl, hO⟩


set_option maxRecDepth 100000 in
theorem lifted (os : Os) (started : os.Started) (H : Type) (enc : TypeId × Value → H) :
    ReturnsInHanded {} Tryd.checked os 4 .any (fun w args => (Rows.matAboutSpec.pre enc Tryd.prog Tryd.f4 [] false w args ∧ laidMetH Tryd.prog laidT w) ∧ sizedMet enc Tryd.prog Tryd.f4 (OpenSpec.ofChange Rows.matAboutSpec) false w args)
      (Rows.matAboutSpec.post enc Tryd.prog Tryd.f4 false true false false) := by
  refine returnsInHanded_of_change_and (C := Tryd.checked) (X := fun w _ => laidMetH Tryd.prog laidT w) (fun _ _ _ hh h => h.of_heap hh) own started (by kernel_rfl) Tryd.func4
    (ChangeSpec.witness_shaped (enc := enc) (C := Tryd.checked) (os := os) (X := fun w _ => laidMetH Tryd.prog laidT w) false (World.doorLaid Tryd.prog 400 os) #[.int .i64 0, .int .u32 0] 8 rfl (World.shaped_of_RefB (by kernel_rfl) (by kernel_rfl)) (by kernel_rfl) (by kernel_rfl) (by kernel_rfl) (door_met os _)) ?_
  intro W1 base args ds gs before hval0 hW _ _ hL _
  have hval : ∀ (j : Nat) t v, Tryd.f4.params[j]? = some t → args[j]? = some v → Value.okWide Tryd.prog W1 .any base t v := hval0
  have hW' := hW
  obtain ⟨p, q, hA0, hV, rfl, hfz, hnd⟩ := hW
  have hA : DataW.TrodAll enc Tryd.prog W1 0 (fun _ => true) true Tryd.f4.params.toList args.toList ds p := hA0
  rw [Tryd.params4] at hA hval
  obtain ⟨v0, vs0, d0, ds0, p0, q0, hargs, rfl, rfl, h0, r0⟩ := trodAll_cons hA
  obtain ⟨v1, vs1, d1, ds1, p1, q1, rfl, rfl, rfl, h1, r1⟩ := trodAll_cons r0
  obtain ⟨rfl, rfl, rfl⟩ := trodAll_nil r1
  obtain rfl : args = #[v0, v1] := by cases args; simp_all
  obtain ⟨rfl, rfl⟩ := trodVars_none hV
  obtain ⟨k, rfl, e0, -, w0⟩ := open_int Tryd.underlying3 (hval 0 3 v0 rfl rfl) h0
  obtain ⟨a, rfl, e1, -, w1⟩ := open_int Tryd.underlying35 (hval 1 35 v1 rfl rfl) h1
  have hS := steps_of_laid hL
  clear hA0 hval0 hval hA hL
  refine (walk matC k a (half_of_wf w0) (word32_of_wf w1) W1 hS).mono fun e W' ⟨he, hg⟩ => ?_
  subst he
  exact ⟨_, rfl, law_post laidOut (by kernel_rfl) rfl (by kernel_rfl) Tryd.underlying4 hW' rfl hg⟩

theorem over : Rows.MatAboutSaid :=
  OpenClaim.holds_of_wide 4 Tryd.f4 rfl rfl rfl rfl rfl rfl rfl ⟨rfl, rfl, rfl, rfl, rfl⟩ rfl rfl rfl rfl rfl (by kernel_rfl) Tryd.func4 (by kernel_rfl)
    (of_decide_eq_true (by kernel_rfl)) (by unfold Func.isWrapper; first | (rw [if_pos (by decide +kernel)]; kernel_rfl) | (rw [if_neg (by decide +kernel)]; exact ⟨rfl, rfl⟩))
    (fun os started H enc _ => lifted os started H enc)

theorem proved : Rows.MatAboutCardSaid :=
  Claim7.holds_tied_plain_at .later [] [.data] true (true, "76501850add5e039de148ba0a8a185064ebbb291c75d7fbdb2f78020d96a9ea8") false
    over (fun _ h => by cases h) (by kernel_rfl) (fun _ h => by cases h) matAbout_row_tie rfl ⟨rfl, rfl⟩ (by kernel_rfl) rfl
    (fun f fn hf hfn => by
      obtain rfl : f = 4 := Option.some.inj ((show Tryd.prog.funcNamed "pelorus/peloruslaw07.MatAbout" = some 4 by kernel_rfl).symm.trans hf) |>.symm
      obtain rfl : fn = Tryd.f4 := (Option.some.inj (Tryd.func4.symm.trans hfn)).symm
      exact ⟨by kernel_rfl, fun j t ht => by
        rw [Tryd.params4] at ht
        have hm : t ∈ [3, 35] := by simpa using Array.mem_of_getElem? ht
        have hall : ([3, 35].all fun u => !Tryd.prog.wantsStandIn u) = true := by kernel_rfl
        exact (show Tryd.prog.wantsStandIn t = false by simpa using List.all_eq_true.1 hall t hm)⟩)
    (by kernel_rfl)
end Go.Proofs.YtodfcbpcgcgijaaDoor.matAbout
