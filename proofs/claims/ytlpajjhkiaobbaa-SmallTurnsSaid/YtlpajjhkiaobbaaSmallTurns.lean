/- How far something turns is as the document's answer has it. -/
import Derived.Test.YtlpajjhkiaobbaaRows
import Derived.Test.YtlpajjhkiaobbaaSmallW
import Derived.Test.YtlpajjhkiaobbaaLawK
import Derived.WalkKit
import Derived.ProofKit
import Derived.OpenShut
namespace Go.Proofs.Ytlpajjhkiaobbaa.smallTurns
open Go.ChangeShapes Go.WideShapes Go.ChangeAt Go.RowKit
set_option linter.unusedVariables false

attribute [local go_sem] cell_re eqW_self run_fieldW
attribute [local go_sem ↓] run_eqlW run_neqW

set_option maxRecDepth 100000 in
set_option maxHeartbeats 2000000 in
theorem walk (a n : Int) (ha : Short a) (hn : Half n) (w : World) : Calls Try.prog 5 #[.int .i32 a, .int .i64 n] w fun e w' => e = .returned (.bool true) ∧ Below w.heap.size w w' := by
  have f1 := Lib.hid ha
  have f2 := Lib.hid hn
  have e1 := Lib.hid (show within n = within_ n from rfl)
  have d1 := Lib.hid (fun W1 : World => ref3Turn a n ha hn W1)
  rw [e1.out] at d1
  clear ha hn
  go_enter Try.func5, Try.ntmps5
  go_wp2_with (first | (go_at_call 29; refine (chain (w0 := w) (by go_grown) (by first | with_reducible exact smallTurn a n f1.out f2.out _)).mono ?_; rintro e w' ⟨rfl, ht⟩; have hs := ht.size) | (go_at_call 30; refine (chain (w0 := w) (by go_grown) (by first | with_reducible exact d1.out _)).mono ?_; rintro e w' ⟨rfl, ht⟩; have hs := ht.size) | (go_at_call 18; refine (chain (w0 := w) (by go_grown) (by first | with_reducible exact works _)).mono ?_; rintro e w' ⟨rfl, ht⟩; have hs := ht.size))
  go_ret
  exact ⟨rfl, by go_grown⟩


set_option maxRecDepth 100000 in
theorem lifted (os : Os) (started : os.Started) (H : Type) (enc : TypeId × Value → H) :
    ReturnsInHanded {} Try.checked os 5 .any (Rows.smallTurnsSpec.pre6 enc Try.prog Try.f5 Rows.smallTurnsRow.domain false) (Rows.smallTurnsSpec.post enc Try.prog Try.f5 false true false false) := by
  refine returnsInHanded_of_change (C := Try.checked) own started (by kernel_rfl) Try.func5
    (ChangeSpec.witness6 (enc := enc) (C := Try.checked) false ⟨#[], #[.int .i32 0, .int .i64 0], []⟩ 8 (by kernel_rfl) (by kernel_rfl) (by kernel_rfl) (by kernel_rfl)) ?_
  intro W1 base args ds gs before hval0 hW hcnd _
  have hval : ∀ (j : Nat) t v, Try.f5.params[j]? = some t → args[j]? = some v → Value.okWide Try.prog W1 .any base t v := hval0
  have hW' := hW
  obtain ⟨p, q, hA0, hV, rfl, hfz, hnd⟩ := hW
  have hA : DataW.TrodAll enc Try.prog W1 0 (fun _ => true) true Try.f5.params.toList args.toList ds p := hA0
  rw [Try.params5] at hA hval
  obtain ⟨v0, vs0, d0, ds0, p0, q0, hargs, rfl, rfl, h0, r0⟩ := trodAll_cons hA
  obtain ⟨v1, vs1, d1, ds1, p1, q1, rfl, rfl, rfl, h1, r1⟩ := trodAll_cons r0
  obtain ⟨rfl, rfl, rfl⟩ := trodAll_nil r1
  obtain rfl : args = #[v0, v1] := by cases args; simp_all
  obtain ⟨rfl, rfl⟩ := trodVars_none hV
  obtain ⟨a, rfl, e0, -, w0⟩ := open_int Try.underlying22 (hval 0 22 v0 rfl rfl) h0
  obtain ⟨n, rfl, e1, -, w1⟩ := open_int Try.underlying3 (hval 1 3 v1 rfl rfl) h1
  clear hA0 hval0 hval hA
  refine (walk a n (short_of_wf w0) (half_of_wf w1) W1).mono fun e W' ⟨he, hg⟩ => ?_
  subst he
  exact ⟨_, rfl, law_post laidOut (by kernel_rfl) rfl (by kernel_rfl) Try.underlying4 hW' rfl hg⟩

theorem over : Rows.smallTurnsRow.holds Try.pinned (OpenSpec.ofChange Rows.smallTurnsSpec) :=
  OpenClaim.holds_of_wide 5 Try.f5 rfl rfl rfl rfl rfl rfl rfl ⟨rfl, rfl, rfl, rfl, rfl⟩ rfl rfl rfl rfl rfl (by kernel_rfl) Try.func5 (by kernel_rfl)
    (of_decide_eq_true (by kernel_rfl)) (by unfold Func.isWrapper; first | (rw [if_pos (by decide +kernel)]; kernel_rfl) | (rw [if_neg (by decide +kernel)]; exact ⟨rfl, rfl⟩))
    (fun os started H enc _ => lifted os started H enc)

theorem proved : Rows.SmallTurnsSaid :=
  over
end Go.Proofs.Ytlpajjhkiaobbaa.smallTurns
