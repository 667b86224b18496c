/- Short numbers are widened, narrowed, added and multiplied as the document's answers have them. -/
import Derived.Test.YtlpajjhkiaobbaaRows
import Derived.Test.YtlpajjhkiaobbaaSmallW
import Derived.Test.YtlpajjhkiaobbaaLawK
import Derived.WalkKit
import Derived.ProofKit
import Derived.OpenShut
namespace Go.Proofs.Ytlpajjhkiaobbaa.smallTells
open Go.ChangeShapes Go.WideShapes Go.ChangeAt Go.RowKit
set_option linter.unusedVariables false

attribute [local go_sem] cell_re eqW_self run_fieldW
attribute [local go_sem ↓] run_eqlW run_neqW

set_option maxRecDepth 100000 in
set_option maxHeartbeats 2000000 in
theorem walk (a b c : Int) (ha : Short a) (hb : Short b) (hc : Half c) (w : World) : Calls Try.prog 3 #[.int .i32 a, .int .i32 b, .int .i64 c] w fun e w' => e = .returned (.bool true) ∧ Below w.heap.size w w' := by
  have f1 := Lib.hid ha
  have f2 := Lib.hid hb
  have f3 := Lib.hid hc
  clear ha hb hc
  go_enter Try.func3, Try.ntmps3
  go_wp2_with (first | (go_at_call 8; refine (chain (w0 := w) (by go_grown) (by first | with_reducible exact smallNarrow c f3.out _)).mono ?_; rintro e w' ⟨rfl, ht⟩; have hs := ht.size) | (go_at_call 9; refine (chain (w0 := w) (by go_grown) (by first | with_reducible exact ref3Narrow c f3.out _)).mono ?_; rintro e w' ⟨rfl, ht⟩; have hs := ht.size) | (go_at_call 10; refine (chain (w0 := w) (by go_grown) (by first | with_reducible exact smallAdd a b f1.out f2.out _)).mono ?_; rintro e w' ⟨rfl, ht⟩; have hs := ht.size) | (go_at_call 11; refine (chain (w0 := w) (by go_grown) (by first | with_reducible exact ref3Add a b f1.out f2.out _)).mono ?_; rintro e w' ⟨rfl, ht⟩; have hs := ht.size) | (go_at_call 12; refine (chain (w0 := w) (by go_grown) (by first | with_reducible exact smallMul a b f1.out f2.out _)).mono ?_; rintro e w' ⟨rfl, ht⟩; have hs := ht.size) | (go_at_call 13; refine (chain (w0 := w) (by go_grown) (by first | with_reducible exact ref3Mul a b f1.out f2.out _)).mono ?_; rintro e w' ⟨rfl, ht⟩; have hs := ht.size) | (go_at_call 14; refine (chain (w0 := w) (by go_grown) (by first | with_reducible exact smallTimes a c f1.out f3.out _)).mono ?_; rintro e w' ⟨rfl, ht⟩; have hs := ht.size) | (go_at_call 15; refine (chain (w0 := w) (by go_grown) (by first | with_reducible exact ref3Times a c f1.out f3.out _)).mono ?_; rintro e w' ⟨rfl, ht⟩; have hs := ht.size) | (go_at_call 16; refine (chain (w0 := w) (by go_grown) (by first | with_reducible exact smallWiden a f1.out _)).mono ?_; rintro e w' ⟨rfl, ht⟩; have hs := ht.size) | (go_at_call 17; refine (chain (w0 := w) (by go_grown) (by first | with_reducible exact ref3Widen a f1.out _)).mono ?_; rintro e w' ⟨rfl, ht⟩; have hs := ht.size) | (go_at_call 18; refine (chain (w0 := w) (by go_grown) (by first | with_reducible exact works _)).mono ?_; rintro e w' ⟨rfl, ht⟩; have hs := ht.size))
  all_goals
    go_ret
    exact ⟨rfl, by go_grown⟩


set_option maxRecDepth 100000 in
theorem lifted (os : Os) (started : os.Started) (H : Type) (enc : TypeId × Value → H) :
    ReturnsInHanded {} Try.checked os 3 .any (Rows.smallTellsSpec.pre6 enc Try.prog Try.f3 Rows.smallTellsRow.domain false) (Rows.smallTellsSpec.post enc Try.prog Try.f3 false true false false) := by
  refine returnsInHanded_of_change (C := Try.checked) own started (by kernel_rfl) Try.func3
    (ChangeSpec.witness6 (enc := enc) (C := Try.checked) false ⟨#[], #[.int .i32 0, .int .i32 0, .int .i64 0], []⟩ 8 (by kernel_rfl) (by kernel_rfl) (by kernel_rfl) (by kernel_rfl)) ?_
  intro W1 base args ds gs before hval0 hW hcnd _
  have hval : ∀ (j : Nat) t v, Try.f3.params[j]? = some t → args[j]? = some v → Value.okWide Try.prog W1 .any base t v := hval0
  have hW' := hW
  obtain ⟨p, q, hA0, hV, rfl, hfz, hnd⟩ := hW
  have hA : DataW.TrodAll enc Try.prog W1 0 (fun _ => true) true Try.f3.params.toList args.toList ds p := hA0
  rw [Try.params3] at hA hval
  obtain ⟨v0, vs0, d0, ds0, p0, q0, hargs, rfl, rfl, h0, r0⟩ := trodAll_cons hA
  obtain ⟨v1, vs1, d1, ds1, p1, q1, rfl, rfl, rfl, h1, r1⟩ := trodAll_cons r0
  obtain ⟨v2, vs2, d2, ds2, p2, q2, rfl, rfl, rfl, h2, r2⟩ := trodAll_cons r1
  obtain ⟨rfl, rfl, rfl⟩ := trodAll_nil r2
  obtain rfl : args = #[v0, v1, v2] := by cases args; simp_all
  obtain ⟨rfl, rfl⟩ := trodVars_none hV
  obtain ⟨a, rfl, e0, -, w0⟩ := open_int Try.underlying22 (hval 0 22 v0 rfl rfl) h0
  obtain ⟨b, rfl, e1, -, w1⟩ := open_int Try.underlying22 (hval 1 22 v1 rfl rfl) h1
  obtain ⟨c, rfl, e2, -, w2⟩ := open_int Try.underlying23 (hval 2 23 v2 rfl rfl) h2
  clear hA0 hval0 hval hA
  refine (walk a b c (short_of_wf w0) (short_of_wf w1) (half_of_wf w2) W1).mono fun e W' ⟨he, hg⟩ => ?_
  subst he
  exact ⟨_, rfl, law_post laidOut (by kernel_rfl) rfl (by kernel_rfl) Try.underlying4 hW' rfl hg⟩

theorem over : Rows.smallTellsRow.holds Try.pinned (OpenSpec.ofChange Rows.smallTellsSpec) :=
  OpenClaim.holds_of_wide 3 Try.f3 rfl rfl rfl rfl rfl rfl rfl ⟨rfl, rfl, rfl, rfl, rfl⟩ rfl rfl rfl rfl rfl (by kernel_rfl) Try.func3 (by kernel_rfl)
    (of_decide_eq_true (by kernel_rfl)) (by unfold Func.isWrapper; first | (rw [if_pos (by decide +kernel)]; kernel_rfl) | (rw [if_neg (by decide +kernel)]; exact ⟨rfl, rfl⟩))
    (fun os started H enc _ => lifted os started H enc)

theorem proved : Rows.SmallTellsSaid :=
  over
end Go.Proofs.Ytlpajjhkiaobbaa.smallTells
