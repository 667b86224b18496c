/- Turning one way and back comes to nothing, or to the last part. -/
import Derived.Test.YtlpajjhkiaobbaaRows
import Derived.Test.YtlpajjhkiaobbaaSmallW
import Derived.Test.YtlpajjhkiaobbaaLawK
import Derived.WalkKit
import Derived.ProofKit
import Derived.OpenShut
namespace Go.Proofs.Ytlpajjhkiaobbaa.smallAround
open Go.ChangeShapes Go.WideShapes Go.ChangeAt Go.RowKit
set_option linter.unusedVariables false

attribute [local go_sem] cell_re eqW_self run_fieldW
attribute [local go_sem ↓] run_eqlW run_neqW

theorem around (x : Int) : (x / 100 % 4294967296 + -x / 100 % 4294967296) % 4294967296 = 0 ∨ (x / 100 % 4294967296 + -x / 100 % 4294967296) % 4294967296 = 4294967295 := by omega
set_option maxRecDepth 100000 in
set_option maxHeartbeats 2000000 in
theorem walk_of (a b n : Int) (hb : Short b) (hn : Half n) (h : (a = -2147483648 ∧ b = 2147483647) ∨ (-2147483648 < a ∧ a ≤ 2147483647 ∧ b = a)) (h2 : -2147483648 < b) (w : World) : Calls Try.prog 7 #[.int .i32 a, .int .i64 n] w fun e w' => e = .returned (.bool true) ∧ Below w.heap.size w w' := by
  obtain ⟨t, ht⟩ : ∃ t, b * within_ n * 65536 / 100 % 4294967296 = t := ⟨_, rfl⟩
  obtain ⟨u, hu⟩ : ∃ u, -b * within_ n * 65536 / 100 % 4294967296 = u := ⟨_, rfl⟩
  have d1 := Lib.hid (fun W1 : World => smallTurn b n hb hn W1)
  have d2 := Lib.hid (fun W1 : World => smallTurn (-b) n (by unfold Short at hb ⊢; omega) hn W1)
  have hs := around (b * within_ n * 65536)
  rw [show -(b * within_ n * 65536) = -b * within_ n * 65536 by rw [Int.neg_mul, Int.neg_mul], ht, hu] at hs
  rw [ht] at d1
  rw [hu] at d2
  have t0 : 0 ≤ t ∧ t ≤ 4294967295 := by omega
  have u0 : 0 ≤ u ∧ u ≤ 4294967295 := by omega
  clear ht hu
  obtain ⟨t0, t1⟩ := t0
  obtain ⟨u0, u1⟩ := u0
  obtain ⟨b0, b1⟩ := hb
  obtain ⟨n0, n1⟩ := hn
  obtain ⟨s, hs0⟩ : ∃ s, Hid ((t + u) % 4294967296 = s) := ⟨_, rfl⟩
  have e1 : IntKind.u32.wrap (t + u) = s := by rw [IntKind.wrap_u32]; exact hs0.out
  rw [hs0.out] at hs
  rcases h with ⟨rfl, rfl⟩ | ⟨h3, h4, rfl⟩
  all_goals
    rcases hs with rfl | rfl
    all_goals
      have e2 := hs0.out
      go_enter Try.func7, Try.ntmps7
      go_wp2_with (first | (go_at_call 18; refine (chain (w0 := w) (by go_grown) (by first | with_reducible exact works _)).mono ?_; rintro e w' ⟨rfl, ht⟩; have hs := ht.size) | (go_at_call 29; refine (chain (w0 := w) (by go_grown) (by first | with_reducible exact d1.out _ | with_reducible exact d2.out _)).mono ?_; rintro e w' ⟨rfl, ht⟩; have hs := ht.size))
      go_ret
      exact ⟨rfl, by go_grown⟩
theorem walk (a n : Int) (ha : Short a) (hn : Half n) (w : World) : Calls Try.prog 7 #[.int .i32 a, .int .i64 n] w fun e w' => e = .returned (.bool true) ∧ Below w.heap.size w w' := by
  by_cases h : a = -2147483648
  · exact walk_of a 2147483647 n (by unfold Short; omega) hn (Or.inl ⟨h, rfl⟩) (by omega) w
  · obtain ⟨a0, a1⟩ := ha
    exact walk_of a a n ⟨a0, a1⟩ hn (Or.inr ⟨by omega, a1, rfl⟩) (by omega) w


set_option maxRecDepth 100000 in
theorem lifted (os : Os) (started : os.Started) (H : Type) (enc : TypeId × Value → H) :
    ReturnsInHanded {} Try.checked os 7 .any (Rows.smallAroundSpec.pre6 enc Try.prog Try.f7 Rows.smallAroundRow.domain false) (Rows.smallAroundSpec.post enc Try.prog Try.f7 false true false false) := by
  refine returnsInHanded_of_change (C := Try.checked) own started (by kernel_rfl) Try.func7
    (ChangeSpec.witness6 (enc := enc) (C := Try.checked) false ⟨#[], #[.int .i32 0, .int .i64 0], []⟩ 8 (by kernel_rfl) (by kernel_rfl) (by kernel_rfl) (by kernel_rfl)) ?_
  intro W1 base args ds gs before hval0 hW hcnd _
  have hval : ∀ (j : Nat) t v, Try.f7.params[j]? = some t → args[j]? = some v → Value.okWide Try.prog W1 .any base t v := hval0
  have hW' := hW
  obtain ⟨p, q, hA0, hV, rfl, hfz, hnd⟩ := hW
  have hA : DataW.TrodAll enc Try.prog W1 0 (fun _ => true) true Try.f7.params.toList args.toList ds p := hA0
  rw [Try.params7] at hA hval
  obtain ⟨v0, vs0, d0, ds0, p0, q0, hargs, rfl, rfl, h0, r0⟩ := trodAll_cons hA
  obtain ⟨v1, vs1, d1, ds1, p1, q1, rfl, rfl, rfl, h1, r1⟩ := trodAll_cons r0
  obtain ⟨rfl, rfl, rfl⟩ := trodAll_nil r1
  obtain rfl : args = #[v0, v1] := by cases args; simp_all
  obtain ⟨rfl, rfl⟩ := trodVars_none hV
  obtain ⟨a, rfl, e0, -, w0⟩ := open_int Try.underlying22 (hval 0 22 v0 rfl rfl) h0
  obtain ⟨n, rfl, e1, -, w1⟩ := open_int Try.underlying3 (hval 1 3 v1 rfl rfl) h1
  clear hA0 hval0 hval hA
  refine (walk a n (short_of_wf w0) (half_of_wf w1) W1).mono fun e W' ⟨he, hg⟩ => ?_
  subst he
  exact ⟨_, rfl, law_post laidOut (by kernel_rfl) rfl (by kernel_rfl) Try.underlying4 hW' rfl hg⟩

theorem over : Rows.smallAroundRow.holds Try.pinned (OpenSpec.ofChange Rows.smallAroundSpec) :=
  OpenClaim.holds_of_wide 7 Try.f7 rfl rfl rfl rfl rfl rfl rfl ⟨rfl, rfl, rfl, rfl, rfl⟩ rfl rfl rfl rfl rfl (by kernel_rfl) Try.func7 (by kernel_rfl)
    (of_decide_eq_true (by kernel_rfl)) (by unfold Func.isWrapper; first | (rw [if_pos (by decide +kernel)]; kernel_rfl) | (rw [if_neg (by decide +kernel)]; exact ⟨rfl, rfl⟩))
    (fun os started H enc _ => lifted os started H enc)

theorem proved : Rows.SmallAroundSaid :=
  over
end Go.Proofs.Ytlpajjhkiaobbaa.smallAround
