/- A greater number plus, or times one that is not below 0, is no less. -/
import Derived.Test.YtbedmkingceepaaRows
import Derived.Test.YtbedmkingceepaaFixQ
import Derived.Test.YtbedmkingceepaaLawK
import Derived.WalkKit
import Derived.ProofKit
import Derived.OpenShut
namespace Go.Proofs.Ytbedmkingceepaa.fixSteady
open Go.ChangeShapes Go.WideShapes Go.ChangeAt Go.RowKit
set_option linter.unusedVariables false

attribute [local go_sem] cell_re eqW_self run_fieldW
attribute [local go_sem ↓] run_eqlW run_neqW

set_option maxRecDepth 100000 in
set_option maxHeartbeats 2000000 in
theorem walk_lt (a b c : Int) (ha : Half a) (hb : Half b) (hc : Half c) (h : b < a) (w : World) : Calls Try.prog 7 #[.int .i64 a, .int .i64 b, .int .i64 c] w fun e w' => e = .returned (.bool true) ∧ Below w.heap.size w w' := by
  obtain ⟨s, hs⟩ : ∃ s, clipped (b + c) = s := ⟨_, rfl⟩
  obtain ⟨t, ht⟩ : ∃ t, clipped (a + c) = t := ⟨_, rfl⟩
  obtain ⟨u, hu⟩ : ∃ u, clipped (near (b * c) 32) = u := ⟨_, rfl⟩
  obtain ⟨v, hv⟩ : ∃ v, clipped (near (a * c) 32) = v := ⟨_, rfl⟩
  obtain ⟨k1, hk1⟩ : ∃ k, cut (b + c) = k := ⟨_, rfl⟩
  obtain ⟨k2, hk2⟩ : ∃ k, cut (a + c) = k := ⟨_, rfl⟩
  obtain ⟨k3, hk3⟩ : ∃ k, cut (near (b * c) 32) = k := ⟨_, rfl⟩
  obtain ⟨k4, hk4⟩ : ∃ k, cut (near (a * c) 32) = k := ⟨_, rfl⟩
  have st : ¬ t < s := by rw [← hs, ← ht]; unfold clipped; omega
  have d1 : Hid (∀ W1 : World, Calls Try.prog 11 #[.int .i64 b, .int .i64 c] W1 fun e w' => e = .returned (.tuple #[.int .i64 s, .bool k1]) ∧ Below W1.heap.size W1 w') := fun W1 => by
    have := fixAdd b c hb hc W1
    rw [sat_eq hs hk1] at this
    exact this
  have d2 : Hid (∀ W1 : World, Calls Try.prog 11 #[.int .i64 a, .int .i64 c] W1 fun e w' => e = .returned (.tuple #[.int .i64 t, .bool k2]) ∧ Below W1.heap.size W1 w') := fun W1 => by
    have := fixAdd a c ha hc W1
    rw [sat_eq ht hk2] at this
    exact this
  have d3 : Hid (∀ W1 : World, Calls Try.prog 20 #[.int .i64 b, .int .i64 c] W1 fun e w' => e = .returned (.tuple #[.int .i64 u, .bool k3]) ∧ Below W1.heap.size W1 w') := fun W1 => by
    have := fixMul b c hb hc W1
    rw [sat_eq hu hk3] at this
    exact this
  have d4 : Hid (∀ W1 : World, Calls Try.prog 20 #[.int .i64 a, .int .i64 c] W1 fun e w' => e = .returned (.tuple #[.int .i64 v, .bool k4]) ∧ Below W1.heap.size W1 w') := fun W1 => by
    have := fixMul a c ha hc W1
    rw [sat_eq hv hk4] at this
    exact this
  by_cases h0 : c < 0
  · clear hs ht hu hv hk1 hk2 hk3 hk4 ha hb hc
    go_enter Try.func7, Try.ntmps7
    go_wp2_with (first | (go_at_call 11; refine (chain (w0 := w) (by go_grown) (by first | with_reducible exact d1.out _ | with_reducible exact d2.out _)).mono ?_; rintro e w' ⟨rfl, ht⟩; have hs := ht.size) | (go_at_call 19; refine (chain (w0 := w) (by go_grown) (by first | with_reducible exact works _)).mono ?_; rintro e w' ⟨rfl, ht⟩; have hs := ht.size))
    all_goals
      go_ret
      exact ⟨rfl, by go_grown⟩
  · have uv : u ≤ v := by
      rw [← hu, ← hv, near32, near32]
      have := Int.mul_le_mul_of_nonneg_right (show b ≤ a by omega) (show 0 ≤ c by omega)
      have := Int.ediv_le_ediv (show (0 : Int) < 4294967296 by decide) (show b * c + 2147483648 ≤ a * c + 2147483648 by omega)
      unfold clipped
      omega
    clear hs ht hu hv hk1 hk2 hk3 hk4 ha hb hc
    go_enter Try.func7, Try.ntmps7
    go_wp2_with (first | (go_at_call 11; refine (chain (w0 := w) (by go_grown) (by first | with_reducible exact d1.out _ | with_reducible exact d2.out _)).mono ?_; rintro e w' ⟨rfl, ht⟩; have hs := ht.size) | (go_at_call 20; refine (chain (w0 := w) (by go_grown) (by first | with_reducible exact d3.out _ | with_reducible exact d4.out _)).mono ?_; rintro e w' ⟨rfl, ht⟩; have hs := ht.size) | (go_at_call 19; refine (chain (w0 := w) (by go_grown) (by first | with_reducible exact works _)).mono ?_; rintro e w' ⟨rfl, ht⟩; have hs := ht.size))
    all_goals
      go_ret
      exact ⟨rfl, by go_grown⟩

set_option maxRecDepth 100000 in
set_option maxHeartbeats 2000000 in
theorem walk_ge (a b c : Int) (ha : Half a) (hb : Half b) (hc : Half c) (h : ¬ b < a) (w : World) : Calls Try.prog 7 #[.int .i64 a, .int .i64 b, .int .i64 c] w fun e w' => e = .returned (.bool true) ∧ Below w.heap.size w w' := by
  obtain ⟨s, hs⟩ : ∃ s, clipped (a + c) = s := ⟨_, rfl⟩
  obtain ⟨t, ht⟩ : ∃ t, clipped (b + c) = t := ⟨_, rfl⟩
  obtain ⟨u, hu⟩ : ∃ u, clipped (near (a * c) 32) = u := ⟨_, rfl⟩
  obtain ⟨v, hv⟩ : ∃ v, clipped (near (b * c) 32) = v := ⟨_, rfl⟩
  obtain ⟨k1, hk1⟩ : ∃ k, cut (a + c) = k := ⟨_, rfl⟩
  obtain ⟨k2, hk2⟩ : ∃ k, cut (b + c) = k := ⟨_, rfl⟩
  obtain ⟨k3, hk3⟩ : ∃ k, cut (near (a * c) 32) = k := ⟨_, rfl⟩
  obtain ⟨k4, hk4⟩ : ∃ k, cut (near (b * c) 32) = k := ⟨_, rfl⟩
  have st : ¬ t < s := by rw [← hs, ← ht]; unfold clipped; omega
  have d1 : Hid (∀ W1 : World, Calls Try.prog 11 #[.int .i64 a, .int .i64 c] W1 fun e w' => e = .returned (.tuple #[.int .i64 s, .bool k1]) ∧ Below W1.heap.size W1 w') := fun W1 => by
    have := fixAdd a c ha hc W1
    rw [sat_eq hs hk1] at this
    exact this
  have d2 : Hid (∀ W1 : World, Calls Try.prog 11 #[.int .i64 b, .int .i64 c] W1 fun e w' => e = .returned (.tuple #[.int .i64 t, .bool k2]) ∧ Below W1.heap.size W1 w') := fun W1 => by
    have := fixAdd b c hb hc W1
    rw [sat_eq ht hk2] at this
    exact this
  have d3 : Hid (∀ W1 : World, Calls Try.prog 20 #[.int .i64 a, .int .i64 c] W1 fun e w' => e = .returned (.tuple #[.int .i64 u, .bool k3]) ∧ Below W1.heap.size W1 w') := fun W1 => by
    have := fixMul a c ha hc W1
    rw [sat_eq hu hk3] at this
    exact this
  have d4 : Hid (∀ W1 : World, Calls Try.prog 20 #[.int .i64 b, .int .i64 c] W1 fun e w' => e = .returned (.tuple #[.int .i64 v, .bool k4]) ∧ Below W1.heap.size W1 w') := fun W1 => by
    have := fixMul b c hb hc W1
    rw [sat_eq hv hk4] at this
    exact this
  by_cases h0 : c < 0
  · clear hs ht hu hv hk1 hk2 hk3 hk4 ha hb hc
    go_enter Try.func7, Try.ntmps7
    go_wp2_with (first | (go_at_call 11; refine (chain (w0 := w) (by go_grown) (by first | with_reducible exact d1.out _ | with_reducible exact d2.out _)).mono ?_; rintro e w' ⟨rfl, ht⟩; have hs := ht.size) | (go_at_call 19; refine (chain (w0 := w) (by go_grown) (by first | with_reducible exact works _)).mono ?_; rintro e w' ⟨rfl, ht⟩; have hs := ht.size))
    all_goals
      go_ret
      exact ⟨rfl, by go_grown⟩
  · have uv : u ≤ v := by
      rw [← hu, ← hv, near32, near32]
      have := Int.mul_le_mul_of_nonneg_right (show a ≤ b by omega) (show 0 ≤ c by omega)
      have := Int.ediv_le_ediv (show (0 : Int) < 4294967296 by decide) (show a * c + 2147483648 ≤ b * c + 2147483648 by omega)
      unfold clipped
      omega
    clear hs ht hu hv hk1 hk2 hk3 hk4 ha hb hc
    go_enter Try.func7, Try.ntmps7
    go_wp2_with (first | (go_at_call 11; refine (chain (w0 := w) (by go_grown) (by first | with_reducible exact d1.out _ | with_reducible exact d2.out _)).mono ?_; rintro e w' ⟨rfl, ht⟩; have hs := ht.size) | (go_at_call 20; refine (chain (w0 := w) (by go_grown) (by first | with_reducible exact d3.out _ | with_reducible exact d4.out _)).mono ?_; rintro e w' ⟨rfl, ht⟩; have hs := ht.size) | (go_at_call 19; refine (chain (w0 := w) (by go_grown) (by first | with_reducible exact works _)).mono ?_; rintro e w' ⟨rfl, ht⟩; have hs := ht.size))
    all_goals
      go_ret
      exact ⟨rfl, by go_grown⟩

theorem walk (a b c : Int) (ha : Half a) (hb : Half b) (hc : Half c) (w : World) : Calls Try.prog 7 #[.int .i64 a, .int .i64 b, .int .i64 c] w fun e w' => e = .returned (.bool true) ∧ Below w.heap.size w w' := by
  by_cases h : b < a
  · exact walk_lt a b c ha hb hc h w
  · exact walk_ge a b c ha hb hc h w


set_option maxRecDepth 100000 in
theorem lifted (os : Os) (started : os.Started) (H : Type) (enc : TypeId × Value → H) :
    ReturnsInHanded {} Try.checked os 7 .any (Rows.fixSteadySpec.pre6 enc Try.prog Try.f7 Rows.fixSteadyRow.domain false) (Rows.fixSteadySpec.post enc Try.prog Try.f7 false true false false) := by
  refine returnsInHanded_of_change (C := Try.checked) own started (by kernel_rfl) Try.func7
    (ChangeSpec.witness6 (enc := enc) (C := Try.checked) false ⟨#[], #[.int .i64 0, .int .i64 0, .int .i64 0], []⟩ 8 (by kernel_rfl) (by kernel_rfl) (by kernel_rfl) (by kernel_rfl)) ?_
  intro W1 base args ds gs before hval0 hW hcnd _
  have hval : ∀ (j : Nat) t v, Try.f7.params[j]? = some t → args[j]? = some v → Value.okWide Try.prog W1 .any base t v := hval0
  have hW' := hW
  obtain ⟨p, q, hA0, hV, rfl, hfz, hnd⟩ := hW
  have hA : DataW.TrodAll enc Try.prog W1 0 (fun _ => true) true Try.f7.params.toList args.toList ds p := hA0
  rw [Try.params7] at hA hval
  obtain ⟨v0, vs0, d0, ds0, p0, q0, hargs, rfl, rfl, h0, r0⟩ := trodAll_cons hA
  obtain ⟨v1, vs1, d1, ds1, p1, q1, rfl, rfl, rfl, h1, r1⟩ := trodAll_cons r0
  obtain ⟨v2, vs2, d2, ds2, p2, q2, rfl, rfl, rfl, h2, r2⟩ := trodAll_cons r1
  obtain ⟨rfl, rfl, rfl⟩ := trodAll_nil r2
  obtain rfl : args = #[v0, v1, v2] := by cases args; simp_all
  obtain ⟨rfl, rfl⟩ := trodVars_none hV
  obtain ⟨a, rfl, e0, -, w0⟩ := open_int Try.underlying22 (hval 0 22 v0 rfl rfl) h0
  obtain ⟨b, rfl, e1, -, w1⟩ := open_int Try.underlying22 (hval 1 22 v1 rfl rfl) h1
  obtain ⟨c, rfl, e2, -, w2⟩ := open_int Try.underlying22 (hval 2 22 v2 rfl rfl) h2
  clear hA0 hval0 hval hA
  refine (walk a b c (half_of_wf w0) (half_of_wf w1) (half_of_wf w2) W1).mono fun e W' ⟨he, hg⟩ => ?_
  subst he
  exact ⟨_, rfl, law_post laidOut (by kernel_rfl) rfl (by kernel_rfl) Try.underlying4 hW' rfl hg⟩

theorem over : Rows.fixSteadyRow.holds Try.pinned (OpenSpec.ofChange Rows.fixSteadySpec) :=
  OpenClaim.holds_of_wide 7 Try.f7 rfl rfl rfl rfl rfl rfl rfl ⟨rfl, rfl, rfl, rfl, rfl⟩ rfl rfl rfl rfl rfl (by kernel_rfl) Try.func7 (by kernel_rfl)
    (of_decide_eq_true (by kernel_rfl)) (by unfold Func.isWrapper; first | (rw [if_pos (by decide +kernel)]; kernel_rfl) | (rw [if_neg (by decide +kernel)]; exact ⟨rfl, rfl⟩))
    (fun os started H enc _ => lifted os started H enc)

theorem proved : Rows.FixSteadySaid :=
  over
end Go.Proofs.Ytbedmkingceepaa.fixSteady
