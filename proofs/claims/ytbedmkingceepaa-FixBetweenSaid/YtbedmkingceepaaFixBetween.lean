/- What is clamped is between its bounds, if there is anything between; a middle is between both. -/
import Derived.Test.YtbedmkingceepaaRows
import Derived.Test.YtbedmkingceepaaFixQ
import Derived.Test.YtbedmkingceepaaLawK
import Derived.WalkKit
import Derived.ProofKit
import Derived.OpenShut
namespace Go.Proofs.Ytbedmkingceepaa.fixBetween
open Go.ChangeShapes Go.WideShapes Go.ChangeAt Go.RowKit
set_option linter.unusedVariables false

attribute [local go_sem] cell_re eqW_self run_fieldW
attribute [local go_sem ↓] run_eqlW run_neqW

set_option maxRecDepth 100000 in
set_option maxHeartbeats 2000000 in
theorem walk_lt (a b c x : Int) (k : Bool) (h : c < b) (hx : c ≤ x) (hy : x ≤ b) (hk : k = (decide (a < c) || decide (b < a)))
    (d1 : Hid (∀ W1 : World, Calls Try.prog 26 #[.int .i64 a, .int .i64 c, .int .i64 b] W1 fun e w' => e = .returned (.tuple #[.int .i64 x, .bool k]) ∧ Below W1.heap.size W1 w'))
    (d2 : Hid (∀ W1 : World, Calls Try.prog 27 #[.int .i64 b, .int .i64 c] W1 fun e w' => e = .returned (.int .i64 ((b + c) / 2)) ∧ Below W1.heap.size W1 w'))
    (w : World) : Calls Try.prog 8 #[.int .i64 a, .int .i64 b, .int .i64 c] w fun e w' => e = .returned (.bool true) ∧ Below w.heap.size w w' := by
  obtain ⟨m, hm⟩ : ∃ m, (b + c) / 2 = m := ⟨_, rfl⟩
  have m0 : c ≤ m := by omega
  have m1 : m ≤ b := by omega
  rw [hm] at d2
  clear hm
  subst hk
  rcases Int.lt_or_le a c with h1 | h1
  · have h2 : decide (b < a) = false := decide_eq_false (by omega)
    rw [decide_eq_true h1, h2, Bool.true_or] at d1
    go_enter Try.func8, Try.ntmps8
    go_wp2_with (first | (go_at_call 26; refine (chain (w0 := w) (by go_grown) (by first | with_reducible exact d1.out _)).mono ?_; rintro e w' ⟨rfl, ht⟩; have hs := ht.size) | (go_at_call 27; refine (chain (w0 := w) (by go_grown) (by first | with_reducible exact d2.out _)).mono ?_; rintro e w' ⟨rfl, ht⟩; have hs := ht.size) | (go_at_call 19; refine (chain (w0 := w) (by go_grown) (by first | with_reducible exact works _)).mono ?_; rintro e w' ⟨rfl, ht⟩; have hs := ht.size))
    all_goals
      go_ret
      exact ⟨rfl, by go_grown⟩
  · have h3 : ¬ a < c := by omega
    rcases Int.lt_or_le b a with h2 | h2
    · rw [decide_eq_true h2, decide_eq_false h3, Bool.false_or] at d1
      go_enter Try.func8, Try.ntmps8
      go_wp2_with (first | (go_at_call 26; refine (chain (w0 := w) (by go_grown) (by first | with_reducible exact d1.out _)).mono ?_; rintro e w' ⟨rfl, ht⟩; have hs := ht.size) | (go_at_call 27; refine (chain (w0 := w) (by go_grown) (by first | with_reducible exact d2.out _)).mono ?_; rintro e w' ⟨rfl, ht⟩; have hs := ht.size) | (go_at_call 19; refine (chain (w0 := w) (by go_grown) (by first | with_reducible exact works _)).mono ?_; rintro e w' ⟨rfl, ht⟩; have hs := ht.size))
      all_goals
        go_ret
        exact ⟨rfl, by go_grown⟩
    · have h4 := decide_eq_false (show ¬ b < a by omega)
      have h5 := decide_eq_false h3
      rw [h4, h5, Bool.false_or] at d1
      go_enter Try.func8, Try.ntmps8
      go_wp2_with (first | (go_at_call 26; refine (chain (w0 := w) (by go_grown) (by first | with_reducible exact d1.out _)).mono ?_; rintro e w' ⟨rfl, ht⟩; have hs := ht.size) | (go_at_call 27; refine (chain (w0 := w) (by go_grown) (by first | with_reducible exact d2.out _)).mono ?_; rintro e w' ⟨rfl, ht⟩; have hs := ht.size) | (go_at_call 19; refine (chain (w0 := w) (by go_grown) (by first | with_reducible exact works _)).mono ?_; rintro e w' ⟨rfl, ht⟩; have hs := ht.size))
      all_goals
        go_ret
        exact ⟨rfl, by go_grown⟩

set_option maxRecDepth 100000 in
set_option maxHeartbeats 2000000 in
theorem walk_gt (a b c x : Int) (k : Bool) (h : b < c) (hx : b ≤ x) (hy : x ≤ c) (hk : k = (decide (a < b) || decide (c < a)))
    (d1 : Hid (∀ W1 : World, Calls Try.prog 26 #[.int .i64 a, .int .i64 b, .int .i64 c] W1 fun e w' => e = .returned (.tuple #[.int .i64 x, .bool k]) ∧ Below W1.heap.size W1 w'))
    (d2 : Hid (∀ W1 : World, Calls Try.prog 27 #[.int .i64 b, .int .i64 c] W1 fun e w' => e = .returned (.int .i64 ((b + c) / 2)) ∧ Below W1.heap.size W1 w'))
    (w : World) : Calls Try.prog 8 #[.int .i64 a, .int .i64 b, .int .i64 c] w fun e w' => e = .returned (.bool true) ∧ Below w.heap.size w w' := by
  obtain ⟨m, hm⟩ : ∃ m, (b + c) / 2 = m := ⟨_, rfl⟩
  have m0 : b ≤ m := by omega
  have m1 : m ≤ c := by omega
  rw [hm] at d2
  clear hm
  subst hk
  rcases Int.lt_or_le a b with h1 | h1
  · have h2 : decide (c < a) = false := decide_eq_false (by omega)
    rw [decide_eq_true h1, h2, Bool.true_or] at d1
    go_enter Try.func8, Try.ntmps8
    go_wp2_with (first | (go_at_call 26; refine (chain (w0 := w) (by go_grown) (by first | with_reducible exact d1.out _)).mono ?_; rintro e w' ⟨rfl, ht⟩; have hs := ht.size) | (go_at_call 27; refine (chain (w0 := w) (by go_grown) (by first | with_reducible exact d2.out _)).mono ?_; rintro e w' ⟨rfl, ht⟩; have hs := ht.size) | (go_at_call 19; refine (chain (w0 := w) (by go_grown) (by first | with_reducible exact works _)).mono ?_; rintro e w' ⟨rfl, ht⟩; have hs := ht.size))
    all_goals
      go_ret
      exact ⟨rfl, by go_grown⟩
  · have h3 : ¬ a < b := by omega
    rcases Int.lt_or_le c a with h2 | h2
    · rw [decide_eq_true h2, decide_eq_false h3, Bool.false_or] at d1
      go_enter Try.func8, Try.ntmps8
      go_wp2_with (first | (go_at_call 26; refine (chain (w0 := w) (by go_grown) (by first | with_reducible exact d1.out _)).mono ?_; rintro e w' ⟨rfl, ht⟩; have hs := ht.size) | (go_at_call 27; refine (chain (w0 := w) (by go_grown) (by first | with_reducible exact d2.out _)).mono ?_; rintro e w' ⟨rfl, ht⟩; have hs := ht.size) | (go_at_call 19; refine (chain (w0 := w) (by go_grown) (by first | with_reducible exact works _)).mono ?_; rintro e w' ⟨rfl, ht⟩; have hs := ht.size))
      all_goals
        go_ret
        exact ⟨rfl, by go_grown⟩
    · have h4 := decide_eq_false (show ¬ c < a by omega)
      have h5 := decide_eq_false h3
      rw [h4, h5, Bool.false_or] at d1
      go_enter Try.func8, Try.ntmps8
      go_wp2_with (first | (go_at_call 26; refine (chain (w0 := w) (by go_grown) (by first | with_reducible exact d1.out _)).mono ?_; rintro e w' ⟨rfl, ht⟩; have hs := ht.size) | (go_at_call 27; refine (chain (w0 := w) (by go_grown) (by first | with_reducible exact d2.out _)).mono ?_; rintro e w' ⟨rfl, ht⟩; have hs := ht.size) | (go_at_call 19; refine (chain (w0 := w) (by go_grown) (by first | with_reducible exact works _)).mono ?_; rintro e w' ⟨rfl, ht⟩; have hs := ht.size))
      all_goals
        go_ret
        exact ⟨rfl, by go_grown⟩

set_option maxRecDepth 100000 in
set_option maxHeartbeats 2000000 in
theorem walk_eq (a b  x : Int) (k : Bool) (h : b = b) (hx : b ≤ x) (hy : x ≤ b) (hk : k = (decide (a < b) || decide (b < a)))
    (d1 : Hid (∀ W1 : World, Calls Try.prog 26 #[.int .i64 a, .int .i64 b, .int .i64 b] W1 fun e w' => e = .returned (.tuple #[.int .i64 x, .bool k]) ∧ Below W1.heap.size W1 w'))
    (d2 : Hid (∀ W1 : World, Calls Try.prog 27 #[.int .i64 b, .int .i64 b] W1 fun e w' => e = .returned (.int .i64 ((b + b) / 2)) ∧ Below W1.heap.size W1 w'))
    (w : World) : Calls Try.prog 8 #[.int .i64 a, .int .i64 b, .int .i64 b] w fun e w' => e = .returned (.bool true) ∧ Below w.heap.size w w' := by
  obtain ⟨m, hm⟩ : ∃ m, (b + b) / 2 = m := ⟨_, rfl⟩
  have m0 : b ≤ m := by omega
  have m1 : m ≤ b := by omega
  rw [hm] at d2
  clear hm
  subst hk
  rcases Int.lt_or_le a b with h1 | h1
  · have h2 : decide (b < a) = false := decide_eq_false (by omega)
    rw [decide_eq_true h1, h2, Bool.true_or] at d1
    go_enter Try.func8, Try.ntmps8
    go_wp2_with (first | (go_at_call 26; refine (chain (w0 := w) (by go_grown) (by first | with_reducible exact d1.out _)).mono ?_; rintro e w' ⟨rfl, ht⟩; have hs := ht.size) | (go_at_call 27; refine (chain (w0 := w) (by go_grown) (by first | with_reducible exact d2.out _)).mono ?_; rintro e w' ⟨rfl, ht⟩; have hs := ht.size) | (go_at_call 19; refine (chain (w0 := w) (by go_grown) (by first | with_reducible exact works _)).mono ?_; rintro e w' ⟨rfl, ht⟩; have hs := ht.size))
    all_goals
      go_ret
      exact ⟨rfl, by go_grown⟩
  · have h3 : ¬ a < b := by omega
    rcases Int.lt_or_le b a with h2 | h2
    · rw [decide_eq_true h2, decide_eq_false h3, Bool.false_or] at d1
      go_enter Try.func8, Try.ntmps8
      go_wp2_with (first | (go_at_call 26; refine (chain (w0 := w) (by go_grown) (by first | with_reducible exact d1.out _)).mono ?_; rintro e w' ⟨rfl, ht⟩; have hs := ht.size) | (go_at_call 27; refine (chain (w0 := w) (by go_grown) (by first | with_reducible exact d2.out _)).mono ?_; rintro e w' ⟨rfl, ht⟩; have hs := ht.size) | (go_at_call 19; refine (chain (w0 := w) (by go_grown) (by first | with_reducible exact works _)).mono ?_; rintro e w' ⟨rfl, ht⟩; have hs := ht.size))
      all_goals
        go_ret
        exact ⟨rfl, by go_grown⟩
    · have h4 := decide_eq_false (show ¬ b < a by omega)
      have h5 := decide_eq_false h3
      rw [h4, h5, Bool.false_or] at d1
      go_enter Try.func8, Try.ntmps8
      go_wp2_with (first | (go_at_call 26; refine (chain (w0 := w) (by go_grown) (by first | with_reducible exact d1.out _)).mono ?_; rintro e w' ⟨rfl, ht⟩; have hs := ht.size) | (go_at_call 27; refine (chain (w0 := w) (by go_grown) (by first | with_reducible exact d2.out _)).mono ?_; rintro e w' ⟨rfl, ht⟩; have hs := ht.size) | (go_at_call 19; refine (chain (w0 := w) (by go_grown) (by first | with_reducible exact works _)).mono ?_; rintro e w' ⟨rfl, ht⟩; have hs := ht.size))
      all_goals
        go_ret
        exact ⟨rfl, by go_grown⟩

theorem walk (a b c : Int) (ha : Half a) (hb : Half b) (hc : Half c) (w : World) : Calls Try.prog 8 #[.int .i64 a, .int .i64 b, .int .i64 c] w fun e w' => e = .returned (.bool true) ∧ Below w.heap.size w w' := by
  rcases Int.lt_trichotomy b c with h | h | h
  · refine walk_gt a b c (clamp a b c) (clamped a b c) (by omega) ?_ ?_ ?_ (fun W1 => fixClamp a b c ha hb hc W1) (fun W1 => fixMid b c hb hc W1) w
    · unfold clamp; split <;> (try split) <;> (try split) <;> omega
    · unfold clamp; split <;> (try split) <;> (try split) <;> omega
    · unfold clamped; rw [decide_eq_false (show ¬ c < b by omega), Bool.false_or]
  · subst h
    refine walk_eq a b  (clamp a b b) (clamped a b b) (by omega) ?_ ?_ ?_ (fun W1 => fixClamp a b b ha hb hb W1) (fun W1 => fixMid b b hb hb W1) w
    · unfold clamp; split <;> (try split) <;> (try split) <;> omega
    · unfold clamp; split <;> (try split) <;> (try split) <;> omega
    · unfold clamped; rw [decide_eq_false (show ¬ b < b by omega), Bool.false_or]
  · refine walk_lt a b c (clamp a c b) (clamped a c b) (by omega) ?_ ?_ ?_ (fun W1 => fixClamp a c b ha hc hb W1) (fun W1 => fixMid b c hb hc W1) w
    · unfold clamp; split <;> (try split) <;> (try split) <;> omega
    · unfold clamp; split <;> (try split) <;> (try split) <;> omega
    · unfold clamped; rw [decide_eq_false (show ¬ b < c by omega), Bool.false_or]


set_option maxRecDepth 100000 in
theorem lifted (os : Os) (started : os.Started) (H : Type) (enc : TypeId × Value → H) :
    ReturnsInHanded {} Try.checked os 8 .any (Rows.fixBetweenSpec.pre6 enc Try.prog Try.f8 Rows.fixBetweenRow.domain false) (Rows.fixBetweenSpec.post enc Try.prog Try.f8 false true false false) := by
  refine returnsInHanded_of_change (C := Try.checked) own started (by kernel_rfl) Try.func8
    (ChangeSpec.witness6 (enc := enc) (C := Try.checked) false ⟨#[], #[.int .i64 0, .int .i64 0, .int .i64 0], []⟩ 8 (by kernel_rfl) (by kernel_rfl) (by kernel_rfl) (by kernel_rfl)) ?_
  intro W1 base args ds gs before hval0 hW hcnd _
  have hval : ∀ (j : Nat) t v, Try.f8.params[j]? = some t → args[j]? = some v → Value.okWide Try.prog W1 .any base t v := hval0
  have hW' := hW
  obtain ⟨p, q, hA0, hV, rfl, hfz, hnd⟩ := hW
  have hA : DataW.TrodAll enc Try.prog W1 0 (fun _ => true) true Try.f8.params.toList args.toList ds p := hA0
  rw [Try.params8] at hA hval
  obtain ⟨v0, vs0, d0, ds0, p0, q0, hargs, rfl, rfl, h0, r0⟩ := trodAll_cons hA
  obtain ⟨v1, vs1, d1, ds1, p1, q1, rfl, rfl, rfl, h1, r1⟩ := trodAll_cons r0
  obtain ⟨v2, vs2, d2, ds2, p2, q2, rfl, rfl, rfl, h2, r2⟩ := trodAll_cons r1
  obtain ⟨rfl, rfl, rfl⟩ := trodAll_nil r2
  obtain rfl : args = #[v0, v1, v2] := by cases args; simp_all
  obtain ⟨rfl, rfl⟩ := trodVars_none hV
  obtain ⟨a, rfl, e0, -, w0⟩ := open_int Try.underlying22 (hval 0 22 v0 rfl rfl) h0
  obtain ⟨b, rfl, e1, -, w1⟩ := open_int Try.underlying22 (hval 1 22 v1 rfl rfl) h1
  obtain ⟨c, rfl, e2, -, w2⟩ := open_int Try.underlying22 (hval 2 22 v2 rfl rfl) h2
  clear hA0 hval0 hval hA
  refine (walk a b c (half_of_wf w0) (half_of_wf w1) (half_of_wf w2) W1).mono fun e W' ⟨he, hg⟩ => ?_
  subst he
  exact ⟨_, rfl, law_post laidOut (by kernel_rfl) rfl (by kernel_rfl) Try.underlying4 hW' rfl hg⟩

theorem over : Rows.fixBetweenRow.holds Try.pinned (OpenSpec.ofChange Rows.fixBetweenSpec) :=
  OpenClaim.holds_of_wide 8 Try.f8 rfl rfl rfl rfl rfl rfl rfl ⟨rfl, rfl, rfl, rfl, rfl⟩ rfl rfl rfl rfl rfl (by kernel_rfl) Try.func8 (by kernel_rfl)
    (of_decide_eq_true (by kernel_rfl)) (by unfold Func.isWrapper; first | (rw [if_pos (by decide +kernel)]; kernel_rfl) | (rw [if_neg (by decide +kernel)]; exact ⟨rfl, rfl⟩))
    (fun os started H enc _ => lifted os started H enc)

theorem proved : Rows.FixBetweenSaid :=
  over
end Go.Proofs.Ytbedmkingceepaa.fixBetween
