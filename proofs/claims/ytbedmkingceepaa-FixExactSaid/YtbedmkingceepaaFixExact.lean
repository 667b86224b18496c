/- What is told not to have saturated is exact: sums and opposites come back, and a number times One, or over One, is itself. -/
import Derived.Test.YtbedmkingceepaaRows
import Derived.Test.YtbedmkingceepaaFixQ
import Derived.Test.YtbedmkingceepaaLawK
import Derived.WalkKit
import Derived.ProofKit
import Derived.OpenShut
namespace Go.Proofs.Ytbedmkingceepaa.fixExact
open Go.ChangeShapes Go.WideShapes Go.ChangeAt Go.RowKit
set_option linter.unusedVariables false

attribute [local go_sem] cell_re eqW_self run_fieldW
attribute [local go_sem ↓] run_eqlW run_neqW

theorem near_one (a : Int) : near (a * 4294967296) 32 = a := by rw [near32]; omega
theorem quo_one (a : Int) (ha : Half a) : quo a 4294967296 = .tuple #[.int .i64 a, .bool false] := by
  unfold quo
  rw [if_neg (by decide), show (a * 4294967296).tdiv 4294967296 = a from Int.mul_tdiv_cancel a (by decide), sat_in a ha]

set_option maxRecDepth 100000 in
set_option maxHeartbeats 2000000 in
theorem walk (a b : Int) (ha : Half a) (hb : Half b) (w : World) : Calls Try.prog 6 #[.int .i64 a, .int .i64 b] w fun e w' => e = .returned (.bool true) ∧ Below w.heap.size w w' := by
  obtain ⟨s, hs⟩ : ∃ s, clipped (a + b) = s := ⟨_, rfl⟩
  obtain ⟨n, hn⟩ : ∃ n, clipped (-a) = n := ⟨_, rfl⟩
  have d7 := fun W1 : World => fixSub s b (by rw [← hs]; exact clipped_half _) hb W1
  have d8 := fun W1 : World => fixNeg n (by rw [← hn]; exact clipped_half _) W1
  rcases cut_cases (a + b) with hc | hc <;> rcases cut_cases (-a) with hk | hk
  · have d1 : Hid (∀ W1 : World, Calls Try.prog 11 #[.int .i64 a, .int .i64 b] W1 fun e w' => e = .returned (.tuple #[.int .i64 s, .bool true]) ∧ Below W1.heap.size W1 w') := fun W1 => by
      have := fixAdd a b ha hb W1
      rw [sat_eq hs hc] at this
      exact this
    have d2 : Hid (∀ W1 : World, Calls Try.prog 15 #[.int .i64 a] W1 fun e w' => e = .returned (.tuple #[.int .i64 n, .bool true]) ∧ Below W1.heap.size W1 w') := fun W1 => by
      have := fixNeg a ha W1
      rw [sat_eq hn hk] at this
      exact this
    have d3 : Hid (∀ W1 : World, Calls Try.prog 20 #[.int .i64 a, .int .i64 4294967296] W1 fun e w' => e = .returned (.tuple #[.int .i64 a, .bool false]) ∧ Below W1.heap.size W1 w') := fun W1 => by
      have := fixMul a 4294967296 ha (by unfold Half; omega) W1
      rw [near_one] at this
      rw [sat_in a ha] at this
      exact this
    have d4 : Hid (∀ W1 : World, Calls Try.prog 22 #[.int .i64 a, .int .i64 4294967296] W1 fun e w' => e = .returned (.tuple #[.int .i64 a, .bool false]) ∧ Below W1.heap.size W1 w') := fun W1 => by
      have := fixDiv a 4294967296 ha (by unfold Half; omega) W1
      rw [quo_one a ha] at this
      exact this
    clear d7 d8 hs hn hc hk ha hb
    go_enter Try.func6, Try.ntmps6
    go_wp2_with (first | (go_at_call 11; refine (chain (w0 := w) (by go_grown) (by first | with_reducible exact d1.out _)).mono ?_; rintro e w' ⟨rfl, ht⟩; have hs := ht.size) | (go_at_call 15; refine (chain (w0 := w) (by go_grown) (by first | with_reducible exact d2.out _)).mono ?_; rintro e w' ⟨rfl, ht⟩; have hs := ht.size) | (go_at_call 20; refine (chain (w0 := w) (by go_grown) (by first | with_reducible exact d3.out _)).mono ?_; rintro e w' ⟨rfl, ht⟩; have hs := ht.size) | (go_at_call 22; refine (chain (w0 := w) (by go_grown) (by first | with_reducible exact d4.out _)).mono ?_; rintro e w' ⟨rfl, ht⟩; have hs := ht.size) | (go_at_call 19; refine (chain (w0 := w) (by go_grown) (by first | with_reducible exact works _)).mono ?_; rintro e w' ⟨rfl, ht⟩; have hs := ht.size))
    go_ret
    exact ⟨rfl, by go_grown⟩
  · have d1 : Hid (∀ W1 : World, Calls Try.prog 11 #[.int .i64 a, .int .i64 b] W1 fun e w' => e = .returned (.tuple #[.int .i64 s, .bool true]) ∧ Below W1.heap.size W1 w') := fun W1 => by
      have := fixAdd a b ha hb W1
      rw [sat_eq hs hc] at this
      exact this
    have d2 : Hid (∀ W1 : World, Calls Try.prog 15 #[.int .i64 a] W1 fun e w' => e = .returned (.tuple #[.int .i64 n, .bool false]) ∧ Below W1.heap.size W1 w') := fun W1 => by
      have := fixNeg a ha W1
      rw [sat_eq hn hk] at this
      exact this
    have d3 : Hid (∀ W1 : World, Calls Try.prog 20 #[.int .i64 a, .int .i64 4294967296] W1 fun e w' => e = .returned (.tuple #[.int .i64 a, .bool false]) ∧ Below W1.heap.size W1 w') := fun W1 => by
      have := fixMul a 4294967296 ha (by unfold Half; omega) W1
      rw [near_one] at this
      rw [sat_in a ha] at this
      exact this
    have d4 : Hid (∀ W1 : World, Calls Try.prog 22 #[.int .i64 a, .int .i64 4294967296] W1 fun e w' => e = .returned (.tuple #[.int .i64 a, .bool false]) ∧ Below W1.heap.size W1 w') := fun W1 => by
      have := fixDiv a 4294967296 ha (by unfold Half; omega) W1
      rw [quo_one a ha] at this
      exact this
    have d6 : Hid (∀ W1 : World, Calls Try.prog 15 #[.int .i64 n] W1 fun e w' => e = .returned (.tuple #[.int .i64 a, .bool false]) ∧ Below W1.heap.size W1 w') := fun W1 => by
      have := d8 W1
      rw [show -n = a by rw [← hn, clipped_in _ hk]; omega] at this
      rw [sat_in a ha] at this
      exact this
    clear d7 d8 hs hn hc hk ha hb
    go_enter Try.func6, Try.ntmps6
    go_wp2_with (first | (go_at_call 11; refine (chain (w0 := w) (by go_grown) (by first | with_reducible exact d1.out _)).mono ?_; rintro e w' ⟨rfl, ht⟩; have hs := ht.size) | (go_at_call 15; refine (chain (w0 := w) (by go_grown) (by first | with_reducible exact d2.out _ | with_reducible exact d6.out _)).mono ?_; rintro e w' ⟨rfl, ht⟩; have hs := ht.size) | (go_at_call 20; refine (chain (w0 := w) (by go_grown) (by first | with_reducible exact d3.out _)).mono ?_; rintro e w' ⟨rfl, ht⟩; have hs := ht.size) | (go_at_call 22; refine (chain (w0 := w) (by go_grown) (by first | with_reducible exact d4.out _)).mono ?_; rintro e w' ⟨rfl, ht⟩; have hs := ht.size) | (go_at_call 19; refine (chain (w0 := w) (by go_grown) (by first | with_reducible exact works _)).mono ?_; rintro e w' ⟨rfl, ht⟩; have hs := ht.size))
    go_ret
    exact ⟨rfl, by go_grown⟩
  · have d1 : Hid (∀ W1 : World, Calls Try.prog 11 #[.int .i64 a, .int .i64 b] W1 fun e w' => e = .returned (.tuple #[.int .i64 s, .bool false]) ∧ Below W1.heap.size W1 w') := fun W1 => by
      have := fixAdd a b ha hb W1
      rw [sat_eq hs hc] at this
      exact this
    have d2 : Hid (∀ W1 : World, Calls Try.prog 15 #[.int .i64 a] W1 fun e w' => e = .returned (.tuple #[.int .i64 n, .bool true]) ∧ Below W1.heap.size W1 w') := fun W1 => by
      have := fixNeg a ha W1
      rw [sat_eq hn hk] at this
      exact this
    have d3 : Hid (∀ W1 : World, Calls Try.prog 20 #[.int .i64 a, .int .i64 4294967296] W1 fun e w' => e = .returned (.tuple #[.int .i64 a, .bool false]) ∧ Below W1.heap.size W1 w') := fun W1 => by
      have := fixMul a 4294967296 ha (by unfold Half; omega) W1
      rw [near_one] at this
      rw [sat_in a ha] at this
      exact this
    have d4 : Hid (∀ W1 : World, Calls Try.prog 22 #[.int .i64 a, .int .i64 4294967296] W1 fun e w' => e = .returned (.tuple #[.int .i64 a, .bool false]) ∧ Below W1.heap.size W1 w') := fun W1 => by
      have := fixDiv a 4294967296 ha (by unfold Half; omega) W1
      rw [quo_one a ha] at this
      exact this
    have d5 : Hid (∀ W1 : World, Calls Try.prog 13 #[.int .i64 s, .int .i64 b] W1 fun e w' => e = .returned (.tuple #[.int .i64 a, .bool false]) ∧ Below W1.heap.size W1 w') := fun W1 => by
      have := d7 W1
      rw [show s + -b = a by rw [← hs, clipped_in _ hc]; omega] at this
      rw [sat_in a ha] at this
      exact this
    clear d7 d8 hs hn hc hk ha hb
    go_enter Try.func6, Try.ntmps6
    go_wp2_with (first | (go_at_call 11; refine (chain (w0 := w) (by go_grown) (by first | with_reducible exact d1.out _)).mono ?_; rintro e w' ⟨rfl, ht⟩; have hs := ht.size) | (go_at_call 15; refine (chain (w0 := w) (by go_grown) (by first | with_reducible exact d2.out _)).mono ?_; rintro e w' ⟨rfl, ht⟩; have hs := ht.size) | (go_at_call 20; refine (chain (w0 := w) (by go_grown) (by first | with_reducible exact d3.out _)).mono ?_; rintro e w' ⟨rfl, ht⟩; have hs := ht.size) | (go_at_call 22; refine (chain (w0 := w) (by go_grown) (by first | with_reducible exact d4.out _)).mono ?_; rintro e w' ⟨rfl, ht⟩; have hs := ht.size) | (go_at_call 19; refine (chain (w0 := w) (by go_grown) (by first | with_reducible exact works _)).mono ?_; rintro e w' ⟨rfl, ht⟩; have hs := ht.size) | (go_at_call 13; refine (chain (w0 := w) (by go_grown) (by first | with_reducible exact d5.out _)).mono ?_; rintro e w' ⟨rfl, ht⟩; have hs := ht.size))
    go_ret
    exact ⟨rfl, by go_grown⟩
  · have d1 : Hid (∀ W1 : World, Calls Try.prog 11 #[.int .i64 a, .int .i64 b] W1 fun e w' => e = .returned (.tuple #[.int .i64 s, .bool false]) ∧ Below W1.heap.size W1 w') := fun W1 => by
      have := fixAdd a b ha hb W1
      rw [sat_eq hs hc] at this
      exact this
    have d2 : Hid (∀ W1 : World, Calls Try.prog 15 #[.int .i64 a] W1 fun e w' => e = .returned (.tuple #[.int .i64 n, .bool false]) ∧ Below W1.heap.size W1 w') := fun W1 => by
      have := fixNeg a ha W1
      rw [sat_eq hn hk] at this
      exact this
    have d3 : Hid (∀ W1 : World, Calls Try.prog 20 #[.int .i64 a, .int .i64 4294967296] W1 fun e w' => e = .returned (.tuple #[.int .i64 a, .bool false]) ∧ Below W1.heap.size W1 w') := fun W1 => by
      have := fixMul a 4294967296 ha (by unfold Half; omega) W1
      rw [near_one] at this
      rw [sat_in a ha] at this
      exact this
    have d4 : Hid (∀ W1 : World, Calls Try.prog 22 #[.int .i64 a, .int .i64 4294967296] W1 fun e w' => e = .returned (.tuple #[.int .i64 a, .bool false]) ∧ Below W1.heap.size W1 w') := fun W1 => by
      have := fixDiv a 4294967296 ha (by unfold Half; omega) W1
      rw [quo_one a ha] at this
      exact this
    have d5 : Hid (∀ W1 : World, Calls Try.prog 13 #[.int .i64 s, .int .i64 b] W1 fun e w' => e = .returned (.tuple #[.int .i64 a, .bool false]) ∧ Below W1.heap.size W1 w') := fun W1 => by
      have := d7 W1
      rw [show s + -b = a by rw [← hs, clipped_in _ hc]; omega] at this
      rw [sat_in a ha] at this
      exact this
    have d6 : Hid (∀ W1 : World, Calls Try.prog 15 #[.int .i64 n] W1 fun e w' => e = .returned (.tuple #[.int .i64 a, .bool false]) ∧ Below W1.heap.size W1 w') := fun W1 => by
      have := d8 W1
      rw [show -n = a by rw [← hn, clipped_in _ hk]; omega] at this
      rw [sat_in a ha] at this
      exact this
    clear d7 d8 hs hn hc hk ha hb
    go_enter Try.func6, Try.ntmps6
    go_wp2_with (first | (go_at_call 11; refine (chain (w0 := w) (by go_grown) (by first | with_reducible exact d1.out _)).mono ?_; rintro e w' ⟨rfl, ht⟩; have hs := ht.size) | (go_at_call 15; refine (chain (w0 := w) (by go_grown) (by first | with_reducible exact d2.out _ | with_reducible exact d6.out _)).mono ?_; rintro e w' ⟨rfl, ht⟩; have hs := ht.size) | (go_at_call 20; refine (chain (w0 := w) (by go_grown) (by first | with_reducible exact d3.out _)).mono ?_; rintro e w' ⟨rfl, ht⟩; have hs := ht.size) | (go_at_call 22; refine (chain (w0 := w) (by go_grown) (by first | with_reducible exact d4.out _)).mono ?_; rintro e w' ⟨rfl, ht⟩; have hs := ht.size) | (go_at_call 19; refine (chain (w0 := w) (by go_grown) (by first | with_reducible exact works _)).mono ?_; rintro e w' ⟨rfl, ht⟩; have hs := ht.size) | (go_at_call 13; refine (chain (w0 := w) (by go_grown) (by first | with_reducible exact d5.out _)).mono ?_; rintro e w' ⟨rfl, ht⟩; have hs := ht.size))
    go_ret
    exact ⟨rfl, by go_grown⟩


set_option maxRecDepth 100000 in
theorem lifted (os : Os) (started : os.Started) (H : Type) (enc : TypeId × Value → H) :
    ReturnsInHanded {} Try.checked os 6 .any (Rows.fixExactSpec.pre6 enc Try.prog Try.f6 Rows.fixExactRow.domain false) (Rows.fixExactSpec.post enc Try.prog Try.f6 false true false false) := by
  refine returnsInHanded_of_change (C := Try.checked) own started (by kernel_rfl) Try.func6
    (ChangeSpec.witness6 (enc := enc) (C := Try.checked) false ⟨#[], #[.int .i64 0, .int .i64 0], []⟩ 8 (by kernel_rfl) (by kernel_rfl) (by kernel_rfl) (by kernel_rfl)) ?_
  intro W1 base args ds gs before hval0 hW hcnd _
  have hval : ∀ (j : Nat) t v, Try.f6.params[j]? = some t → args[j]? = some v → Value.okWide Try.prog W1 .any base t v := hval0
  have hW' := hW
  obtain ⟨p, q, hA0, hV, rfl, hfz, hnd⟩ := hW
  have hA : DataW.TrodAll enc Try.prog W1 0 (fun _ => true) true Try.f6.params.toList args.toList ds p := hA0
  rw [Try.params6] at hA hval
  obtain ⟨v0, vs0, d0, ds0, p0, q0, hargs, rfl, rfl, h0, r0⟩ := trodAll_cons hA
  obtain ⟨v1, vs1, d1, ds1, p1, q1, rfl, rfl, rfl, h1, r1⟩ := trodAll_cons r0
  obtain ⟨rfl, rfl, rfl⟩ := trodAll_nil r1
  obtain rfl : args = #[v0, v1] := by cases args; simp_all
  obtain ⟨rfl, rfl⟩ := trodVars_none hV
  obtain ⟨a, rfl, e0, -, w0⟩ := open_int Try.underlying22 (hval 0 22 v0 rfl rfl) h0
  obtain ⟨b, rfl, e1, -, w1⟩ := open_int Try.underlying22 (hval 1 22 v1 rfl rfl) h1
  clear hA0 hval0 hval hA
  refine (walk a b (half_of_wf w0) (half_of_wf w1) W1).mono fun e W' ⟨he, hg⟩ => ?_
  subst he
  exact ⟨_, rfl, law_post laidOut (by kernel_rfl) rfl (by kernel_rfl) Try.underlying4 hW' rfl hg⟩

theorem over : Rows.fixExactRow.holds Try.pinned (OpenSpec.ofChange Rows.fixExactSpec) :=
  OpenClaim.holds_of_wide 6 Try.f6 rfl rfl rfl rfl rfl rfl rfl ⟨rfl, rfl, rfl, rfl, rfl⟩ rfl rfl rfl rfl rfl (by kernel_rfl) Try.func6 (by kernel_rfl)
    (of_decide_eq_true (by kernel_rfl)) (by unfold Func.isWrapper; first | (rw [if_pos (by decide +kernel)]; kernel_rfl) | (rw [if_neg (by decide +kernel)]; exact ⟨rfl, rfl⟩))
    (fun os started H enc _ => lifted os started H enc)

theorem proved : Rows.FixExactSaid :=
  over
end Go.Proofs.Ytbedmkingceepaa.fixExact
