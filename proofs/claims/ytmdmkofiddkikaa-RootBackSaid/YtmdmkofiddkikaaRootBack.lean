/- The root of a square is the number, and a greater number's root is no less. -/
import Derived.Test.YtmdmkofiddkikaaRows
import Derived.Test.YtmdmkofiddkikaaRootW
import Derived.Test.YtmdmkofiddkikaaLawK
import Derived.WalkKit
import Derived.ProofKit
import Derived.OpenShut
import Derived.Deep.RegionHeld3
namespace Go.Proofs.Ytmdmkofiddkikaa.rootBack
open Go.ChangeShapes Go.WideShapes Go.ChangeAt Go.RowKit
set_option linter.unusedVariables false

attribute [local go_sem] cell_re eqW_self
attribute [local go_sem ↓] run_eqlW run_neqW

set_option maxRecDepth 100000 in
set_option maxHeartbeats 4000000 in
theorem walk (n a b : Int) (hn : 0 ≤ n ∧ n ≤ 4294967295) (ha : 0 ≤ a ∧ a ≤ 18446744073709551615) (hb : 0 ≤ b ∧ b ≤ 18446744073709551615) (w : World) : Calls Try.prog 5 #[.int .u32 n, .int .u64 a, .int .u64 b] w fun e w' => e = .returned (.bool true) ∧ Below w.heap.size w w' := by
  obtain ⟨n0, n1⟩ := hn
  obtain ⟨a0, a1⟩ := ha
  obtain ⟨b0, b1⟩ := hb
  have q0 := square_hi n0 (by omega)
  have q1 := sq_le n0 n1
  have d1 := Lib.hid (fun W1 : World => rootSquare n n0 (by omega) W1)
  have d2 := Lib.hid (fun W1 : World => rootWide_pos (n * n) (by unfold Fits; omega) q0.1 W1)
  have d3 := Lib.hid (fun W1 : World => rootOf (n * n) q0.1 (by omega) W1)
  rw [root_sq n0 (by omega)] at d2 d3
  have m1 := root_mono a0 (b := b)
  have m2 := root_mono b0 (b := a)
  have d4 := Lib.hid (fun W1 : World => rootOf a a0 a1 W1)
  have d5 := Lib.hid (fun W1 : World => rootOf b b0 b1 W1)
  obtain ⟨x, hx⟩ : ∃ x, Hid (root a = x) := ⟨_, rfl⟩
  obtain ⟨y, hy⟩ : ∃ y, Hid (root b = y) := ⟨_, rfl⟩
  rw [hx.out] at d4 m1 m2
  rw [hy.out] at d5 m1 m2
  have xy : (a ≤ b → x ≤ y) ∧ (b ≤ a → y ≤ x) := ⟨fun h => m1 h (by omega), fun h => m2 h (by omega)⟩
  obtain ⟨s, hs⟩ : ∃ s, n * n = s := ⟨_, rfl⟩
  rw [hs] at d1 d2 d3 q0 q1
  have s0 := q0.1
  have s1 : s ≤ 18446744073709551615 := by omega
  clear m1 m2 q0 q1 hx hy
  rcases Int.lt_trichotomy a b with h | h | h
  · have z := xy.1 (by omega)
    clear xy
    go_enter Try.func5, Try.ntmps5
    go_wp2_with (first | (go_at_call 15; refine (chain (w0 := w) (by go_grown) (by first | with_reducible exact works _)).mono ?_; rintro e w' ⟨rfl, ht⟩; have hs := ht.size) | (go_at_call 13; refine (chain (w0 := w) (by go_grown) (by first | with_reducible exact d1.out _)).mono ?_; rintro e w' ⟨rfl, ht⟩; have hs := ht.size) | (go_at_call 7; refine (chain (w0 := w) (by go_grown) (by first | with_reducible exact d2.out _)).mono ?_; rintro e w' ⟨rfl, ht⟩; have hs := ht.size) | (go_at_call 11; refine (chain (w0 := w) (by go_grown) (by first | with_reducible exact d3.out _ | with_reducible exact d4.out _ | with_reducible exact d5.out _)).mono ?_; rintro e w' ⟨rfl, ht⟩; have hs := ht.size))
    go_ret
    exact ⟨rfl, by go_grown⟩
  · subst h
    clear xy d5
    go_enter Try.func5, Try.ntmps5
    go_wp2_with (first | (go_at_call 15; refine (chain (w0 := w) (by go_grown) (by first | with_reducible exact works _)).mono ?_; rintro e w' ⟨rfl, ht⟩; have hs := ht.size) | (go_at_call 13; refine (chain (w0 := w) (by go_grown) (by first | with_reducible exact d1.out _)).mono ?_; rintro e w' ⟨rfl, ht⟩; have hs := ht.size) | (go_at_call 7; refine (chain (w0 := w) (by go_grown) (by first | with_reducible exact d2.out _)).mono ?_; rintro e w' ⟨rfl, ht⟩; have hs := ht.size) | (go_at_call 11; refine (chain (w0 := w) (by go_grown) (by first | with_reducible exact d3.out _ | with_reducible exact d4.out _)).mono ?_; rintro e w' ⟨rfl, ht⟩; have hs := ht.size))
    all_goals
      go_ret
      exact ⟨rfl, by go_grown⟩
  · have z := xy.2 (by omega)
    clear xy
    go_enter Try.func5, Try.ntmps5
    go_wp2_with (first | (go_at_call 15; refine (chain (w0 := w) (by go_grown) (by first | with_reducible exact works _)).mono ?_; rintro e w' ⟨rfl, ht⟩; have hs := ht.size) | (go_at_call 13; refine (chain (w0 := w) (by go_grown) (by first | with_reducible exact d1.out _)).mono ?_; rintro e w' ⟨rfl, ht⟩; have hs := ht.size) | (go_at_call 7; refine (chain (w0 := w) (by go_grown) (by first | with_reducible exact d2.out _)).mono ?_; rintro e w' ⟨rfl, ht⟩; have hs := ht.size) | (go_at_call 11; refine (chain (w0 := w) (by go_grown) (by first | with_reducible exact d3.out _ | with_reducible exact d4.out _ | with_reducible exact d5.out _)).mono ?_; rintro e w' ⟨rfl, ht⟩; have hs := ht.size))
    go_ret
    exact ⟨rfl, by go_grown⟩


set_option maxRecDepth 100000 in
theorem lifted (os : Os) (started : os.Started) (H : Type) (enc : TypeId × Value → H) :
    ReturnsInHanded {} Try.checked os 5 .any (Rows.rootBackSpec.pre6 enc Try.prog Try.f5 Rows.rootBackRow.domain false) (Rows.rootBackSpec.post enc Try.prog Try.f5 false true false false) := by
  refine returnsInHanded_of_change (C := Try.checked) own started (by kernel_rfl) Try.func5
    (ChangeSpec.witness6 (enc := enc) (C := Try.checked) false ⟨#[], #[.int .u32 0, .int .u64 0, .int .u64 0], []⟩ 8 (by kernel_rfl) (by kernel_rfl) (by kernel_rfl) (by kernel_rfl)) ?_
  intro W1 base args ds gs before hval0 hW hcnd _
  have hval : ∀ (j : Nat) t v, Try.f5.params[j]? = some t → args[j]? = some v → Value.okWide Try.prog W1 .any base t v := hval0
  have hW' := hW
  obtain ⟨p, q, hA0, hV, rfl, hfz, hnd⟩ := hW
  have hA : DataW.TrodAll enc Try.prog W1 0 (fun _ => true) true Try.f5.params.toList args.toList ds p := hA0
  rw [Try.params5] at hA hval
  obtain ⟨v0, vs0, d0, ds0, p0, q0, hargs, rfl, rfl, h0, r0⟩ := trodAll_cons hA
  obtain ⟨v1, vs1, d1, ds1, p1, q1, rfl, rfl, rfl, h1, r1⟩ := trodAll_cons r0
  obtain ⟨v2, vs2, d2, ds2, p2, q2, rfl, rfl, rfl, h2, r2⟩ := trodAll_cons r1
  obtain ⟨rfl, rfl, rfl⟩ := trodAll_nil r2
  obtain rfl : args = #[v0, v1, v2] := by cases args; simp_all
  obtain ⟨rfl, rfl⟩ := trodVars_none hV
  obtain ⟨n, rfl, e0, -, w0⟩ := open_int Try.underlying30 (hval 0 30 v0 rfl rfl) h0
  obtain ⟨a, rfl, e1, -, w1⟩ := open_int Try.underlying22 (hval 1 22 v1 rfl rfl) h1
  obtain ⟨b, rfl, e2, -, w2⟩ := open_int Try.underlying22 (hval 2 22 v2 rfl rfl) h2
  clear hA0 hval0 hval hA
  refine (walk n a b (word32_of_wf w0) (word_of_wf w1) (word_of_wf w2) W1).mono fun e W' ⟨he, hg⟩ => ?_
  subst he
  exact ⟨_, rfl, law_post laidOut (by kernel_rfl) rfl (by kernel_rfl) Try.underlying4 hW' rfl hg⟩

theorem over : Rows.rootBackRow.holds Try.pinned (OpenSpec.ofChange Rows.rootBackSpec) :=
  OpenClaim.holds_of_wide 5 Try.f5 rfl rfl rfl rfl rfl rfl rfl ⟨rfl, rfl, rfl, rfl, rfl⟩ rfl rfl rfl rfl rfl (by kernel_rfl) Try.func5 (by kernel_rfl)
    (of_decide_eq_true (by kernel_rfl)) (by unfold Func.isWrapper; first | (rw [if_pos (by decide +kernel)]; kernel_rfl) | (rw [if_neg (by decide +kernel)]; exact ⟨rfl, rfl⟩))
    (fun os started H enc _ => lifted os started H enc)

theorem proved : Rows.RootBackSaid :=
  over
end Go.Proofs.Ytmdmkofiddkikaa.rootBack
