/- The chapter's examples. -/
import Derived.Test.YtmdmkofiddkikaaRootP
import Derived.Test.YtmdmkofiddkikaaRefP
namespace Go.Proofs.Ytmdmkofiddkikaa
open Go.RowKit
attribute [local go_sem] cell_re eqW_self
attribute [local go_sem ↓] run_eqlW run_neqW

theorem root_is {a r : Int} (h0 : 0 ≤ a) (h1 : a < 340282366920938463463374607431768211456) (h : IsRoot a r) : root a = r := (isRoot_root h0 h1).unique h
theorem word32_of_wf {n : Int} (h : (Lit.int .u32 n).wf = true) : 0 ≤ n ∧ n ≤ 4294967295 := by
  simp [Lit.wf, IntKind.min, IntKind.max, IntKind.signed, IntKind.bits] at h
  exact ⟨by omega, by omega⟩
theorem rootOk_form (a : Int) : ∃ x c, rootOk a = .tuple #[.int .u64 x, .bool c] ∧ root4Ok a = .tuple #[.int .u64 x, .bool c] := by
  unfold rootOk root4Ok
  by_cases h : a < 0
  · exact ⟨0, false, by rw [if_pos h], by rw [if_pos h]⟩
  · exact ⟨root a, true, by rw [if_neg h], by rw [if_neg h]⟩
theorem rootFix_form (a : Int) : ∃ x c, rootFixOf a = .tuple #[.int .i64 x, .bool c] ∧ rootFix4 a = .tuple #[.int .i64 x, .bool c] := by
  unfold rootFixOf rootFix4
  by_cases h : a < 0
  · exact ⟨0, false, by rw [if_pos h], by rw [if_pos h]⟩
  · exact ⟨root (a * 4294967296), true, by rw [if_neg h], by rw [if_neg h]⟩
set_option maxRecDepth 100000 in
set_option maxHeartbeats 2000000 in
theorem works (w : World) : Calls Try.prog 15 #[] w fun e w' => e = .returned (.bool true) ∧ Below w.heap.size w w' := by
  have d1 : Hid (∀ W1 : World, Calls Try.prog 9 #[.int .i64 8589934592] W1 fun e w' => e = .returned (.tuple #[.int .i64 6074000999, .bool true]) ∧ Below W1.heap.size W1 w') := fun W1 => by
    have := rootFix 8589934592 (by unfold Half; omega) W1
    rw [rootFixOf, if_neg (by decide), root_is (r := 6074000999) (by decide) (by decide) (by unfold IsRoot; decide)] at this
    exact this
  have d2 : Hid (∀ W1 : World, Calls Try.prog 11 #[.int .u64 15] W1 fun e w' => e = .returned (.int .u32 3) ∧ Below W1.heap.size W1 w') := fun W1 => by
    have := rootOf 15 (by decide) (by decide) W1
    rw [root_is (r := 3) (by decide) (by decide) (by unfold IsRoot; decide)] at this
    exact this
  have d3 : Hid (∀ W1 : World, Calls Try.prog 11 #[.int .u64 16] W1 fun e w' => e = .returned (.int .u32 4) ∧ Below W1.heap.size W1 w') := fun W1 => by
    have := rootOf 16 (by decide) (by decide) W1
    rw [root_is (r := 4) (by decide) (by decide) (by unfold IsRoot; decide)] at this
    exact this
  go_enter Try.func15, Try.ntmps15
  go_wp2_with (first | (go_at_call 9; refine (chain (w0 := w) (by go_grown) (by first | with_reducible exact d1.out _)).mono ?_; rintro e w' ⟨rfl, ht⟩; have hs := ht.size) | (go_at_call 11; refine (chain (w0 := w) (by go_grown) (by first | with_reducible exact d2.out _ | with_reducible exact d3.out _)).mono ?_; rintro e w' ⟨rfl, ht⟩; have hs := ht.size))
  go_ret
  exact ⟨rfl, by go_grown⟩

end Go.Proofs.Ytmdmkofiddkikaa
