/- The chapter's example. -/
import Derived.Test.YtmedemniopgpeaaVecS
namespace Go.Proofs.Ytmedemniopgpeaa
open Go.RowKit
set_option linter.unusedVariables false
attribute [local go_sem] cell_re eqW_self eqV_self
attribute [local go_sem ↓] run_eqlW run_neqW run_eqlV

theorem len_345 : len 12884901888 17179869184 0 = 21474836480 :=
  (len_root (by unfold Half; omega) (by unfold Half; omega) (by unfold Half; omega)).unique (by unfold IsRoot squares; decide)
set_option maxRecDepth 100000 in
set_option maxHeartbeats 2000000 in
theorem works (w : World) : Calls Try.prog 12 #[] w fun e w' => e = .returned (.bool true) ∧ Below w.heap.size w w' := by
  have d1 : Hid (∀ W1 : World, Calls Try.prog 13 #[V 12884901888 17179869184 0] W1 fun e w' => e = .returned (.tuple #[.int .i64 21474836480, .bool false]) ∧ Below W1.heap.size W1 w') := fun W1 => by
    have := vecLength 12884901888 17179869184 0 (by unfold Half; omega) (by unfold Half; omega) (by unfold Half; omega) W1
    rw [len_345, sat_in _ (by unfold Half; omega)] at this
    exact this
  go_enter Try.func12, Try.ntmps12
  go_wp2_with fail
  refine (d1.out _).mono ?_
  rintro e w1 ⟨rfl, hb1⟩
  go_wp2
  go_ret
  exact ⟨rfl, hb1⟩

end Go.Proofs.Ytmedemniopgpeaa
