/- The chapter's examples hold: what works answers. -/
import Derived.Test.YtmedemniopgpeaaWideD
namespace Go.Proofs.Ytmedemniopgpeaa
open Go.RowKit
attribute [local go_sem] cell_re eqW_self run_fieldW
attribute [local go_sem ↓] run_eqlW run_neqW

theorem near_3 (w : World) : Calls Try.prog 43 #[W 3, .int .i64 1] w fun e w' => e = .returned (W 2) ∧ Below w.heap.size w w' := by
  have h := wideNear 3 1 (by unfold Fits; omega) (by unfold Half; omega) w
  rw [show near 3 1 = 2 by decide] at h
  exact h
theorem near_m3 (w : World) : Calls Try.prog 43 #[W (-3), .int .i64 1] w fun e w' => e = .returned (W (-1)) ∧ Below w.heap.size w w' := by
  have h := wideNear (-3) 1 (by unfold Fits; omega) (by unfold Half; omega) w
  rw [show near (-3) 1 = -1 by decide] at h
  exact h
theorem mul_62 (w : World) : Calls Try.prog 31 #[.int .i64 4611686018427387904, .int .i64 4] w fun e w' => e = .returned (W 18446744073709551616) ∧ Below w.heap.size w w' := by
  have h := wideMul 4611686018427387904 4 (by unfold Half; omega) (by unfold Half; omega) w
  rw [show (4611686018427387904 : Int) * 4 = 18446744073709551616 by decide] at h
  exact h
theorem eq_62 : eqW (hi 18446744073709551616) (lo 18446744073709551616) 1 0 = true := by decide
theorem eq_m1 : eqW (hi (-1)) (lo (-1)) (-1) 18446744073709551615 = true := by decide

end Go.Proofs.Ytmedemniopgpeaa
