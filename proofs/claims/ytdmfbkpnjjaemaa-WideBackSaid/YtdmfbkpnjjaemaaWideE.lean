/- The chapter's examples hold: what works answers. -/
import Derived.Test.YtdmfbkpnjjaemaaWideD
namespace Go.Proofs.Ytdmfbkpnjjaemaa
open Go.RowKit
attribute [local go_sem] cell_re eqW_self run_fieldW
attribute [local go_sem ↓] run_eqlW run_neqW

theorem near_3 (w : World) : Calls Try.prog 27 #[W 3, .int .i64 1] w fun e w' => e = .returned (W 2) ∧ Below w.heap.size w w' := by
  have h := wideNear 3 1 (by unfold Fits; omega) (by unfold Half; omega) w
  rw [show near 3 1 = 2 by decide] at h
  exact h
theorem near_m3 (w : World) : Calls Try.prog 27 #[W (-3), .int .i64 1] w fun e w' => e = .returned (W (-1)) ∧ Below w.heap.size w w' := by
  have h := wideNear (-3) 1 (by unfold Fits; omega) (by unfold Half; omega) w
  rw [show near (-3) 1 = -1 by decide] at h
  exact h
theorem mul_62 (w : World) : Calls Try.prog 21 #[.int .i64 4611686018427387904, .int .i64 4] w fun e w' => e = .returned (W 18446744073709551616) ∧ Below w.heap.size w w' := by
  have h := wideMul 4611686018427387904 4 (by unfold Half; omega) (by unfold Half; omega) w
  rw [show (4611686018427387904 : Int) * 4 = 18446744073709551616 by decide] at h
  exact h
theorem eq_62 : eqW (hi 18446744073709551616) (lo 18446744073709551616) 1 0 = true := by decide
theorem eq_m1 : eqW (hi (-1)) (lo (-1)) (-1) 18446744073709551615 = true := by decide

set_option maxRecDepth 100000 in
set_option maxHeartbeats 800000 in
theorem works (w : World) : Calls Try.prog 20 #[] w fun e w' => e = .returned (.bool true) ∧ Below w.heap.size w w' := by
  have q1 := eq_62
  have q2 := eq_m1
  go_enter Try.func20, Try.ntmps20
  go_wp2_with fail
  refine (mul_62 _).mono ?_
  rintro e1 w1 ⟨rfl, hb1⟩
  go_wp2_with fail
  refine (wideOf 3 (by unfold Half; omega) _).mono ?_
  rintro e2 w2 ⟨rfl, hb2⟩
  go_wp2_with fail
  refine (near_3 _).mono ?_
  rintro e3 w3 ⟨rfl, hb3⟩
  go_wp2_with fail
  refine (wideOf 2 (by unfold Half; omega) _).mono ?_
  rintro e4 w4 ⟨rfl, hb4⟩
  go_wp2_with fail
  refine (wideOf (-3) (by unfold Half; omega) _).mono ?_
  rintro e5 w5 ⟨rfl, hb5⟩
  go_wp2_with fail
  refine (near_m3 _).mono ?_
  rintro e6 w6 ⟨rfl, hb6⟩
  go_wp2_with fail
  refine (wideOf (-1) (by unfold Half; omega) _).mono ?_
  rintro e7 w7 ⟨rfl, hb7⟩
  go_wp2_with fail
  refine (wideOf (-1) (by unfold Half; omega) _).mono ?_
  rintro e8 w8 ⟨rfl, hb8⟩
  go_wp2
  go_ret
  exact ⟨rfl, ((((((hb1.trans (hb2.mono hb1.size)).trans (hb3.mono (Nat.le_trans hb1.size hb2.size))).trans (hb4.mono (Nat.le_trans (Nat.le_trans hb1.size hb2.size) hb3.size))).trans (hb5.mono (by have := hb1.size; have := hb2.size; have := hb3.size; have := hb4.size; omega))).trans (hb6.mono (by have := hb1.size; have := hb2.size; have := hb3.size; have := hb4.size; have := hb5.size; omega))).trans (hb7.mono (by have := hb1.size; have := hb2.size; have := hb3.size; have := hb4.size; have := hb5.size; have := hb6.size; omega))).trans (hb8.mono (by have := hb1.size; have := hb2.size; have := hb3.size; have := hb4.size; have := hb5.size; have := hb6.size; have := hb7.size; omega))⟩

end Go.Proofs.Ytdmfbkpnjjaemaa
