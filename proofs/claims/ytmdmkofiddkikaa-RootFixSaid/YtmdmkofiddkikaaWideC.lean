/- What Mul, Near and Div of package wide answer, each for every number that its parameters can hold; of what was in memory nothing has turned. -/
import Derived.Test.YtmdmkofiddkikaaWideB
import Derived.Test.YtmdmkofiddkikaaDivMath
namespace Go.Proofs.Ytmdmkofiddkikaa
open Go.RowKit
attribute [local go_sem] cell_re eqW_self
attribute [local go_sem ↓] run_eqlW run_neqW

set_option maxHeartbeats 400000 in
theorem wideMul (x y : Int) (hx : Half x) (hy : Half y) (w : World) :
    Calls Try.prog 26 #[.int .i64 x, .int .i64 y] w fun e w' => e = .returned (W (x * y)) ∧ Below w.heap.size w w' := by
  obtain ⟨hx0, hx1⟩ := hx
  obtain ⟨hy0, hy1⟩ := hy
  obtain ⟨X, wx, X0, X1, X2⟩ : ∃ X, IntKind.u64.wrap x = X ∧ 0 ≤ X ∧ X ≤ 18446744073709551615 ∧ ((0 ≤ x ∧ X = x) ∨ (x < 0 ∧ X = x + 18446744073709551616)) := ⟨_, rfl, by rw [IntKind.wrap_u64]; omega, by rw [IntKind.wrap_u64]; omega, by rw [IntKind.wrap_u64]; omega⟩
  obtain ⟨Y, wy, Y0, Y1, Y2⟩ : ∃ Y, IntKind.u64.wrap y = Y ∧ 0 ≤ Y ∧ Y ≤ 18446744073709551615 ∧ ((0 ≤ y ∧ Y = y) ∨ (y < 0 ∧ Y = y + 18446744073709551616)) := ⟨_, rfl, by rw [IntKind.wrap_u64]; omega, by rw [IntKind.wrap_u64]; omega, by rw [IntKind.wrap_u64]; omega⟩
  have X3 := Lib.hid X2
  have Y3 := Lib.hid Y2
  clear X2 Y2
  obtain ⟨p, r, hp, hr, p0, r0, r1⟩ : ∃ p r, X * Y / 18446744073709551616 = p ∧ X * Y % 18446744073709551616 = r ∧ 0 ≤ p ∧ 0 ≤ r ∧ r ≤ 18446744073709551615 := ⟨_, _, rfl, rfl, Int.ediv_nonneg (Int.mul_nonneg X0 Y0) (by decide), by omega, by omega⟩
  have hp3 := Lib.hid hp
  have hr3 := Lib.hid hr
  clear hp hr
  go_enter Try.func26, Try.ntmps26
  go_wp2_with ((go_at_call 30; refine (wideProduct _ _ p r X0 X1 Y0 Y1 hp3.out hr3.out _).mono ?_; rintro e w' ⟨rfl, rfl⟩))
  all_goals
    go_returns
    refine ⟨?_, by go_grown⟩
    have hp := hp3.out
    have hr := hr3.out
    have hm := mul_signs x y X Y X3.out Y3.out
    refine retW ?_ ?_
    · refine mul_hi hp hr hm ?_ ?_ ?_
      all_goals (try simp only [IntKind.wrap_u64])
      all_goals unfold wrap64
      all_goals (repeat' split)
      all_goals omega
    · exact mul_lo hr hm

end Go.Proofs.Ytmdmkofiddkikaa
