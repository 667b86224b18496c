/- What Left of the document's answers gives: a number times a power of 2, modulo 2^128. -/
import Derived.Test.YtmedemniopgpeaaRefE
namespace Go.Proofs.Ytmedemniopgpeaa
open Go.RowKit
attribute [local go_sem] cell_re eqW_self
attribute [local go_sem ↓] run_eqlW run_neqW

theorem W_far (a : Int) (n : Nat) (h : 128 ≤ n) : W (a * 2 ^ n) = W (a * 2 ^ 128) := by
  have e : a * 2 ^ n = 340282366920938463463374607431768211456 * (a * 2 ^ (n - 128)) := by
    rw [show (340282366920938463463374607431768211456 : Int) = 2 ^ 128 from rfl, ← Int.mul_assoc, Int.mul_comm (2 ^ 128) a, Int.mul_assoc, pow_split h]
  have h0 : ∀ t : Int, hi (340282366920938463463374607431768211456 * t) = 0 ∧ lo (340282366920938463463374607431768211456 * t) = 0 := fun t => by unfold hi lo; omega
  have e2 : a * 2 ^ 128 = 340282366920938463463374607431768211456 * a := by rw [show (2 : Int) ^ 128 = 340282366920938463463374607431768211456 from rfl, Int.mul_comm]
  rw [W, W, e, e2, (h0 _).1, (h0 _).2, (h0 _).1, (h0 _).2]

end Go.Proofs.Ytmedemniopgpeaa
