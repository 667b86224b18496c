/- What Mul of the document's answers gives: the product. -/
import Derived.Test.YtmdmkofiddkikaaVars
namespace Go.Proofs.Ytmdmkofiddkikaa
open Go.RowKit
attribute [local go_sem] cell_re eqW_self
attribute [local go_sem ↓] run_eqlW run_neqW

theorem mul_step (x y : Int) (k : Nat) : x * (y % 2 ^ (k + 1)) = x * (y % 2 ^ k) + bit y k * (x * 2 ^ k) := by
  rw [mod_succ, Int.mul_add, Int.add_comm, Int.mul_left_comm]
theorem mul_end (x y : Int) (hy : Half y) : x * (y % 2 ^ 127) + -(bit y 127 * (x * 2 ^ 127)) = x * y := by
  have e : y = y % 2 ^ 127 - bit y 127 * 2 ^ 127 := by
    unfold Half at hy
    unfold bit
    rw [show (2 : Int) ^ 127 = 170141183460469231731687303715884105728 from rfl]
    omega
  have e2 : x * y = x * (y % 2 ^ 127 - bit y 127 * 2 ^ 127) := by rw [← e]
  rw [e2, Int.mul_sub, Int.mul_left_comm x]
  omega
theorem dbl (x : Int) (k : Nat) : x * 2 ^ k + x * 2 ^ k = x * 2 ^ (k + 1) := by
  rw [Int.pow_succ, ← Int.mul_assoc]; omega

theorem zero_halves : hi 0 = 0 ∧ lo 0 = 0 := by decide
/-- What holds at a round's head. -/
structure MulAt (x y : Int) (w : World) (X g : Nat) (k : Nat) (wr : World) : Prop where
  sum : Holds wr (w.heap.size + 1) (x * (y % 2 ^ k))
  fac : Holds wr X (x * 2 ^ k)
  res : Holds wr w.heap.size 0
  ys : Ints wr g 0 (bit y)
  old : Below w.heap.size w wr

end Go.Proofs.Ytmdmkofiddkikaa
