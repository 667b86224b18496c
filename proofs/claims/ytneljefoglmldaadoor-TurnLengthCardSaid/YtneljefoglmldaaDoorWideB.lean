/- What Mul, Left, Right, Near and Div of package wide answer, each for every number that its parameters can hold; of what was in memory nothing has turned. -/
import Derived.Test.YtneljefoglmldaaDoorWide
import Derived.Test.YtneljefoglmldaaDoorBitsMath
import Derived.Deep.RegionHeld3
import Derived.Deep.DeepCutAuto
import Derived.Lib.Hide
namespace Go.Proofs.YtneljefoglmldaaDoor
open Go.RowKit
attribute [local go_sem] cell_re eqW_self
attribute [local go_sem ↓] run_eqlW run_neqW

theorem left_far_hi' (a : Int) (n : Nat) (h : 64 ≤ n) : wrap64 (IntKind.u64.wrap (lo a * 2 ^ (min (n - 64) 64))) = hi (a * 2 ^ n) := by
  rw [← left_far_hi a n h, IntKind.wrap_i64]
  unfold wrap64
  omega
theorem quarter_in (a : Int) (k : Nat) (h0 : 0 < k) (h1 : k < 64) : IntKind.i64.wrap (lo a / 2 ^ (64 - k)) = lo a / 2 ^ (64 - k) := by
  have hr := pow_pos' (64 - k)
  have hs : (2 : Int) ^ (64 - k) = 2 * 2 ^ (63 - k) := by rw [Int.mul_comm, ← Int.pow_succ, show (63 - k).succ = 64 - k by omega]
  have hq := pow_pos' (63 - k)
  have h2 : lo a / 2 ^ (64 - k) ≤ lo a / 2 := by
    rw [hs, ← Int.ediv_ediv_of_nonneg (by decide)]
    exact Int.ediv_le_self _ (by have := lo_lo a; omega)
  have h3 : 0 ≤ lo a / 2 ^ (64 - k) := Int.ediv_nonneg (lo_lo a) (Int.le_of_lt hr)
  have h4 := lo_lt a
  rw [IntKind.wrap_i64]
  omega

end Go.Proofs.YtneljefoglmldaaDoor
