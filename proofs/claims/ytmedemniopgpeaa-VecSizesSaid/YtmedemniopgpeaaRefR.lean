/- The length, the greatest axis, and the vector of length One, in the document's answers. -/
import Derived.Test.YtmedemniopgpeaaRefK
import Derived.Test.YtmedemniopgpeaaRefP
import Derived.Test.YtmedemniopgpeaaVecN
import Derived.Test.YtmedemniopgpeaaVecS
import Derived.Test.YtmedemniopgpeaaVecR
import Derived.Deep.RegionHeld3
namespace Go.Proofs.Ytmedemniopgpeaa
open Go.RowKit
set_option linter.unusedVariables false
attribute [local go_sem] cell_re eqW_self eqV_self
attribute [local go_sem ↓] run_eqlW run_neqW run_eqlV


theorem ref6Bare (a : Int) (ha : Half a) (w : World) : Calls Try.prog 34 #[.int .i64 a] w fun e w' => e = .returned (.int .u64 (bare a)) ∧ Below w.heap.size w w' := by
  obtain ⟨a0, a1⟩ := ha
  unfold bare
  by_cases h : a < 0
  · rw [if_pos h]
    go_enter Try.func34, Try.ntmps34
    go_wp2
    go_returns
    refine ⟨retI ?_, by go_grown⟩
    omega
  · rw [if_neg h]
    go_enter Try.func34, Try.ntmps34
    go_wp2
    go_returns
    refine ⟨retI ?_, by go_grown⟩
    omega
theorem hi_big {v : Int} (h0 : 170141183460469231731687303715884105728 ≤ v) (h1 : v < 340282366920938463463374607431768211456) : hi v < 0 := by unfold hi; omega
theorem hi_small {v : Int} (h0 : 0 ≤ v) (h1 : v < 170141183460469231731687303715884105728) : 0 ≤ hi v := by unfold hi; omega
theorem ref6Square (a : Int) (ha : Half a) (w : World) : Calls Try.prog 33 #[.int .u64 (bare a)] w fun e w' => e = .returned (W (a * a)) ∧ Below w.heap.size w w' := by
  have h := bare_bd ha
  rw [← bare_sq]
  exact ref4Square (bare a) h.1 (by omega) w

end Go.Proofs.Ytmedemniopgpeaa
