/- The steps' angles in the document's answers: a slice of thirty numbers that is made anew. -/
import Derived.Test.YtneljefoglmldaaDoorTurnQ
namespace Go.Proofs.YtneljefoglmldaaDoor
open Go.RowKit
set_option linter.unusedVariables false
attribute [local go_sem] cell_re eqW_self
attribute [local go_sem ↓] run_eqlW run_neqW
theorem angles_at (k : IntKind) (i : Nat) (hi : i < (angles.map (Value.int k)).length) : (angles.map (Value.int k))[i] = .int k (stp i) := by
  rw [List.getElem_map, stp, List.getD_eq_getElem?_getD, List.getElem?_eq_getElem (by simpa using hi)]
  rfl
set_option maxRecDepth 100000 in
set_option maxHeartbeats 1000000 in
theorem ref5Step (i : Nat) (hi : i < 30) (w : World) :
    Calls Tryd.prog 30 #[.int .i64 i] w fun e w' => e = .returned (.int .i64 (stp i)) ∧ Below w.heap.size w w' := by
  go_enter Tryd.func30, Tryd.ntmps30
  go_wp2
  go_ret
  exact ⟨congrArg Ending.returned (angles_at .i64 i hi), by go_grown⟩

end Go.Proofs.YtneljefoglmldaaDoor
