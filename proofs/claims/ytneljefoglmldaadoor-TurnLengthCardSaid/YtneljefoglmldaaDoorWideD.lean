/- What Near and Div of package wide answer, each for every number that its parameters can hold; of what was in memory nothing has turned. -/
import Derived.Test.YtneljefoglmldaaDoorWideC
namespace Go.Proofs.YtneljefoglmldaaDoor
open Go.RowKit
theorem run_fieldW (v : Int) (w : World) : (Instr.field 36 (W v) 1).run Tryd.prog w = .ok (.int .u64 (lo v)) w := by rfl
attribute [local go_sem] cell_re eqW_self run_fieldW
attribute [local go_sem ↓] run_eqlW run_neqW

theorem full (U : Int) (h0 : 0 ≤ U) (h1 : U < 340282366920938463463374607431768211456) : U = IntKind.u64.wrap (hi U) * 18446744073709551616 + lo U := by
  rw [IntKind.wrap_u64]; unfold hi lo; omega

/-- What Div answers, whatever it is asked. -/
def divided (a b : Int) : Value := if b = 0 then .tuple #[.agg #[.int .i64 0, .int .u64 0], .int .i64 0, .bool false] else .tuple #[W (a.tdiv b), .int .i64 (a.tmod b), .bool true]

end Go.Proofs.YtneljefoglmldaaDoor
