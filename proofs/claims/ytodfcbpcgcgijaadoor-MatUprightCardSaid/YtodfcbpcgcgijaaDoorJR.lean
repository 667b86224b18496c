import Derived.Test.YtodfcbpcgcgijaaDoorJF
import Derived.Test.YtodfcbpcgcgijaaDoorJK
import Derived.Test.YtodfcbpcgcgijaaDoorJN
import Derived.Test.YtodfcbpcgcgijaaDoorJQ
import Derived.Test.YtodfcbpcgcgijaaDoorJO
import Derived.Deep.RegionHeld3
/- The greatest axis, and the vector of length One, in the document's answers. -/
namespace Go.Proofs.YtodfcbpcgcgijaaDoor
set_option maxRecDepth 100000
open Go.RowKit
set_option linter.unusedVariables false
attribute [local go_sem] cell_re eqW_self eqV_self
attribute [local go_sem ↓] run_eqlW run_neqW run_eqlV

end Go.Proofs.YtodfcbpcgcgijaaDoor

/- The greatest axis, and the vector of length One, in the document's answers. -/
namespace Go.Proofs.YtodfcbpcgcgijaaDoor
set_option maxRecDepth 100000
open Go.RowKit
set_option linter.unusedVariables false
attribute [local go_sem] cell_re eqW_self eqV_self
attribute [local go_sem ↓] run_eqlW run_neqW run_eqlV

end Go.Proofs.YtodfcbpcgcgijaaDoor
