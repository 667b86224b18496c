/- The chapter's examples hold: what works answers. -/
import Derived.Test.YtneljefoglmldaaDoorWideD
namespace Go.Proofs.YtneljefoglmldaaDoor
open Go.RowKit
attribute [local go_sem] cell_re eqW_self run_fieldW
attribute [local go_sem ↓] run_eqlW run_neqW

theorem eq_62 : eqW (hi 18446744073709551616) (lo 18446744073709551616) 1 0 = true := by decide
theorem eq_m1 : eqW (hi (-1)) (lo (-1)) (-1) 18446744073709551615 = true := by decide

end Go.Proofs.YtneljefoglmldaaDoor
