/- The table, the state at first, in the document's answers. -/
import Derived.Test.YtmhehnimgkmmaaaDoorHashA
import Derived.Test.YtmhehnimgkmmaaaDoorApp
import Derived.Deep.RegionHeld3
import Derived.Deep.DeepCutAuto
namespace Go.Proofs.YtmhehnimgkmmaaaDoor
set_option maxRecDepth 100000
open Go.RowKit
set_option linter.unusedVariables false
attribute [local go_sem] cell_re

set_option maxRecDepth 100000 in
set_option maxHeartbeats 2000000 in
theorem ref8Table (w : World) : Calls Tryd.prog 41 #[] w (NewRow .u32 63 w tableL) := by
  have own := World.ownsRow_lit (base := w.heap.size) (e := 63) (size := 1) w (ints .u32 tableL).toArray 64 (Nat.le_refl _) (by unfold maxLen; omega) rfl
  have hO : Below w.heap.size w (w.alloc (.cells (ints .u32 tableL).toArray 63)) := (Below.refl _ _).alloc (Nat.le_refl _) _
  go_enter Tryd.func41, Tryd.ntmps41
  go_wp2
  go_ret
  exact ⟨_, 64, rfl, own, Nat.le_refl _, by unfold maxLen; omega, hO⟩
/-- A state as an array. -/
abbrev A8 (s : S8) : Value := .agg #[.int .u32 s.a, .int .u32 s.b, .int .u32 s.c, .int .u32 s.d, .int .u32 s.e, .int .u32 s.f, .int .u32 s.g, .int .u32 s.h]
set_option maxRecDepth 100000 in
set_option maxHeartbeats 2000000 in
theorem ref8First (w : World) : Calls Tryd.prog 33 #[] w fun e w' => e = .returned (A8 first8) ∧ Below w.heap.size w w' := by
  go_enter Tryd.func33, Tryd.ntmps33
  go_wp2
  refine bodyPost_ret (by simp [results, Tryd.results33, go_sem]; try rfl) rfl ?_
  exact ⟨rfl, by go_grown⟩

end Go.Proofs.YtmhehnimgkmmaaaDoor
