/- A word mixed, in the program. -/
import Derived.Test.YtmhehnimgkmmaaaDoorHasA
import Derived.Deep.RegionHeld3
import Derived.Deep.DeepCutAuto
namespace Go.Proofs.YtmhehnimgkmmaaaDoor
set_option maxRecDepth 100000
open Go.RowKit
set_option linter.unusedVariables false
attribute [local go_sem] cell_re

set_option maxRecDepth 200000 in
set_option maxHeartbeats 8000000 in
theorem hashMixA (x : Int) (hx : U32 x) (w : World) : Calls Tryd.prog 46 #[.int .u32 x] w fun e w' => e = .returned (.int .u32 (lowA x)) ∧ Below w.heap.size w w' := by
  have d1 := Lib.hid (fun W1 : World => hashRight7 x hx W1)
  have d2 := Lib.hid (fun W1 : World => hashRight18 x hx W1)
  obtain ⟨x0, x1⟩ := hx
  have hB : Below w.heap.size w w := Below.refl _ _
  go_enter Tryd.func46, Tryd.ntmps46
  go_wp2_with (go_at_call 44; first
    | (with_reducible refine (d1.out _).mono ?_; rintro e' w1 ⟨rfl, hb⟩; replace hB := below_then hB hb; clear hb)
    | (with_reducible refine (d2.out _).mono ?_; rintro e' w1 ⟨rfl, hb⟩; replace hB := below_then hB hb; clear hb))
  go_ret
  exact ⟨rfl, hB⟩
set_option maxRecDepth 200000 in
set_option maxHeartbeats 8000000 in
theorem hashMixB (x : Int) (hx : U32 x) (w : World) : Calls Tryd.prog 45 #[.int .u32 x] w fun e w' => e = .returned (.int .u32 (lowB x)) ∧ Below w.heap.size w w' := by
  have d1 := Lib.hid (fun W1 : World => hashRight17 x hx W1)
  have d2 := Lib.hid (fun W1 : World => hashRight19 x hx W1)
  obtain ⟨x0, x1⟩ := hx
  have hB : Below w.heap.size w w := Below.refl _ _
  go_enter Tryd.func45, Tryd.ntmps45
  go_wp2_with (go_at_call 44; first
    | (with_reducible refine (d1.out _).mono ?_; rintro e' w1 ⟨rfl, hb⟩; replace hB := below_then hB hb; clear hb)
    | (with_reducible refine (d2.out _).mono ?_; rintro e' w1 ⟨rfl, hb⟩; replace hB := below_then hB hb; clear hb))
  go_ret
  exact ⟨rfl, hB⟩

end Go.Proofs.YtmhehnimgkmmaaaDoor
