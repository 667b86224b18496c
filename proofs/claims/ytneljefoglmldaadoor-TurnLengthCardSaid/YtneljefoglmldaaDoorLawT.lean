/- What a row that lists the table of the steps gives its walk; and the examples that each statement asks for. -/
import Derived.Test.YtneljefoglmldaaDoorRows
import Derived.Test.YtneljefoglmldaaDoorLawK
import Derived.Test.YtneljefoglmldaaDoorTurnFacts
import Derived.Test.YtneljefoglmldaaDoorTurnU
import Derived.Test.YtneljefoglmldaaDoorTurnT
import Derived.Test.YtneljefoglmldaaDoorTurnV
import Derived.Lib.LaidTab
import Derived.LaidMore
import Derived.MakeChecks
import Derived.LaidHandle
namespace Go.Proofs.YtneljefoglmldaaDoor
open Go.RowKit
set_option linter.unusedVariables false
attribute [local go_sem] cell_re eqW_self
attribute [local go_sem ↓] run_eqlW run_neqW

theorem word32_of_wf {n : Int} (h : (Lit.int .u32 n).wf = true) : 0 ≤ n ∧ n ≤ 4294967295 := by
  simp [Lit.wf, IntKind.min, IntKind.max, IntKind.signed, IntKind.bits] at h
  exact ⟨by omega, by omega⟩
/-- What the rows list. -/
def laidT : List (String × DataW Unit) := [("pelorus/turn.steps", Rows.laid_pelorus_turn_steps)]
theorem door_met (os : Os) (args : Array Value) : laidMetH Tryd.prog laidT ((World.doorLaid Tryd.prog 400 os).forCall (fun _ _ => 0) ⟨#[], args, []⟩).memory :=
  laidMetH_of_parts3 (fuel := 8) (laidMet_of_run' 8 (by kernel_rfl) (by kernel_rfl)) (by kernel_rfl) (by kernel_rfl)
theorem gSteps : Tryd.prog.globalNamed "pelorus/turn.steps" = some 0 := by kernel_rfl
theorem tSteps : (Tryd.prog.globals[0]?).map (·.type) = some 52 := by kernel_rfl
theorem steps_of_laid {W : World} (h : laidMetH Tryd.prog laidT W) : Steps W := by
  rw [MakeChecks.laidMetH_plain _ _ _ (by kernel_rfl)] at h
  have h' : laidMet Tryd.prog [("pelorus/turn.steps", Lib.tabData .u32 angles)] W := h
  have ht := Lib.tabIs_of_head gSteps tSteps Tryd.underlying52 Tryd.underlying22 (by kernel_rfl) (by kernel_rfl) h'
  unfold Lib.TabIs World.var? at ht
  rw [gSteps] at ht
  simp only [Option.bind_some] at ht
  split at ht
  · rename_i cs t fr hc
    have e := Option.some.inj ht
    subst e
    exact ⟨t, fr, hc⟩
  · cases ht
set_option maxHeartbeats 1000000 in
theorem works (w : World) (hS : Steps w) : Calls Tryd.prog 12 #[] w fun e w' => e = .returned (.bool true) ∧ Below w.heap.size w w' := by
  obtain ⟨k1, k2, k3, k4, k5⟩ := works_nums
  have hab := angA_bd 4294967296 4294967296
  have d1 := Lib.hid (fun (W1 : World) (h : Steps W1) => turnBoth 0 (by unfold Word32; omega) W1 h)
  have d2 := Lib.hid (fun (W1 : World) (h : Steps W1) => turnAngle 4294967296 4294967296 (by unfold Half; omega) (by unfold Half; omega) W1 h)
  have d3 := Lib.hid (fun (W1 : World) => law5Near (angA 4294967296 4294967296) 536870912 256 hab (by unfold Word32; omega) (by omega) (by omega) k4 k3 W1)
  have d4 := Lib.hid (fun (W1 : World) => turnWay 1 0 (by unfold Word32; omega) (by unfold Word32; omega) W1)
  rw [k5] at d4
  obtain ⟨b0, b1⟩ := cosA_bd 0 (by unfold Word32; omega)
  generalize cosA 0 = c at *
  generalize sinA 0 = s at *
  generalize angA 4294967296 4294967296 = x at *
  obtain ⟨x0, x1⟩ := hab
  clear k3 k4 k5
  have hB : Below w.heap.size w w := Below.refl _ _
  go_enter Tryd.func12, Tryd.ntmps12
  go_wp2_with (first
    | (go_at_call 10; refine (d1.out _ hS).mono ?_; rintro e w1 ⟨rfl, hb⟩; replace hS := hS.call hb; replace hB := below_then hB hb; clear hb)
    | (go_at_call 13; refine (d2.out _ hS).mono ?_; rintro e w1 ⟨rfl, hb⟩; replace hS := hS.call hb; replace hB := below_then hB hb; clear hb)
    | (go_at_call 27; refine (d3.out _).mono ?_; rintro e w1 ⟨rfl, hb⟩; replace hS := hS.call hb; replace hB := below_then hB hb; clear hb)
    | (go_at_call 15; refine (d4.out _).mono ?_; rintro e w1 ⟨rfl, hb⟩; replace hS := hS.call hb; replace hB := below_then hB hb; clear hb))
  go_ret
  exact ⟨rfl, hB⟩

end Go.Proofs.YtneljefoglmldaaDoor
