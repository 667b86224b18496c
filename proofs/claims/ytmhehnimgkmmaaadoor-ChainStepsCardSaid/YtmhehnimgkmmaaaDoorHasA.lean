/- Words turned and mixed, in the program. -/
import Derived.Test.YtmhehnimgkmmaaaDoorHashMath
import Derived.Test.YtmhehnimgkmmaaaDoorLists
import Derived.Test.YtmhehnimgkmmaaaDoorApp
import Derived.Deep.RegionHeld3
import Derived.Deep.DeepCutAuto
import Derived.IntWalk
namespace Go.Proofs.YtmhehnimgkmmaaaDoor
set_option maxRecDepth 100000
open Go.RowKit
set_option linter.unusedVariables false
attribute [local go_sem] cell_re

set_option maxRecDepth 200000 in
set_option maxHeartbeats 8000000 in
theorem hashRight2 (x : Int) (hx : U32 x) (w : World) : Calls Tryd.prog 44 #[.int .u32 x, .int .i64 2] w fun e w' => e = .returned (.int .u32 (rot 2 x)) ∧ Below w.heap.size w w' := by
  have hk : Hid (_ = rot 2 x) := (rot_or (n := 2) (by decide) (by decide) hx).1
  obtain ⟨x0, x1⟩ := hx
  go_enter Tryd.func44, Tryd.ntmps44
  go_wp2
  go_region
  all_goals
    go_wp2
    go_ret
    exact ⟨by rw [← hk.out]; rfl, by go_grown⟩
set_option maxRecDepth 200000 in
set_option maxHeartbeats 8000000 in
theorem hashRight6 (x : Int) (hx : U32 x) (w : World) : Calls Tryd.prog 44 #[.int .u32 x, .int .i64 6] w fun e w' => e = .returned (.int .u32 (rot 6 x)) ∧ Below w.heap.size w w' := by
  have hk : Hid (_ = rot 6 x) := (rot_or (n := 6) (by decide) (by decide) hx).1
  obtain ⟨x0, x1⟩ := hx
  go_enter Tryd.func44, Tryd.ntmps44
  go_wp2
  go_region
  all_goals
    go_wp2
    go_ret
    exact ⟨by rw [← hk.out]; rfl, by go_grown⟩
set_option maxRecDepth 200000 in
set_option maxHeartbeats 8000000 in
theorem hashRight7 (x : Int) (hx : U32 x) (w : World) : Calls Tryd.prog 44 #[.int .u32 x, .int .i64 7] w fun e w' => e = .returned (.int .u32 (rot 7 x)) ∧ Below w.heap.size w w' := by
  have hk : Hid (_ = rot 7 x) := (rot_or (n := 7) (by decide) (by decide) hx).1
  obtain ⟨x0, x1⟩ := hx
  go_enter Tryd.func44, Tryd.ntmps44
  go_wp2
  go_region
  all_goals
    go_wp2
    go_ret
    exact ⟨by rw [← hk.out]; rfl, by go_grown⟩
set_option maxRecDepth 200000 in
set_option maxHeartbeats 8000000 in
theorem hashRight11 (x : Int) (hx : U32 x) (w : World) : Calls Tryd.prog 44 #[.int .u32 x, .int .i64 11] w fun e w' => e = .returned (.int .u32 (rot 11 x)) ∧ Below w.heap.size w w' := by
  have hk : Hid (_ = rot 11 x) := (rot_or (n := 11) (by decide) (by decide) hx).1
  obtain ⟨x0, x1⟩ := hx
  go_enter Tryd.func44, Tryd.ntmps44
  go_wp2
  go_region
  all_goals
    go_wp2
    go_ret
    exact ⟨by rw [← hk.out]; rfl, by go_grown⟩
set_option maxRecDepth 200000 in
set_option maxHeartbeats 8000000 in
theorem hashRight13 (x : Int) (hx : U32 x) (w : World) : Calls Tryd.prog 44 #[.int .u32 x, .int .i64 13] w fun e w' => e = .returned (.int .u32 (rot 13 x)) ∧ Below w.heap.size w w' := by
  have hk : Hid (_ = rot 13 x) := (rot_or (n := 13) (by decide) (by decide) hx).1
  obtain ⟨x0, x1⟩ := hx
  go_enter Tryd.func44, Tryd.ntmps44
  go_wp2
  go_region
  all_goals
    go_wp2
    go_ret
    exact ⟨by rw [← hk.out]; rfl, by go_grown⟩
set_option maxRecDepth 200000 in
set_option maxHeartbeats 8000000 in
theorem hashRight17 (x : Int) (hx : U32 x) (w : World) : Calls Tryd.prog 44 #[.int .u32 x, .int .i64 17] w fun e w' => e = .returned (.int .u32 (rot 17 x)) ∧ Below w.heap.size w w' := by
  have hk : Hid (_ = rot 17 x) := (rot_or (n := 17) (by decide) (by decide) hx).1
  obtain ⟨x0, x1⟩ := hx
  go_enter Tryd.func44, Tryd.ntmps44
  go_wp2
  go_region
  all_goals
    go_wp2
    go_ret
    exact ⟨by rw [← hk.out]; rfl, by go_grown⟩
set_option maxRecDepth 200000 in
set_option maxHeartbeats 8000000 in
theorem hashRight18 (x : Int) (hx : U32 x) (w : World) : Calls Tryd.prog 44 #[.int .u32 x, .int .i64 18] w fun e w' => e = .returned (.int .u32 (rot 18 x)) ∧ Below w.heap.size w w' := by
  have hk : Hid (_ = rot 18 x) := (rot_or (n := 18) (by decide) (by decide) hx).1
  obtain ⟨x0, x1⟩ := hx
  go_enter Tryd.func44, Tryd.ntmps44
  go_wp2
  go_region
  all_goals
    go_wp2
    go_ret
    exact ⟨by rw [← hk.out]; rfl, by go_grown⟩
set_option maxRecDepth 200000 in
set_option maxHeartbeats 8000000 in
theorem hashRight19 (x : Int) (hx : U32 x) (w : World) : Calls Tryd.prog 44 #[.int .u32 x, .int .i64 19] w fun e w' => e = .returned (.int .u32 (rot 19 x)) ∧ Below w.heap.size w w' := by
  have hk : Hid (_ = rot 19 x) := (rot_or (n := 19) (by decide) (by decide) hx).1
  obtain ⟨x0, x1⟩ := hx
  go_enter Tryd.func44, Tryd.ntmps44
  go_wp2
  go_region
  all_goals
    go_wp2
    go_ret
    exact ⟨by rw [← hk.out]; rfl, by go_grown⟩
set_option maxRecDepth 200000 in
set_option maxHeartbeats 8000000 in
theorem hashRight22 (x : Int) (hx : U32 x) (w : World) : Calls Tryd.prog 44 #[.int .u32 x, .int .i64 22] w fun e w' => e = .returned (.int .u32 (rot 22 x)) ∧ Below w.heap.size w w' := by
  have hk : Hid (_ = rot 22 x) := (rot_or (n := 22) (by decide) (by decide) hx).1
  obtain ⟨x0, x1⟩ := hx
  go_enter Tryd.func44, Tryd.ntmps44
  go_wp2
  go_region
  all_goals
    go_wp2
    go_ret
    exact ⟨by rw [← hk.out]; rfl, by go_grown⟩
set_option maxRecDepth 200000 in
set_option maxHeartbeats 8000000 in
theorem hashRight25 (x : Int) (hx : U32 x) (w : World) : Calls Tryd.prog 44 #[.int .u32 x, .int .i64 25] w fun e w' => e = .returned (.int .u32 (rot 25 x)) ∧ Below w.heap.size w w' := by
  have hk : Hid (_ = rot 25 x) := (rot_or (n := 25) (by decide) (by decide) hx).1
  obtain ⟨x0, x1⟩ := hx
  go_enter Tryd.func44, Tryd.ntmps44
  go_wp2
  go_region
  all_goals
    go_wp2
    go_ret
    exact ⟨by rw [← hk.out]; rfl, by go_grown⟩

end Go.Proofs.YtmhehnimgkmmaaaDoor
