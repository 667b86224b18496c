/- Words turned and shifted, in the document's answers. -/
import Derived.Test.YtmhehnimgkmmaaaDoorHashMath
import Derived.Test.YtmhehnimgkmmaaaDoorLists
import Derived.Test.YtmhehnimgkmmaaaDoorApp
import Derived.Deep.RegionHeld3
import Derived.Deep.DeepCutAuto
namespace Go.Proofs.YtmhehnimgkmmaaaDoor
set_option maxRecDepth 100000
open Go.RowKit
set_option linter.unusedVariables false
attribute [local go_sem] cell_re

set_option maxRecDepth 100000 in
set_option maxHeartbeats 1000000 in
theorem ref8Right (n : Nat) (hn : n ≤ 32) (x : Int) (hx : U32 x) (w : World) :
    Calls Tryd.prog 39 #[.int .u32 x, .int .i64 n] w fun e w' => e = .returned (.int .u32 (rot n x)) ∧ w = w' := by
  have hX := Lib.hid hx
  have hN := Lib.hid hn
  clear hn hx
  go_enter Tryd.func39, Tryd.ntmps39
  go_wp2
  go_loop [0, 5] (fun v i => ∃ (k : Nat) (y : Int), k ≤ n ∧ i = .int .i64 k ∧ v = .int .u32 y ∧ 0 ≤ y ∧ y ≤ 4294967295 ∧ Hid (y = rot k x)) (fun _ i => n - (intOf i).toNat)
  case atStart => exact ⟨0, x, Nat.zero_le _, rfl, rfl, hX.out.1, hX.out.2, Lib.hid rfl⟩
  case round =>
    obtain ⟨k, y, hk, rfl, rfl, y0, y1, hy⟩ := hrel
    by_cases hlt : k < n
    · have j1 : (k : Int) < (n : Int) := by omega
      have j2 : (k : Int) ≤ 32 := by have := hN.out; omega
      have e1 : Hid (y / 2 + y % 2 * 2147483648 = rot (k + 1) x) := by show _ = _; rw [rot_succ, ← hy.out]; rfl
      go_wp2
      go_round
      case rel => exact ⟨k + 1, y / 2 + y % 2 * 2147483648, by omega, by go_num, by go_num, by omega, by omega, e1⟩
      case measure => simp [intOf]; omega
    · obtain rfl : k = n := by omega
      go_wp2
      go_ret
      exact ⟨by rw [hy.out]; rfl, rfl⟩

set_option maxRecDepth 100000 in
set_option maxHeartbeats 1000000 in
theorem ref8Down (n : Nat) (hn : n ≤ 32) (x : Int) (hx : U32 x) (w : World) :
    Calls Tryd.prog 40 #[.int .u32 x, .int .i64 n] w fun e w' => e = .returned (.int .u32 (x / 2 ^ n)) ∧ w = w' := by
  have hX := Lib.hid hx
  have hN := Lib.hid hn
  clear hn hx
  go_enter Tryd.func40, Tryd.ntmps40
  go_wp2
  go_loop [0, 5] (fun v i => ∃ (k : Nat) (y : Int), k ≤ n ∧ i = .int .i64 k ∧ v = .int .u32 y ∧ 0 ≤ y ∧ y ≤ 4294967295 ∧ Hid (y = down k x)) (fun _ i => n - (intOf i).toNat)
  case atStart => exact ⟨0, x, Nat.zero_le _, rfl, rfl, hX.out.1, hX.out.2, Lib.hid rfl⟩
  case round =>
    obtain ⟨k, y, hk, rfl, rfl, y0, y1, hy⟩ := hrel
    by_cases hlt : k < n
    · have j1 : (k : Int) < (n : Int) := by omega
      have j2 : (k : Int) ≤ 32 := by have := hN.out; omega
      have e1 : Hid (y / 2 = down (k + 1) x) := by show _ = _; rw [down_succ, ← hy.out]
      go_wp2
      go_round
      case rel => exact ⟨k + 1, y / 2, by omega, by go_num, by go_num, by omega, by omega, e1⟩
      case measure => simp [intOf]; omega
    · obtain rfl : k = n := by omega
      go_wp2
      go_ret
      exact ⟨by rw [hy.out, down_is]; rfl, rfl⟩

end Go.Proofs.YtmhehnimgkmmaaaDoor
