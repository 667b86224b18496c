/- Single steps, shifts, ways, middles and degrees: of the program, and of the document's answers. -/
import Derived.Test.YtneljefoglmldaaDoorFixP
import Derived.Test.YtneljefoglmldaaDoorTurnMath
import Derived.Deep.RegionHeld3
import Derived.OwnWalk
namespace Go.Proofs.YtneljefoglmldaaDoor
open Go.RowKit
set_option linter.unusedVariables false
attribute [local go_sem] cell_re eqW_self
attribute [local go_sem ↓] run_eqlW run_neqW

theorem half_steps {x : Int} : (0 ≤ x ∧ x.tmod 2 = x % 2 ∧ x.tdiv 2 = x / 2) ∨ (x < 0 ∧ x.tmod 2 = -1 ∧ x.tdiv 2 = x / 2 + 1) ∨ (x < 0 ∧ x.tmod 2 = 0 ∧ x.tdiv 2 = x / 2) := by
  rcases Int.lt_or_le x 0 with h | h
  · have e1 : x.tdiv 2 = -((-x) / 2) := by
      rw [show x = -(-x) by omega, Int.neg_tdiv, Int.tdiv_eq_ediv_of_nonneg (by omega)]; omega
    have e2 := Int.tmod_add_mul_tdiv x 2
    omega
  · exact Or.inl ⟨h, Int.tmod_eq_emod_of_nonneg h, Int.tdiv_eq_ediv_of_nonneg h⟩
theorem over_next (a : Int) (k : Nat) : a / 2 ^ (k + 1) = a / 2 ^ k / 2 := by
  rw [Int.pow_succ, Int.ediv_ediv_of_nonneg (Int.le_of_lt (two_pow_pos k))]
theorem half_over {a : Int} (ha : Half a) (k : Nat) : Half (a / 2 ^ k) := by
  induction k with
  | zero => simpa using ha
  | succ k ih => rw [over_next]; unfold Half at *; omega
set_option maxHeartbeats 1000000 in
theorem ref5Over (a : Int) (i : Nat) (ha : Half a) (hi : i ≤ 64) (w : World) :
    Calls Tryd.prog 29 #[.int .i64 a, .int .i64 i] w fun e w' => e = .returned (.int .i64 (a / 2 ^ i)) ∧ w = w' := by
  go_enter Tryd.func29, Tryd.ntmps29
  go_wp2
  go_loop [0, 5] (fun v j => ∃ (k : Nat) (x : Int), k ≤ i ∧ j = .int .i64 k ∧ v = .int .i64 x ∧ Hid (a / 2 ^ k = x)) (fun _ j => i - (intOf j).toNat)
  case atStart => exact ⟨0, a, Nat.zero_le _, rfl, rfl, Lib.hid (by simp)⟩
  case round =>
    obtain ⟨k, x, hk, rfl, rfl, hx⟩ := hrel
    by_cases hlt : k < i
    · have hh := half_over ha k
      rw [hx.out] at hh
      obtain ⟨x0, x1⟩ := hh
      have hn := over_next a k
      rw [hx.out] at hn
      replace hn := Lib.hid hn
      clear hx
      rcases @half_steps x with ⟨c0, c1, c2⟩ | ⟨c0, c1, c2⟩ | ⟨c0, c1, c2⟩
      · clear c1 c2
        have c3 : 0 ≤ x % 2 := by omega
        go_wp2
        go_round
        case rel => exact ⟨k + 1, x / 2, by omega, by go_num, rfl, hn⟩
        case measure => simp [intOf]; omega
      · have c3 : -9223372036854775808 ≤ x / 2 := by omega
        have c4 : x / 2 ≤ 9223372036854775806 := by omega
        obtain ⟨y, hy⟩ : ∃ y, Hid (x / 2 = y) := ⟨_, rfl⟩
        rw [hy.out] at c2 c3 c4
        go_wp2
        go_round
        case rel => exact ⟨k + 1, y, by omega, by go_num, by go_num, Lib.hid (hn.out.trans hy.out)⟩
        case measure => simp [intOf]; omega
      · have c3 : -9223372036854775808 ≤ x / 2 := by omega
        have c4 : x / 2 ≤ 9223372036854775806 := by omega
        obtain ⟨y, hy⟩ : ∃ y, Hid (x / 2 = y) := ⟨_, rfl⟩
        rw [hy.out] at c2 c3 c4
        go_wp2
        go_round
        case rel => exact ⟨k + 1, y, by omega, by go_num, by go_num, Lib.hid (hn.out.trans hy.out)⟩
        case measure => simp [intOf]; omega
    · obtain rfl : k = i := by omega
      go_wp2
      go_ret
      exact ⟨retI hx.out.symm, rfl⟩

theorem ref5Half (a : Int) (ha : Half a) (w : World) :
    Calls Tryd.prog 29 #[.int .i64 a, .int .i64 1] w fun e w' => e = .returned (.int .i64 (a / 2)) ∧ w = w' :=
  ref5Over a 1 ha (by decide) w
/-- The shorter way from a to b. -/
def way (a b : Int) : Int := (b - a + 2147483648) % 4294967296 - 2147483648
def Word32 (a : Int) : Prop := 0 ≤ a ∧ a ≤ 4294967295
theorem way_bd (a b : Int) : -2147483648 ≤ way a b ∧ way a b ≤ 2147483647 := by unfold way; omega
def mid (a b : Int) : Int := (a + way a b / 2) % 4294967296
def degs (a : Int) : Int := (a * 360 + 2147483648) / 4294967296 % 360
set_option maxHeartbeats 400000 in
theorem turnWay (a b : Int) (ha : Word32 a) (hb : Word32 b) (w : World) :
    Calls Tryd.prog 15 #[.int .u32 a, .int .u32 b] w fun e w' => e = .returned (.int .i32 (way a b)) ∧ Below w.heap.size w w' := by
  obtain ⟨a0, a1⟩ := ha
  obtain ⟨b0, b1⟩ := hb
  go_enter Tryd.func15, Tryd.ntmps15
  go_wp2
  go_ret
  exact ⟨retI (by unfold way wrap32; omega), by go_grown⟩
set_option maxHeartbeats 400000 in
theorem turnMid (a b : Int) (ha : Word32 a) (hb : Word32 b) (w : World) :
    Calls Tryd.prog 17 #[.int .u32 a, .int .u32 b] w fun e w' => e = .returned (.int .u32 (mid a b)) ∧ Below w.heap.size w w' := by
  have d := turnWay a b ha hb
  have bd := way_bd a b
  obtain ⟨a0, a1⟩ := ha
  obtain ⟨b0, b1⟩ := hb
  unfold mid
  generalize way a b = v at *
  obtain ⟨v0, v1⟩ := bd
  replace d := Lib.hid d
  go_enter Tryd.func17, Tryd.ntmps17
  go_wp2_with (go_at_call 15; refine (chain (w0 := w) (by go_grown) (by with_reducible exact d.out _)).mono ?_; rintro e w' ⟨rfl, ht⟩; have hs := ht.size)
  go_ret
  exact ⟨retI (by omega), by go_grown⟩
set_option maxHeartbeats 400000 in
theorem turnDegrees (a : Int) (ha : Word32 a) (w : World) :
    Calls Tryd.prog 19 #[.int .u32 a] w fun e w' => e = .returned (.int .i64 (degs a)) ∧ Below w.heap.size w w' := by
  obtain ⟨a0, a1⟩ := ha
  go_enter Tryd.func19, Tryd.ntmps19
  go_wp2
  go_ret
  exact ⟨retI (by unfold degs; omega), by go_grown⟩
set_option maxHeartbeats 400000 in
theorem ref5Degrees (a : Int) (ha : Word32 a) (w : World) :
    Calls Tryd.prog 20 #[.int .u32 a] w fun e w' => e = .returned (.int .i64 (degs a)) ∧ Below w.heap.size w w' := by
  obtain ⟨a0, a1⟩ := ha
  go_enter Tryd.func20, Tryd.ntmps20
  go_wp2
  go_ret
  exact ⟨retI (by unfold degs; omega), by go_grown⟩
set_option maxHeartbeats 400000 in
theorem ref5Way (a b : Int) (ha : Word32 a) (hb : Word32 b) (w : World) :
    Calls Tryd.prog 16 #[.int .u32 a, .int .u32 b] w fun e w' => e = .returned (.int .i32 (way a b)) ∧ Below w.heap.size w w' := by
  obtain ⟨a0, a1⟩ := ha
  obtain ⟨b0, b1⟩ := hb
  rcases (by omega : (2147483648 ≤ b - a ∧ -2147483648 ≤ b - a - 4294967296) ∨ (¬ 2147483648 ≤ b - a ∧ ¬ b - a < -2147483648) ∨ (¬ 2147483648 ≤ b - a ∧ b - a < -2147483648)) with ⟨h1, h2⟩ | ⟨h1, h2⟩ | ⟨h1, h2⟩
  all_goals
    go_enter Tryd.func16, Tryd.ntmps16
    go_wp2
    go_ret
    exact ⟨retI (by unfold way; omega), by go_grown⟩

end Go.Proofs.YtneljefoglmldaaDoor
