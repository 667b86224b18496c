/- The same, with calls and shifts. -/
import Derived.Test.YtneljefoglmldaaDoorTurnP
import Derived.Deep.QuietTactic
import Derived.BigQuiet
namespace Go.Proofs.YtneljefoglmldaaDoor
open Go.RowKit
set_option linter.unusedVariables false
attribute [local go_sem] cell_re eqW_self
attribute [local go_sem ↓] run_eqlW run_neqW

theorem half_way (a b : Int) : Half (way a b) := by have := way_bd a b; unfold Half; omega
set_option maxHeartbeats 400000 in
theorem ref5Mid (a b : Int) (ha : Word32 a) (hb : Word32 b) (w : World) :
    Calls Tryd.prog 18 #[.int .u32 a, .int .u32 b] w fun e w' => e = .returned (.int .u32 (mid a b)) ∧ Below w.heap.size w w' := by
  have d := ref5Way a b ha hb
  have bd := way_bd a b
  have hv := half_way a b
  obtain ⟨a0, a1⟩ := ha
  obtain ⟨b0, b1⟩ := hb
  unfold mid
  generalize way a b = v at *
  obtain ⟨v0, v1⟩ := bd
  replace d := Lib.hid d
  have d2 := Lib.hid (ref5Over v 1 hv (by decide))
  clear hv
  rw [show (2 : Int) ^ 1 = 2 from rfl] at d2
  have v2 : -2147483648 ≤ v / 2 := by omega
  have v3 : v / 2 ≤ 2147483647 := by omega
  generalize v / 2 = u at *
  go_enter Tryd.func18, Tryd.ntmps18
  go_wp2_with (first | (go_at_call 16; refine (chain (w0 := w) (by go_grown) (by with_reducible exact d.out _)).mono ?_; rintro e w' ⟨rfl, ht⟩; have hs := ht.size) | (go_at_call 29; refine (d2.out _).mono ?_; rintro e w' ⟨rfl, rfl⟩))
  go_ret
  exact ⟨retI (by omega), by go_grown⟩
set_option maxHeartbeats 400000 in
theorem law5Near (a b n : Int) (ha : Word32 a) (hb : Word32 b) (h0 : 0 ≤ n) (h1 : n ≤ 2147483647) (h2 : way b a ≤ n) (h3 : -n ≤ way b a) (w : World) :
    Calls Tryd.prog 27 #[.int .u32 a, .int .u32 b, .int .i32 n] w fun e w' => e = .returned (.bool true) ∧ Below w.heap.size w w' := by
  obtain ⟨a0, a1⟩ := ha
  obtain ⟨b0, b1⟩ := hb
  have e : wrap32 ((a - b) % 4294967296) = way b a := by unfold way wrap32; omega
  replace e := Lib.hid e
  generalize way b a = v at *
  have e2 := e.out
  clear e
  go_enter Tryd.func27, Tryd.ntmps27
  go_wp2
  go_ret
  exact ⟨rfl, by go_grown⟩
set_option maxHeartbeats 400000 in
theorem ref5Bare (a : Int) (ha : Half a) (w : World) :
    Calls Tryd.prog 37 #[.int .i64 a] w fun e w' => e = .returned (.int .u64 (if a < 0 then -a else a)) ∧ w = w' := by
  obtain ⟨a0, a1⟩ := ha
  by_cases h : a < 0
  · rw [if_pos h]
    go_enter Tryd.func37, Tryd.ntmps37
    go_wp2
    go_ret
    exact ⟨retI (by omega), rfl⟩
  · rw [if_neg h]
    have h' : 0 ≤ a := by omega
    go_enter Tryd.func37, Tryd.ntmps37
    go_wp2
    go_ret
    exact ⟨retI (by omega), rfl⟩
/-- The opposite, of the least number the greatest. -/
def oppo (a : Int) : Int := min (-a) 9223372036854775807
set_option maxHeartbeats 400000 in
theorem ref5Opposite (a : Int) (ha : Half a) (w : World) :
    Calls Tryd.prog 36 #[.int .i64 a] w fun e w' => e = .returned (.int .i64 (oppo a)) ∧ w = w' := by
  obtain ⟨a0, a1⟩ := ha
  unfold oppo
  by_cases h : a = -9223372036854775808
  · subst h
    go_enter Tryd.func36, Tryd.ntmps36
    go_wp2
    go_ret
    exact ⟨retI (by omega), rfl⟩
  · have h0 : -9223372036854775807 ≤ a := by omega
    have h1 := decide_eq_false h
    clear a0
    go_enter Tryd.func36, Tryd.ntmps36
    go_wp2
    go_ret
    exact ⟨retI (by omega), rfl⟩
set_option maxHeartbeats 400000 in
theorem ref5Clamp (a : Int) (h0 : 1 ≤ a) (h1 : a ≤ 9223372036854775807) (w : World) :
    Calls Tryd.prog 31 #[.int .i64 a] w fun e w' => e = .returned (.int .i64 (min a 4294967296)) ∧ w = w' := by
  rcases Int.lt_or_le 4294967296 a with h | h
  · rw [show min a 4294967296 = 4294967296 by omega]
    go_enter Tryd.func31, Tryd.ntmps31
    go_wp2
    all_goals
      go_ret
      exact ⟨retI (by omega), rfl⟩
  · rw [show min a 4294967296 = a by omega]
    go_enter Tryd.func31, Tryd.ntmps31
    go_wp2
    all_goals
      go_ret
      exact ⟨retI (by omega), rfl⟩
theorem drewN_below (w : World) (n : Nat) : Below w.heap.size w (w.drewN n) := ⟨rfl, rfl, rfl, Nat.le_refl _, fun _ _ => rfl⟩
set_option maxHeartbeats 400000 in
theorem turnOneWay (x y : Int) (i : Nat) (hx : Half x) (hy : Half y) (hi : i < 30) (h1 : Half (x - y / 2 ^ i)) (h2 : Half (y + x / 2 ^ i)) (w : World) :
    Calls Tryd.prog 35 #[.int .i64 x, .int .i64 y, .int .i64 i] w fun e w' => e = .returned (.tuple #[.int .i64 (x - y / 2 ^ i), .int .i64 (y + x / 2 ^ i)]) ∧ Below w.heap.size w w' := by
  obtain ⟨x0, x1⟩ := hx
  obtain ⟨y0, y1⟩ := hy
  obtain ⟨h3, h4⟩ := h1
  obtain ⟨h5, h6⟩ := h2
  go_enter Tryd.func35, Tryd.ntmps35
  go_wp2
  go_quiet (fail)
  go_wp2
  go_ret2
  exact ⟨rfl, drewN_below _ _⟩
set_option maxHeartbeats 400000 in
theorem turnOtherWay (x y : Int) (i : Nat) (hx : Half x) (hy : Half y) (hi : i < 30) (h1 : Half (x + y / 2 ^ i)) (h2 : Half (y - x / 2 ^ i)) (w : World) :
    Calls Tryd.prog 34 #[.int .i64 x, .int .i64 y, .int .i64 i] w fun e w' => e = .returned (.tuple #[.int .i64 (x + y / 2 ^ i), .int .i64 (y - x / 2 ^ i)]) ∧ Below w.heap.size w w' := by
  obtain ⟨x0, x1⟩ := hx
  obtain ⟨y0, y1⟩ := hy
  obtain ⟨h3, h4⟩ := h1
  obtain ⟨h5, h6⟩ := h2
  go_enter Tryd.func34, Tryd.ntmps34
  go_wp2
  go_quiet (fail)
  go_wp2
  go_ret2
  exact ⟨rfl, drewN_below _ _⟩
/-- The greater one of both, without signs. -/
def grt (x y : Int) : Int := max x (if y < 0 then -y else y)
set_option maxHeartbeats 1000000 in
theorem turnGreater (x y : Int) (hx : 0 ≤ x ∧ x ≤ 9223372036854775807) (hy : Half y) (w : World) :
    Calls Tryd.prog 46 #[.int .i64 x, .int .i64 y] w fun e w' => e = .returned (.int .i64 (min (grt x y) 9223372036854775807)) ∧ Below w.heap.size w w' := by
  have d := fixAbs y hy
  have hab : Half (clipped (if y < 0 then -y else y)) ∧ min (grt x y) 9223372036854775807 = max x (clipped (if y < 0 then -y else y)) := by
    unfold Half at *
    unfold grt clipped
    constructor
    · constructor <;> (split <;> omega)
    · split <;> omega
  rw [hab.2]
  replace hab := hab.1
  obtain ⟨h0, h1⟩ := hx
  obtain ⟨h2, h3⟩ := hab
  obtain ⟨z, c, hz⟩ : ∃ z c, Hid (sat (if y < 0 then -y else y) = .tuple #[.int .i64 z, .bool c] ∧ clipped (if y < 0 then -y else y) = z) := ⟨_, _, Lib.hid ⟨rfl, rfl⟩⟩
  rw [hz.out.2] at h2 h3 ⊢
  have d2 : Hid (∀ w, Calls Tryd.prog 50 #[.int .i64 y] w fun e w' => e = .returned (.tuple #[.int .i64 z, .bool c]) ∧ Below w.heap.size w w') := by
    rw [← hz.out.1]; exact d
  clear hz d
  rcases Int.lt_or_le x z with h | h
  · rw [show max x z = z by omega]
    go_enter Tryd.func46, Tryd.ntmps46
    go_wp2_with (go_at_call 50; refine (chain (w0 := w) (by go_grown) (by with_reducible exact d2.out _)).mono ?_; rintro e w' ⟨rfl, ht⟩; have hs := ht.size)
    all_goals
      go_ret
      exact ⟨retI (by omega), by go_grown⟩
  · rw [show max x z = x by omega]
    go_enter Tryd.func46, Tryd.ntmps46
    go_wp2_with (go_at_call 50; refine (chain (w0 := w) (by go_grown) (by with_reducible exact d2.out _)).mono ?_; rintro e w' ⟨rfl, ht⟩; have hs := ht.size)
    all_goals
      go_ret
      exact ⟨retI (by omega), by go_grown⟩

end Go.Proofs.YtneljefoglmldaaDoor
