import Derived.Test.YtodfcbpcgcgijaaGreatDoorJC
import Derived.Test.YtodfcbpcgcgijaaGreatDoorJA
import Derived.Test.YtodfcbpcgcgijaaGreatDoorJD
import Derived.Deep.RegionHeld3
import Derived.OwnWalk
import Derived.Deep.QuietTactic
import Derived.BigQuiet
import Derived.Laws.Rows
/- What the calls of package fix answer, each for every number that its parameters can hold. -/
namespace Go.Proofs.YtodfcbpcgcgijaaGreatDoor
set_option maxRecDepth 100000
open Go.RowKit
attribute [local go_sem] cell_re eqW_self
attribute [local go_sem ↓] run_eqlW run_neqW

set_option maxHeartbeats 400000 in
theorem fixWiden (a : Int) (ha : Half a) (w : World) :
    Calls Tryz.prog 69 #[.int .i64 a] w fun e w' => e = .returned (W a) ∧ Below w.heap.size w w' := by
  go_enter Tryz.func69, Tryz.ntmps69
  go_wp2_with ((go_at_call 97; refine (wideOf a ha _).mono ?_; rintro e w' ⟨rfl, hb⟩; obtain ⟨hc, hf⟩ := bcell hb; have hz := hb.size; have ht := (Below.trans (by go_grown) (hb.mono (by simp; try omega)) : Below w.heap.size w w')))
  refine bodyPost_ret (by simp [results, Tryz.results69, go_sem, hc]; try rfl) rfl ?_
  exact ⟨rfl, by go_grown⟩

set_option maxHeartbeats 1000000 in
theorem fixSat (a : Int) (ha : Fits a) (w : World) :
    Calls Tryz.prog 71 #[W a] w fun e w' => e = .returned (sat a) ∧ Below w.heap.size w w' := by
  go_enter Tryz.func71, Tryz.ntmps71
  go_wp2_with (first | (go_at_call 74; refine (chain (w0 := w) (by go_grown) (by first | with_reducible exact wideClip a ha _)).mono ?_; rintro e w' ⟨rfl, ht⟩; have hs := ht.size))
  go_ret2
  exact ⟨rfl, by go_grown⟩

theorem pow32 (n : Int) : n * 2 ^ (32 : Int).toNat = n * 4294967296 := by
  rw [show (2 : Int) ^ (32 : Int).toNat = 4294967296 by decide]
theorem wideLeft_32 (n : Int) (w : World) : Calls Tryz.prog 68 #[W n, .int .i64 32] w fun e w' => e = .returned (W (n * 4294967296)) ∧ Below w.heap.size w w' := by
  rw [← pow32]
  exact wideLeft n 32 (by unfold Half; omega) w

set_option maxHeartbeats 1000000 in
theorem fixSub (a b : Int) (ha : Half a) (hb : Half b) (w : World) :
    Calls Tryz.prog 52 #[.int .i64 a, .int .i64 b] w fun e w' => e = .returned (sat (a + -b)) ∧ Below w.heap.size w w' := by
  have f1 := Lib.hid ha
  have f2 := Lib.hid hb
  clear ha hb
  go_enter Tryz.func52, Tryz.ntmps52
  go_wp2_with (first | (go_at_call 69; refine (chain (w0 := w) (by go_grown) (by first | with_reducible exact fixWiden a f1.out _ | with_reducible exact fixWiden b f2.out _)).mono ?_; rintro e w' ⟨rfl, ht⟩; have hs := ht.size) | (go_at_call 42; refine (chain (w0 := w) (by go_grown) (by first | with_reducible exact wideNeg b _)).mono ?_; rintro e w' ⟨rfl, ht⟩; have hs := ht.size) | (go_at_call 40; refine (chain (w0 := w) (by go_grown) (by first | with_reducible exact wideAdd a (-b) _)).mono ?_; rintro e w' ⟨rfl, ht⟩; have hs := ht.size) | (go_at_call 71; refine (chain (w0 := w) (by go_grown) (by first | with_reducible exact fixSat _ (fits_sub f1.out f2.out) _)).mono ?_; rintro e w' ⟨rfl, ht⟩; have hs := ht.size))
  go_ret2
  exact ⟨rfl, by go_grown⟩

set_option maxHeartbeats 1000000 in
theorem fixNeg (a : Int) (ha : Half a) (w : World) :
    Calls Tryz.prog 56 #[.int .i64 a] w fun e w' => e = .returned (sat (-a)) ∧ Below w.heap.size w w' := by
  go_enter Tryz.func56, Tryz.ntmps56
  go_wp2_with (first | (go_at_call 69; refine (chain (w0 := w) (by go_grown) (by first | with_reducible exact fixWiden a ha _)).mono ?_; rintro e w' ⟨rfl, ht⟩; have hs := ht.size) | (go_at_call 42; refine (chain (w0 := w) (by go_grown) (by first | with_reducible exact wideNeg a _)).mono ?_; rintro e w' ⟨rfl, ht⟩; have hs := ht.size) | (go_at_call 71; refine (chain (w0 := w) (by go_grown) (by first | with_reducible exact fixSat _ (fits_neg ha) _)).mono ?_; rintro e w' ⟨rfl, ht⟩; have hs := ht.size))
  go_ret2
  exact ⟨rfl, by go_grown⟩

set_option maxHeartbeats 1000000 in
theorem fixAbs_lo (a : Int) (ha : Half a) (h : a < 0) (w : World) :
    Calls Tryz.prog 53 #[.int .i64 a] w fun e w' => e = .returned (sat (-a)) ∧ Below w.heap.size w w' := by
  go_enter Tryz.func53, Tryz.ntmps53
  go_wp2_with (first | (go_at_call 56; refine (chain (w0 := w) (by go_grown) (by first | with_reducible exact fixNeg a ha _)).mono ?_; rintro e w' ⟨rfl, ht⟩; have hs := ht.size))
  go_ret2
  exact ⟨rfl, by go_grown⟩

set_option maxHeartbeats 1000000 in
theorem fixAbs_hi (a : Int) (ha : Half a) (h : ¬ a < 0) (w : World) :
    Calls Tryz.prog 53 #[.int .i64 a] w fun e w' => e = .returned (sat a) ∧ Below w.heap.size w w' := by
  go_enter Tryz.func53, Tryz.ntmps53
  go_wp2
  go_ret2
  exact ⟨by rw [sat_in a ha]; rfl, by go_grown⟩

theorem fixAbs (a : Int) (ha : Half a) (w : World) : Calls Tryz.prog 53 #[.int .i64 a] w fun e w' => e = .returned (sat (if a < 0 then -a else a)) ∧ Below w.heap.size w w' := by
  by_cases h : a < 0
  · rw [if_pos h]; exact fixAbs_lo a ha h w
  · rw [if_neg h]; exact fixAbs_hi a ha h w

set_option maxHeartbeats 1000000 in
theorem fixMul (a b : Int) (ha : Half a) (hb : Half b) (w : World) :
    Calls Tryz.prog 73 #[.int .i64 a, .int .i64 b] w fun e w' => e = .returned (sat (near (a * b) 32)) ∧ Below w.heap.size w w' := by
  have f1 := Lib.hid ha
  have f2 := Lib.hid hb
  clear ha hb
  go_enter Tryz.func73, Tryz.ntmps73
  go_wp2_with (first | (go_at_call 65; refine (chain (w0 := w) (by go_grown) (by first | with_reducible exact wideMul a b f1.out f2.out _)).mono ?_; rintro e w' ⟨rfl, ht⟩; have hs := ht.size) | (go_at_call 75; refine (chain (w0 := w) (by go_grown) (by first | with_reducible exact wideNear (a * b) 32 (fits_mul f1.out f2.out) (by unfold Half; omega) _)).mono ?_; rintro e w' ⟨rfl, ht⟩; have hs := ht.size) | (go_at_call 71; refine (chain (w0 := w) (by go_grown) (by first | with_reducible exact fixSat _ (fits_near f1.out f2.out) _)).mono ?_; rintro e w' ⟨rfl, ht⟩; have hs := ht.size))
  go_ret2
  exact ⟨rfl, by go_grown⟩

def over (a : Int) : Int := if 0 < a then 9223372036854775807 else if a < 0 then -9223372036854775808 else 0
theorem quo_zero (a : Int) : quo a 0 = .tuple #[.int .i64 (over a), .bool true] := by
  unfold quo over
  rw [if_pos rfl]
  by_cases h : 0 < a
  · rw [if_pos h, if_pos h]
  · rw [if_neg h, if_neg h]
    by_cases g : a < 0
    · rw [if_pos g, if_pos g]
    · rw [if_neg g, if_neg g]
theorem fixOver (a : Int) (w : World) : Calls Tryz.prog 70 #[.int .i64 a] w fun e w' => e = .returned (.int .i64 (over a)) ∧ Below w.heap.size w w' := by
  rcases Int.lt_trichotomy a 0 with h | h | h
  all_goals
    obtain ⟨x, hx⟩ : ∃ x, Hid (over a = x) := ⟨_, rfl⟩
    rw [hx.out]
    go_enter Tryz.func70, Tryz.ntmps70
    go_wp2
    go_returns
    refine ⟨retI ?_, by go_grown⟩
    rw [← hx.out]
    unfold over
    repeat' split
    all_goals omega
set_option maxHeartbeats 1000000 in
theorem fixDiv_0 (a b : Int) (ha : Half a) (hb : b = 0) (w : World) :
    Calls Tryz.prog 35 #[.int .i64 a, .int .i64 b] w fun e w' => e = .returned (quo a b) ∧ Below w.heap.size w w' := by
  subst hb
  have d1 := Lib.hid (fun W1 : World => wideDiv (a * 4294967296) 0 (fits_shift a ha) (by unfold Half; omega) W1)
  unfold divided at d1
  rw [if_pos rfl] at d1
  rw [quo_zero]
  have f1 := Lib.hid ha
  clear ha
  go_enter Tryz.func35, Tryz.ntmps35
  go_wp2_with (first | (go_at_call 69; refine (chain (w0 := w) (by go_grown) (by first | with_reducible exact fixWiden a f1.out _)).mono ?_; rintro e w' ⟨rfl, ht⟩; have hs := ht.size) | (go_at_call 68; refine (chain (w0 := w) (by go_grown) (by first | with_reducible exact wideLeft_32 a _)).mono ?_; rintro e w' ⟨rfl, ht⟩; have hs := ht.size) | (go_at_call 67; refine (chain (w0 := w) (by go_grown) (by first | with_reducible exact d1.out _)).mono ?_; rintro e w' ⟨rfl, ht⟩; have hs := ht.size) | (go_at_call 70; refine (chain (w0 := w) (by go_grown) (by first | with_reducible exact fixOver a _)).mono ?_; rintro e w' ⟨rfl, ht⟩; have hs := ht.size))
  go_ret2
  exact ⟨rfl, by go_grown⟩

set_option maxHeartbeats 1000000 in
theorem fixDiv_not (a b : Int) (ha : Half a) (hb : Half b) (hz : b ≠ 0) (w : World) :
    Calls Tryz.prog 35 #[.int .i64 a, .int .i64 b] w fun e w' => e = .returned (quo a b) ∧ Below w.heap.size w w' := by
  have d1 := Lib.hid (fun W1 : World => wideDiv (a * 4294967296) b (fits_shift a ha) hb W1)
  unfold quo
  rw [if_neg hz]
  unfold divided at d1
  rw [if_neg hz] at d1
  have f3 := Lib.hid (fits_quo ha b)
  have f1 := Lib.hid ha
  have f2 := Lib.hid hb
  clear ha hb
  go_enter Tryz.func35, Tryz.ntmps35
  go_wp2_with (first | (go_at_call 69; refine (chain (w0 := w) (by go_grown) (by first | with_reducible exact fixWiden a f1.out _)).mono ?_; rintro e w' ⟨rfl, ht⟩; have hs := ht.size) | (go_at_call 68; refine (chain (w0 := w) (by go_grown) (by first | with_reducible exact wideLeft_32 a _)).mono ?_; rintro e w' ⟨rfl, ht⟩; have hs := ht.size) | (go_at_call 67; refine (chain (w0 := w) (by go_grown) (by first | with_reducible exact d1.out _)).mono ?_; rintro e w' ⟨rfl, ht⟩; have hs := ht.size) | (go_at_call 71; refine (chain (w0 := w) (by go_grown) (by first | with_reducible exact fixSat _ f3.out _)).mono ?_; rintro e w' ⟨rfl, ht⟩; have hs := ht.size))
  go_ret2
  exact ⟨rfl, by go_grown⟩

theorem fixDiv (a b : Int) (ha : Half a) (hb : Half b) (w : World) : Calls Tryz.prog 35 #[.int .i64 a, .int .i64 b] w fun e w' => e = .returned (quo a b) ∧ Below w.heap.size w w' := by
  by_cases hz : b = 0
  · exact fixDiv_0 a b ha hz w
  · exact fixDiv_not a b ha hb hz w
set_option maxHeartbeats 1000000 in
theorem fixClamp (a lo hi : Int) (_ha : Half a) (_hl : Half lo) (_hh : Half hi) (w : World) : Calls Tryz.prog 102 #[.int .i64 a, .int .i64 lo, .int .i64 hi] w fun e w' => e = .returned (.tuple #[.int .i64 (clamp a lo hi), .bool (clamped a lo hi)]) ∧ Below w.heap.size w w' := by
  by_cases h1 : hi < lo
  · have c1 : clamp a lo hi = lo := by unfold clamp; rw [if_pos h1]
    have c2 : clamped a lo hi = true := by unfold clamped; rw [decide_eq_true h1]; rfl
    rw [c1, c2]
    go_enter Tryz.func102, Tryz.ntmps102
    go_wp2
    all_goals
      go_returns
      refine ⟨retIB ?_ ?_, by go_grown⟩ <;> first | rfl | omega
  · have h1' := decide_eq_false h1
    rcases Int.lt_trichotomy a lo with h2 | h2 | h2
    all_goals
      rcases Int.lt_trichotomy hi a with h3 | h3 | h3
      all_goals
        obtain ⟨x, hx⟩ : ∃ x, Hid (clamp a lo hi = x) := ⟨_, rfl⟩
        obtain ⟨k, hk⟩ : ∃ k, Hid (clamped a lo hi = k) := ⟨_, rfl⟩
        rw [hx.out, hk.out]
        go_enter Tryz.func102, Tryz.ntmps102
        go_wp2
        all_goals
          go_returns
          refine ⟨retIB ?_ ?_, by go_grown⟩
          · rw [← hx.out]; unfold clamp; split <;> (try split) <;> (try split) <;> omega
          · rw [← hk.out]; unfold clamped; first | (simp <;> omega) | (rw [h1', Bool.false_or, Bool.eq_iff_iff, bne_iff_ne, Bool.or_eq_true, decide_eq_true_eq, decide_eq_true_eq]; omega)

end Go.Proofs.YtodfcbpcgcgijaaGreatDoor

/- Single steps, shifts, ways, middles and degrees: of the program, and of the document's answers. -/
namespace Go.Proofs.YtodfcbpcgcgijaaGreatDoor
set_option maxRecDepth 100000
open Go.RowKit
set_option linter.unusedVariables false
attribute [local go_sem] cell_re eqW_self
attribute [local go_sem ↓] run_eqlW run_neqW

theorem half_steps {x : Int} : (0 ≤ x ∧ x.tmod 2 = x % 2 ∧ x.tdiv 2 = x / 2) ∨ (x < 0 ∧ x.tmod 2 = -1 ∧ x.tdiv 2 = x / 2 + 1) ∨ (x < 0 ∧ x.tmod 2 = 0 ∧ x.tdiv 2 = x / 2) := by
  rcases Int.lt_or_le x 0 with h | h
  · have e1 : x.tdiv 2 = -((-x) / 2) := by
      rw [show x = -(-x) by omega, Int.neg_tdiv, Int.tdiv_eq_ediv_of_nonneg (by omega)]; omega
    have e2 := Int.tmod_add_mul_tdiv x 2
    omega
  · exact Or.inl ⟨h, Int.tmod_eq_emod_of_nonneg h, Int.tdiv_eq_ediv_of_nonneg h⟩
theorem over_next (a : Int) (k : Nat) : a / 2 ^ (k + 1) = a / 2 ^ k / 2 := by
  rw [Int.pow_succ, Int.ediv_ediv_of_nonneg (Int.le_of_lt (two_pow_pos k))]
theorem half_over {a : Int} (ha : Half a) (k : Nat) : Half (a / 2 ^ k) := by
  induction k with
  | zero => simpa using ha
  | succ k ih => rw [over_next]; unfold Half at *; omega
set_option maxHeartbeats 1000000 in
theorem ref5Over (a : Int) (i : Nat) (ha : Half a) (hi : i ≤ 64) (w : World) :
    Calls Tryz.prog 62 #[.int .i64 a, .int .i64 i] w fun e w' => e = .returned (.int .i64 (a / 2 ^ i)) ∧ w = w' := by
  go_enter Tryz.func62, Tryz.ntmps62
  go_wp2
  go_loop [0, 5] (fun v j => ∃ (k : Nat) (x : Int), k ≤ i ∧ j = .int .i64 k ∧ v = .int .i64 x ∧ Hid (a / 2 ^ k = x)) (fun _ j => i - (intOf j).toNat)
  case atStart => exact ⟨0, a, Nat.zero_le _, rfl, rfl, Lib.hid (by simp)⟩
  case round =>
    obtain ⟨k, x, hk, rfl, rfl, hx⟩ := hrel
    by_cases hlt : k < i
    · have hh := half_over ha k
      rw [hx.out] at hh
      obtain ⟨x0, x1⟩ := hh
      have hn := over_next a k
      rw [hx.out] at hn
      replace hn := Lib.hid hn
      clear hx
      rcases @half_steps x with ⟨c0, c1, c2⟩ | ⟨c0, c1, c2⟩ | ⟨c0, c1, c2⟩
      · clear c1 c2
        have c3 : 0 ≤ x % 2 := by omega
        go_wp2
        go_round
        case rel => exact ⟨k + 1, x / 2, by omega, by go_num, rfl, hn⟩
        case measure => simp [intOf]; omega
      · have c3 : -9223372036854775808 ≤ x / 2 := by omega
        have c4 : x / 2 ≤ 9223372036854775806 := by omega
        obtain ⟨y, hy⟩ : ∃ y, Hid (x / 2 = y) := ⟨_, rfl⟩
        rw [hy.out] at c2 c3 c4
        go_wp2
        go_round
        case rel => exact ⟨k + 1, y, by omega, by go_num, by go_num, Lib.hid (hn.out.trans hy.out)⟩
        case measure => simp [intOf]; omega
      · have c3 : -9223372036854775808 ≤ x / 2 := by omega
        have c4 : x / 2 ≤ 9223372036854775806 := by omega
        obtain ⟨y, hy⟩ : ∃ y, Hid (x / 2 = y) := ⟨_, rfl⟩
        rw [hy.out] at c2 c3 c4
        go_wp2
        go_round
        case rel => exact ⟨k + 1, y, by omega, by go_num, by go_num, Lib.hid (hn.out.trans hy.out)⟩
        case measure => simp [intOf]; omega
    · obtain rfl : k = i := by omega
      go_wp2
      go_ret
      exact ⟨retI hx.out.symm, rfl⟩

theorem ref5Half (a : Int) (ha : Half a) (w : World) :
    Calls Tryz.prog 62 #[.int .i64 a, .int .i64 1] w fun e w' => e = .returned (.int .i64 (a / 2)) ∧ w = w' :=
  ref5Over a 1 ha (by decide) w
/-- The shorter way from a to b. -/
def way (a b : Int) : Int := (b - a + 2147483648) % 4294967296 - 2147483648
def Word32 (a : Int) : Prop := 0 ≤ a ∧ a ≤ 4294967295
theorem way_bd (a b : Int) : -2147483648 ≤ way a b ∧ way a b ≤ 2147483647 := by unfold way; omega
def mid (a b : Int) : Int := (a + way a b / 2) % 4294967296
def degs (a : Int) : Int := (a * 360 + 2147483648) / 4294967296 % 360
end Go.Proofs.YtodfcbpcgcgijaaGreatDoor

/- The same, with calls and shifts. -/
namespace Go.Proofs.YtodfcbpcgcgijaaGreatDoor
set_option maxRecDepth 100000
open Go.RowKit
set_option linter.unusedVariables false
attribute [local go_sem] cell_re eqW_self
attribute [local go_sem ↓] run_eqlW run_neqW

theorem half_way (a b : Int) : Half (way a b) := by have := way_bd a b; unfold Half; omega
set_option maxHeartbeats 400000 in
theorem ref5Bare (a : Int) (ha : Half a) (w : World) :
    Calls Tryz.prog 61 #[.int .i64 a] w fun e w' => e = .returned (.int .u64 (if a < 0 then -a else a)) ∧ w = w' := by
  obtain ⟨a0, a1⟩ := ha
  by_cases h : a < 0
  · rw [if_pos h]
    go_enter Tryz.func61, Tryz.ntmps61
    go_wp2
    go_ret
    exact ⟨retI (by omega), rfl⟩
  · rw [if_neg h]
    have h' : 0 ≤ a := by omega
    go_enter Tryz.func61, Tryz.ntmps61
    go_wp2
    go_ret
    exact ⟨retI (by omega), rfl⟩
/-- The opposite, of the least number the greatest. -/
def oppo (a : Int) : Int := min (-a) 9223372036854775807
set_option maxHeartbeats 400000 in
theorem ref5Opposite (a : Int) (ha : Half a) (w : World) :
    Calls Tryz.prog 60 #[.int .i64 a] w fun e w' => e = .returned (.int .i64 (oppo a)) ∧ w = w' := by
  obtain ⟨a0, a1⟩ := ha
  unfold oppo
  by_cases h : a = -9223372036854775808
  · subst h
    go_enter Tryz.func60, Tryz.ntmps60
    go_wp2
    go_ret
    exact ⟨retI (by omega), rfl⟩
  · have h0 : -9223372036854775807 ≤ a := by omega
    have h1 := decide_eq_false h
    clear a0
    go_enter Tryz.func60, Tryz.ntmps60
    go_wp2
    go_ret
    exact ⟨retI (by omega), rfl⟩
theorem drewN_below (w : World) (n : Nat) : Below w.heap.size w (w.drewN n) := ⟨rfl, rfl, rfl, Nat.le_refl _, fun _ _ => rfl⟩
set_option maxHeartbeats 400000 in
theorem turnOneWay (x y : Int) (i : Nat) (hx : Half x) (hy : Half y) (hi : i < 30) (h1 : Half (x - y / 2 ^ i)) (h2 : Half (y + x / 2 ^ i)) (w : World) :
    Calls Tryz.prog 59 #[.int .i64 x, .int .i64 y, .int .i64 i] w fun e w' => e = .returned (.tuple #[.int .i64 (x - y / 2 ^ i), .int .i64 (y + x / 2 ^ i)]) ∧ Below w.heap.size w w' := by
  obtain ⟨x0, x1⟩ := hx
  obtain ⟨y0, y1⟩ := hy
  obtain ⟨h3, h4⟩ := h1
  obtain ⟨h5, h6⟩ := h2
  go_enter Tryz.func59, Tryz.ntmps59
  go_wp2
  go_quiet (fail)
  go_wp2
  go_ret2
  exact ⟨rfl, drewN_below _ _⟩
set_option maxHeartbeats 400000 in
theorem turnOtherWay (x y : Int) (i : Nat) (hx : Half x) (hy : Half y) (hi : i < 30) (h1 : Half (x + y / 2 ^ i)) (h2 : Half (y - x / 2 ^ i)) (w : World) :
    Calls Tryz.prog 58 #[.int .i64 x, .int .i64 y, .int .i64 i] w fun e w' => e = .returned (.tuple #[.int .i64 (x + y / 2 ^ i), .int .i64 (y - x / 2 ^ i)]) ∧ Below w.heap.size w w' := by
  obtain ⟨x0, x1⟩ := hx
  obtain ⟨y0, y1⟩ := hy
  obtain ⟨h3, h4⟩ := h1
  obtain ⟨h5, h6⟩ := h2
  go_enter Tryz.func58, Tryz.ntmps58
  go_wp2
  go_quiet (fail)
  go_wp2
  go_ret2
  exact ⟨rfl, drewN_below _ _⟩
/-- The greater one of both, without signs. -/
def grt (x y : Int) : Int := max x (if y < 0 then -y else y)
set_option maxHeartbeats 1000000 in
theorem turnGreater (x y : Int) (hx : 0 ≤ x ∧ x ≤ 9223372036854775807) (hy : Half y) (w : World) :
    Calls Tryz.prog 87 #[.int .i64 x, .int .i64 y] w fun e w' => e = .returned (.int .i64 (min (grt x y) 9223372036854775807)) ∧ Below w.heap.size w w' := by
  have d := fixAbs y hy
  have hab : Half (clipped (if y < 0 then -y else y)) ∧ min (grt x y) 9223372036854775807 = max x (clipped (if y < 0 then -y else y)) := by
    unfold Half at *
    unfold grt clipped
    constructor
    · constructor <;> (split <;> omega)
    · split <;> omega
  rw [hab.2]
  replace hab := hab.1
  obtain ⟨h0, h1⟩ := hx
  obtain ⟨h2, h3⟩ := hab
  obtain ⟨z, c, hz⟩ : ∃ z c, Hid (sat (if y < 0 then -y else y) = .tuple #[.int .i64 z, .bool c] ∧ clipped (if y < 0 then -y else y) = z) := ⟨_, _, Lib.hid ⟨rfl, rfl⟩⟩
  rw [hz.out.2] at h2 h3 ⊢
  have d2 : Hid (∀ w, Calls Tryz.prog 53 #[.int .i64 y] w fun e w' => e = .returned (.tuple #[.int .i64 z, .bool c]) ∧ Below w.heap.size w w') := by
    rw [← hz.out.1]; exact d
  clear hz d
  rcases Int.lt_or_le x z with h | h
  · rw [show max x z = z by omega]
    go_enter Tryz.func87, Tryz.ntmps87
    go_wp2_with (go_at_call 53; refine (chain (w0 := w) (by go_grown) (by with_reducible exact d2.out _)).mono ?_; rintro e w' ⟨rfl, ht⟩; have hs := ht.size)
    all_goals
      go_ret
      exact ⟨retI (by omega), by go_grown⟩
  · rw [show max x z = x by omega]
    go_enter Tryz.func87, Tryz.ntmps87
    go_wp2_with (go_at_call 53; refine (chain (w0 := w) (by go_grown) (by with_reducible exact d2.out _)).mono ?_; rintro e w' ⟨rfl, ht⟩; have hs := ht.size)
    all_goals
      go_ret
      exact ⟨retI (by omega), by go_grown⟩

end Go.Proofs.YtodfcbpcgcgijaaGreatDoor

/- The steps' angles in the document's answers: a slice of thirty numbers that is made anew. -/
namespace Go.Proofs.YtodfcbpcgcgijaaGreatDoor
set_option maxRecDepth 100000
open Go.RowKit
set_option linter.unusedVariables false
attribute [local go_sem] cell_re eqW_self
attribute [local go_sem ↓] run_eqlW run_neqW
theorem angles_at (k : IntKind) (i : Nat) (hi : i < (angles.map (Value.int k)).length) : (angles.map (Value.int k))[i] = .int k (stp i) := by
  rw [List.getElem_map, stp, List.getD_eq_getElem?_getD, List.getElem?_eq_getElem (by simpa using hi)]
  rfl
set_option maxRecDepth 100000 in
set_option maxHeartbeats 1000000 in
theorem ref5Step (i : Nat) (hi : i < 30) (w : World) :
    Calls Tryz.prog 63 #[.int .i64 i] w fun e w' => e = .returned (.int .i64 (stp i)) ∧ Below w.heap.size w w' := by
  go_enter Tryz.func63, Tryz.ntmps63
  go_wp2
  go_ret
  exact ⟨congrArg Ending.returned (angles_at .i64 i hi), by go_grown⟩

end Go.Proofs.YtodfcbpcgcgijaaGreatDoor

/- Cosine and sine, of the program and in the document's answers. -/
namespace Go.Proofs.YtodfcbpcgcgijaaGreatDoor
set_option maxRecDepth 100000
open Go.RowKit
set_option linter.unusedVariables false
attribute [local go_sem] cell_re eqW_self
attribute [local go_sem ↓] run_eqlW run_neqW

/-- The row of the steps' angles; and that the program's variable holds it. -/
def angRow : Array Value := (angles.map (Value.int .u32)).toArray
def Steps (w : World) : Prop := ∃ t fr, w.heap[0]? = some (.cells angRow t fr)
theorem Steps.call {w w' : World} (h : Steps w) (hb : Below w.heap.size w w') : Steps w' := by
  obtain ⟨t, fr, h⟩ := h
  refine ⟨t, fr, (hb.block 0 ?_).trans h⟩
  rcases Nat.eq_zero_or_pos w.heap.size with h0 | h0
  · rw [Array.getElem?_eq_none (by omega)] at h; cases h
  · exact h0
theorem angRow_at (k : Nat) (hk : k < 30) : angRow[k]? = some (.int .u32 (stp k)) := by
  unfold angRow
  rw [List.getElem?_toArray, List.getElem?_eq_getElem (by rw [List.length_map]; exact hk), angles_at]
theorem steps_index (k : Nat) (hk : k < 30) (W1 : World) : (Instr.index 65 (.agg angRow) (.int .i64 k)).run Tryz.prog W1 = .ok (.int .u32 (stp k)) W1 := by
  have h := angRow_at k hk
  have hs : angRow.size = 30 := by decide
  simp [Instr.index, run_underlying Tryz.underlying65, asIntOf, go_sem, hs, hk]
  exact (Array.getElem?_eq_some_iff.1 h).2
theorem bothAt_facts (a : Int) (ha : 0 ≤ a ∧ a < 1073741824) (k : Nat) (hk : k < 30) : ∃ x y z t, bothAt a k = (x, y, z) ∧ stp k = t ∧ (-4296015872 ≤ x ∧ x ≤ 4296015872) ∧ (-4296015872 ≤ y ∧ y ≤ 4296015872) ∧ (-1073741824 ≤ z ∧ z < 1073741824) ∧ (1 ≤ t ∧ t ≤ 536870912) ∧
    ((0 ≤ z ∧ bothAt a (k + 1) = (x - y / 2 ^ k, y + x / 2 ^ k, z - t) ∧ (-4296015872 ≤ x - y / 2 ^ k ∧ x - y / 2 ^ k ≤ 4296015872) ∧ (-4296015872 ≤ y + x / 2 ^ k ∧ y + x / 2 ^ k ≤ 4296015872)) ∨
     (z < 0 ∧ bothAt a (k + 1) = (x + y / 2 ^ k, y - x / 2 ^ k, z + t) ∧ (-4296015872 ≤ x + y / 2 ^ k ∧ x + y / 2 ^ k ≤ 4296015872) ∧ (-4296015872 ≤ y - x / 2 ^ k ∧ y - x / 2 ^ k ≤ 4296015872))) := by
  obtain ⟨x, y, z, e⟩ : ∃ x y z, bothAt a k = (x, y, z) := ⟨_, _, _, rfl⟩
  have b1 := both_bd a k (by omega)
  have b2 := left_bd a ha k (by omega)
  have b3 := both_bd a (k + 1) (by omega)
  have b4 := stp_bd k hk
  rw [e] at b1 b2
  refine ⟨x, y, z, stp k, e, rfl, b1.1, b1.2, b2, b4, ?_⟩
  rcases Int.lt_or_le z 0 with h | h
  · have e2 := bothAt_no e h
    rw [e2] at b3
    exact Or.inr ⟨h, e2, b3⟩
  · have e2 := bothAt_yes e h
    rw [e2] at b3
    exact Or.inl ⟨h, e2, b3⟩
theorem clamp_facts (a : Int) (ha : 0 ≤ a ∧ a < 1073741824) {x y z : Int} (h : bothAt a 30 = (x, y, z)) : Half x ∧ Half y ∧ clamp x 0 4294967296 = cosOf a ∧ clamp y 0 4294967296 = sinOf a := by
  have b := both_bd a 30 (by decide)
  have p := both_pos a ha
  unfold cosOf sinOf
  rw [h] at b p ⊢
  dsimp only at b p ⊢
  unfold Half clamp
  refine ⟨by omega, by omega, ?_, ?_⟩ <;> split <;> omega
set_option maxRecDepth 100000 in
set_option maxHeartbeats 2000000 in
theorem turnQuarter (a : Int) (ha : 0 ≤ a ∧ a < 1073741824) (w : World) (hS : Steps w) :
    Calls Tryz.prog 88 #[.int .u32 a] w fun e w' => e = .returned (.tuple #[.int .i64 (cosOf a), .int .i64 (sinOf a)]) ∧ Below w.heap.size w w' := by
  have hA := Lib.hid ha
  obtain ⟨a0, a1⟩ := ha
  obtain ⟨tt, fr, hg⟩ := hS
  go_enter Tryz.func88, Tryz.ntmps88
  go_wp2_with (refine wpList_load_row rfl 65 _ rfl 0 rfl tt _ fr _ hg Tryz.underlying65 rfl (by kernel_rfl) ?_)
  clear hg
  go_loopw [4, 5, 6, 16] (fun vx vy vz vi wr => ∃ (k : Nat) (x y z : Int), k ≤ 30 ∧ vi = .int .i64 k ∧ vx = .int .i64 x ∧ vy = .int .i64 y ∧ vz = .int .i32 z ∧ Hid (bothAt a k = (x, y, z)) ∧ Below w.heap.size w wr) (fun _ _ _ vi _ => 30 - (intOf vi).toNat)
  case atStart => exact ⟨0, 2608131496, 0, a, Nat.zero_le _, rfl, rfl, rfl, rfl, Lib.hid rfl, Below.refl _ _⟩
  case round =>
    obtain ⟨k, x, y, z, hk, rfl, rfl, rfl, rfl, hx, hB⟩ := hrel
    by_cases hlt : k < 30
    · obtain ⟨x', y', z', t, e1, e2, ⟨x0, x1⟩, ⟨y0, y1⟩, ⟨z0, z1⟩, ⟨t0, t1⟩, hw⟩ := bothAt_facts a hA.out k hlt
      obtain ⟨rfl, rfl, rfl⟩ : x' = x ∧ y' = y ∧ z' = z := by
        have := e1.symm.trans hx.out
        simp only [Prod.mk.injEq] at this
        exact this
      have hr := steps_index k hlt wr
      rw [e2] at hr
      clear e1 e2 hx
      rcases hw with ⟨c0, e3, ⟨c1, c2⟩, c3, c4⟩ | ⟨c0, e3, ⟨c1, c2⟩, c3, c4⟩
      · have d := Lib.hid (fun W1 : World => turnOneWay x' y' k (by unfold Half; omega) (by unfold Half; omega) hlt (by unfold Half; omega) (by unfold Half; omega) W1)
        replace e3 := Lib.hid e3
        obtain ⟨u, hu⟩ : ∃ u, Hid (x' - y' / 2 ^ k = u) := ⟨_, rfl⟩
        obtain ⟨v, hv⟩ : ∃ v, Hid (y' + x' / 2 ^ k = v) := ⟨_, rfl⟩
        rw [hu.out] at d c1 c2 e3
        rw [hv.out] at d c3 c4 e3
        clear hu hv
        go_wp2_with (go_at_call 59; refine (d.out _).mono ?_; rintro e wa ⟨rfl, ha1⟩)
        go_roundw
        case rel => exact ⟨k + 1, u, v, z' - t, by omega, by go_num, rfl, rfl, by go_num, e3, below_then hB ha1⟩
        case measure => simp [intOf]; omega
      · have d := Lib.hid (fun W1 : World => turnOtherWay x' y' k (by unfold Half; omega) (by unfold Half; omega) hlt (by unfold Half; omega) (by unfold Half; omega) W1)
        replace e3 := Lib.hid e3
        obtain ⟨u, hu⟩ : ∃ u, Hid (x' + y' / 2 ^ k = u) := ⟨_, rfl⟩
        obtain ⟨v, hv⟩ : ∃ v, Hid (y' - x' / 2 ^ k = v) := ⟨_, rfl⟩
        rw [hu.out] at d c1 c2 e3
        rw [hv.out] at d c3 c4 e3
        clear hu hv
        go_wp2_with (go_at_call 58; refine (d.out _).mono ?_; rintro e wa ⟨rfl, ha1⟩)
        go_roundw
        case rel => exact ⟨k + 1, u, v, z' + t, by omega, by go_num, rfl, rfl, by go_num, e3, below_then hB ha1⟩
        case measure => simp [intOf]; omega
    · obtain rfl : k = 30 := by omega
      obtain ⟨p0, p1, p2, p3⟩ := clamp_facts a hA.out hx.out
      have d1 := Lib.hid (fun W1 : World => fixClamp x 0 4294967296 p0 (by unfold Half; omega) (by unfold Half; omega) W1)
      have d2 := Lib.hid (fun W1 : World => fixClamp y 0 4294967296 p1 (by unfold Half; omega) (by unfold Half; omega) W1)
      rw [p2] at d1
      rw [p3] at d2
      clear p0 p1 p2 p3 hx hlt
      obtain ⟨b1, hb1⟩ : ∃ b, clamped x 0 4294967296 = b := ⟨_, rfl⟩
      obtain ⟨b2, hb2⟩ : ∃ b, clamped y 0 4294967296 = b := ⟨_, rfl⟩
      rw [hb1] at d1
      rw [hb2] at d2
      clear hb1 hb2
      go_wp2_with fail
      refine (d1.out _).mono ?_
      rintro e w1 ⟨rfl, hc1⟩
      replace hB := below_then hB hc1
      clear hc1
      go_wp2_with fail
      refine (d2.out _).mono ?_
      rintro e w2 ⟨rfl, hc2⟩
      replace hB := below_then hB hc2
      clear hc2
      go_wp2
      go_ret2
      exact ⟨rfl, hB⟩
/-- Cosine and sine of any angle. -/
def cosA (a : Int) : Int := if a / 1073741824 = 0 then cosOf (a % 1073741824) else if a / 1073741824 = 1 then -sinOf (a % 1073741824) else if a / 1073741824 = 2 then -cosOf (a % 1073741824) else sinOf (a % 1073741824)
def sinA (a : Int) : Int := if a / 1073741824 = 0 then sinOf (a % 1073741824) else if a / 1073741824 = 1 then cosOf (a % 1073741824) else if a / 1073741824 = 2 then -sinOf (a % 1073741824) else -cosOf (a % 1073741824)
theorem cosA_facts (a : Int) (ha : Word32 a) : ∃ q r c s : Int, a / 1073741824 = q ∧ a % 1073741824 = r ∧ (0 ≤ r ∧ r < 1073741824) ∧ cosOf r = c ∧ sinOf r = s ∧ (1 ≤ c ∧ c ≤ 4294967296) ∧ (1 ≤ s ∧ s ≤ 4294967296) ∧
    ((q = 0 ∧ cosA a = c ∧ sinA a = s) ∨ (q = 1 ∧ cosA a = -s ∧ sinA a = c) ∨ (q = 2 ∧ cosA a = -c ∧ sinA a = -s) ∨ (q = 3 ∧ cosA a = s ∧ sinA a = -c)) := by
  obtain ⟨a0, a1⟩ := ha
  have hr : 0 ≤ a % 1073741824 ∧ a % 1073741824 < 1073741824 := by omega
  obtain ⟨c1, c2, c3, c4, -⟩ := cos_sin _ hr
  refine ⟨_, _, _, _, rfl, rfl, hr, rfl, rfl, ⟨c1, c2⟩, ⟨c3, c4⟩, ?_⟩
  unfold cosA sinA
  rcases (by omega : a / 1073741824 = 0 ∨ a / 1073741824 = 1 ∨ a / 1073741824 = 2 ∨ a / 1073741824 = 3) with h | h | h | h <;> rw [h] <;> simp
set_option maxRecDepth 100000 in
set_option maxHeartbeats 1000000 in
theorem turnBoth (a : Int) (ha : Word32 a) (w : World) (hS : Steps w) :
    Calls Tryz.prog 64 #[.int .u32 a] w fun e w' => e = .returned (.tuple #[.int .i64 (cosA a), .int .i64 (sinA a)]) ∧ Below w.heap.size w w' := by
  obtain ⟨q, r, c, s, e1, e2, hr, e3, e4, ⟨c0, c1⟩, ⟨s0, s1⟩, hq⟩ := cosA_facts a ha
  obtain ⟨a0, a1⟩ := ha
  have d := Lib.hid (turnQuarter r hr w hS)
  rw [e3, e4] at d
  clear e3 e4
  obtain ⟨r0, r1⟩ := hr
  rcases hq with ⟨rfl, x1, x2⟩ | ⟨rfl, x1, x2⟩ | ⟨rfl, x1, x2⟩ | ⟨rfl, x1, x2⟩
  all_goals
    rw [x1, x2]
    clear x1 x2
    go_enter Tryz.func64, Tryz.ntmps64
    go_wp2_with (go_at_call 88; refine d.out.mono ?_; rintro e w' ⟨rfl, hb⟩)
    go_ret2
    exact ⟨rfl, hb⟩

end Go.Proofs.YtodfcbpcgcgijaaGreatDoor

/- Cosine and sine in the document's answers. -/
namespace Go.Proofs.YtodfcbpcgcgijaaGreatDoor
set_option maxRecDepth 100000
open Go.RowKit
set_option linter.unusedVariables false
attribute [local go_sem] cell_re eqW_self
attribute [local go_sem ↓] run_eqlW run_neqW
end Go.Proofs.YtodfcbpcgcgijaaGreatDoor
