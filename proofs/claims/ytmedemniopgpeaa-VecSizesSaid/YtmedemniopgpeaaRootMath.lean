/- The greatest number whose square is not above a number: it is one only, and it is found bit by bit. -/
import Derived.Test.YtmedemniopgpeaaBitsMath
namespace Go.Proofs.Ytmedemniopgpeaa
open Go.RowKit

/-- r is the greatest number whose square is not above a. -/
def IsRoot (a r : Int) : Prop := 0 ≤ r ∧ r * r ≤ a ∧ a < (r + 1) * (r + 1)
theorem sq_le {x y : Int} (h0 : 0 ≤ x) (h : x ≤ y) : x * x ≤ y * y :=
  Int.le_trans (Int.mul_le_mul_of_nonneg_left h h0) (Int.mul_le_mul_of_nonneg_right h (by omega))
theorem le_of_sq {x y : Int} (h0 : 0 ≤ y) (h : x * x < (y + 1) * (y + 1)) : x ≤ y := by
  rcases Int.lt_or_le y x with h1 | h1
  · have := sq_le (show 0 ≤ y + 1 by omega) (show y + 1 ≤ x by omega)
    omega
  · exact h1
theorem IsRoot.mono {a b r s : Int} (h : IsRoot a r) (k : IsRoot b s) (hab : a ≤ b) : r ≤ s := by
  obtain ⟨h0, h1, h2⟩ := h
  obtain ⟨k0, k1, k2⟩ := k
  exact le_of_sq k0 (by omega)
theorem IsRoot.unique {a r s : Int} (h : IsRoot a r) (k : IsRoot a s) : r = s := Int.le_antisymm (h.mono k (Int.le_refl _)) (k.mono h (Int.le_refl _))
theorem IsRoot.le {a r s : Int} (h : IsRoot a r) (hs : 0 ≤ s) (k : a < (s + 1) * (s + 1)) : r ≤ s := le_of_sq hs (by have := h.2.1; omega)
theorem isRoot_sq {n : Int} (h : 0 ≤ n) : IsRoot (n * n) n := ⟨h, Int.le_refl _, by
  rw [Int.add_mul, Int.mul_add, Int.one_mul, Int.mul_one]; omega⟩

/-- The greatest of so many bits that fits, bit by bit from the top: after i bits. -/
def climb (fits : Int → Bool) (n : Nat) : Nat → Int
  | 0 => 0
  | i + 1 => if fits (climb fits n i + 2 ^ (n - 1 - i)) then climb fits n i + 2 ^ (n - 1 - i) else climb fits n i
theorem climb_yes {fits : Int → Bool} {n i : Nat} (h : fits (climb fits n i + 2 ^ (n - 1 - i)) = true) : climb fits n (i + 1) = climb fits n i + 2 ^ (n - 1 - i) := by rw [climb, if_pos h]
theorem climb_no {fits : Int → Bool} {n i : Nat} (h : fits (climb fits n i + 2 ^ (n - 1 - i)) = false) : climb fits n (i + 1) = climb fits n i := by rw [climb, h]; rfl
theorem two_pow_next {n i : Nat} (h : i < n) : (2 : Int) ^ (n - i) = 2 * 2 ^ (n - 1 - i) := by
  rw [show n - i = (n - 1 - i) + 1 by omega, Int.pow_succ, Int.mul_comm]
theorem climb_at (fits : Int → Bool) (n : Nat) : ∀ i, i ≤ n → 0 ≤ climb fits n i ∧ climb fits n i % 2 ^ (n - i) = 0 ∧ climb fits n i + 2 ^ (n - i) ≤ 2 ^ n
  | 0, _ => by rw [climb]; exact ⟨Int.le_refl _, by simp, by rw [Nat.sub_zero]; omega⟩
  | i + 1, h => by
    obtain ⟨h0, h1, h2⟩ := climb_at fits n i (by omega)
    have e := two_pow_next (show i < n by omega)
    have hp := pow_pos' (n - 1 - i)
    rw [show n - (i + 1) = n - 1 - i by omega]
    rw [e] at h1 h2
    have h3 : climb fits n i % 2 ^ (n - 1 - i) = 0 := by
      have := Int.emod_emod_of_dvd (climb fits n i) (show (2 : Int) ^ (n - 1 - i) ∣ 2 * 2 ^ (n - 1 - i) from ⟨2, by rw [Int.mul_comm]⟩)
      rw [h1] at this
      simpa using this.symm
    rw [climb]
    split
    · exact ⟨by omega, by rw [Int.add_emod_right]; exact h3, by omega⟩
    · exact ⟨h0, h3, by omega⟩
theorem climb_root (a : Int) (n : Nat) (h0 : 0 ≤ a) (h1 : a < 2 ^ n * 2 ^ n) : ∀ i, i ≤ n →
    climb (fun r => decide (r * r ≤ a)) n i * climb (fun r => decide (r * r ≤ a)) n i ≤ a ∧
    a < (climb (fun r => decide (r * r ≤ a)) n i + 2 ^ (n - i)) * (climb (fun r => decide (r * r ≤ a)) n i + 2 ^ (n - i))
  | 0, _ => by rw [climb]; exact ⟨by simpa using h0, by simpa using h1⟩
  | i + 1, h => by
    obtain ⟨k0, k1⟩ := climb_root a n h0 h1 i (by omega)
    have e := two_pow_next (show i < n by omega)
    rw [show n - (i + 1) = n - 1 - i by omega]
    by_cases hf : (climb (fun r => decide (r * r ≤ a)) n i + 2 ^ (n - 1 - i)) * (climb (fun r => decide (r * r ≤ a)) n i + 2 ^ (n - 1 - i)) ≤ a
    · rw [climb_yes (decide_eq_true hf)]
      exact ⟨hf, by rw [e] at k1; rw [Int.add_assoc, show (2 : Int) ^ (n - 1 - i) + 2 ^ (n - 1 - i) = 2 * 2 ^ (n - 1 - i) by omega]; exact k1⟩
    · rw [climb_no (decide_eq_false hf)]
      exact ⟨k0, by omega⟩
theorem climb_facts (fits : Int → Bool) (n k : Nat) (hn : n ≤ 64) (hk : k < n) : ∃ r t, climb fits n k = r ∧ (2 : Int) ^ (n - 1 - k) = t ∧ 0 ≤ r ∧ 1 ≤ t ∧ r + t < 2 ^ n ∧ bits .or .u64 r t = r + t ∧
    (fits (r + t) = true → climb fits n (k + 1) = r + t) ∧ (fits (r + t) = false → climb fits n (k + 1) = r) := by
  obtain ⟨b0, b1, b2⟩ := climb_at fits n k (by omega)
  have e1 := two_pow_next hk
  have p1 := pow_pos' (n - 1 - k)
  have h64 : (2 : Int) ^ n ≤ 2 ^ 64 := by
    obtain ⟨j, hj⟩ : ∃ j, 64 = n + j := ⟨64 - n, by omega⟩
    rw [hj, Int.pow_add]
    have h1 := pow_pos' j
    have h2 := Int.mul_le_mul_of_nonneg_left (show (1 : Int) ≤ 2 ^ j by omega) (Int.le_of_lt (pow_pos' n))
    omega
  rw [show (2 : Int) ^ 64 = 18446744073709551616 from rfl] at h64
  exact ⟨_, _, rfl, rfl, b0, by omega, by omega, or_u64 (n - k) _ _ b0 (by omega) b1 (by omega) (by omega) (by omega), climb_yes, climb_no⟩
/-- The root. -/
def root (a : Int) : Int := climb (fun r => decide (r * r ≤ a)) 64 64
theorem climb_isRoot (a : Int) (n : Nat) (h0 : 0 ≤ a) (h1 : a < 2 ^ n * 2 ^ n) : IsRoot a (climb (fun r => decide (r * r ≤ a)) n n) := by
  obtain ⟨k0, k1⟩ := climb_root a n h0 h1 n (Nat.le_refl _)
  rw [Nat.sub_self] at k1
  exact ⟨(climb_at _ n n (Nat.le_refl _)).1, k0, k1⟩
theorem isRoot_root {a : Int} (h0 : 0 ≤ a) (h1 : a < 340282366920938463463374607431768211456) : IsRoot a (root a) := climb_isRoot a 64 h0 h1
theorem root_of_32 {a : Int} (h0 : 0 ≤ a) (h1 : a < 18446744073709551616) : climb (fun r => decide (r * r ≤ a)) 32 32 = root a :=
  (climb_isRoot a 32 h0 h1).unique (isRoot_root h0 (by omega))
theorem root_lo {a : Int} (h0 : 0 ≤ a) (h1 : a < 340282366920938463463374607431768211456) : 0 ≤ root a := (isRoot_root h0 h1).1
theorem root_32 {a : Int} (h0 : 0 ≤ a) (h1 : a < 18446744073709551616) : root a ≤ 4294967295 := (isRoot_root h0 (by omega)).le (by decide) (by omega)
theorem root_fits {a : Int} (h0 : 0 ≤ a) (h1 : a < 170141183460469231731687303715884105728) : root a ≤ 13043817825332782212 := (isRoot_root h0 (by omega)).le (by decide) (by omega)
theorem root_fix {a : Int} (h0 : 0 ≤ a) (h1 : a ≤ 9223372036854775807) : root (a * 4294967296) ≤ 281474976710655 := (isRoot_root (by omega) (by omega)).le (by decide) (by omega)
theorem root_sq {n : Int} (h0 : 0 ≤ n) (h1 : n ≤ 18446744073709551615) : root (n * n) = n := by
  have h2 : n * n ≤ 18446744073709551615 * 18446744073709551615 := sq_le h0 h1
  have h3 := sq_le (Int.le_refl 0) h0
  exact (isRoot_root (by omega) (by omega)).unique (isRoot_sq h0)
theorem root_mono {a b : Int} (h0 : 0 ≤ a) (h : a ≤ b) (h1 : b < 340282366920938463463374607431768211456) : root a ≤ root b :=
  (isRoot_root h0 (by omega)).mono (isRoot_root (by omega) h1) h
theorem square_hi {n : Int} (h0 : 0 ≤ n) (h1 : n ≤ 18446744073709551615) : 0 ≤ n * n ∧ n * n ≤ 340282366920938463426481119284349108225 :=
  ⟨by simpa using sq_le (Int.le_refl 0) h0, sq_le h0 h1⟩
theorem sw_square {s n : Int} (h : sw (n * n) = s) (h0 : 0 ≤ n) (h1 : n ≤ 18446744073709551615) : (s < 0 ∧ 170141183460469231731687303715884105728 ≤ n * n) ∨ (0 ≤ s ∧ s = n * n) := by
  have := square_hi h0 h1
  unfold sw at h
  omega
/-- The square of a number that went round, and what it lacks. -/
theorem square_round (n m : Int) (h : n = m + 18446744073709551616) : sw (m * m + m * 2 ^ 65) = sw (n * n) := by
  subst h
  have : (m + 18446744073709551616) * (m + 18446744073709551616) = m * m + m * 2 ^ 65 + 340282366920938463463374607431768211456 := by
    rw [Int.add_mul, Int.mul_add, Int.mul_add, show (2 : Int) ^ 65 = 36893488147419103232 from rfl]; omega
  rw [this]
  unfold sw
  omega

end Go.Proofs.Ytmedemniopgpeaa
