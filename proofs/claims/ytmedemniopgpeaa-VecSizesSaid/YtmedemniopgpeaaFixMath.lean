/- Plain facts on numbers with a point; no function of the program is named here. -/
import Derived.Test.YtmedemniopgpeaaBackMath
namespace Go.Proofs.Ytmedemniopgpeaa

/-- A number, saturated, and whether it did. -/
abbrev sat (x : Int) : Value := .tuple #[.int .i64 (clipped x), .bool (cut x)]
/-- The quotient of numbers with a point, as the document has it. -/
def quo (a b : Int) : Value :=
  if b = 0 then (if 0 < a then .tuple #[.int .i64 9223372036854775807, .bool true] else if a < 0 then .tuple #[.int .i64 (-9223372036854775808), .bool true] else .tuple #[.int .i64 0, .bool true])
  else sat ((a * 4294967296).tdiv b)
theorem sat_in (a : Int) (ha : Half a) : sat a = .tuple #[.int .i64 a, .bool false] := by
  have h : cut a = false := by unfold Half at ha; unfold cut; exact decide_eq_false (by omega)
  unfold sat
  rw [h, clipped_in a h]
theorem sat_eq {x n : Int} {c : Bool} (h : clipped x = n) (h2 : cut x = c) : sat x = .tuple #[.int .i64 n, .bool c] := by unfold sat; rw [h, h2]
theorem fits_shift (n : Int) (hn : Half n) : Fits (n * 4294967296) := by unfold Half at hn; unfold Fits; omega
theorem fits_neg {a : Int} (ha : Half a) : Fits (-a) := by unfold Half at ha; unfold Fits; omega
theorem fits_add {a b : Int} (ha : Half a) (hb : Half b) : Fits (a + b) := by unfold Half at ha hb; unfold Fits; omega
theorem fits_sub {a b : Int} (ha : Half a) (hb : Half b) : Fits (a + -b) := by unfold Half at ha hb; unfold Fits; omega
theorem near32 (x : Int) : near x 32 = (x + 2147483648) / 4294967296 := by
  unfold near
  rw [if_neg (by decide), show (places 32).toNat = 32 by decide]
  rfl
theorem product_le {a b : Int} (ha : Half a) (hb : Half b) : -85070591730234615865843651857942052864 ≤ a * b ∧ a * b ≤ 85070591730234615865843651857942052864 := by
  unfold Half at ha hb
  rcases Int.lt_or_le a 0 with h0 | h0 <;> rcases Int.lt_or_le b 0 with h1 | h1
  · have e : a * b = -a * -b := by rw [Int.neg_mul_neg]
    have := Int.mul_le_mul (show -a ≤ 9223372036854775808 by omega) (show -b ≤ 9223372036854775808 by omega) (by omega) (by decide)
    have := Int.mul_nonneg (show 0 ≤ -a by omega) (show 0 ≤ -b by omega)
    omega
  · have e : a * b = -(-a * b) := by rw [Int.neg_mul, Int.neg_neg]
    have := Int.mul_le_mul (show -a ≤ 9223372036854775808 by omega) (show b ≤ 9223372036854775808 by omega) h1 (by decide)
    have := Int.mul_nonneg (show 0 ≤ -a by omega) h1
    omega
  · have e : a * b = -(a * -b) := by rw [Int.mul_neg, Int.neg_neg]
    have := Int.mul_le_mul (show a ≤ 9223372036854775808 by omega) (show -b ≤ 9223372036854775808 by omega) (by omega) (by decide)
    have := Int.mul_nonneg h0 (show 0 ≤ -b by omega)
    omega
  · have := Int.mul_le_mul (show a ≤ 9223372036854775808 by omega) (show b ≤ 9223372036854775808 by omega) h1 (by decide)
    have := Int.mul_nonneg h0 h1
    omega
theorem fits_mul {a b : Int} (ha : Half a) (hb : Half b) : Fits (a * b) := by have := product_le ha hb; unfold Fits; omega
theorem fits_near {a b : Int} (ha : Half a) (hb : Half b) : Fits (near (a * b) 32) := by
  have := product_le ha hb
  rw [near32]
  unfold Fits
  omega
theorem fits_quo {a : Int} (ha : Half a) (b : Int) : Fits ((a * 4294967296).tdiv b) := by
  unfold Half at ha
  by_cases hz : b = 0
  · subst hz
    rw [Int.tdiv_zero]
    unfold Fits
    omega
  · exact (quo_facts (a * 4294967296) b (by unfold Small; omega) hz).1.fits

theorem and_two (m n : Nat) : (m &&& n) % 2 = (m % 2) * (n % 2) := by
  have h := Nat.and_mod_two_pow (a := m) (b := n) (n := 1)
  rw [show (2 : Nat) ^ 1 = 2 by decide] at h
  rw [h]
  rcases Nat.mod_two_eq_zero_or_one m with a | a <;> rcases Nat.mod_two_eq_zero_or_one n with b | b <;> rw [a, b] <;> decide
theorem and_bit (a b : Int) : bits .and .i64 (bits .and .i64 a b) 1 = (a % 2) * (b % 2) := by
  show IntKind.i64.wrap ((BitVec.ofInt 64 (IntKind.i64.wrap ((BitVec.ofInt 64 a &&& BitVec.ofInt 64 b).toNat : Int)) &&& BitVec.ofInt 64 1).toNat : Int) = _
  rw [IntKind.wrap_i64, IntKind.wrap_i64, BitVec.toNat_and, BitVec.toNat_and, show (BitVec.ofInt 64 1).toNat = 1 by decide, Nat.and_one_is_mod, BitVec.toNat_ofInt]
  generalize hm : (BitVec.ofInt 64 a).toNat &&& (BitVec.ofInt 64 b).toNat = m
  have h2 := and_two (BitVec.ofInt 64 a).toNat (BitVec.ofInt 64 b).toNat
  rw [hm, BitVec.toNat_ofInt, BitVec.toNat_ofInt] at h2
  have h3 : m % 2 = (a % 2).toNat * (b % 2).toNat := by
    rw [h2, show (a % ((2 ^ 64 : Nat) : Int)).toNat % 2 = (a % 2).toNat by omega, show (b % ((2 ^ 64 : Nat) : Int)).toNat % 2 = (b % 2).toNat by omega]
  rcases Int.emod_two_eq a with x | x <;> rcases Int.emod_two_eq b with y | y <;> rw [x, y] at h3 ⊢ <;> simp at h3 ⊢ <;> omega
theorem mid_eq (a b : Int) : a / 2 + b / 2 + (a % 2) * (b % 2) = (a + b) / 2 := by
  rcases Int.emod_two_eq a with x | x <;> rcases Int.emod_two_eq b with y | y <;> rw [x, y] <;> omega

theorem quo_form (a b : Int) : ∃ q c, quo a b = .tuple #[.int .i64 q, .bool c] := by
  unfold quo
  by_cases h : b = 0
  · rw [if_pos h]
    by_cases h1 : 0 < a
    · rw [if_pos h1]; exact ⟨_, _, rfl⟩
    · rw [if_neg h1]
      by_cases h2 : a < 0
      · rw [if_pos h2]; exact ⟨_, _, rfl⟩
      · rw [if_neg h2]; exact ⟨_, _, rfl⟩
  · rw [if_neg h]; exact ⟨_, _, rfl⟩
/-- The nearest one to a within bounds, and whether that is another. -/
def clamp (a lo hi : Int) : Int := if hi < lo then lo else if a < lo then lo else if hi < a then hi else a
def clamped (a lo hi : Int) : Bool := decide (hi < lo) || decide (a < lo) || decide (hi < a)
/-- The sum of the first n of them. -/
def total (f : Nat → Int) : Nat → Int
  | 0 => 0
  | n + 1 => total f n + f n
theorem total_bd (f : Nat → Int) (hf : ∀ j, Half (f j)) (n : Nat) : -9223372036854775808 * (n : Int) ≤ total f n ∧ total f n ≤ 9223372036854775807 * (n : Int) := by
  induction n with
  | zero => exact ⟨by simp [total], by simp [total]⟩
  | succ n ih =>
    have := hf n
    unfold Half at this
    simp only [total]
    omega
theorem total_fits (f : Nat → Int) (hf : ∀ j, Half (f j)) (n : Nat) (hn : n ≤ 60) : Fits (total f n) := by
  have := total_bd f hf n
  unfold Fits
  omega

end Go.Proofs.Ytmedemniopgpeaa
