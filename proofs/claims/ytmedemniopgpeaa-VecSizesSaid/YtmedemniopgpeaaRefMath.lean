/- Plain facts on the bits of a number, and on what they come to; no function of the program is named here. -/
import Derived.Test.YtmedemniopgpeaaDivMath
namespace Go.Proofs.Ytmedemniopgpeaa
open Go.RowKit

/-- Bit number i. -/
def bit (a : Int) (i : Nat) : Int := a / 2 ^ i % 2
theorem bit_lo (a : Int) (i : Nat) : 0 ≤ bit a i := by unfold bit; omega
theorem bit_hi (a : Int) (i : Nat) : bit a i ≤ 1 := by unfold bit; omega
/-- The first k bits, as integers of a program. -/
def bits_ (a : Int) (k : Nat) : List Value := (List.range k).map fun i => Value.int .i64 (bit a i)
theorem bits_zero (a : Int) : bits_ a 0 = [] := rfl
theorem bits_succ (a : Int) (k : Nat) : bits_ a (k + 1) = bits_ a k ++ [Value.int .i64 (bit a k)] := by
  unfold bits_; rw [List.range_succ, List.map_append]; rfl
theorem bits_length (a : Int) (k : Nat) : (bits_ a k).length = k := by unfold bits_; simp
theorem bits_at (a : Int) (k j : Nat) (h : j < k) : (bits_ a k)[j]? = some (Value.int .i64 (bit a j)) := by unfold bits_; simp [h]

theorem div_succ (x : Int) (k : Nat) : x / 2 ^ (k + 1) = x / 2 ^ k / 2 := by
  rw [Int.pow_succ, Int.ediv_ediv_of_nonneg (Int.le_of_lt (pow_pos' k))]
/-- The lower half's bits are the number's. -/
theorem bit_of_lo (a : Int) (k : Nat) (h : k < 64) : lo a / 2 ^ k % 2 = bit a k := by
  unfold bit
  have hp := pow_pos' k
  have hs : (18446744073709551616 : Int) = 2 ^ k * (2 * 2 ^ (63 - k)) := by
    rw [← Int.mul_assoc, ← Int.pow_succ, ← Int.pow_add, show k.succ + (63 - k) = 64 by omega]; rfl
  have e : a = lo a + 2 ^ k * (2 * (2 ^ (63 - k) * (a / 18446744073709551616))) := by
    have h1 : a = lo a + 18446744073709551616 * (a / 18446744073709551616) := by unfold lo; omega
    rw [← Int.mul_assoc 2, ← Int.mul_assoc, ← hs]
    exact h1
  generalize 2 ^ (63 - k) * (a / 18446744073709551616) = m at e
  generalize lo a = l at *
  subst e
  rw [Int.add_mul_ediv_left _ _ (Int.ne_of_gt hp)]
  omega
/-- The upper half's bits are those from 64 on. -/
theorem bit_of_hi (a : Int) (k : Nat) (h : k < 64) : IntKind.u64.wrap (hi a) / 2 ^ k % 2 = bit a (64 + k) := by
  have e1 : IntKind.u64.wrap (hi a) = lo (a / 18446744073709551616) := by rw [IntKind.wrap_u64]; unfold hi lo; omega
  rw [e1, bit_of_lo _ k h]
  unfold bit
  rw [Int.pow_add, show (2 : Int) ^ 64 = 18446744073709551616 from rfl, Int.ediv_ediv_of_nonneg (by decide)]

/-- What n bits come to. -/
def sumBits (f : Nat → Int) : Nat → Int
  | 0 => 0
  | n + 1 => sumBits f n + f n * 2 ^ n
theorem sumBits_bd (f : Nat → Int) (hf : ∀ i, 0 ≤ f i ∧ f i ≤ 1) : ∀ n, 0 ≤ sumBits f n ∧ sumBits f n < 2 ^ n
  | 0 => by simp [sumBits]
  | n + 1 => by
    obtain ⟨h0, h1⟩ := sumBits_bd f hf n
    have hp := pow_pos' n
    obtain ⟨f0, f1⟩ := hf n
    have g0 : 0 ≤ f n * 2 ^ n := Int.mul_nonneg f0 (Int.le_of_lt hp)
    have g1 : f n * 2 ^ n ≤ 1 * 2 ^ n := Int.mul_le_mul_of_nonneg_right f1 (Int.le_of_lt hp)
    rw [Int.pow_succ]
    simp only [sumBits]
    omega
theorem sumBits_more (f : Nat → Int) (m : Nat) : ∀ n, sumBits f (m + n) = sumBits f m + sumBits (fun i => f (m + i)) n * 2 ^ m
  | 0 => by simp [sumBits]
  | n + 1 => by
    rw [← Nat.add_assoc]
    simp only [sumBits]
    rw [sumBits_more f m n, Int.add_mul, Int.mul_assoc (f (m + n)), ← Int.pow_add, Nat.add_comm n m, Int.add_assoc]
theorem sumBits_bit (a : Int) : ∀ n, sumBits (bit a) n = a % 2 ^ n
  | 0 => by simp [sumBits]
  | n + 1 => by
    simp only [sumBits]
    rw [sumBits_bit a n]
    unfold bit
    have hp := pow_pos' n
    have h1 := Int.mul_ediv_add_emod a (2 ^ n)
    have h2 := Int.mul_ediv_add_emod a (2 ^ (n + 1))
    have h3 := div_succ a n
    have h4 : a / 2 ^ n = 2 * (a / 2 ^ n / 2) + a / 2 ^ n % 2 := by omega
    rw [h3, Int.pow_succ] at h2
    generalize a / 2 ^ n / 2 = q at *
    generalize a / 2 ^ n % 2 = r at *
    rw [h4] at h1
    rw [Int.mul_add] at h1
    rw [Int.pow_succ]
    generalize a % 2 ^ n = u at *
    generalize a % (2 ^ n * 2) = v at *
    rw [Int.mul_assoc] at h2
    rw [Int.mul_comm r]
    generalize (2 : Int) ^ n * (2 * q) = z at *
    omega
theorem sum_parts (f : Nat → Int) (hf : ∀ i, 0 ≤ f i ∧ f i ≤ 1) (a : Int) (h : sumBits f 128 = a % 340282366920938463463374607431768211456) :
    wrap64 (sumBits (fun i => f (64 + i)) 64) = hi a ∧ sumBits f 64 = lo a := by
  have h1 := sumBits_more f 64 64
  have h2 := sumBits_bd f hf 64
  have h3 := sumBits_bd (fun i => f (64 + i)) (fun i => hf (64 + i)) 64
  rw [show (64 + 64 : Nat) = 128 from rfl, h] at h1
  rw [show (2 : Int) ^ 64 = 18446744073709551616 from rfl] at *
  generalize sumBits (fun i => f (64 + i)) 64 = x at *
  generalize sumBits f 64 = y at *
  unfold wrap64 hi lo
  omega

/-! ### Sums and opposites, bit by bit -/
/-- What is carried into bit k of a sum. -/
def carry (a b : Int) (k : Nat) : Int := (a % 2 ^ k + b % 2 ^ k) / 2 ^ k
theorem mod_succ (a : Int) (k : Nat) : a % 2 ^ (k + 1) = bit a k * 2 ^ k + a % 2 ^ k := by
  have := sumBits_bit a (k + 1)
  simp only [sumBits] at this
  rw [sumBits_bit a k] at this
  omega
theorem carry_bd (a b : Int) (k : Nat) : 0 ≤ carry a b k ∧ carry a b k ≤ 1 := by
  unfold carry
  have hp := pow_pos' k
  have h1 := Int.emod_nonneg a (Int.ne_of_gt hp)
  have h2 := Int.emod_nonneg b (Int.ne_of_gt hp)
  have h3 := Int.emod_lt_of_pos a hp
  have h4 := Int.emod_lt_of_pos b hp
  refine ⟨Int.ediv_nonneg (by omega) (by omega), ?_⟩
  have : (a % 2 ^ k + b % 2 ^ k) / 2 ^ k < 2 := Int.ediv_lt_of_lt_mul hp (by omega)
  omega
theorem add_bit (a b : Int) (k : Nat) : (bit a k + bit b k + carry a b k) % 2 = bit (a + b) k ∧ (bit a k + bit b k + carry a b k) / 2 = carry a b (k + 1) := by
  have hp := pow_pos' k
  have h1 := Int.mul_ediv_add_emod a (2 ^ k)
  have h2 := Int.mul_ediv_add_emod b (2 ^ k)
  constructor
  · have e : (a + b) / 2 ^ k = a / 2 ^ k + b / 2 ^ k + carry a b k := by
      have : a + b = (a % 2 ^ k + b % 2 ^ k) + 2 ^ k * (a / 2 ^ k + b / 2 ^ k) := by rw [Int.mul_add]; omega
      rw [this, Int.add_mul_ediv_left _ _ (Int.ne_of_gt hp)]
      unfold carry
      omega
    unfold bit
    rw [e]
    omega
  · have e : carry a b (k + 1) = ((a % 2 ^ k + b % 2 ^ k) + 2 ^ k * (bit a k + bit b k)) / (2 ^ k * 2) := by
      unfold carry
      rw [mod_succ a k, mod_succ b k, Int.pow_succ]
      congr 1
      rw [Int.mul_add, Int.mul_comm (2 ^ k), Int.mul_comm (2 ^ k) (bit b k)]
      omega
    rw [e, ← Int.ediv_ediv_of_nonneg (Int.le_of_lt hp), Int.add_mul_ediv_left _ _ (Int.ne_of_gt hp)]
    unfold carry
    congr 1
    omega
theorem neg_bit (a : Int) (k : Nat) : 1 - bit a k = bit (-a - 1) k := by
  unfold bit
  have hp := pow_pos' k
  have h1 := Int.mul_ediv_add_emod a (2 ^ k)
  have h2 := Int.emod_nonneg a (Int.ne_of_gt hp)
  have h3 := Int.emod_lt_of_pos a hp
  have e : (-a - 1) / 2 ^ k = -(a / 2 ^ k) - 1 := by
    have : -a - 1 = (2 ^ k - 1 - a % 2 ^ k) + 2 ^ k * (-(a / 2 ^ k) - 1) := by
      rw [Int.mul_sub, Int.mul_neg]; omega
    rw [this, Int.add_mul_ediv_left _ _ (Int.ne_of_gt hp), Int.ediv_eq_zero_of_lt (by omega) (by omega)]
    omega
  rw [e]
  omega

end Go.Proofs.Ytmedemniopgpeaa
