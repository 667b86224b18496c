/- What a run of steps comes to, but for its rounding; what is left of an angle; how far Angle's numbers go. -/
import Derived.Test.YtneljefoglmldaaDoorTurnMath
namespace Go.Proofs.YtneljefoglmldaaDoor
set_option linter.unusedVariables false
set_option maxRecDepth 100000
/-- The products of 2^i, and what a run's rounding comes to. -/
def tri : Nat → Int
  | 0 => 1
  | n + 1 => tri n * 2 ^ n
def len1 : Nat → Int
  | 0 => 1
  | n + 1 => (2 ^ n + 1) * len1 n
def slip : Nat → Int
  | 0 => 0
  | n + 1 => (2 ^ n + 1) * slip n + tri n * 2 ^ n
/-- The product of 2^i + I u(i). -/
def spin (u : Nat → Int) : Nat → Int × Int
  | 0 => (1, 0)
  | n + 1 => (2 ^ n * (spin u n).1 - u n * (spin u n).2, 2 ^ n * (spin u n).2 + u n * (spin u n).1)
theorem tri_pos : ∀ n, 0 < tri n
  | 0 => by decide
  | n + 1 => Int.mul_pos (tri_pos n) (two_pow_pos n)
/-- |r| ≤ b. -/
def Within (r b : Int) : Prop := -b ≤ r ∧ r ≤ b
theorem Within.add {r s b c : Int} (h : Within r b) (k : Within s c) : Within (r + s) (b + c) := by unfold Within at *; omega
theorem Within.sub {r s b c : Int} (h : Within r b) (k : Within s c) : Within (r - s) (b + c) := by unfold Within at *; omega
theorem Within.mul {r s b c : Int} (h : Within r b) (k : Within s c) : Within (r * s) (b * c) := mul_bd h k
theorem Within.mono {r b c : Int} (h : Within r b) (k : b ≤ c) : Within r c := by unfold Within at *; omega
theorem Within.self {r : Int} (h : 0 ≤ r) : Within r r := by unfold Within; omega
theorem Within.sg {u : Int} (h : u = 1 ∨ u = -1) : Within u 1 := by unfold Within; omega
theorem Within.of_eq {r s b : Int} (h : Within r b) (e : r = s) : Within s b := e ▸ h
theorem Within.nn {r b : Int} (h : Within r b) : 0 ≤ b := by unfold Within at h; omega

theorem spin_len (u : Nat → Int) (hu : ∀ i, u i = 1 ∨ u i = -1) : ∀ n, Within ((spin u n).1 + (spin u n).2) (len1 n) ∧ Within ((spin u n).1 - (spin u n).2) (len1 n)
  | 0 => by rw [spin, len1]; unfold Within; decide
  | n + 1 => by
    obtain ⟨h1, h2⟩ := spin_len u hu n
    have hp := Within.self (Int.le_of_lt (two_pow_pos n))
    have hs := Within.sg (hu n)
    rw [spin, len1]
    exact ⟨(((hp.mul h1).add (hs.mul h2)).of_eq (by grind)).mono (by grind), (((hp.mul h2).sub (hs.mul h1)).of_eq (by grind)).mono (by grind)⟩
theorem run_slips (x y : Nat → Int) (u : Nat → Int) (hu : ∀ i, u i = 1 ∨ u i = -1) (hx : ∀ i, x (i + 1) = x i - u i * (y i / 2 ^ i)) (hy : ∀ i, y (i + 1) = y i + u i * (x i / 2 ^ i)) :
    ∀ n, Within (tri n * x n - (x 0 * (spin u n).1 - y 0 * (spin u n).2)) (slip n) ∧ Within (tri n * y n - (x 0 * (spin u n).2 + y 0 * (spin u n).1)) (slip n)
  | 0 => by rw [tri, spin, slip]; unfold Within; simp
  | n + 1 => by
    obtain ⟨h1, h2⟩ := run_slips x y u hu hx hy n
    have p0 := two_pow_pos n
    have hp := Within.self (Int.le_of_lt p0)
    have hs := Within.sg (hu n)
    have ht := Within.self (Int.le_of_lt (tri_pos n))
    rw [spin, slip, tri, hx n, hy n]
    obtain ⟨a, f, e1, e2, f0, f1⟩ := parts (x n) _ p0
    obtain ⟨b, g, e3, e4, g0, g1⟩ := parts (y n) _ p0
    rw [e1, e3]
    have hf : Within f (2 ^ n) := by unfold Within; omega
    have hg : Within g (2 ^ n) := by unfold Within; omega
    have hu1 : u n * u n = 1 := by rcases hu n with h | h <;> rw [h] <;> rfl
    generalize (2 : Int) ^ n = p at *
    exact ⟨((((hp.mul h1).sub (hs.mul h2)).add (ht.mul (hs.mul hg))).of_eq (by grind)).mono (by grind), ((((hp.mul h2).add (hs.mul h1)).sub (ht.mul (hs.mul hf))).of_eq (by grind)).mono (by grind)⟩
theorem tri_end : len1 30 ≤ 5 * tri 30 ∧ slip 30 ≤ 40 * tri 30 := by decide +kernel

/-- What is left of the angle in the end. -/
def rest : Nat → Int
  | 0 => 0
  | n + 1 => rest n + stp (29 - n)
theorem left_small (a : Int) (ha : 0 ≤ a ∧ a < 1073741824) : ∀ i, i < 31 → -(rest (30 - i) + 2) ≤ (bothAt a i).2.2 ∧ (bothAt a i).2.2 ≤ rest (30 - i) + 2
  | 0, _ => by show -(rest 30 + 2) ≤ a ∧ a ≤ rest 30 + 2; have : 1073741824 ≤ rest 30 := by decide +kernel
               omega
  | i + 1, hi => by
    have ih := left_small a ha i (by omega)
    have key := all_below (P := fun i => stp i ≤ rest (30 - (i + 1)) + 2) 30 (by decide +kernel) i (by omega)
    have e : rest (30 - i) = rest (30 - (i + 1)) + stp i := by
      rw [show 30 - i = (30 - (i + 1)) + 1 by omega, rest, show 29 - (30 - (i + 1)) = i by omega]
    have := stp_bd i (by omega)
    rw [(both_step a i).2.2, sgB]
    split <;> omega
theorem left_end (a : Int) (ha : 0 ≤ a ∧ a < 1073741824) : Within (bothAt a 30).2.2 2 := by
  have := left_small a ha 30 (by decide)
  exact this
/-- The sum of the angles of a run's steps. -/
def turned (u : Nat → Int) : Nat → Int
  | 0 => 0
  | n + 1 => turned u n + u n * stp n
theorem both_turned (a : Int) : ∀ n, (bothAt a n).2.2 = a - turned (sgB a) n
  | 0 => by show a = a - 0; omega
  | n + 1 => by rw [(both_step a n).2.2, both_turned a n, turned]; omega
theorem ang_turned (x y : Int) : ∀ n, (angAt x y n).2.2 = - turned (sgA x y) n
  | 0 => by show (0 : Int) = -0; omega
  | n + 1 => by rw [(ang_step x y n).2.2, ang_turned x y n, turned]; omega

/-- How far x and y of Angle are from the axis, and how great x is. -/
def xHi : Nat → Int
  | 0 => 2305843009213693951
  | 1 => 4611686018427387902
  | n + 2 => xHi (n + 1) + (2 * xHi (n + 1)) / (2 ^ (n + 1) * 2 ^ (n + 1)) + n + 2
theorem xHi_bd (i : Nat) (hi : i < 31) : xHi i ≤ 9223372036854775000 := all_below (P := fun i => xHi i ≤ 9223372036854775000) 31 (by decide +kernel) i hi
/-- What the shifts make of x and y. -/
def Level (x y : Int) : Prop := 0 ≤ x ∧ x ≤ 2305843009213693951 ∧ -2305843009213693951 ≤ y ∧ y ≤ 2305843009213693951 ∧ (1152921504606846976 ≤ x ∨ 1152921504606846976 ≤ y ∨ y ≤ -1152921504606846976)
theorem ang_bd (x y : Int) (h : Level x y) : ∀ n, n < 30 → 1152921504606846976 ≤ (angAt x y (n + 1)).1 ∧ (angAt x y (n + 1)).1 ≤ xHi (n + 1) ∧
    2 ^ n * (angAt x y (n + 1)).2.1 ≤ (angAt x y (n + 1)).1 + (n + 1) * 2 ^ n ∧ -((angAt x y (n + 1)).1 + (n + 1) * 2 ^ n) ≤ 2 ^ n * (angAt x y (n + 1)).2.1
  | 0, _ => by
    obtain ⟨h0, h1, h2, h3, h4⟩ := h
    obtain ⟨s1, s2, _⟩ := ang_step x y 0
    rw [show xHi (0 + 1) = 4611686018427387902 from rfl, s1, s2, sgA]
    show _ ≤ x - _ * (y / 1) ∧ x - _ * (y / 1) ≤ _ ∧ (1 : Int) * (y + _ * (x / 1)) ≤ x - _ * (y / 1) + (0 + 1) * 1 ∧ -(x - _ * (y / 1) + (0 + 1) * 1) ≤ (1 : Int) * (y + _ * (x / 1))
    rw [Int.ediv_one, Int.ediv_one]
    show _ ≤ x - (if 0 ≤ y then (-1 : Int) else 1) * y ∧ x - (if 0 ≤ y then (-1 : Int) else 1) * y ≤ _ ∧ (1 : Int) * (y + (if 0 ≤ y then (-1 : Int) else 1) * x) ≤ x - (if 0 ≤ y then (-1 : Int) else 1) * y + (0 + 1) * 1 ∧ -(x - (if 0 ≤ y then (-1 : Int) else 1) * y + (0 + 1) * 1) ≤ (1 : Int) * (y + (if 0 ≤ y then (-1 : Int) else 1) * x)
    split <;> omega
  | n + 1, hn => by
    obtain ⟨h1, h2, h3, h4⟩ := ang_bd x y h n (by omega)
    obtain ⟨s1, s2, _⟩ := ang_step x y (n + 1)
    have hq : (2 : Int) ^ (n + 1) = 2 * 2 ^ n := by rw [Int.pow_succ]; omega
    have hp := two_pow_pos n
    rw [xHi, s1, s2, sgA]
    generalize (angAt x y (n + 1)).1 = X at *
    generalize (angAt x y (n + 1)).2.1 = Y at *
    rw [hq]
    generalize (2 : Int) ^ n = p at *
    obtain ⟨a, f, e1, e2, f0, f1⟩ := parts X (2 * p) (by omega)
    obtain ⟨b, g, e3, e4, g0, g1⟩ := parts Y (2 * p) (by omega)
    have hq0 := Int.mul_pos hp hp
    have hqb : p * Y = 2 * (p * p * b) + p * g := by rw [e4]; grind
    have hqX : p * X = 2 * (p * p * a) + p * f := by rw [e2]; grind
    have t1 := Int.mul_nonneg (show 0 ≤ p by omega) g0
    have t2 : p * g < p * (2 * p) := Int.mul_lt_mul_of_pos_left g1 hp
    have t3 : p ≤ p * p := by have := Int.mul_nonneg (show 0 ≤ p by omega) (show 0 ≤ p - 1 by omega); grind
    have t4 : (n : Int) * p ≤ p * p * n := by have := Int.mul_nonneg (show (0 : Int) ≤ n by omega) (show 0 ≤ p * p - p by omega); grind
    have t5 : p * (2 * p) = 2 * (p * p) := by grind
    have t8 := Int.mul_nonneg (Int.le_of_lt hq0) (show (0 : Int) ≤ n by omega)
    have t9 := Int.mul_nonneg (show (0 : Int) ≤ n by omega) (Int.le_of_lt hp)
    have t6 : 2 * p * (2 * p) = 4 * (p * p) := by grind
    obtain ⟨c, r, e5, e6, r0, r1⟩ := parts (2 * xHi (n + 1)) (4 * (p * p)) (by omega)
    rw [t6, e1, e3, e5]
    have e7 : 4 * (p * p) * c = 4 * (p * p * c) := by grind
    rw [Int.add_mul] at h3 h4
    have hb1 : b < c + n + 3 := by
      have : p * p * b < p * p * (c + n + 3) := by rw [Int.mul_add, Int.mul_add]; omega
      exact Int.lt_of_mul_lt_mul_left this (by omega)
    have hb2 : -(c + n + 2) < b + 1 := by
      have : p * p * (-(c + n + 2)) < p * p * (b + 1) := by rw [Int.mul_neg, Int.mul_add, Int.mul_add, Int.mul_add]; omega
      exact Int.lt_of_mul_lt_mul_left this (by omega)
    have t7 : (((n + 1 : Nat) : Int) + 1) * (2 * p) = 2 * (n * p) + 4 * p := by grind
    rw [t7]
    have e8 : 2 * p * (Y + -1 * a) = 2 * (p * Y) - (2 * p * a) := by grind
    have e9 : 2 * p * (Y + 1 * a) = 2 * (p * Y) + (2 * p * a) := by grind
    have b1 : 0 ≤ Y → 0 ≤ b := fun h => by rw [← e3]; exact Int.ediv_nonneg h (by omega)
    have b2 : Y < 0 → b ≤ -1 := fun h => by have := Int.ediv_neg_of_neg_of_pos h (show 0 < 2 * p by omega); omega
    have b3 : 0 ≤ Y → 0 ≤ p * Y := fun h => Int.mul_nonneg (by omega) h
    have b4 : Y < 0 → p * Y < 0 := fun h => Int.mul_neg_of_pos_of_neg hp h
    split
    · rw [e8]; omega
    · rw [e9]; omega
theorem ang_small (x y : Int) (h : Level x y) (n : Nat) (hn : n < 31) : 0 ≤ (angAt x y n).1 ∧ (angAt x y n).1 ≤ 9223372036854775000 ∧ -9223372036854775100 ≤ (angAt x y n).2.1 ∧ (angAt x y n).2.1 ≤ 9223372036854775100 := by
  cases n with
  | zero => obtain ⟨h0, h1, h2, h3, h4⟩ := h; show 0 ≤ x ∧ x ≤ _ ∧ _ ≤ y ∧ y ≤ _; omega
  | succ n =>
    obtain ⟨h1, h2, h3, h4⟩ := ang_bd x y h n (by omega)
    have h5 := xHi_bd (n + 1) (by omega)
    have hp := two_pow_pos n
    generalize (angAt x y (n + 1)).1 = X at *
    generalize (angAt x y (n + 1)).2.1 = Y at *
    generalize (2 : Int) ^ n = p at *
    have k1 : p * Y ≤ p * (X + n + 1) := by have := Int.mul_nonneg (show 0 ≤ p - 1 by omega) (show 0 ≤ X by omega); grind
    have k2 : p * (-(X + n + 1)) ≤ p * Y := by have := Int.mul_nonneg (show 0 ≤ p - 1 by omega) (show 0 ≤ X by omega); grind
    have k1 := Int.le_of_mul_le_mul_left k1 hp
    have k2 := Int.le_of_mul_le_mul_left k2 hp
    omega
theorem ang_end (x y : Int) (h : Level x y) : 1152921504606846976 ≤ (angAt x y 30).1 ∧ Within (536870912 * (angAt x y 30).2.1) ((angAt x y 30).1 + 16106127360) := by
  obtain ⟨h1, h2, h3, h4⟩ := ang_bd x y h 29 (by decide)
  unfold Within
  rw [show (2 : Int) ^ 29 = 536870912 from rfl] at h3 h4
  rw [show ((29 : Nat) : Int) = 29 from rfl] at h3 h4
  generalize (angAt x y (29 + 1)).1 = X at *
  generalize (angAt x y (29 + 1)).2.1 = Y at *
  omega

end Go.Proofs.YtneljefoglmldaaDoor
