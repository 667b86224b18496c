/- Plain facts on shifts and bits of halves of 64 bits; no function of the program is named here. -/
import Derived.Test.YtmedemniopgpeaaWideMath
import Derived.WalkKit
import Derived.WalkLawsBesides
import Derived.Laws.BitsAllLaws
namespace Go.Proofs.Ytmedemniopgpeaa

theorem pow_pos' (k : Nat) : (0 : Int) < 2 ^ k := Int.pow_pos (by decide)
theorem pow_split {k n : Nat} (h : k ≤ n) : (2 : Int) ^ k * 2 ^ (n - k) = 2 ^ n := by rw [← Int.pow_add, show k + (n - k) = n by omega]

theorem and32 (x : Int) (h0 : 0 ≤ x) (h1 : x ≤ 18446744073709551615) : bits .and .u64 x 4294967295 = x % 4294967296 := by
  rw [u64_and x 4294967295 h0 (by omega) (by omega) (by omega)]
  rw [show (4294967295 : Int).toNat = 2 ^ 32 - 1 from rfl, Nat.and_two_pow_sub_one_eq_mod]
  omega
theorem and1 (x : Int) (h0 : 0 ≤ x) (h1 : x ≤ 18446744073709551615) : bits .and .u64 x 1 = x % 2 := by
  rw [u64_and x 1 h0 (by omega) (by omega) (by omega)]
  rw [show (1 : Int).toNat = 2 ^ 1 - 1 from rfl, Nat.and_two_pow_sub_one_eq_mod]
  omega

/-- Of two numbers without signs, one a multiple of 2^k, the other below that: 'or' is the sum. -/
theorem or_u64 (k : Nat) (x y : Int) (h0 : 0 ≤ x) (h1 : x < 18446744073709551616) (hx : x % 2 ^ k = 0) (h2 : 0 ≤ y) (h3 : y < 18446744073709551616) (hy : y < 2 ^ k) : bits .or .u64 x y = x + y := by
  have e1 : x.toNat % 2 ^ k = 0 := by
    have : ((x.toNat % 2 ^ k : Nat) : Int) = 0 := by
      rw [Int.natCast_emod, Int.toNat_of_nonneg h0, Int.natCast_pow]
      exact hx
    omega
  have e2 : y.toNat < 2 ^ k := by
    have : ((y.toNat : Nat) : Int) < ((2 ^ k : Nat) : Int) := by rw [Int.toNat_of_nonneg h2, Int.natCast_pow]; exact hy
    omega
  rw [u64_or x y h0 h1 h2 h3, nat_join k _ _ e1 e2]
  omega
theorem or_u64' (k : Nat) (x y : Int) (h0 : 0 ≤ x) (h1 : x < 18446744073709551616) (hx : x % 2 ^ k = 0) (h2 : 0 ≤ y) (h3 : y < 18446744073709551616) (hy : y < 2 ^ k) : bits .or .u64 y x = x + y := by
  rw [← or_u64 k x y h0 h1 hx h2 h3 hy, u64_or x y h0 h1 h2 h3, u64_or y x h2 h3 h0 h1, Nat.or_comm]
/-- The same with a sign. -/
theorem or_i64 (k : Nat) (hk : k ≤ 63) (x y : Int) (hx0 : -9223372036854775808 ≤ x) (hx1 : x ≤ 9223372036854775807) (hx : x % 2 ^ k = 0) (h2 : 0 ≤ y) (hy : y < 2 ^ k) : bits .or .i64 x y = x + y := by
  have hp := pow_pos' k
  have hd : (2 : Int) ^ k ∣ 18446744073709551616 := ⟨2 ^ (64 - k), by rw [pow_split (by omega)]; rfl⟩
  have hd' : (2 : Int) ^ k ∣ 9223372036854775808 := ⟨2 ^ (63 - k), by rw [pow_split hk]; rfl⟩
  have hle : (2 : Int) ^ k ≤ 9223372036854775808 := Int.le_of_dvd (by omega) hd'
  have hsum : x + y ≤ 9223372036854775807 := by
    obtain ⟨q, hq⟩ := Int.dvd_of_emod_eq_zero hx
    obtain ⟨r, hr⟩ := hd'
    have hqr : q < r := by
      rcases Int.lt_or_le q r with h | h
      · exact h
      · have := Int.mul_le_mul_of_nonneg_left h (Int.le_of_lt hp)
        omega
    have := Int.mul_le_mul_of_nonneg_left (show q ≤ r - 1 by omega) (Int.le_of_lt hp)
    rw [Int.mul_sub] at this
    omega
  show IntKind.i64.wrap ((BitVec.ofInt 64 x ||| BitVec.ofInt 64 y).toNat : Int) = _
  have e1 : (BitVec.ofInt 64 x).toNat % 2 ^ k = 0 := by
    have : (((BitVec.ofInt 64 x).toNat % 2 ^ k : Nat) : Int) = 0 := by
      rw [Int.natCast_emod, BitVec.toNat_ofInt, Int.toNat_of_nonneg (Int.emod_nonneg _ (by decide)), Int.natCast_pow]
      show x % (18446744073709551616 : Int) % 2 ^ k = 0
      rw [Int.emod_emod_of_dvd _ hd]
      exact hx
    omega
  have e2 : (BitVec.ofInt 64 y).toNat < 2 ^ k := by
    have : (((BitVec.ofInt 64 y).toNat : Nat) : Int) < ((2 ^ k : Nat) : Int) := by
      rw [BitVec.toNat_ofInt, Int.toNat_of_nonneg (Int.emod_nonneg _ (by decide)), Int.natCast_pow]
      show y % (18446744073709551616 : Int) < 2 ^ k
      rw [Int.emod_eq_of_lt h2 (by omega)]
      exact hy
    omega
  rw [BitVec.toNat_or, nat_join k _ _ e1 e2, BitVec.toNat_ofInt, BitVec.toNat_ofInt, IntKind.wrap_i64]
  omega

/-! ### Left -/
theorem mul_mod (a b m : Int) : (a % m * b) % m = (a * b) % m := by rw [Int.mul_emod, Int.emod_emod, ← Int.mul_emod]
theorem left_lo (a : Int) (k : Nat) : IntKind.u64.wrap (lo a * 2 ^ k) = lo (a * 2 ^ k) := by
  rw [IntKind.wrap_u64]; unfold lo; exact mul_mod _ _ _
/-- Which number the upper half is, is all that hangs on what it is modulo 2^64. -/
theorem hi_of_mod {u v : Int} (h : (u - v / 18446744073709551616) % 18446744073709551616 = 0) : (u + 9223372036854775808) % 18446744073709551616 - 9223372036854775808 = hi v := by unfold hi; omega
theorem div_pow (a : Int) (k : Nat) (hk : k ≤ 64) : a * 2 ^ k / 18446744073709551616 = a / 18446744073709551616 * 2 ^ k + lo a / 2 ^ (64 - k) := by
  have hp := pow_pos' k
  have hs : (18446744073709551616 : Int) = 2 ^ (64 - k) * 2 ^ k := by rw [Int.mul_comm, pow_split hk]; rfl
  have e : a * 2 ^ k = lo a * 2 ^ k + 18446744073709551616 * (a / 18446744073709551616 * 2 ^ k) := by
    have h : a = lo a + 18446744073709551616 * (a / 18446744073709551616) := by unfold lo; omega
    calc a * 2 ^ k = (lo a + 18446744073709551616 * (a / 18446744073709551616)) * 2 ^ k := by rw [← h]
      _ = _ := by rw [Int.add_mul, Int.mul_assoc]
  rw [e, Int.add_mul_ediv_left _ _ (by decide)]
  have e2 : lo a * 2 ^ k / 18446744073709551616 = lo a / 2 ^ (64 - k) := by
    rw [hs, Int.mul_ediv_mul_of_pos_left _ _ hp]
  rw [e2, Int.add_comm]
theorem left_hi (a : Int) (k : Nat) (h0 : 0 < k) (h1 : k < 64) :
    bits .or .i64 (IntKind.i64.wrap (hi a * 2 ^ k)) (lo a / 2 ^ (64 - k)) = hi (a * 2 ^ k) := by
  have hp := pow_pos' k
  have hr := pow_pos' (64 - k)
  have hd : (2 : Int) ^ k ∣ 18446744073709551616 := ⟨2 ^ (64 - k), by rw [pow_split (by omega)]; rfl⟩
  have hl : lo a / 2 ^ (64 - k) < 2 ^ k := by
    apply Int.ediv_lt_of_lt_mul hr
    rw [pow_split (by omega : k ≤ 64)]
    exact lo_lt a
  have hl0 : 0 ≤ lo a / 2 ^ (64 - k) := Int.ediv_nonneg (lo_lo a) (Int.le_of_lt hr)
  have hw0 : -9223372036854775808 ≤ IntKind.i64.wrap (hi a * 2 ^ k) := by rw [IntKind.wrap_i64]; omega
  have hw1 : IntKind.i64.wrap (hi a * 2 ^ k) ≤ 9223372036854775807 := by rw [IntKind.wrap_i64]; omega
  have hm : ∃ t, IntKind.i64.wrap (hi a * 2 ^ k) = hi a * 2 ^ k + 18446744073709551616 * t := ⟨-((hi a * 2 ^ k + 9223372036854775808) / 18446744073709551616), by rw [IntKind.wrap_i64]; omega⟩
  obtain ⟨t, ht⟩ := hm
  have hx : IntKind.i64.wrap (hi a * 2 ^ k) % 2 ^ k = 0 := by
    rw [ht]
    apply Int.emod_eq_zero_of_dvd
    exact Int.dvd_add (Int.dvd_mul_left _ _) (Int.dvd_trans hd (Int.dvd_mul_right _ _))
  rw [or_i64 k (by omega) _ _ hw0 hw1 hx hl0 hl]
  have hq : ∃ s, hi a = a / 18446744073709551616 + 18446744073709551616 * s := ⟨-((a / 18446744073709551616 + 9223372036854775808) / 18446744073709551616), by unfold hi; omega⟩
  obtain ⟨s, hs⟩ := hq
  have key : hi a * 2 ^ k = a / 18446744073709551616 * 2 ^ k + 18446744073709551616 * (s * 2 ^ k) := by rw [hs, Int.add_mul, Int.mul_assoc]
  have hsum : IntKind.i64.wrap (hi a * 2 ^ k) + lo a / 2 ^ (64 - k) ≤ 9223372036854775807 := by
    have hd' : (2 : Int) ^ k ∣ 9223372036854775808 := ⟨2 ^ (63 - k), by rw [pow_split (by omega)]; rfl⟩
    obtain ⟨q, hq⟩ := Int.dvd_of_emod_eq_zero hx
    obtain ⟨r, hr⟩ := hd'
    have hqr : q < r := by
      rcases Int.lt_or_le q r with h | h
      · exact h
      · have := Int.mul_le_mul_of_nonneg_left h (Int.le_of_lt hp)
        omega
    have := Int.mul_le_mul_of_nonneg_left (show q ≤ r - 1 by omega) (Int.le_of_lt hp)
    rw [Int.mul_sub] at this
    omega
  rw [← hi_of_mod (u := IntKind.i64.wrap (hi a * 2 ^ k) + lo a / 2 ^ (64 - k)) (v := a * 2 ^ k)]
  · omega
  · rw [div_pow a k (by omega), ht, key]
    generalize a / 18446744073709551616 * 2 ^ k = p
    generalize s * 2 ^ k = r
    omega
theorem left_far_hi (a : Int) (n : Nat) (h : 64 ≤ n) : IntKind.i64.wrap (IntKind.u64.wrap (lo a * 2 ^ (min (n - 64) 64))) = hi (a * 2 ^ n) := by
  have e : a * 2 ^ n = 18446744073709551616 * (a * 2 ^ (n - 64)) := by
    rw [show (18446744073709551616 : Int) = 2 ^ 64 from rfl, ← Int.mul_assoc, Int.mul_comm (2 ^ 64) a, Int.mul_assoc, pow_split h]
  rw [IntKind.wrap_i64, IntKind.wrap_u64]
  unfold lo
  rw [mul_mod]
  apply (hi_of_mod _)
  rw [e, Int.mul_ediv_cancel_left _ (by decide)]
  rcases Nat.le_total (n - 64) 64 with hle | hle
  · rw [Nat.min_eq_left hle]; omega
  · rw [Nat.min_eq_right hle]
    have e2 : a * 2 ^ (n - 64) = 18446744073709551616 * (a * 2 ^ (n - 64 - 64)) := by
      rw [show (18446744073709551616 : Int) = 2 ^ 64 from rfl, ← Int.mul_assoc, Int.mul_comm (2 ^ 64) a, Int.mul_assoc, pow_split hle]
    rw [e2, show (2 : Int) ^ 64 = 18446744073709551616 from rfl]
    omega
theorem left_far_lo (a : Int) (n : Nat) (h : 64 ≤ n) : lo (a * 2 ^ n) = 0 := by
  have e : a * 2 ^ n = 18446744073709551616 * (a * 2 ^ (n - 64)) := by
    rw [show (18446744073709551616 : Int) = 2 ^ 64 from rfl, ← Int.mul_assoc, Int.mul_comm (2 ^ 64) a, Int.mul_assoc, pow_split h]
  rw [e]; unfold lo; exact Int.mul_emod_right _ _

/-! ### Right -/
theorem right_split (a : Int) (ha : Fits a) (k : Nat) (hk : k ≤ 64) : a / 2 ^ k = hi a * 2 ^ (64 - k) + lo a / 2 ^ k := by
  have hp := pow_pos' k
  have h := halves ha
  have hs : (18446744073709551616 : Int) = 2 ^ (64 - k) * 2 ^ k := by rw [Int.mul_comm, pow_split hk]; rfl
  calc a / 2 ^ k = (lo a + 2 ^ k * (hi a * 2 ^ (64 - k))) / 2 ^ k := by
        congr 1
        rw [Int.mul_comm (hi a), ← Int.mul_assoc, pow_split hk, show (2 : Int) ^ 64 = 18446744073709551616 from rfl]
        omega
    _ = _ := by rw [Int.add_mul_ediv_left _ _ (Int.ne_of_gt hp), Int.add_comm]
theorem right_low_hi (a : Int) (ha : Fits a) (k : Nat) (hk : k < 64) : hi a / 2 ^ k = hi (a / 2 ^ k) := by
  have hp := pow_pos' k
  have hr := pow_pos' (64 - k)
  have hl : lo a / 2 ^ k < 2 ^ (64 - k) := by
    apply Int.ediv_lt_of_lt_mul hp
    rw [Int.mul_comm, pow_split (by omega : k ≤ 64)]
    exact lo_lt a
  have hl0 : 0 ≤ lo a / 2 ^ k := Int.ediv_nonneg (lo_lo a) (Int.le_of_lt hp)
  have hs : (18446744073709551616 : Int) = 2 ^ (64 - k) * 2 ^ k := by rw [Int.mul_comm, pow_split (by omega : k ≤ 64)]; rfl
  have e : a / 2 ^ k / 18446744073709551616 = hi a / 2 ^ k := by
    rw [right_split a ha k (by omega), hs, ← Int.ediv_ediv_of_nonneg (Int.le_of_lt hr), Int.add_comm, Int.mul_comm (hi a), Int.add_mul_ediv_left _ _ (Int.ne_of_gt hr),
      Int.ediv_eq_zero_of_lt hl0 hl, Int.zero_add]
  have b0 := hi_lo a
  have b1 := hi_hi a
  have c0 : -9223372036854775808 ≤ hi a / 2 ^ k := by
    apply (Int.le_ediv_iff_mul_le hp).2
    have : (1 : Int) ≤ 2 ^ k := by omega
    have := Int.mul_le_mul_of_nonneg_left this (show (0 : Int) ≤ 9223372036854775808 by decide)
    omega
  have c1 : hi a / 2 ^ k ≤ 9223372036854775807 := by
    rcases Int.lt_or_le (hi a) 0 with hn | hn
    · have := Int.ediv_neg_of_neg_of_pos hn hp; omega
    · exact Int.le_trans (Int.ediv_le_self _ hn) b1
  unfold hi at *
  rw [e]
  omega
theorem right_low_lo (a : Int) (ha : Fits a) (k : Nat) (hk : k < 64) :
    bits .or .u64 (lo a / 2 ^ k) (IntKind.u64.wrap (IntKind.u64.wrap (hi a) * 2 ^ (64 - k))) = lo (a / 2 ^ k) := by
  have hp := pow_pos' k
  have hr := pow_pos' (64 - k)
  have hl : lo a / 2 ^ k < 2 ^ (64 - k) := by
    apply Int.ediv_lt_of_lt_mul hp
    rw [Int.mul_comm, pow_split (by omega : k ≤ 64)]
    exact lo_lt a
  have hl0 : 0 ≤ lo a / 2 ^ k := Int.ediv_nonneg (lo_lo a) (Int.le_of_lt hp)
  have hl1 : lo a / 2 ^ k ≤ lo a := Int.ediv_le_self _ (lo_lo a)
  have hb := lo_lt a
  have hd : (2 : Int) ^ (64 - k) ∣ 18446744073709551616 := ⟨2 ^ k, by rw [Int.mul_comm, pow_split (by omega)]; rfl⟩
  rw [IntKind.wrap_u64, IntKind.wrap_u64, mul_mod]
  have hx : (hi a * 2 ^ (64 - k)) % 18446744073709551616 % 2 ^ (64 - k) = 0 := by
    rw [Int.emod_emod_of_dvd _ hd]; exact Int.mul_emod_left _ _
  rw [or_u64' (64 - k) _ _ (Int.emod_nonneg _ (by decide)) (Int.emod_lt_of_pos _ (by decide)) hx hl0 (by omega) hl]
  rw [right_split a ha k (by omega)]
  unfold lo at *
  have hlt : hi a * 2 ^ (64 - k) % 18446744073709551616 + a % 18446744073709551616 / 2 ^ k < 18446744073709551616 := by
    obtain ⟨q, hq⟩ := Int.dvd_of_emod_eq_zero hx
    obtain ⟨r, hr'⟩ := hd
    have hlt := Int.emod_lt_of_pos (hi a * 2 ^ (64 - k)) (show (0 : Int) < 18446744073709551616 by decide)
    have hqr : q < r := by
      rcases Int.lt_or_le q r with h | h
      · exact h
      · have := Int.mul_le_mul_of_nonneg_left h (Int.le_of_lt hr)
        omega
    have := Int.mul_le_mul_of_nonneg_left (show q ≤ r - 1 by omega) (Int.le_of_lt hr)
    rw [Int.mul_sub] at this
    omega
  generalize hi a * 2 ^ (64 - k) = p at *
  generalize a % 18446744073709551616 / 2 ^ k = t at *
  omega
theorem right_far (a : Int) (ha : Fits a) (n : Nat) (h : 64 ≤ n) : a / 2 ^ n = hi a / 2 ^ (n - 64) := by
  have h1 := halves ha
  have h2 := lo_lo a
  have h3 := lo_lt a
  rw [← pow_split h, ← Int.ediv_ediv_of_nonneg (Int.le_of_lt (pow_pos' 64)), show (2 : Int) ^ 64 = 18446744073709551616 from rfl, show a / 18446744073709551616 = hi a by omega]
theorem right_far_hi (a : Int) (ha : Fits a) (n : Nat) (h : 64 ≤ n) : hi a / 9223372036854775808 = hi (a / 2 ^ n) := by
  have hp := pow_pos' (n - 64)
  have b0 := hi_lo a
  have b1 := hi_hi a
  rw [right_far a ha n h]
  have c0 : -9223372036854775808 ≤ hi a / 2 ^ (n - 64) := by
    apply (Int.le_ediv_iff_mul_le hp).2
    have : (1 : Int) ≤ 2 ^ (n - 64) := by omega
    have := Int.mul_le_mul_of_nonneg_left this (show (0 : Int) ≤ 9223372036854775808 by decide)
    omega
  rcases Int.lt_or_le (hi a) 0 with hn | hn
  · have c1 := Int.ediv_neg_of_neg_of_pos hn hp
    generalize hi a / 2 ^ (n - 64) = v at *
    generalize hi a = u at *
    unfold hi
    omega
  · have c1 := Int.ediv_nonneg hn (Int.le_of_lt hp)
    have c2 := Int.ediv_le_self (2 ^ (n - 64)) hn
    generalize hi a / 2 ^ (n - 64) = v at *
    generalize hi a = u at *
    unfold hi
    omega
theorem right_far_lo (a : Int) (ha : Fits a) (n : Nat) (h : 64 ≤ n) : IntKind.u64.wrap (hi a / 2 ^ (n - 64)) = lo (a / 2 ^ n) := by
  rw [right_far a ha n h, IntKind.wrap_u64]; rfl

/-- a over 2^n to the nearest number, of two that are as near the greater one. -/
def near (a n : Int) : Int := if n ≤ 0 then a else (a + 2 ^ ((places n).toNat - 1)) / 2 ^ (places n).toNat
theorem near_half (a : Int) (m : Nat) (hm : 0 < m) : (a + 2 ^ (m - 1)) / 2 ^ m = a / 2 ^ m + a / 2 ^ (m - 1) % 2 := by
  have hp := pow_pos' (m - 1)
  have e : (2 : Int) ^ m = 2 ^ (m - 1) * 2 := by rw [← Int.pow_succ, show (m - 1).succ = m by omega]
  rw [e, ← Int.ediv_ediv_of_nonneg (Int.le_of_lt hp), ← Int.ediv_ediv_of_nonneg (Int.le_of_lt hp)]
  have h1 : (a + 2 ^ (m - 1)) / 2 ^ (m - 1) = a / 2 ^ (m - 1) + 1 := by
    have := Int.add_mul_ediv_left a 1 (Int.ne_of_gt hp)
    rw [Int.mul_one] at this
    exact this
  rw [h1]
  omega

/-! ### Mul: by quarters -/
theorem quarters (x y : Int) (x0 : 0 ≤ x) (x1 : x ≤ 18446744073709551615) (y0 : 0 ≤ y) (y1 : y ≤ 18446744073709551615) :
    ∃ ac ad bc bd : Int, x / 4294967296 * (y / 4294967296) = ac ∧ x / 4294967296 * (y % 4294967296) = ad ∧ x % 4294967296 * (y / 4294967296) = bc ∧ x % 4294967296 * (y % 4294967296) = bd ∧
      (0 ≤ ac ∧ ac ≤ 18446744065119617025) ∧ (0 ≤ ad ∧ ad ≤ 18446744065119617025) ∧ (0 ≤ bc ∧ bc ≤ 18446744065119617025) ∧ (0 ≤ bd ∧ bd ≤ 18446744065119617025) ∧
      x * y = ac * 18446744073709551616 + (ad + bc) * 4294967296 + bd := by
  have bound : ∀ p q : Int, 0 ≤ p → p ≤ 4294967295 → 0 ≤ q → q ≤ 4294967295 → 0 ≤ p * q ∧ p * q ≤ 18446744065119617025 := fun p q h1 h2 h3 h4 =>
    ⟨Int.mul_nonneg h1 h3, by have := Int.mul_le_mul h2 h4 h3 (by decide); omega⟩
  refine ⟨_, _, _, _, rfl, rfl, rfl, rfl, bound _ _ (by omega) (by omega) (by omega) (by omega), bound _ _ (by omega) (by omega) (by omega) (by omega), bound _ _ (by omega) (by omega) (by omega) (by omega), bound _ _ (by omega) (by omega) (by omega) (by omega), ?_⟩
  have hx : x = x / 4294967296 * 4294967296 + x % 4294967296 := by omega
  have hy : y = y / 4294967296 * 4294967296 + y % 4294967296 := by omega
  generalize x / 4294967296 = a at *
  generalize x % 4294967296 = b at *
  generalize y / 4294967296 = c at *
  generalize y % 4294967296 = d at *
  subst hx hy
  have e1 : (a * 4294967296 + b) * (c * 4294967296 + d) = a * 4294967296 * (c * 4294967296) + a * 4294967296 * d + (b * (c * 4294967296) + b * d) := by rw [Int.add_mul, Int.mul_add, Int.mul_add]
  have e2 : a * 4294967296 * (c * 4294967296) = a * c * 18446744073709551616 := by
    rw [Int.mul_assoc, Int.mul_left_comm 4294967296 c, ← Int.mul_assoc, show (4294967296 : Int) * 4294967296 = 18446744073709551616 from rfl]
  have e3 : a * 4294967296 * d = a * d * 4294967296 := by rw [Int.mul_assoc, Int.mul_comm 4294967296, ← Int.mul_assoc]
  have e4 : b * (c * 4294967296) = b * c * 4294967296 := by rw [← Int.mul_assoc]
  rw [e1, e2, e3, e4]
  omega

end Go.Proofs.Ytmedemniopgpeaa
