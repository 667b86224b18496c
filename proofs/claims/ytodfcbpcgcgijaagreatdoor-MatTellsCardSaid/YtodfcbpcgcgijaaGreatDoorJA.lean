import Derived.WalkKit
import Derived.WalkLawsBesides
import Derived.Laws.BitsAllLaws
/- Plain facts on numbers of 128 bits as two halves: the upper half with a sign, the lower half without; no function of the program is named here. -/
namespace Go.Proofs.YtodfcbpcgcgijaaGreatDoor
set_option maxRecDepth 100000

/-- The upper half of a number, modulo 2^128. -/
def hi (v : Int) : Int := (v / 18446744073709551616 + 9223372036854775808) % 18446744073709551616 - 9223372036854775808
/-- The lower half. -/
def lo (v : Int) : Int := v % 18446744073709551616
/-- A number of 128 bits. -/
def Fits (v : Int) : Prop := -170141183460469231731687303715884105728 ≤ v ∧ v < 170141183460469231731687303715884105728
/-- A number of 64 bits. -/
def Half (n : Int) : Prop := -9223372036854775808 ≤ n ∧ n ≤ 9223372036854775807
/-- Going round into 128 bits. -/
def sw (v : Int) : Int := (v + 170141183460469231731687303715884105728) % 340282366920938463463374607431768211456 - 170141183460469231731687303715884105728

theorem hi_lo (v : Int) : -9223372036854775808 ≤ hi v := by unfold hi; omega
theorem hi_hi (v : Int) : hi v ≤ 9223372036854775807 := by unfold hi; omega
theorem lo_lo (v : Int) : 0 ≤ lo v := by unfold lo; omega
theorem lo_hi (v : Int) : lo v ≤ 18446744073709551615 := by unfold lo; omega
theorem lo_lt (v : Int) : lo v < 18446744073709551616 := by unfold lo; omega

theorem hi_sw (v : Int) : hi (sw v) = hi v := by unfold hi sw; omega
theorem lo_sw (v : Int) : lo (sw v) = lo v := by unfold lo sw; omega
theorem fits_sw (v : Int) : Fits (sw v) := by unfold Fits sw; omega
theorem sw_fits {v : Int} (h : Fits v) : sw v = v := by unfold Fits at h; unfold sw; omega
theorem sw_congr {u v : Int} (h : sw u = sw v) : hi u = hi v ∧ lo u = lo v := by rw [← hi_sw u, ← lo_sw u, h, hi_sw, lo_sw]; exact ⟨rfl, rfl⟩
theorem halves {v : Int} (h : Fits v) : hi v * 18446744073709551616 + lo v = v := by unfold Fits at h; unfold hi lo; omega
theorem of_halves {h l : Int} (hh : Half h) (l0 : 0 ≤ l) (l1 : l ≤ 18446744073709551615) : ∃ v, Fits v ∧ h = hi v ∧ l = lo v := by
  unfold Half at hh
  refine ⟨h * 18446744073709551616 + l, ?_, ?_, ?_⟩
  · unfold Fits; omega
  · unfold hi; omega
  · unfold lo; omega
theorem halves_inj {u v : Int} (hu : Fits u) (hv : Fits v) (h : hi u = hi v) (l : lo u = lo v) : u = v := by
  have := halves hu; have := halves hv; omega
theorem half_fits {n : Int} (h : Half n) : Fits n := by unfold Half at h; unfold Fits; omega
theorem half_hi (v : Int) : Half (hi v) := ⟨hi_lo v, hi_hi v⟩

theorem add_carry (a b : Int) (h : (lo a + lo b) % 18446744073709551616 < lo a) :
    (hi a + hi b + 1 + 9223372036854775808) % 18446744073709551616 - 9223372036854775808 = hi (a + b) := by unfold hi lo at *; omega
theorem add_none (a b : Int) (h : ¬ (lo a + lo b) % 18446744073709551616 < lo a) :
    (hi a + hi b + 9223372036854775808) % 18446744073709551616 - 9223372036854775808 = hi (a + b) := by unfold hi lo at *; omega
theorem add_low (a b : Int) : (lo a + lo b) % 18446744073709551616 = lo (a + b) := by unfold lo; omega

/-- -1, 0 or 1. -/
def sgn (a : Int) : Int := if a < 0 then -1 else if a = 0 then 0 else 1
/-- How many places Right and Near count. -/
def places (n : Int) : Int := min (max n 0) 127
/-- The number of 64 bits that is nearest. -/
def clipped (a : Int) : Int := max (-9223372036854775808) (min 9223372036854775807 a)
/-- Whether that is another one. -/
def cut (a : Int) : Bool := decide (a < -9223372036854775808 ∨ 9223372036854775807 < a)

end Go.Proofs.YtodfcbpcgcgijaaGreatDoor

/- Plain facts on shifts and bits of halves of 64 bits; no function of the program is named here. -/
namespace Go.Proofs.YtodfcbpcgcgijaaGreatDoor
set_option maxRecDepth 100000

theorem pow_pos' (k : Nat) : (0 : Int) < 2 ^ k := Int.pow_pos (by decide)
theorem pow_split {k n : Nat} (h : k ≤ n) : (2 : Int) ^ k * 2 ^ (n - k) = 2 ^ n := by rw [← Int.pow_add, show k + (n - k) = n by omega]

theorem and32 (x : Int) (h0 : 0 ≤ x) (h1 : x ≤ 18446744073709551615) : bits .and .u64 x 4294967295 = x % 4294967296 := by
  rw [u64_and x 4294967295 h0 (by omega) (by omega) (by omega)]
  rw [show (4294967295 : Int).toNat = 2 ^ 32 - 1 from rfl, Nat.and_two_pow_sub_one_eq_mod]
  omega
theorem and1 (x : Int) (h0 : 0 ≤ x) (h1 : x ≤ 18446744073709551615) : bits .and .u64 x 1 = x % 2 := by
  rw [u64_and x 1 h0 (by omega) (by omega) (by omega)]
  rw [show (1 : Int).toNat = 2 ^ 1 - 1 from rfl, Nat.and_two_pow_sub_one_eq_mod]
  omega

/-- Of two numbers without signs, one a multiple of 2^k, the other below that: 'or' is the sum. -/
theorem or_u64 (k : Nat) (x y : Int) (h0 : 0 ≤ x) (h1 : x < 18446744073709551616) (hx : x % 2 ^ k = 0) (h2 : 0 ≤ y) (h3 : y < 18446744073709551616) (hy : y < 2 ^ k) : bits .or .u64 x y = x + y := by
  have e1 : x.toNat % 2 ^ k = 0 := by
    have : ((x.toNat % 2 ^ k : Nat) : Int) = 0 := by
      rw [Int.natCast_emod, Int.toNat_of_nonneg h0, Int.natCast_pow]
      exact hx
    omega
  have e2 : y.toNat < 2 ^ k := by
    have : ((y.toNat : Nat) : Int) < ((2 ^ k : Nat) : Int) := by rw [Int.toNat_of_nonneg h2, Int.natCast_pow]; exact hy
    omega
  rw [u64_or x y h0 h1 h2 h3, nat_join k _ _ e1 e2]
  omega
theorem or_u64' (k : Nat) (x y : Int) (h0 : 0 ≤ x) (h1 : x < 18446744073709551616) (hx : x % 2 ^ k = 0) (h2 : 0 ≤ y) (h3 : y < 18446744073709551616) (hy : y < 2 ^ k) : bits .or .u64 y x = x + y := by
  rw [← or_u64 k x y h0 h1 hx h2 h3 hy, u64_or x y h0 h1 h2 h3, u64_or y x h2 h3 h0 h1, Nat.or_comm]
/-- The same with a sign. -/
theorem or_i64 (k : Nat) (hk : k ≤ 63) (x y : Int) (hx0 : -9223372036854775808 ≤ x) (hx1 : x ≤ 9223372036854775807) (hx : x % 2 ^ k = 0) (h2 : 0 ≤ y) (hy : y < 2 ^ k) : bits .or .i64 x y = x + y := by
  have hp := pow_pos' k
  have hd : (2 : Int) ^ k ∣ 18446744073709551616 := ⟨2 ^ (64 - k), by rw [pow_split (by omega)]; rfl⟩
  have hd' : (2 : Int) ^ k ∣ 9223372036854775808 := ⟨2 ^ (63 - k), by rw [pow_split hk]; rfl⟩
  have hle : (2 : Int) ^ k ≤ 9223372036854775808 := Int.le_of_dvd (by omega) hd'
  have hsum : x + y ≤ 9223372036854775807 := by
    obtain ⟨q, hq⟩ := Int.dvd_of_emod_eq_zero hx
    obtain ⟨r, hr⟩ := hd'
    have hqr : q < r := by
      rcases Int.lt_or_le q r with h | h
      · exact h
      · have := Int.mul_le_mul_of_nonneg_left h (Int.le_of_lt hp)
        omega
    have := Int.mul_le_mul_of_nonneg_left (show q ≤ r - 1 by omega) (Int.le_of_lt hp)
    rw [Int.mul_sub] at this
    omega
  show IntKind.i64.wrap ((BitVec.ofInt 64 x ||| BitVec.ofInt 64 y).toNat : Int) = _
  have e1 : (BitVec.ofInt 64 x).toNat % 2 ^ k = 0 := by
    have : (((BitVec.ofInt 64 x).toNat % 2 ^ k : Nat) : Int) = 0 := by
      rw [Int.natCast_emod, BitVec.toNat_ofInt, Int.toNat_of_nonneg (Int.emod_nonneg _ (by decide)), Int.natCast_pow]
      show x % (18446744073709551616 : Int) % 2 ^ k = 0
      rw [Int.emod_emod_of_dvd _ hd]
      exact hx
    omega
  have e2 : (BitVec.ofInt 64 y).toNat < 2 ^ k := by
    have : (((BitVec.ofInt 64 y).toNat : Nat) : Int) < ((2 ^ k : Nat) : Int) := by
      rw [BitVec.toNat_ofInt, Int.toNat_of_nonneg (Int.emod_nonneg _ (by decide)), Int.natCast_pow]
      show y % (18446744073709551616 : Int) < 2 ^ k
      rw [Int.emod_eq_of_lt h2 (by omega)]
      exact hy
    omega
  rw [BitVec.toNat_or, nat_join k _ _ e1 e2, BitVec.toNat_ofInt, BitVec.toNat_ofInt, IntKind.wrap_i64]
  omega

/-! ### Left -/
theorem mul_mod (a b m : Int) : (a % m * b) % m = (a * b) % m := by rw [Int.mul_emod, Int.emod_emod, ← Int.mul_emod]
theorem left_lo (a : Int) (k : Nat) : IntKind.u64.wrap (lo a * 2 ^ k) = lo (a * 2 ^ k) := by
  rw [IntKind.wrap_u64]; unfold lo; exact mul_mod _ _ _
/-- Which number the upper half is, is all that hangs on what it is modulo 2^64. -/
theorem hi_of_mod {u v : Int} (h : (u - v / 18446744073709551616) % 18446744073709551616 = 0) : (u + 9223372036854775808) % 18446744073709551616 - 9223372036854775808 = hi v := by unfold hi; omega
theorem div_pow (a : Int) (k : Nat) (hk : k ≤ 64) : a * 2 ^ k / 18446744073709551616 = a / 18446744073709551616 * 2 ^ k + lo a / 2 ^ (64 - k) := by
  have hp := pow_pos' k
  have hs : (18446744073709551616 : Int) = 2 ^ (64 - k) * 2 ^ k := by rw [Int.mul_comm, pow_split hk]; rfl
  have e : a * 2 ^ k = lo a * 2 ^ k + 18446744073709551616 * (a / 18446744073709551616 * 2 ^ k) := by
    have h : a = lo a + 18446744073709551616 * (a / 18446744073709551616) := by unfold lo; omega
    calc a * 2 ^ k = (lo a + 18446744073709551616 * (a / 18446744073709551616)) * 2 ^ k := by rw [← h]
      _ = _ := by rw [Int.add_mul, Int.mul_assoc]
  rw [e, Int.add_mul_ediv_left _ _ (by decide)]
  have e2 : lo a * 2 ^ k / 18446744073709551616 = lo a / 2 ^ (64 - k) := by
    rw [hs, Int.mul_ediv_mul_of_pos_left _ _ hp]
  rw [e2, Int.add_comm]
theorem left_hi (a : Int) (k : Nat) (h0 : 0 < k) (h1 : k < 64) :
    bits .or .i64 (IntKind.i64.wrap (hi a * 2 ^ k)) (lo a / 2 ^ (64 - k)) = hi (a * 2 ^ k) := by
  have hp := pow_pos' k
  have hr := pow_pos' (64 - k)
  have hd : (2 : Int) ^ k ∣ 18446744073709551616 := ⟨2 ^ (64 - k), by rw [pow_split (by omega)]; rfl⟩
  have hl : lo a / 2 ^ (64 - k) < 2 ^ k := by
    apply Int.ediv_lt_of_lt_mul hr
    rw [pow_split (by omega : k ≤ 64)]
    exact lo_lt a
  have hl0 : 0 ≤ lo a / 2 ^ (64 - k) := Int.ediv_nonneg (lo_lo a) (Int.le_of_lt hr)
  have hw0 : -9223372036854775808 ≤ IntKind.i64.wrap (hi a * 2 ^ k) := by rw [IntKind.wrap_i64]; omega
  have hw1 : IntKind.i64.wrap (hi a * 2 ^ k) ≤ 9223372036854775807 := by rw [IntKind.wrap_i64]; omega
  have hm : ∃ t, IntKind.i64.wrap (hi a * 2 ^ k) = hi a * 2 ^ k + 18446744073709551616 * t := ⟨-((hi a * 2 ^ k + 9223372036854775808) / 18446744073709551616), by rw [IntKind.wrap_i64]; omega⟩
  obtain ⟨t, ht⟩ := hm
  have hx : IntKind.i64.wrap (hi a * 2 ^ k) % 2 ^ k = 0 := by
    rw [ht]
    apply Int.emod_eq_zero_of_dvd
    exact Int.dvd_add (Int.dvd_mul_left _ _) (Int.dvd_trans hd (Int.dvd_mul_right _ _))
  rw [or_i64 k (by omega) _ _ hw0 hw1 hx hl0 hl]
  have hq : ∃ s, hi a = a / 18446744073709551616 + 18446744073709551616 * s := ⟨-((a / 18446744073709551616 + 9223372036854775808) / 18446744073709551616), by unfold hi; omega⟩
  obtain ⟨s, hs⟩ := hq
  have key : hi a * 2 ^ k = a / 18446744073709551616 * 2 ^ k + 18446744073709551616 * (s * 2 ^ k) := by rw [hs, Int.add_mul, Int.mul_assoc]
  have hsum : IntKind.i64.wrap (hi a * 2 ^ k) + lo a / 2 ^ (64 - k) ≤ 9223372036854775807 := by
    have hd' : (2 : Int) ^ k ∣ 9223372036854775808 := ⟨2 ^ (63 - k), by rw [pow_split (by omega)]; rfl⟩
    obtain ⟨q, hq⟩ := Int.dvd_of_emod_eq_zero hx
    obtain ⟨r, hr⟩ := hd'
    have hqr : q < r := by
      rcases Int.lt_or_le q r with h | h
      · exact h
      · have := Int.mul_le_mul_of_nonneg_left h (Int.le_of_lt hp)
        omega
    have := Int.mul_le_mul_of_nonneg_left (show q ≤ r - 1 by omega) (Int.le_of_lt hp)
    rw [Int.mul_sub] at this
    omega
  rw [← hi_of_mod (u := IntKind.i64.wrap (hi a * 2 ^ k) + lo a / 2 ^ (64 - k)) (v := a * 2 ^ k)]
  · omega
  · rw [div_pow a k (by omega), ht, key]
    generalize a / 18446744073709551616 * 2 ^ k = p
    generalize s * 2 ^ k = r
    omega
theorem left_far_hi (a : Int) (n : Nat) (h : 64 ≤ n) : IntKind.i64.wrap (IntKind.u64.wrap (lo a * 2 ^ (min (n - 64) 64))) = hi (a * 2 ^ n) := by
  have e : a * 2 ^ n = 18446744073709551616 * (a * 2 ^ (n - 64)) := by
    rw [show (18446744073709551616 : Int) = 2 ^ 64 from rfl, ← Int.mul_assoc, Int.mul_comm (2 ^ 64) a, Int.mul_assoc, pow_split h]
  rw [IntKind.wrap_i64, IntKind.wrap_u64]
  unfold lo
  rw [mul_mod]
  apply (hi_of_mod _)
  rw [e, Int.mul_ediv_cancel_left _ (by decide)]
  rcases Nat.le_total (n - 64) 64 with hle | hle
  · rw [Nat.min_eq_left hle]; omega
  · rw [Nat.min_eq_right hle]
    have e2 : a * 2 ^ (n - 64) = 18446744073709551616 * (a * 2 ^ (n - 64 - 64)) := by
      rw [show (18446744073709551616 : Int) = 2 ^ 64 from rfl, ← Int.mul_assoc, Int.mul_comm (2 ^ 64) a, Int.mul_assoc, pow_split hle]
    rw [e2, show (2 : Int) ^ 64 = 18446744073709551616 from rfl]
    omega
theorem left_far_lo (a : Int) (n : Nat) (h : 64 ≤ n) : lo (a * 2 ^ n) = 0 := by
  have e : a * 2 ^ n = 18446744073709551616 * (a * 2 ^ (n - 64)) := by
    rw [show (18446744073709551616 : Int) = 2 ^ 64 from rfl, ← Int.mul_assoc, Int.mul_comm (2 ^ 64) a, Int.mul_assoc, pow_split h]
  rw [e]; unfold lo; exact Int.mul_emod_right _ _

/-! ### Right -/
theorem right_split (a : Int) (ha : Fits a) (k : Nat) (hk : k ≤ 64) : a / 2 ^ k = hi a * 2 ^ (64 - k) + lo a / 2 ^ k := by
  have hp := pow_pos' k
  have h := halves ha
  have hs : (18446744073709551616 : Int) = 2 ^ (64 - k) * 2 ^ k := by rw [Int.mul_comm, pow_split hk]; rfl
  calc a / 2 ^ k = (lo a + 2 ^ k * (hi a * 2 ^ (64 - k))) / 2 ^ k := by
        congr 1
        rw [Int.mul_comm (hi a), ← Int.mul_assoc, pow_split hk, show (2 : Int) ^ 64 = 18446744073709551616 from rfl]
        omega
    _ = _ := by rw [Int.add_mul_ediv_left _ _ (Int.ne_of_gt hp), Int.add_comm]
theorem right_low_hi (a : Int) (ha : Fits a) (k : Nat) (hk : k < 64) : hi a / 2 ^ k = hi (a / 2 ^ k) := by
  have hp := pow_pos' k
  have hr := pow_pos' (64 - k)
  have hl : lo a / 2 ^ k < 2 ^ (64 - k) := by
    apply Int.ediv_lt_of_lt_mul hp
    rw [Int.mul_comm, pow_split (by omega : k ≤ 64)]
    exact lo_lt a
  have hl0 : 0 ≤ lo a / 2 ^ k := Int.ediv_nonneg (lo_lo a) (Int.le_of_lt hp)
  have hs : (18446744073709551616 : Int) = 2 ^ (64 - k) * 2 ^ k := by rw [Int.mul_comm, pow_split (by omega : k ≤ 64)]; rfl
  have e : a / 2 ^ k / 18446744073709551616 = hi a / 2 ^ k := by
    rw [right_split a ha k (by omega), hs, ← Int.ediv_ediv_of_nonneg (Int.le_of_lt hr), Int.add_comm, Int.mul_comm (hi a), Int.add_mul_ediv_left _ _ (Int.ne_of_gt hr),
      Int.ediv_eq_zero_of_lt hl0 hl, Int.zero_add]
  have b0 := hi_lo a
  have b1 := hi_hi a
  have c0 : -9223372036854775808 ≤ hi a / 2 ^ k := by
    apply (Int.le_ediv_iff_mul_le hp).2
    have : (1 : Int) ≤ 2 ^ k := by omega
    have := Int.mul_le_mul_of_nonneg_left this (show (0 : Int) ≤ 9223372036854775808 by decide)
    omega
  have c1 : hi a / 2 ^ k ≤ 9223372036854775807 := by
    rcases Int.lt_or_le (hi a) 0 with hn | hn
    · have := Int.ediv_neg_of_neg_of_pos hn hp; omega
    · exact Int.le_trans (Int.ediv_le_self _ hn) b1
  unfold hi at *
  rw [e]
  omega
theorem right_low_lo (a : Int) (ha : Fits a) (k : Nat) (hk : k < 64) :
    bits .or .u64 (lo a / 2 ^ k) (IntKind.u64.wrap (IntKind.u64.wrap (hi a) * 2 ^ (64 - k))) = lo (a / 2 ^ k) := by
  have hp := pow_pos' k
  have hr := pow_pos' (64 - k)
  have hl : lo a / 2 ^ k < 2 ^ (64 - k) := by
    apply Int.ediv_lt_of_lt_mul hp
    rw [Int.mul_comm, pow_split (by omega : k ≤ 64)]
    exact lo_lt a
  have hl0 : 0 ≤ lo a / 2 ^ k := Int.ediv_nonneg (lo_lo a) (Int.le_of_lt hp)
  have hl1 : lo a / 2 ^ k ≤ lo a := Int.ediv_le_self _ (lo_lo a)
  have hb := lo_lt a
  have hd : (2 : Int) ^ (64 - k) ∣ 18446744073709551616 := ⟨2 ^ k, by rw [Int.mul_comm, pow_split (by omega)]; rfl⟩
  rw [IntKind.wrap_u64, IntKind.wrap_u64, mul_mod]
  have hx : (hi a * 2 ^ (64 - k)) % 18446744073709551616 % 2 ^ (64 - k) = 0 := by
    rw [Int.emod_emod_of_dvd _ hd]; exact Int.mul_emod_left _ _
  rw [or_u64' (64 - k) _ _ (Int.emod_nonneg _ (by decide)) (Int.emod_lt_of_pos _ (by decide)) hx hl0 (by omega) hl]
  rw [right_split a ha k (by omega)]
  unfold lo at *
  have hlt : hi a * 2 ^ (64 - k) % 18446744073709551616 + a % 18446744073709551616 / 2 ^ k < 18446744073709551616 := by
    obtain ⟨q, hq⟩ := Int.dvd_of_emod_eq_zero hx
    obtain ⟨r, hr'⟩ := hd
    have hlt := Int.emod_lt_of_pos (hi a * 2 ^ (64 - k)) (show (0 : Int) < 18446744073709551616 by decide)
    have hqr : q < r := by
      rcases Int.lt_or_le q r with h | h
      · exact h
      · have := Int.mul_le_mul_of_nonneg_left h (Int.le_of_lt hr)
        omega
    have := Int.mul_le_mul_of_nonneg_left (show q ≤ r - 1 by omega) (Int.le_of_lt hr)
    rw [Int.mul_sub] at this
    omega
  generalize hi a * 2 ^ (64 - k) = p at *
  generalize a % 18446744073709551616 / 2 ^ k = t at *
  omega
theorem right_far (a : Int) (ha : Fits a) (n : Nat) (h : 64 ≤ n) : a / 2 ^ n = hi a / 2 ^ (n - 64) := by
  have h1 := halves ha
  have h2 := lo_lo a
  have h3 := lo_lt a
  rw [← pow_split h, ← Int.ediv_ediv_of_nonneg (Int.le_of_lt (pow_pos' 64)), show (2 : Int) ^ 64 = 18446744073709551616 from rfl, show a / 18446744073709551616 = hi a by omega]
theorem right_far_hi (a : Int) (ha : Fits a) (n : Nat) (h : 64 ≤ n) : hi a / 9223372036854775808 = hi (a / 2 ^ n) := by
  have hp := pow_pos' (n - 64)
  have b0 := hi_lo a
  have b1 := hi_hi a
  rw [right_far a ha n h]
  have c0 : -9223372036854775808 ≤ hi a / 2 ^ (n - 64) := by
    apply (Int.le_ediv_iff_mul_le hp).2
    have : (1 : Int) ≤ 2 ^ (n - 64) := by omega
    have := Int.mul_le_mul_of_nonneg_left this (show (0 : Int) ≤ 9223372036854775808 by decide)
    omega
  rcases Int.lt_or_le (hi a) 0 with hn | hn
  · have c1 := Int.ediv_neg_of_neg_of_pos hn hp
    generalize hi a / 2 ^ (n - 64) = v at *
    generalize hi a = u at *
    unfold hi
    omega
  · have c1 := Int.ediv_nonneg hn (Int.le_of_lt hp)
    have c2 := Int.ediv_le_self (2 ^ (n - 64)) hn
    generalize hi a / 2 ^ (n - 64) = v at *
    generalize hi a = u at *
    unfold hi
    omega
theorem right_far_lo (a : Int) (ha : Fits a) (n : Nat) (h : 64 ≤ n) : IntKind.u64.wrap (hi a / 2 ^ (n - 64)) = lo (a / 2 ^ n) := by
  rw [right_far a ha n h, IntKind.wrap_u64]; rfl

/-- a over 2^n to the nearest number, of two that are as near the greater one. -/
def near (a n : Int) : Int := if n ≤ 0 then a else (a + 2 ^ ((places n).toNat - 1)) / 2 ^ (places n).toNat
theorem near_half (a : Int) (m : Nat) (hm : 0 < m) : (a + 2 ^ (m - 1)) / 2 ^ m = a / 2 ^ m + a / 2 ^ (m - 1) % 2 := by
  have hp := pow_pos' (m - 1)
  have e : (2 : Int) ^ m = 2 ^ (m - 1) * 2 := by rw [← Int.pow_succ, show (m - 1).succ = m by omega]
  rw [e, ← Int.ediv_ediv_of_nonneg (Int.le_of_lt hp), ← Int.ediv_ediv_of_nonneg (Int.le_of_lt hp)]
  have h1 : (a + 2 ^ (m - 1)) / 2 ^ (m - 1) = a / 2 ^ (m - 1) + 1 := by
    have := Int.add_mul_ediv_left a 1 (Int.ne_of_gt hp)
    rw [Int.mul_one] at this
    exact this
  rw [h1]
  omega

/-! ### Mul: by quarters -/
theorem quarters (x y : Int) (x0 : 0 ≤ x) (x1 : x ≤ 18446744073709551615) (y0 : 0 ≤ y) (y1 : y ≤ 18446744073709551615) :
    ∃ ac ad bc bd : Int, x / 4294967296 * (y / 4294967296) = ac ∧ x / 4294967296 * (y % 4294967296) = ad ∧ x % 4294967296 * (y / 4294967296) = bc ∧ x % 4294967296 * (y % 4294967296) = bd ∧
      (0 ≤ ac ∧ ac ≤ 18446744065119617025) ∧ (0 ≤ ad ∧ ad ≤ 18446744065119617025) ∧ (0 ≤ bc ∧ bc ≤ 18446744065119617025) ∧ (0 ≤ bd ∧ bd ≤ 18446744065119617025) ∧
      x * y = ac * 18446744073709551616 + (ad + bc) * 4294967296 + bd := by
  have bound : ∀ p q : Int, 0 ≤ p → p ≤ 4294967295 → 0 ≤ q → q ≤ 4294967295 → 0 ≤ p * q ∧ p * q ≤ 18446744065119617025 := fun p q h1 h2 h3 h4 =>
    ⟨Int.mul_nonneg h1 h3, by have := Int.mul_le_mul h2 h4 h3 (by decide); omega⟩
  refine ⟨_, _, _, _, rfl, rfl, rfl, rfl, bound _ _ (by omega) (by omega) (by omega) (by omega), bound _ _ (by omega) (by omega) (by omega) (by omega), bound _ _ (by omega) (by omega) (by omega) (by omega), bound _ _ (by omega) (by omega) (by omega) (by omega), ?_⟩
  have hx : x = x / 4294967296 * 4294967296 + x % 4294967296 := by omega
  have hy : y = y / 4294967296 * 4294967296 + y % 4294967296 := by omega
  generalize x / 4294967296 = a at *
  generalize x % 4294967296 = b at *
  generalize y / 4294967296 = c at *
  generalize y % 4294967296 = d at *
  subst hx hy
  have e1 : (a * 4294967296 + b) * (c * 4294967296 + d) = a * 4294967296 * (c * 4294967296) + a * 4294967296 * d + (b * (c * 4294967296) + b * d) := by rw [Int.add_mul, Int.mul_add, Int.mul_add]
  have e2 : a * 4294967296 * (c * 4294967296) = a * c * 18446744073709551616 := by
    rw [Int.mul_assoc, Int.mul_left_comm 4294967296 c, ← Int.mul_assoc, show (4294967296 : Int) * 4294967296 = 18446744073709551616 from rfl]
  have e3 : a * 4294967296 * d = a * d * 4294967296 := by rw [Int.mul_assoc, Int.mul_comm 4294967296, ← Int.mul_assoc]
  have e4 : b * (c * 4294967296) = b * c * 4294967296 := by rw [← Int.mul_assoc]
  rw [e1, e2, e3, e4]
  omega

end Go.Proofs.YtodfcbpcgcgijaaGreatDoor

/- Plain facts on a division that goes bit by bit; no function of the program is named here. -/
namespace Go.Proofs.YtodfcbpcgcgijaaGreatDoor
set_option maxRecDepth 100000

/-- Behind k of 128 rounds: of A the upper k bits are divided; below them lie what is left of A, and the quotient so far. -/
def QInv (A b : Int) (k : Nat) (h l r : Int) : Prop :=
  ∃ q V : Int, 0 ≤ V ∧ V < 2 ^ (128 - k) ∧ 0 ≤ q ∧ q < 2 ^ k ∧ 0 ≤ r ∧ r < b ∧ A = (q * b + r) * 2 ^ (128 - k) + V ∧
    h * 18446744073709551616 + l = V * 2 ^ k + q ∧ 0 ≤ h ∧ h ≤ 18446744073709551615 ∧ 0 ≤ l ∧ l ≤ 18446744073709551615

theorem QInv.start {A b h l : Int} (hA : A = h * 18446744073709551616 + l) (h0 : 0 ≤ h) (h1 : h ≤ 18446744073709551615) (l0 : 0 ≤ l) (l1 : l ≤ 18446744073709551615) (hb : 1 ≤ b) : QInv A b 0 h l 0 := by
  refine ⟨0, A, ?_, ?_, Int.le_refl _, by simp, Int.le_refl _, by omega, by simp, by simp [hA], h0, h1, l0, l1⟩
  · omega
  · rw [show (2 : Int) ^ (128 - 0) = 340282366920938463463374607431768211456 from rfl]; omega
theorem QInv.stop {A b h l r : Int} (H : QInv A b 128 h l r) : h * 18446744073709551616 + l = A / b ∧ r = A % b := by
  obtain ⟨q, V, v0, v1, q0, q1, r0, r1, hA, hZ, _⟩ := H
  have hV : V = 0 := by rw [show (2 : Int) ^ (128 - 128) = 1 from rfl] at v1; omega
  subst hV
  rw [show (2 : Int) ^ (128 - 128) = 1 from rfl, Int.mul_one, Int.add_zero] at hA
  rw [Int.zero_mul, Int.zero_add] at hZ
  rw [hZ, hA]
  constructor
  · rw [Int.mul_comm, Int.mul_add_ediv_left _ _ (by omega), Int.ediv_eq_zero_of_lt r0 r1, Int.add_zero]
  · rw [Int.mul_comm, Int.mul_add_emod_self_left, Int.emod_eq_of_lt r0 r1]
theorem QInv.bounds {A b h l r : Int} {k : Nat} (H : QInv A b k h l r) : 0 ≤ h ∧ h ≤ 18446744073709551615 ∧ 0 ≤ l ∧ l ≤ 18446744073709551615 ∧ 0 ≤ r ∧ r < b := by
  obtain ⟨q, V, v0, v1, q0, q1, r0, r1, hA, hZ, h0, h1, l0, l1⟩ := H
  exact ⟨h0, h1, l0, l1, r0, r1⟩

theorem QInv.step {A b h l r : Int} {k : Nat} (hk : k < 128) (H : QInv A b k h l r) (d : Int) (hd : d = 0 ∨ d = 1)
    (hlo : 0 ≤ 2 * r + h / 9223372036854775808 - d * b) (hhi : 2 * r + h / 9223372036854775808 - d * b < b) :
    QInv A b (k + 1) (2 * h % 18446744073709551616 + l / 9223372036854775808) (2 * l % 18446744073709551616 + d) (2 * r + h / 9223372036854775808 - d * b) := by
  obtain ⟨q, V, v0, v1, q0, q1, r0, r1, hA, hZ, h0, h1, l0, l1⟩ := H
  have hT := pow_pos' (128 - (k + 1))
  have hP := pow_pos' k
  have eT : (2 : Int) ^ (128 - k) = 2 ^ (128 - (k + 1)) * 2 := by rw [← Int.pow_succ, show (128 - (k + 1)).succ = 128 - k by omega]
  have eP : (2 : Int) ^ (k + 1) = 2 ^ k * 2 := Int.pow_succ _ _
  have eTP : (2 : Int) ^ k * 2 ^ (128 - (k + 1)) = 170141183460469231731687303715884105728 := by
    rw [← Int.pow_add, show k + (128 - (k + 1)) = 127 by omega]; rfl
  rw [eT] at v1 hA
  unfold QInv
  generalize (2 : Int) ^ (128 - (k + 1)) = T at *
  generalize (2 : Int) ^ k = P at *
  -- the bit that goes over
  have hV : V = V / T * T + V % T := by have := Int.mul_ediv_add_emod V T; rw [Int.mul_comm] at this; exact this.symm
  have w0 : 0 ≤ V % T := Int.emod_nonneg _ (by omega)
  have w1 : V % T < T := Int.emod_lt_of_pos _ hT
  have b0 : 0 ≤ V / T := Int.ediv_nonneg v0 (by omega)
  have b1 : V / T < 2 := Int.ediv_lt_of_lt_mul hT (by rw [Int.mul_comm]; exact v1)
  generalize V / T = t at *
  generalize V % T = V' at *
  subst hV
  have hZ2 : (t * T + V') * P = t * 170141183460469231731687303715884105728 + V' * P := by rw [Int.add_mul, Int.mul_assoc, Int.mul_comm T P, eTP]
  rw [hZ2] at hZ
  have hVP : V' * P ≤ (T - 1) * P := Int.mul_le_mul_of_nonneg_right (by omega) (by omega)
  rw [Int.sub_mul, Int.mul_comm T P, eTP, Int.one_mul] at hVP
  have hVP0 : 0 ≤ V' * P := Int.mul_nonneg w0 (by omega)
  have ht : h / 9223372036854775808 = t := by
    generalize V' * P = y at *
    omega
  rw [ht] at hlo hhi ⊢
  refine ⟨2 * q + d, V', w0, w1, by omega, by rw [eP]; omega, hlo, hhi, ?_, ?_, by omega, by omega, by omega, by omega⟩
  · rw [hA]
    have e1 : (2 * q + d) * b + (2 * r + t - d * b) = 2 * (q * b) + (2 * r + t) := by rw [Int.add_mul, Int.mul_assoc]; omega
    rw [e1]
    generalize q * b = X
    have e2 : (X + r) * (T * 2) = 2 * ((X + r) * T) := by rw [← Int.mul_assoc, Int.mul_comm]
    have e3 : (2 * X + (2 * r + t)) * T = 2 * ((X + r) * T) + t * T := by rw [show 2 * X + (2 * r + t) = 2 * (X + r) + t by omega, Int.add_mul, Int.mul_assoc]
    rw [e2, e3]
    omega
  · rw [eP]
    have e4 : V' * (P * 2) = 2 * (V' * P) := by rw [← Int.mul_assoc, Int.mul_comm]
    rw [e4]
    generalize V' * P = y at *
    rcases hd with rfl | rfl <;> omega

theorem or_dbl (r t : Int) (r0 : 0 ≤ r) (r1 : r ≤ 9223372036854775807) (t0 : 0 ≤ t) (t1 : t ≤ 1) : bits .or .u64 (r * 2) t = 2 * r + t := by
  rw [or_u64 1 (r * 2) t (by omega) (by omega) (by omega) t0 (by omega) (by omega)]; omega
theorem or_dbl' (r t : Int) (t0 : 0 ≤ t) (t1 : t ≤ 1) : bits .or .u64 (IntKind.u64.wrap (r * 2)) t = 2 * r % 18446744073709551616 + t := by
  rw [IntKind.wrap_u64, or_u64 1 (r * 2 % 18446744073709551616) t (by omega) (by omega) (by omega) t0 (by omega) (by omega)]; omega

/-! ### Mul: what the upper half has too often -/
theorem mul_signs (x y X Y : Int) (hX : (0 ≤ x ∧ X = x) ∨ (x < 0 ∧ X = x + 18446744073709551616)) (hY : (0 ≤ y ∧ Y = y) ∨ (y < 0 ∧ Y = y + 18446744073709551616)) :
    ∃ z : Int, X * Y = x * y + (z + (if x < 0 then Y else 0) + (if y < 0 then X else 0)) * 18446744073709551616 ∧ z % 18446744073709551616 = 0 := by
  rcases hX with ⟨h, rfl⟩ | ⟨h, rfl⟩ <;> rcases hY with ⟨h', rfl⟩ | ⟨h', rfl⟩
  · refine ⟨0, ?_, by decide⟩
    rw [if_neg (by omega), if_neg (by omega)]; omega
  · refine ⟨0, ?_, by decide⟩
    rw [if_neg (by omega), if_pos h', Int.mul_add]; omega
  · refine ⟨0, ?_, by decide⟩
    rw [if_pos h, if_neg (by omega), Int.add_mul]; omega
  · refine ⟨-18446744073709551616, ?_, by decide⟩
    rw [if_pos h, if_pos h', Int.add_mul, Int.mul_add, Int.mul_add]; omega
theorem mul_hi {x y X Y p r u : Int} (hp : X * Y / 18446744073709551616 = p) (hr : X * Y % 18446744073709551616 = r)
    (hm : ∃ z : Int, X * Y = x * y + (z + (if x < 0 then Y else 0) + (if y < 0 then X else 0)) * 18446744073709551616 ∧ z % 18446744073709551616 = 0)
    (hu : (u - (p - (if x < 0 then Y else 0) - (if y < 0 then X else 0))) % 18446744073709551616 = 0) (h0 : -9223372036854775808 ≤ u) (h1 : u ≤ 9223372036854775807) : u = hi (x * y) := by
  obtain ⟨z, hz, hz0⟩ := hm
  generalize (if x < 0 then Y else 0) = s at *
  generalize (if y < 0 then X else 0) = t at *
  generalize X * Y = q at *
  generalize x * y = m at *
  unfold hi
  omega
theorem mul_lo {x y X Y r : Int} (hr : X * Y % 18446744073709551616 = r) (hm : ∃ z : Int, X * Y = x * y + (z + (if x < 0 then Y else 0) + (if y < 0 then X else 0)) * 18446744073709551616 ∧ z % 18446744073709551616 = 0) : r = lo (x * y) := by
  obtain ⟨z, hz, hz0⟩ := hm
  unfold lo
  omega

/-! ### What Div answers, by the words of Lean's own division towards 0 -/
theorem tdiv_cases (a b : Int) :
    (0 ≤ a → 0 < b → a.tdiv b = a / b ∧ a.tmod b = a % b) ∧ (0 ≤ a → b < 0 → a.tdiv b = -(a / -b) ∧ a.tmod b = a % -b) ∧
    (a < 0 → 0 < b → a.tdiv b = -(-a / b) ∧ a.tmod b = -(-a % b)) ∧ (a < 0 → b < 0 → a.tdiv b = -a / -b ∧ a.tmod b = -(-a % -b)) := by
  refine ⟨fun h0 h1 => ⟨Int.tdiv_eq_ediv_of_nonneg h0, Int.tmod_eq_emod_of_nonneg h0⟩, fun h0 h1 => ⟨?_, ?_⟩, fun h0 h1 => ⟨?_, ?_⟩, fun h0 h1 => ⟨?_, ?_⟩⟩
  · have : a.tdiv b = -(a.tdiv (-b)) := by rw [Int.tdiv_neg, Int.neg_neg]
    rw [this, Int.tdiv_eq_ediv_of_nonneg h0]
  · rw [← Int.tmod_neg, Int.tmod_eq_emod_of_nonneg h0]
  · have : a.tdiv b = -((-a).tdiv b) := by rw [Int.neg_tdiv, Int.neg_neg]
    rw [this, Int.tdiv_eq_ediv_of_nonneg (by omega)]
  · have : a.tmod b = -((-a).tmod b) := by rw [Int.neg_tmod, Int.neg_neg]
    rw [this, Int.tmod_eq_emod_of_nonneg (by omega)]
  · have : a.tdiv b = (-a).tdiv (-b) := by rw [Int.neg_tdiv, Int.tdiv_neg, Int.neg_neg]
    rw [this, Int.tdiv_eq_ediv_of_nonneg (by omega)]
  · have : a.tmod b = -((-a).tmod (-b)) := by rw [Int.neg_tmod, Int.tmod_neg, Int.neg_neg]
    rw [this, Int.tmod_eq_emod_of_nonneg (by omega)]

end Go.Proofs.YtodfcbpcgcgijaaGreatDoor

/- Plain facts on the bits of a number, and on what they come to; no function of the program is named here. -/
namespace Go.Proofs.YtodfcbpcgcgijaaGreatDoor
set_option maxRecDepth 100000
open Go.RowKit

/-- Bit number i. -/
def bit (a : Int) (i : Nat) : Int := a / 2 ^ i % 2
theorem bit_lo (a : Int) (i : Nat) : 0 ≤ bit a i := by unfold bit; omega
theorem bit_hi (a : Int) (i : Nat) : bit a i ≤ 1 := by unfold bit; omega
/-- The first k bits, as integers of a program. -/
def bits_ (a : Int) (k : Nat) : List Value := (List.range k).map fun i => Value.int .i64 (bit a i)
theorem bits_zero (a : Int) : bits_ a 0 = [] := rfl
theorem bits_succ (a : Int) (k : Nat) : bits_ a (k + 1) = bits_ a k ++ [Value.int .i64 (bit a k)] := by
  unfold bits_; rw [List.range_succ, List.map_append]; rfl
theorem bits_length (a : Int) (k : Nat) : (bits_ a k).length = k := by unfold bits_; simp
theorem bits_at (a : Int) (k j : Nat) (h : j < k) : (bits_ a k)[j]? = some (Value.int .i64 (bit a j)) := by unfold bits_; simp [h]

theorem div_succ (x : Int) (k : Nat) : x / 2 ^ (k + 1) = x / 2 ^ k / 2 := by
  rw [Int.pow_succ, Int.ediv_ediv_of_nonneg (Int.le_of_lt (pow_pos' k))]
/-- The lower half's bits are the number's. -/
theorem bit_of_lo (a : Int) (k : Nat) (h : k < 64) : lo a / 2 ^ k % 2 = bit a k := by
  unfold bit
  have hp := pow_pos' k
  have hs : (18446744073709551616 : Int) = 2 ^ k * (2 * 2 ^ (63 - k)) := by
    rw [← Int.mul_assoc, ← Int.pow_succ, ← Int.pow_add, show k.succ + (63 - k) = 64 by omega]; rfl
  have e : a = lo a + 2 ^ k * (2 * (2 ^ (63 - k) * (a / 18446744073709551616))) := by
    have h1 : a = lo a + 18446744073709551616 * (a / 18446744073709551616) := by unfold lo; omega
    rw [← Int.mul_assoc 2, ← Int.mul_assoc, ← hs]
    exact h1
  generalize 2 ^ (63 - k) * (a / 18446744073709551616) = m at e
  generalize lo a = l at *
  subst e
  rw [Int.add_mul_ediv_left _ _ (Int.ne_of_gt hp)]
  omega
/-- The upper half's bits are those from 64 on. -/
theorem bit_of_hi (a : Int) (k : Nat) (h : k < 64) : IntKind.u64.wrap (hi a) / 2 ^ k % 2 = bit a (64 + k) := by
  have e1 : IntKind.u64.wrap (hi a) = lo (a / 18446744073709551616) := by rw [IntKind.wrap_u64]; unfold hi lo; omega
  rw [e1, bit_of_lo _ k h]
  unfold bit
  rw [Int.pow_add, show (2 : Int) ^ 64 = 18446744073709551616 from rfl, Int.ediv_ediv_of_nonneg (by decide)]

/-- What n bits come to. -/
def sumBits (f : Nat → Int) : Nat → Int
  | 0 => 0
  | n + 1 => sumBits f n + f n * 2 ^ n
theorem sumBits_bd (f : Nat → Int) (hf : ∀ i, 0 ≤ f i ∧ f i ≤ 1) : ∀ n, 0 ≤ sumBits f n ∧ sumBits f n < 2 ^ n
  | 0 => by simp [sumBits]
  | n + 1 => by
    obtain ⟨h0, h1⟩ := sumBits_bd f hf n
    have hp := pow_pos' n
    obtain ⟨f0, f1⟩ := hf n
    have g0 : 0 ≤ f n * 2 ^ n := Int.mul_nonneg f0 (Int.le_of_lt hp)
    have g1 : f n * 2 ^ n ≤ 1 * 2 ^ n := Int.mul_le_mul_of_nonneg_right f1 (Int.le_of_lt hp)
    rw [Int.pow_succ]
    simp only [sumBits]
    omega
theorem sumBits_more (f : Nat → Int) (m : Nat) : ∀ n, sumBits f (m + n) = sumBits f m + sumBits (fun i => f (m + i)) n * 2 ^ m
  | 0 => by simp [sumBits]
  | n + 1 => by
    rw [← Nat.add_assoc]
    simp only [sumBits]
    rw [sumBits_more f m n, Int.add_mul, Int.mul_assoc (f (m + n)), ← Int.pow_add, Nat.add_comm n m, Int.add_assoc]
theorem sumBits_bit (a : Int) : ∀ n, sumBits (bit a) n = a % 2 ^ n
  | 0 => by simp [sumBits]
  | n + 1 => by
    simp only [sumBits]
    rw [sumBits_bit a n]
    unfold bit
    have hp := pow_pos' n
    have h1 := Int.mul_ediv_add_emod a (2 ^ n)
    have h2 := Int.mul_ediv_add_emod a (2 ^ (n + 1))
    have h3 := div_succ a n
    have h4 : a / 2 ^ n = 2 * (a / 2 ^ n / 2) + a / 2 ^ n % 2 := by omega
    rw [h3, Int.pow_succ] at h2
    generalize a / 2 ^ n / 2 = q at *
    generalize a / 2 ^ n % 2 = r at *
    rw [h4] at h1
    rw [Int.mul_add] at h1
    rw [Int.pow_succ]
    generalize a % 2 ^ n = u at *
    generalize a % (2 ^ n * 2) = v at *
    rw [Int.mul_assoc] at h2
    rw [Int.mul_comm r]
    generalize (2 : Int) ^ n * (2 * q) = z at *
    omega
theorem sum_parts (f : Nat → Int) (hf : ∀ i, 0 ≤ f i ∧ f i ≤ 1) (a : Int) (h : sumBits f 128 = a % 340282366920938463463374607431768211456) :
    wrap64 (sumBits (fun i => f (64 + i)) 64) = hi a ∧ sumBits f 64 = lo a := by
  have h1 := sumBits_more f 64 64
  have h2 := sumBits_bd f hf 64
  have h3 := sumBits_bd (fun i => f (64 + i)) (fun i => hf (64 + i)) 64
  rw [show (64 + 64 : Nat) = 128 from rfl, h] at h1
  rw [show (2 : Int) ^ 64 = 18446744073709551616 from rfl] at *
  generalize sumBits (fun i => f (64 + i)) 64 = x at *
  generalize sumBits f 64 = y at *
  unfold wrap64 hi lo
  omega

/-! ### Sums and opposites, bit by bit -/
/-- What is carried into bit k of a sum. -/
def carry (a b : Int) (k : Nat) : Int := (a % 2 ^ k + b % 2 ^ k) / 2 ^ k
theorem mod_succ (a : Int) (k : Nat) : a % 2 ^ (k + 1) = bit a k * 2 ^ k + a % 2 ^ k := by
  have := sumBits_bit a (k + 1)
  simp only [sumBits] at this
  rw [sumBits_bit a k] at this
  omega
theorem carry_bd (a b : Int) (k : Nat) : 0 ≤ carry a b k ∧ carry a b k ≤ 1 := by
  unfold carry
  have hp := pow_pos' k
  have h1 := Int.emod_nonneg a (Int.ne_of_gt hp)
  have h2 := Int.emod_nonneg b (Int.ne_of_gt hp)
  have h3 := Int.emod_lt_of_pos a hp
  have h4 := Int.emod_lt_of_pos b hp
  refine ⟨Int.ediv_nonneg (by omega) (by omega), ?_⟩
  have : (a % 2 ^ k + b % 2 ^ k) / 2 ^ k < 2 := Int.ediv_lt_of_lt_mul hp (by omega)
  omega
theorem add_bit (a b : Int) (k : Nat) : (bit a k + bit b k + carry a b k) % 2 = bit (a + b) k ∧ (bit a k + bit b k + carry a b k) / 2 = carry a b (k + 1) := by
  have hp := pow_pos' k
  have h1 := Int.mul_ediv_add_emod a (2 ^ k)
  have h2 := Int.mul_ediv_add_emod b (2 ^ k)
  constructor
  · have e : (a + b) / 2 ^ k = a / 2 ^ k + b / 2 ^ k + carry a b k := by
      have : a + b = (a % 2 ^ k + b % 2 ^ k) + 2 ^ k * (a / 2 ^ k + b / 2 ^ k) := by rw [Int.mul_add]; omega
      rw [this, Int.add_mul_ediv_left _ _ (Int.ne_of_gt hp)]
      unfold carry
      omega
    unfold bit
    rw [e]
    omega
  · have e : carry a b (k + 1) = ((a % 2 ^ k + b % 2 ^ k) + 2 ^ k * (bit a k + bit b k)) / (2 ^ k * 2) := by
      unfold carry
      rw [mod_succ a k, mod_succ b k, Int.pow_succ]
      congr 1
      rw [Int.mul_add, Int.mul_comm (2 ^ k), Int.mul_comm (2 ^ k) (bit b k)]
      omega
    rw [e, ← Int.ediv_ediv_of_nonneg (Int.le_of_lt hp), Int.add_mul_ediv_left _ _ (Int.ne_of_gt hp)]
    unfold carry
    congr 1
    omega
theorem neg_bit (a : Int) (k : Nat) : 1 - bit a k = bit (-a - 1) k := by
  unfold bit
  have hp := pow_pos' k
  have h1 := Int.mul_ediv_add_emod a (2 ^ k)
  have h2 := Int.emod_nonneg a (Int.ne_of_gt hp)
  have h3 := Int.emod_lt_of_pos a hp
  have e : (-a - 1) / 2 ^ k = -(a / 2 ^ k) - 1 := by
    have : -a - 1 = (2 ^ k - 1 - a % 2 ^ k) + 2 ^ k * (-(a / 2 ^ k) - 1) := by
      rw [Int.mul_sub, Int.mul_neg]; omega
    rw [this, Int.add_mul_ediv_left _ _ (Int.ne_of_gt hp), Int.ediv_eq_zero_of_lt (by omega) (by omega)]
    omega
  rw [e]
  omega

end Go.Proofs.YtodfcbpcgcgijaaGreatDoor

/- Plain facts on a product, a rest and a quotient; no function of the program is named here. -/
namespace Go.Proofs.YtodfcbpcgcgijaaGreatDoor
set_option maxRecDepth 100000

/-- A product of two numbers of 64 bits, and a rest. -/
def Small (A : Int) : Prop := -85070591730234615875067023894796828672 ≤ A ∧ A ≤ 85070591730234615875067023894796828672
theorem Small.fits {A : Int} (h : Small A) : Fits A := by unfold Small at h; unfold Fits; omega

/-- What the walk wants to know of a rest of the product's sign, and of the quotient by it. -/
theorem back_facts (q b r : Int) (hq : Half q) (hb : Half b) (hr : Half r) (hz : b ≠ 0) :
    (-9223372036854775808 ≤ r.tmod b ∧ r.tmod b ≤ 9223372036854775807) ∧ Small (q * b) ∧ Small (q * b + r.tmod b) := by
  unfold Half at hq hb hr
  have h1 : -9223372036854775808 ≤ r.tmod b ∧ r.tmod b ≤ 9223372036854775807 := by
    have h := tdiv_cases r b
    rcases Int.lt_or_le r 0 with h0 | h0 <;> rcases Int.lt_or_le b 0 with h1 | h1
    · rw [(h.2.2.2 h0 h1).2]; have := Int.emod_nonneg (-r) (show -b ≠ 0 by omega); have := Int.emod_lt_of_pos (-r) (show 0 < -b by omega); omega
    · rw [(h.2.2.1 h0 (by omega)).2]; have := Int.emod_nonneg (-r) hz; have := Int.emod_lt_of_pos (-r) (show 0 < b by omega); omega
    · rw [(h.2.1 h0 h1).2]; have := Int.emod_nonneg r (show -b ≠ 0 by omega); have := Int.emod_lt_of_pos r (show 0 < -b by omega); omega
    · rw [(h.1 h0 (by omega)).2]; have := Int.emod_nonneg r hz; have := Int.emod_lt_of_pos r (show 0 < b by omega); omega
  have h2 : -85070591730234615865843651857942052864 ≤ q * b ∧ q * b ≤ 85070591730234615865843651857942052864 := by
    rcases Int.lt_or_le q 0 with h0 | h0 <;> rcases Int.lt_or_le b 0 with h1 | h1
    · have e : q * b = -q * -b := by rw [Int.neg_mul_neg]
      have := Int.mul_le_mul (show -q ≤ 9223372036854775808 by omega) (show -b ≤ 9223372036854775808 by omega) (by omega) (by decide)
      have := Int.mul_nonneg (show 0 ≤ -q by omega) (show 0 ≤ -b by omega)
      omega
    · have e : q * b = -(-q * b) := by rw [Int.neg_mul, Int.neg_neg]
      have := Int.mul_le_mul (show -q ≤ 9223372036854775808 by omega) (show b ≤ 9223372036854775808 by omega) h1 (by decide)
      have := Int.mul_nonneg (show 0 ≤ -q by omega) h1
      omega
    · have e : q * b = -(q * -b) := by rw [Int.mul_neg, Int.neg_neg]
      have := Int.mul_le_mul (show q ≤ 9223372036854775808 by omega) (show -b ≤ 9223372036854775808 by omega) (by omega) (by decide)
      have := Int.mul_nonneg h0 (show 0 ≤ -b by omega)
      omega
    · have := Int.mul_le_mul (show q ≤ 9223372036854775808 by omega) (show b ≤ 9223372036854775808 by omega) h1 (by decide)
      have := Int.mul_nonneg h0 h1
      omega
  unfold Small
  refine ⟨h1, ?_, ?_⟩ <;> omega
/-- Quotient and rest of A by b, b not 0. -/
theorem quo_facts (A b : Int) (hA : Small A) (hz : b ≠ 0) :
    Small (A.tdiv b) ∧ A.tdiv b * b + A.tmod b = A ∧ (A.tmod b = 0 ∨ (A.tmod b < 0 ∧ A < 0) ∨ (0 < A.tmod b ∧ 0 < A)) ∧
      (0 < b → -b < A.tmod b ∧ A.tmod b < b) ∧ (b < 0 → b < A.tmod b ∧ A.tmod b < -b) := by
  unfold Small at hA
  have hm : A.tdiv b * b + A.tmod b = A := by rw [Int.mul_comm]; exact Int.mul_tdiv_add_tmod A b
  have h := tdiv_cases A b
  have g : Small (A.tdiv b) ∧ (A.tmod b = 0 ∨ (A.tmod b < 0 ∧ A < 0) ∨ (0 < A.tmod b ∧ 0 < A)) ∧ (0 < b → -b < A.tmod b ∧ A.tmod b < b) ∧ (b < 0 → b < A.tmod b ∧ A.tmod b < -b) := by
    unfold Small
    rcases Int.lt_or_le A 0 with h0 | h0 <;> rcases Int.lt_or_le b 0 with h1 | h1
    · rw [(h.2.2.2 h0 h1).1, (h.2.2.2 h0 h1).2]
      have := Int.ediv_nonneg (show 0 ≤ -A by omega) (show 0 ≤ -b by omega)
      have := Int.ediv_le_self (-b) (show 0 ≤ -A by omega)
      have := Int.emod_nonneg (-A) (show -b ≠ 0 by omega)
      have := Int.emod_lt_of_pos (-A) (show 0 < -b by omega)
      refine ⟨⟨by omega, by omega⟩, by omega, fun _ => ⟨by omega, by omega⟩, fun _ => ⟨by omega, by omega⟩⟩
    · rw [(h.2.2.1 h0 (by omega)).1, (h.2.2.1 h0 (by omega)).2]
      have := Int.ediv_nonneg (show 0 ≤ -A by omega) h1
      have := Int.ediv_le_self b (show 0 ≤ -A by omega)
      have := Int.emod_nonneg (-A) hz
      have := Int.emod_lt_of_pos (-A) (show 0 < b by omega)
      refine ⟨⟨by omega, by omega⟩, by omega, fun _ => ⟨by omega, by omega⟩, fun _ => ⟨by omega, by omega⟩⟩
    · rw [(h.2.1 h0 h1).1, (h.2.1 h0 h1).2]
      have := Int.ediv_nonneg h0 (show 0 ≤ -b by omega)
      have := Int.ediv_le_self (-b) h0
      have := Int.emod_nonneg A (show -b ≠ 0 by omega)
      have := Int.emod_lt_of_pos A (show 0 < -b by omega)
      have z : A = 0 → A % -b = 0 := fun e => by rw [e, Int.zero_emod]
      refine ⟨⟨by omega, by omega⟩, by omega, fun _ => ⟨by omega, by omega⟩, fun _ => ⟨by omega, by omega⟩⟩
    · rw [(h.1 h0 (by omega)).1, (h.1 h0 (by omega)).2]
      have := Int.ediv_nonneg h0 h1
      have := Int.ediv_le_self b h0
      have := Int.emod_nonneg A hz
      have := Int.emod_lt_of_pos A (show 0 < b by omega)
      have z : A = 0 → A % b = 0 := fun e => by rw [e, Int.zero_emod]
      refine ⟨⟨by omega, by omega⟩, by omega, fun _ => ⟨by omega, by omega⟩, fun _ => ⟨by omega, by omega⟩⟩
  exact ⟨g.1, hm, g.2.1, g.2.2.1, g.2.2.2⟩
theorem sgn_neg (A : Int) : decide (sgn A < 0) = decide (A < 0) := by
  rw [Bool.eq_iff_iff]
  simp only [decide_eq_true_eq]
  unfold sgn
  split
  · omega
  · split <;> omega
theorem clipped_in (P : Int) (h : cut P = false) : clipped P = P := by
  unfold cut at h
  have := of_decide_eq_false h
  unfold clipped
  omega
theorem clipped_half (P : Int) : Half (clipped P) := by unfold Half clipped; omega
theorem cut_cases (P : Int) : cut P = true ∨ cut P = false := by cases cut P <;> simp

end Go.Proofs.YtodfcbpcgcgijaaGreatDoor

/- Plain facts on numbers with a point; no function of the program is named here. -/
namespace Go.Proofs.YtodfcbpcgcgijaaGreatDoor
set_option maxRecDepth 100000

/-- A number, saturated, and whether it did. -/
abbrev sat (x : Int) : Value := .tuple #[.int .i64 (clipped x), .bool (cut x)]
/-- The quotient of numbers with a point, as the document has it. -/
def quo (a b : Int) : Value :=
  if b = 0 then (if 0 < a then .tuple #[.int .i64 9223372036854775807, .bool true] else if a < 0 then .tuple #[.int .i64 (-9223372036854775808), .bool true] else .tuple #[.int .i64 0, .bool true])
  else sat ((a * 4294967296).tdiv b)
theorem sat_in (a : Int) (ha : Half a) : sat a = .tuple #[.int .i64 a, .bool false] := by
  have h : cut a = false := by unfold Half at ha; unfold cut; exact decide_eq_false (by omega)
  unfold sat
  rw [h, clipped_in a h]
theorem sat_eq {x n : Int} {c : Bool} (h : clipped x = n) (h2 : cut x = c) : sat x = .tuple #[.int .i64 n, .bool c] := by unfold sat; rw [h, h2]
theorem fits_shift (n : Int) (hn : Half n) : Fits (n * 4294967296) := by unfold Half at hn; unfold Fits; omega
theorem fits_neg {a : Int} (ha : Half a) : Fits (-a) := by unfold Half at ha; unfold Fits; omega
theorem fits_add {a b : Int} (ha : Half a) (hb : Half b) : Fits (a + b) := by unfold Half at ha hb; unfold Fits; omega
theorem fits_sub {a b : Int} (ha : Half a) (hb : Half b) : Fits (a + -b) := by unfold Half at ha hb; unfold Fits; omega
theorem near32 (x : Int) : near x 32 = (x + 2147483648) / 4294967296 := by
  unfold near
  rw [if_neg (by decide), show (places 32).toNat = 32 by decide]
  rfl
theorem product_le {a b : Int} (ha : Half a) (hb : Half b) : -85070591730234615865843651857942052864 ≤ a * b ∧ a * b ≤ 85070591730234615865843651857942052864 := by
  unfold Half at ha hb
  rcases Int.lt_or_le a 0 with h0 | h0 <;> rcases Int.lt_or_le b 0 with h1 | h1
  · have e : a * b = -a * -b := by rw [Int.neg_mul_neg]
    have := Int.mul_le_mul (show -a ≤ 9223372036854775808 by omega) (show -b ≤ 9223372036854775808 by omega) (by omega) (by decide)
    have := Int.mul_nonneg (show 0 ≤ -a by omega) (show 0 ≤ -b by omega)
    omega
  · have e : a * b = -(-a * b) := by rw [Int.neg_mul, Int.neg_neg]
    have := Int.mul_le_mul (show -a ≤ 9223372036854775808 by omega) (show b ≤ 9223372036854775808 by omega) h1 (by decide)
    have := Int.mul_nonneg (show 0 ≤ -a by omega) h1
    omega
  · have e : a * b = -(a * -b) := by rw [Int.mul_neg, Int.neg_neg]
    have := Int.mul_le_mul (show a ≤ 9223372036854775808 by omega) (show -b ≤ 9223372036854775808 by omega) (by omega) (by decide)
    have := Int.mul_nonneg h0 (show 0 ≤ -b by omega)
    omega
  · have := Int.mul_le_mul (show a ≤ 9223372036854775808 by omega) (show b ≤ 9223372036854775808 by omega) h1 (by decide)
    have := Int.mul_nonneg h0 h1
    omega
theorem fits_mul {a b : Int} (ha : Half a) (hb : Half b) : Fits (a * b) := by have := product_le ha hb; unfold Fits; omega
theorem fits_near {a b : Int} (ha : Half a) (hb : Half b) : Fits (near (a * b) 32) := by
  have := product_le ha hb
  rw [near32]
  unfold Fits
  omega
theorem fits_quo {a : Int} (ha : Half a) (b : Int) : Fits ((a * 4294967296).tdiv b) := by
  unfold Half at ha
  by_cases hz : b = 0
  · subst hz
    rw [Int.tdiv_zero]
    unfold Fits
    omega
  · exact (quo_facts (a * 4294967296) b (by unfold Small; omega) hz).1.fits

theorem and_two (m n : Nat) : (m &&& n) % 2 = (m % 2) * (n % 2) := by
  have h := Nat.and_mod_two_pow (a := m) (b := n) (n := 1)
  rw [show (2 : Nat) ^ 1 = 2 by decide] at h
  rw [h]
  rcases Nat.mod_two_eq_zero_or_one m with a | a <;> rcases Nat.mod_two_eq_zero_or_one n with b | b <;> rw [a, b] <;> decide
theorem and_bit (a b : Int) : bits .and .i64 (bits .and .i64 a b) 1 = (a % 2) * (b % 2) := by
  show IntKind.i64.wrap ((BitVec.ofInt 64 (IntKind.i64.wrap ((BitVec.ofInt 64 a &&& BitVec.ofInt 64 b).toNat : Int)) &&& BitVec.ofInt 64 1).toNat : Int) = _
  rw [IntKind.wrap_i64, IntKind.wrap_i64, BitVec.toNat_and, BitVec.toNat_and, show (BitVec.ofInt 64 1).toNat = 1 by decide, Nat.and_one_is_mod, BitVec.toNat_ofInt]
  generalize hm : (BitVec.ofInt 64 a).toNat &&& (BitVec.ofInt 64 b).toNat = m
  have h2 := and_two (BitVec.ofInt 64 a).toNat (BitVec.ofInt 64 b).toNat
  rw [hm, BitVec.toNat_ofInt, BitVec.toNat_ofInt] at h2
  have h3 : m % 2 = (a % 2).toNat * (b % 2).toNat := by
    rw [h2, show (a % ((2 ^ 64 : Nat) : Int)).toNat % 2 = (a % 2).toNat by omega, show (b % ((2 ^ 64 : Nat) : Int)).toNat % 2 = (b % 2).toNat by omega]
  rcases Int.emod_two_eq a with x | x <;> rcases Int.emod_two_eq b with y | y <;> rw [x, y] at h3 ⊢ <;> simp at h3 ⊢ <;> omega
theorem mid_eq (a b : Int) : a / 2 + b / 2 + (a % 2) * (b % 2) = (a + b) / 2 := by
  rcases Int.emod_two_eq a with x | x <;> rcases Int.emod_two_eq b with y | y <;> rw [x, y] <;> omega

theorem quo_form (a b : Int) : ∃ q c, quo a b = .tuple #[.int .i64 q, .bool c] := by
  unfold quo
  by_cases h : b = 0
  · rw [if_pos h]
    by_cases h1 : 0 < a
    · rw [if_pos h1]; exact ⟨_, _, rfl⟩
    · rw [if_neg h1]
      by_cases h2 : a < 0
      · rw [if_pos h2]; exact ⟨_, _, rfl⟩
      · rw [if_neg h2]; exact ⟨_, _, rfl⟩
  · rw [if_neg h]; exact ⟨_, _, rfl⟩
/-- The nearest one to a within bounds, and whether that is another. -/
def clamp (a lo hi : Int) : Int := if hi < lo then lo else if a < lo then lo else if hi < a then hi else a
def clamped (a lo hi : Int) : Bool := decide (hi < lo) || decide (a < lo) || decide (hi < a)
/-- The sum of the first n of them. -/
def total (f : Nat → Int) : Nat → Int
  | 0 => 0
  | n + 1 => total f n + f n
theorem total_bd (f : Nat → Int) (hf : ∀ j, Half (f j)) (n : Nat) : -9223372036854775808 * (n : Int) ≤ total f n ∧ total f n ≤ 9223372036854775807 * (n : Int) := by
  induction n with
  | zero => exact ⟨by simp [total], by simp [total]⟩
  | succ n ih =>
    have := hf n
    unfold Half at this
    simp only [total]
    omega
theorem total_fits (f : Nat → Int) (hf : ∀ j, Half (f j)) (n : Nat) (hn : n ≤ 60) : Fits (total f n) := by
  have := total_bd f hf n
  unfold Fits
  omega

end Go.Proofs.YtodfcbpcgcgijaaGreatDoor

/- The greatest number whose square is not above a number: it is one only, and it is found bit by bit. -/
namespace Go.Proofs.YtodfcbpcgcgijaaGreatDoor
set_option maxRecDepth 100000
open Go.RowKit

/-- r is the greatest number whose square is not above a. -/
def IsRoot (a r : Int) : Prop := 0 ≤ r ∧ r * r ≤ a ∧ a < (r + 1) * (r + 1)
theorem sq_le {x y : Int} (h0 : 0 ≤ x) (h : x ≤ y) : x * x ≤ y * y :=
  Int.le_trans (Int.mul_le_mul_of_nonneg_left h h0) (Int.mul_le_mul_of_nonneg_right h (by omega))
theorem le_of_sq {x y : Int} (h0 : 0 ≤ y) (h : x * x < (y + 1) * (y + 1)) : x ≤ y := by
  rcases Int.lt_or_le y x with h1 | h1
  · have := sq_le (show 0 ≤ y + 1 by omega) (show y + 1 ≤ x by omega)
    omega
  · exact h1
theorem IsRoot.mono {a b r s : Int} (h : IsRoot a r) (k : IsRoot b s) (hab : a ≤ b) : r ≤ s := by
  obtain ⟨h0, h1, h2⟩ := h
  obtain ⟨k0, k1, k2⟩ := k
  exact le_of_sq k0 (by omega)
theorem IsRoot.unique {a r s : Int} (h : IsRoot a r) (k : IsRoot a s) : r = s := Int.le_antisymm (h.mono k (Int.le_refl _)) (k.mono h (Int.le_refl _))
theorem IsRoot.le {a r s : Int} (h : IsRoot a r) (hs : 0 ≤ s) (k : a < (s + 1) * (s + 1)) : r ≤ s := le_of_sq hs (by have := h.2.1; omega)
theorem isRoot_sq {n : Int} (h : 0 ≤ n) : IsRoot (n * n) n := ⟨h, Int.le_refl _, by
  rw [Int.add_mul, Int.mul_add, Int.one_mul, Int.mul_one]; omega⟩

/-- The greatest of so many bits that fits, bit by bit from the top: after i bits. -/
def climb (fits : Int → Bool) (n : Nat) : Nat → Int
  | 0 => 0
  | i + 1 => if fits (climb fits n i + 2 ^ (n - 1 - i)) then climb fits n i + 2 ^ (n - 1 - i) else climb fits n i
theorem climb_yes {fits : Int → Bool} {n i : Nat} (h : fits (climb fits n i + 2 ^ (n - 1 - i)) = true) : climb fits n (i + 1) = climb fits n i + 2 ^ (n - 1 - i) := by rw [climb, if_pos h]
theorem climb_no {fits : Int → Bool} {n i : Nat} (h : fits (climb fits n i + 2 ^ (n - 1 - i)) = false) : climb fits n (i + 1) = climb fits n i := by rw [climb, h]; rfl
theorem two_pow_next {n i : Nat} (h : i < n) : (2 : Int) ^ (n - i) = 2 * 2 ^ (n - 1 - i) := by
  rw [show n - i = (n - 1 - i) + 1 by omega, Int.pow_succ, Int.mul_comm]
theorem climb_at (fits : Int → Bool) (n : Nat) : ∀ i, i ≤ n → 0 ≤ climb fits n i ∧ climb fits n i % 2 ^ (n - i) = 0 ∧ climb fits n i + 2 ^ (n - i) ≤ 2 ^ n
  | 0, _ => by rw [climb]; exact ⟨Int.le_refl _, by simp, by rw [Nat.sub_zero]; omega⟩
  | i + 1, h => by
    obtain ⟨h0, h1, h2⟩ := climb_at fits n i (by omega)
    have e := two_pow_next (show i < n by omega)
    have hp := pow_pos' (n - 1 - i)
    rw [show n - (i + 1) = n - 1 - i by omega]
    rw [e] at h1 h2
    have h3 : climb fits n i % 2 ^ (n - 1 - i) = 0 := by
      have := Int.emod_emod_of_dvd (climb fits n i) (show (2 : Int) ^ (n - 1 - i) ∣ 2 * 2 ^ (n - 1 - i) from ⟨2, by rw [Int.mul_comm]⟩)
      rw [h1] at this
      simpa using this.symm
    rw [climb]
    split
    · exact ⟨by omega, by rw [Int.add_emod_right]; exact h3, by omega⟩
    · exact ⟨h0, h3, by omega⟩
theorem climb_root (a : Int) (n : Nat) (h0 : 0 ≤ a) (h1 : a < 2 ^ n * 2 ^ n) : ∀ i, i ≤ n →
    climb (fun r => decide (r * r ≤ a)) n i * climb (fun r => decide (r * r ≤ a)) n i ≤ a ∧
    a < (climb (fun r => decide (r * r ≤ a)) n i + 2 ^ (n - i)) * (climb (fun r => decide (r * r ≤ a)) n i + 2 ^ (n - i))
  | 0, _ => by rw [climb]; exact ⟨by simpa using h0, by simpa using h1⟩
  | i + 1, h => by
    obtain ⟨k0, k1⟩ := climb_root a n h0 h1 i (by omega)
    have e := two_pow_next (show i < n by omega)
    rw [show n - (i + 1) = n - 1 - i by omega]
    by_cases hf : (climb (fun r => decide (r * r ≤ a)) n i + 2 ^ (n - 1 - i)) * (climb (fun r => decide (r * r ≤ a)) n i + 2 ^ (n - 1 - i)) ≤ a
    · rw [climb_yes (decide_eq_true hf)]
      exact ⟨hf, by rw [e] at k1; rw [Int.add_assoc, show (2 : Int) ^ (n - 1 - i) + 2 ^ (n - 1 - i) = 2 * 2 ^ (n - 1 - i) by omega]; exact k1⟩
    · rw [climb_no (decide_eq_false hf)]
      exact ⟨k0, by omega⟩
theorem climb_facts (fits : Int → Bool) (n k : Nat) (hn : n ≤ 64) (hk : k < n) : ∃ r t, climb fits n k = r ∧ (2 : Int) ^ (n - 1 - k) = t ∧ 0 ≤ r ∧ 1 ≤ t ∧ r + t < 2 ^ n ∧ bits .or .u64 r t = r + t ∧
    (fits (r + t) = true → climb fits n (k + 1) = r + t) ∧ (fits (r + t) = false → climb fits n (k + 1) = r) := by
  obtain ⟨b0, b1, b2⟩ := climb_at fits n k (by omega)
  have e1 := two_pow_next hk
  have p1 := pow_pos' (n - 1 - k)
  have h64 : (2 : Int) ^ n ≤ 2 ^ 64 := by
    obtain ⟨j, hj⟩ : ∃ j, 64 = n + j := ⟨64 - n, by omega⟩
    rw [hj, Int.pow_add]
    have h1 := pow_pos' j
    have h2 := Int.mul_le_mul_of_nonneg_left (show (1 : Int) ≤ 2 ^ j by omega) (Int.le_of_lt (pow_pos' n))
    omega
  rw [show (2 : Int) ^ 64 = 18446744073709551616 from rfl] at h64
  exact ⟨_, _, rfl, rfl, b0, by omega, by omega, or_u64 (n - k) _ _ b0 (by omega) b1 (by omega) (by omega) (by omega), climb_yes, climb_no⟩
/-- The root. -/
def root (a : Int) : Int := climb (fun r => decide (r * r ≤ a)) 64 64
theorem climb_isRoot (a : Int) (n : Nat) (h0 : 0 ≤ a) (h1 : a < 2 ^ n * 2 ^ n) : IsRoot a (climb (fun r => decide (r * r ≤ a)) n n) := by
  obtain ⟨k0, k1⟩ := climb_root a n h0 h1 n (Nat.le_refl _)
  rw [Nat.sub_self] at k1
  exact ⟨(climb_at _ n n (Nat.le_refl _)).1, k0, k1⟩
theorem isRoot_root {a : Int} (h0 : 0 ≤ a) (h1 : a < 340282366920938463463374607431768211456) : IsRoot a (root a) := climb_isRoot a 64 h0 h1
theorem root_of_32 {a : Int} (h0 : 0 ≤ a) (h1 : a < 18446744073709551616) : climb (fun r => decide (r * r ≤ a)) 32 32 = root a :=
  (climb_isRoot a 32 h0 h1).unique (isRoot_root h0 (by omega))
theorem root_lo {a : Int} (h0 : 0 ≤ a) (h1 : a < 340282366920938463463374607431768211456) : 0 ≤ root a := (isRoot_root h0 h1).1
theorem root_32 {a : Int} (h0 : 0 ≤ a) (h1 : a < 18446744073709551616) : root a ≤ 4294967295 := (isRoot_root h0 (by omega)).le (by decide) (by omega)
theorem root_fits {a : Int} (h0 : 0 ≤ a) (h1 : a < 170141183460469231731687303715884105728) : root a ≤ 13043817825332782212 := (isRoot_root h0 (by omega)).le (by decide) (by omega)
theorem root_fix {a : Int} (h0 : 0 ≤ a) (h1 : a ≤ 9223372036854775807) : root (a * 4294967296) ≤ 281474976710655 := (isRoot_root (by omega) (by omega)).le (by decide) (by omega)
theorem root_sq {n : Int} (h0 : 0 ≤ n) (h1 : n ≤ 18446744073709551615) : root (n * n) = n := by
  have h2 : n * n ≤ 18446744073709551615 * 18446744073709551615 := sq_le h0 h1
  have h3 := sq_le (Int.le_refl 0) h0
  exact (isRoot_root (by omega) (by omega)).unique (isRoot_sq h0)
theorem root_mono {a b : Int} (h0 : 0 ≤ a) (h : a ≤ b) (h1 : b < 340282366920938463463374607431768211456) : root a ≤ root b :=
  (isRoot_root h0 (by omega)).mono (isRoot_root (by omega) h1) h
theorem square_hi {n : Int} (h0 : 0 ≤ n) (h1 : n ≤ 18446744073709551615) : 0 ≤ n * n ∧ n * n ≤ 340282366920938463426481119284349108225 :=
  ⟨by simpa using sq_le (Int.le_refl 0) h0, sq_le h0 h1⟩
theorem sw_square {s n : Int} (h : sw (n * n) = s) (h0 : 0 ≤ n) (h1 : n ≤ 18446744073709551615) : (s < 0 ∧ 170141183460469231731687303715884105728 ≤ n * n) ∨ (0 ≤ s ∧ s = n * n) := by
  have := square_hi h0 h1
  unfold sw at h
  omega
/-- The square of a number that went round, and what it lacks. -/
theorem square_round (n m : Int) (h : n = m + 18446744073709551616) : sw (m * m + m * 2 ^ 65) = sw (n * n) := by
  subst h
  have : (m + 18446744073709551616) * (m + 18446744073709551616) = m * m + m * 2 ^ 65 + 340282366920938463463374607431768211456 := by
    rw [Int.add_mul, Int.mul_add, Int.mul_add, show (2 : Int) ^ 65 = 36893488147419103232 from rfl]; omega
  rw [this]
  unfold sw
  omega

end Go.Proofs.YtodfcbpcgcgijaaGreatDoor

/- Plain facts on vectors: products, the length, what is clamped; no function of the program is named here. -/
namespace Go.Proofs.YtodfcbpcgcgijaaGreatDoor
set_option maxRecDepth 100000

/-- A product, to the nearest part. -/
def prod (a b : Int) : Int := near (a * b) 32
theorem prod_bd {a b : Int} (ha : Half a) (hb : Half b) : -19807040628566084398385987584 ≤ prod a b ∧ prod a b ≤ 19807040628566084398385987584 := by
  have := product_le ha hb
  unfold prod
  rw [near32]
  omega
theorem prod_fits {a b : Int} (ha : Half a) (hb : Half b) : Fits (prod a b) := by have := prod_bd ha hb; unfold Fits; omega
theorem prod_comm (a b : Int) : prod a b = prod b a := by unfold prod; rw [Int.mul_comm]
theorem area_fits {a b c d : Int} (ha : Half a) (hb : Half b) (hc : Half c) (hd : Half d) : Fits (prod a b + -prod c d) := by
  have := prod_bd ha hb
  have := prod_bd hc hd
  unfold Fits
  omega
/-- The sum of the products of two vectors' axes. -/
def dot (a b c x y z : Int) : Int := prod a x + prod b y + prod c z
theorem dot_fits {a b c x y z : Int} (ha : Half a) (hb : Half b) (hc : Half c) (hx : Half x) (hy : Half y) (hz : Half z) : Fits (dot a b c x y z) := by
  have := prod_bd ha hx
  have := prod_bd hb hy
  have := prod_bd hc hz
  unfold Fits dot
  omega
theorem dot_comm (a b c x y z : Int) : dot a b c x y z = dot x y z a b c := by unfold dot; rw [prod_comm a, prod_comm b, prod_comm c]
/-- The squares' sum. -/
def squares (a b c : Int) : Int := a * a + b * b + c * c
theorem sq_half {a : Int} (ha : Half a) : 0 ≤ a * a ∧ a * a ≤ 85070591730234615865843651857942052864 := by
  have := product_le ha ha
  refine ⟨?_, this.2⟩
  rcases Int.lt_or_le a 0 with h | h
  · rw [← Int.neg_mul_neg]; exact Int.mul_nonneg (by omega) (by omega)
  · exact Int.mul_nonneg h h
theorem squares_bd {a b c : Int} (ha : Half a) (hb : Half b) (hc : Half c) : 0 ≤ squares a b c ∧ squares a b c ≤ 255211775190703847597530955573826158592 := by
  have := sq_half ha
  have := sq_half hb
  have := sq_half hc
  unfold squares
  omega
/-- The length's root, not yet saturated. -/
def len (a b c : Int) : Int := root (squares a b c)
theorem len_root {a b c : Int} (ha : Half a) (hb : Half b) (hc : Half c) : IsRoot (squares a b c) (len a b c) :=
  isRoot_root (squares_bd ha hb hc).1 (by have := (squares_bd ha hb hc).2; omega)
theorem len_lo {a b c : Int} (ha : Half a) (hb : Half b) (hc : Half c) : 0 ≤ len a b c := (len_root ha hb hc).1
theorem len_hi {a b c : Int} (ha : Half a) (hb : Half b) (hc : Half c) : len a b c ≤ 18446744073709551615 :=
  (len_root ha hb hc).le (by decide) (by have := (squares_bd ha hb hc).2; omega)
theorem len_fits {a b c : Int} (ha : Half a) (hb : Half b) (hc : Half c) : Fits (len a b c) := by
  have := len_lo ha hb hc
  have := len_hi ha hb hc
  unfold Fits
  omega
/-- A sum of squares that is too much for 127 bits has a root that is too much for 63. -/
theorem len_over {a b c : Int} (ha : Half a) (hb : Half b) (hc : Half c) (h : 170141183460469231731687303715884105728 ≤ squares a b c) : 9223372036854775807 < len a b c := by
  obtain ⟨h0, h1, h2⟩ := len_root ha hb hc
  rcases Int.lt_or_le 9223372036854775807 (len a b c) with k | k
  · exact k
  · have := sq_le (show 0 ≤ len a b c + 1 by omega) (show len a b c + 1 ≤ 9223372036854775808 by omega)
    omega
/-- A number without its sign. -/
def bare (a : Int) : Int := if a < 0 then -a else a
theorem bare_sq (a : Int) : bare a * bare a = a * a := by
  unfold bare
  split
  · exact Int.neg_mul_neg a a
  · rfl
theorem bare_bd {a : Int} (ha : Half a) : 0 ≤ bare a ∧ bare a ≤ 9223372036854775808 := by unfold Half at ha; unfold bare; split <;> omega
theorem bare_neg (a : Int) : bare (-a) = bare a := by unfold bare; split <;> split <;> omega
/-- The greatest of three numbers without their signs, saturated. -/
def greatest (a b c : Int) : Int := min (max (max (bare a) (bare b)) (bare c)) 9223372036854775807
theorem bare_le_len {a b c : Int} (ha : Half a) (hb : Half b) (hc : Half c) : bare a ≤ len a b c ∧ bare b ≤ len a b c ∧ bare c ≤ len a b c := by
  obtain ⟨h0, h1, h2⟩ := len_root ha hb hc
  have qa := sq_half ha
  have qb := sq_half hb
  have qc := sq_half hc
  unfold squares at h2
  refine ⟨le_of_sq h0 ?_, le_of_sq h0 ?_, le_of_sq h0 ?_⟩
  all_goals
    rw [bare_sq]
    omega
theorem squares_neg (a b c : Int) : squares (-a) (-b) (-c) = squares a b c := by unfold squares; rw [Int.neg_mul_neg, Int.neg_mul_neg, Int.neg_mul_neg]
theorem len_neg (a b c : Int) : len (-a) (-b) (-c) = len a b c := by unfold len; rw [squares_neg]
/-- What the bounds of a clamp come to. -/
def bound (m : Int) : Int := max m 0
theorem bound_half {m : Int} (h : Half m) : Half (bound m) ∧ Half (-bound m) ∧ 0 ≤ bound m := by unfold Half at *; unfold bound; omega
theorem clamp_within {a m : Int} (h : 0 ≤ m) : -m ≤ clamp a (-m) m ∧ clamp a (-m) m ≤ m := by
  unfold clamp
  split
  · omega
  · split
    · omega
    · split <;> omega
theorem clamped_iff {a m : Int} (h : 0 ≤ m) : clamped a (-m) m = !(decide (a ≤ m) && decide (-m ≤ a)) := by
  unfold clamped
  rw [decide_eq_false (show ¬ m < -m by omega), Bool.false_or, Bool.eq_iff_iff]
  simp only [Bool.or_eq_true, decide_eq_true_eq, Bool.not_eq_true', Bool.and_eq_false_iff, decide_eq_false_iff_not]
  omega
theorem clamp_in {a m : Int} (h0 : a ≤ m) (h1 : -m ≤ a) : clamp a (-m) m = a := by
  unfold clamp
  rw [if_neg (by omega), if_neg (by omega), if_neg (by omega)]

end Go.Proofs.YtodfcbpcgcgijaaGreatDoor

/- Steps that turn two numbers: how long they stay, and which side of the axes. -/
namespace Go.Proofs.YtodfcbpcgcgijaaGreatDoor
set_option maxRecDepth 100000
set_option linter.unusedVariables false
set_option maxRecDepth 100000
/-- The angles of the steps. -/
def angles : List Int := [536870912, 316933406, 167458907, 85004756, 42667331, 21354465, 10679838, 5340245, 2670163, 1335087, 667544, 333772, 166886, 83443, 41722, 20861, 10430, 5215, 2608, 1304, 652, 326, 163, 81, 41, 20, 10, 5, 3, 1]
def stp (i : Nat) : Int := angles.getD i 0
theorem all_below {P : Nat → Prop} [DecidablePred P] (n : Nat) (h : (List.range n).all (fun i => decide (P i)) = true) (i : Nat) (hi : i < n) : P i :=
  of_decide_eq_true (List.all_eq_true.1 h i (List.mem_range.2 hi))
theorem stp_bd (i : Nat) (hi : i < 30) : 1 ≤ stp i ∧ stp i ≤ 536870912 := all_below (P := fun i => 1 ≤ stp i ∧ stp i ≤ 536870912) 30 (by decide +kernel) i hi

/-- x, y and what is left of a, behind so many steps. -/
def bothAt (a : Int) : Nat → Int × Int × Int
  | 0 => (2608131496, 0, a)
  | i + 1 => if 0 ≤ (bothAt a i).2.2 then ((bothAt a i).1 - (bothAt a i).2.1 / 2 ^ i, (bothAt a i).2.1 + (bothAt a i).1 / 2 ^ i, (bothAt a i).2.2 - stp i)
    else ((bothAt a i).1 + (bothAt a i).2.1 / 2 ^ i, (bothAt a i).2.1 - (bothAt a i).1 / 2 ^ i, (bothAt a i).2.2 + stp i)
theorem bothAt_yes {a x y z : Int} {i : Nat} (h : bothAt a i = (x, y, z)) (hz : 0 ≤ z) : bothAt a (i + 1) = (x - y / 2 ^ i, y + x / 2 ^ i, z - stp i) := by
  rw [bothAt, h, if_pos hz]
theorem bothAt_no {a x y z : Int} {i : Nat} (h : bothAt a i = (x, y, z)) (hz : z < 0) : bothAt a (i + 1) = (x + y / 2 ^ i, y - x / 2 ^ i, z + stp i) := by
  rw [bothAt, h, if_neg (by show ¬ 0 ≤ z; omega)]
/-- x, y and the angle, behind so many steps of the other kind. -/
def angAt (x y : Int) : Nat → Int × Int × Int
  | 0 => (x, y, 0)
  | i + 1 => if 0 ≤ (angAt x y i).2.1 then ((angAt x y i).1 + (angAt x y i).2.1 / 2 ^ i, (angAt x y i).2.1 - (angAt x y i).1 / 2 ^ i, (angAt x y i).2.2 + stp i)
    else ((angAt x y i).1 - (angAt x y i).2.1 / 2 ^ i, (angAt x y i).2.1 + (angAt x y i).1 / 2 ^ i, (angAt x y i).2.2 - stp i)
theorem angAt_yes {x0 y0 x y z : Int} {i : Nat} (h : angAt x0 y0 i = (x, y, z)) (hz : 0 ≤ y) : angAt x0 y0 (i + 1) = (x + y / 2 ^ i, y - x / 2 ^ i, z + stp i) := by
  rw [angAt, h, if_pos hz]
theorem angAt_no {x0 y0 x y z : Int} {i : Nat} (h : angAt x0 y0 i = (x, y, z)) (hz : y < 0) : angAt x0 y0 (i + 1) = (x - y / 2 ^ i, y + x / 2 ^ i, z - stp i) := by
  rw [angAt, h, if_neg (by show ¬ 0 ≤ y; omega)]

/-- Half-open parts: x over p. -/
theorem parts (x p : Int) (hp : 0 < p) : ∃ a f, x / p = a ∧ x = p * a + f ∧ 0 ≤ f ∧ f < p :=
  ⟨x / p, x % p, rfl, (Int.mul_ediv_add_emod x p).symm, Int.emod_nonneg x (by omega), Int.emod_lt_of_pos x hp⟩
theorem mul_bd {a b A B : Int} (ha : -A ≤ a ∧ a ≤ A) (hb : -B ≤ b ∧ b ≤ B) : -(A * B) ≤ a * b ∧ a * b ≤ A * B := by
  have h1 := Int.mul_nonneg (show 0 ≤ A - a by omega) (show 0 ≤ B + b by omega)
  have h2 := Int.mul_nonneg (show 0 ≤ A + a by omega) (show 0 ≤ B - b by omega)
  have h3 := Int.mul_nonneg (show 0 ≤ A - a by omega) (show 0 ≤ B - b by omega)
  have h4 := Int.mul_nonneg (show 0 ≤ A + a by omega) (show 0 ≤ B + b by omega)
  constructor <;> grind
theorem sq_le' {x B : Int} (hB : 0 ≤ B) (h : x * x ≤ B * B) : -B ≤ x ∧ x ≤ B := by
  constructor
  · rcases Int.lt_or_le x (-B) with h1 | h1
    · have := Int.mul_nonneg (show 0 ≤ -x - B - 1 by omega) (show 0 ≤ -x + B by omega)
      have : x * x - B * B ≥ -x + B := by grind
      omega
    · exact h1
  · rcases Int.lt_or_le B x with h1 | h1
    · have := Int.mul_nonneg (show 0 ≤ x - B - 1 by omega) (show 0 ≤ x + B by omega)
      have : x * x - B * B ≥ x + B := by grind
      omega
    · exact h1
theorem sq_nn (x : Int) : 0 ≤ x * x := by
  rcases Int.le_total 0 x with h | h
  · exact Int.mul_nonneg h h
  · have := Int.mul_nonneg (show 0 ≤ -x by omega) (show 0 ≤ -x by omega); grind

/-- The square of the length behind a step: times 1 + 4^-i, and a little. -/
theorem norm_step (x y p u : Int) (hp : 0 < p) (h1 : p = 1 ∨ 2 ≤ p) (hu : u = 1 ∨ u = -1) (B : Int) (hx : -B ≤ x ∧ x ≤ B) (hy : -B ≤ y ∧ y ≤ B) :
    -(p * p * (6 * B + 2)) ≤ p * p * ((x - u * (y / p)) * (x - u * (y / p)) + (y + u * (x / p)) * (y + u * (x / p))) - (p * p + 1) * (x * x + y * y) ∧
    p * p * ((x - u * (y / p)) * (x - u * (y / p)) + (y + u * (x / p)) * (y + u * (x / p))) - (p * p + 1) * (x * x + y * y) ≤ p * p * (6 * B + 2) := by
  obtain ⟨a, f, e1, e2, f0, f1⟩ := parts x p hp
  obtain ⟨b, g, e3, e4, g0, g1⟩ := parts y p hp
  rw [e1, e3]
  have hB : 0 ≤ B := by omega
  have e : p * p * ((x - u * b) * (x - u * b) + (y + u * a) * (y + u * a)) - (p * p + 1) * (x * x + y * y) = 2 * p * u * (g * x - f * y) - 2 * (x * f) - 2 * (y * g) + f * f + g * g := by
    have hu1 : u * u = 1 := by rcases hu with h | h <;> rw [h] <;> rfl
    grind
  rw [e]
  rcases h1 with h1 | h1
  · have f2 : f = 0 := by omega
    have g2 : g = 0 := by omega
    subst h1 f2 g2
    constructor <;> grind
  · have a1 := mul_bd hx (b := f) (B := p) (by omega)
    have a2 := mul_bd hy (b := g) (B := p) (by omega)
    have a3 := mul_bd hx (b := g) (B := p) (by omega)
    have a4 := mul_bd hy (b := f) (B := p) (by omega)
    have a5 := mul_bd (a := f) (b := f) (A := p) (B := p) (by omega) (by omega)
    have a6 := mul_bd (a := g) (b := g) (A := p) (B := p) (by omega) (by omega)
    have a7 := sq_nn f
    have a8 := sq_nn g
    have hpB := Int.mul_nonneg (show 0 ≤ p by omega) hB
    have hppB : 2 * (B * p) ≤ p * p * B := by
      have := Int.mul_nonneg (show 0 ≤ p - 2 by omega) hpB
      grind
    have a9 := mul_bd (a := u) (b := g * x - f * y) (A := 1) (B := 2 * (B * p)) (by omega) (by grind)
    have a10 : -(2 * (p * p * (2 * B))) ≤ 2 * p * u * (g * x - f * y) ∧ 2 * p * u * (g * x - f * y) ≤ 2 * (p * p * (2 * B)) := by
      have := mul_bd (a := p) (b := u * (g * x - f * y)) (A := p) (B := 2 * (B * p)) (by omega) (by omega)
      grind
    constructor <;> grind
/-- Which way the step i goes: of Both, and of Angle. -/
def sgB (a : Int) (i : Nat) : Int := if 0 ≤ (bothAt a i).2.2 then 1 else -1
def sgA (x y : Int) (i : Nat) : Int := if 0 ≤ (angAt x y i).2.1 then -1 else 1
theorem sgB_is (a : Int) (i : Nat) : sgB a i = 1 ∨ sgB a i = -1 := by unfold sgB; split <;> simp
theorem sgA_is (x y : Int) (i : Nat) : sgA x y i = 1 ∨ sgA x y i = -1 := by unfold sgA; split <;> simp
theorem both_step (a : Int) (i : Nat) : (bothAt a (i + 1)).1 = (bothAt a i).1 - sgB a i * ((bothAt a i).2.1 / 2 ^ i) ∧ (bothAt a (i + 1)).2.1 = (bothAt a i).2.1 + sgB a i * ((bothAt a i).1 / 2 ^ i) ∧ (bothAt a (i + 1)).2.2 = (bothAt a i).2.2 - sgB a i * stp i := by
  rw [bothAt, sgB]
  split <;> refine ⟨?_, ?_, ?_⟩ <;> simp <;> grind
theorem ang_step (x y : Int) (i : Nat) : (angAt x y (i + 1)).1 = (angAt x y i).1 - sgA x y i * ((angAt x y i).2.1 / 2 ^ i) ∧ (angAt x y (i + 1)).2.1 = (angAt x y i).2.1 + sgA x y i * ((angAt x y i).1 / 2 ^ i) ∧ (angAt x y (i + 1)).2.2 = (angAt x y i).2.2 - sgA x y i * stp i := by
  rw [angAt, sgA]
  split <;> refine ⟨?_, ?_, ?_⟩ <;> simp <;> grind
theorem two_pow_pos (i : Nat) : (0 : Int) < 2 ^ i := Int.pow_pos (by decide)
theorem two_pow_cases : ∀ i : Nat, (2 : Int) ^ i = 1 ∨ 2 ≤ (2 : Int) ^ i
  | 0 => Or.inl rfl
  | i + 1 => Or.inr (by have := two_pow_pos i; rw [Int.pow_succ]; omega)

/-- Bounds of the square of the length. -/
def nHi : Nat → Int
  | 0 => 2608131496 * 2608131496
  | i + 1 => nHi i + nHi i / (2 ^ i * 2 ^ i) + 25776095234
def nLo : Nat → Int
  | 0 => 2608131496 * 2608131496
  | i + 1 => nLo i + nLo i / (2 ^ i * 2 ^ i) - 25776095234
theorem nHi_bd (i : Nat) (hi : i < 31) : nHi i ≤ 4296015872 * 4296015872 := all_below (P := fun i => nHi i ≤ 4296015872 * 4296015872) 31 (by decide +kernel) i hi
theorem nHi_end : nHi 30 ≤ 18446744073709551616 + 1030792151040 := by decide +kernel
theorem nLo_end : 18446744073709551616 - 1030792151040 ≤ nLo 30 := by decide +kernel
theorem of_norm {x y : Int} {i : Nat} (hi : i < 31) (h : x * x + y * y ≤ nHi i) : (-4296015872 ≤ x ∧ x ≤ 4296015872) ∧ (-4296015872 ≤ y ∧ y ≤ 4296015872) := by
  have h1 := nHi_bd i hi
  have h2 := sq_nn x
  have h3 := sq_nn y
  exact ⟨sq_le' (by decide) (by omega), sq_le' (by decide) (by omega)⟩
theorem both_norm (a : Int) : ∀ i, i < 31 → nLo i ≤ (bothAt a i).1 * (bothAt a i).1 + (bothAt a i).2.1 * (bothAt a i).2.1 ∧ (bothAt a i).1 * (bothAt a i).1 + (bothAt a i).2.1 * (bothAt a i).2.1 ≤ nHi i
  | 0, _ => ⟨by show 2608131496 * 2608131496 ≤ (2608131496 * 2608131496 : Int) + 0 * 0; decide, by show (2608131496 * 2608131496 : Int) + 0 * 0 ≤ 2608131496 * 2608131496; decide⟩
  | i + 1, hi => by
    have ih := both_norm a i (by omega)
    obtain ⟨s1, s2, _⟩ := both_step a i
    rw [s1, s2]
    have bd := of_norm (i := i) (by omega) ih.2
    have hp := two_pow_pos i
    have ns := norm_step (bothAt a i).1 (bothAt a i).2.1 (2 ^ i) (sgB a i) hp (two_pow_cases i) (sgB_is a i) 4296015872 bd.1 bd.2
    have hpp := Int.mul_pos hp hp
    rw [nLo, nHi]
    generalize (bothAt a i).1 * (bothAt a i).1 + (bothAt a i).2.1 * (bothAt a i).2.1 = N at ih ns
    generalize ((bothAt a i).1 - sgB a i * ((bothAt a i).2.1 / 2 ^ i)) * ((bothAt a i).1 - sgB a i * ((bothAt a i).2.1 / 2 ^ i)) + ((bothAt a i).2.1 + sgB a i * ((bothAt a i).1 / 2 ^ i)) * ((bothAt a i).2.1 + sgB a i * ((bothAt a i).1 / 2 ^ i)) = N' at ns ⊢
    generalize (2 : Int) ^ i * 2 ^ i = q at ns hpp ⊢
    obtain ⟨k1, r1, e1, e2, f0, f1⟩ := parts (nLo i) q hpp
    obtain ⟨k2, r2, e3, e4, g0, g1⟩ := parts (nHi i) q hpp
    rw [e1, e3]
    constructor
    · have : q * k1 ≤ q * (N' - N + 25776095234) := by grind
      have := Int.le_of_mul_le_mul_left this hpp
      omega
    · have : q * (N' - N - 25776095234) < q * (k2 + 1) := by grind
      have := Int.lt_of_mul_lt_mul_left this (by omega)
      omega
theorem both_bd (a : Int) (i : Nat) (hi : i < 31) : (-4296015872 ≤ (bothAt a i).1 ∧ (bothAt a i).1 ≤ 4296015872) ∧ (-4296015872 ≤ (bothAt a i).2.1 ∧ (bothAt a i).2.1 ≤ 4296015872) := of_norm hi (both_norm a i hi).2
theorem left_bd (a : Int) (ha : 0 ≤ a ∧ a < 1073741824) : ∀ i, i < 31 → -1073741824 ≤ (bothAt a i).2.2 ∧ (bothAt a i).2.2 < 1073741824
  | 0, _ => by show -1073741824 ≤ a ∧ a < 1073741824; omega
  | i + 1, hi => by
    have ih := left_bd a ha i (by omega)
    have := stp_bd i (by omega)
    rw [(both_step a i).2.2, sgB]
    split <;> omega

/-- Whether both are above 0 in the end: by the ways that are near an axis. -/
def axis : Nat → Nat → Int → Int → Int → Int → Bool
  | 0, _, _, _, x, y => decide (1 ≤ x ∧ 1 ≤ y)
  | n + 1, i, lo, hi, x, y => decide (hi < lo) || (decide (2 ^ (34 - i) ≤ x ∧ 2 ^ (34 - i) ≤ y)) ||
    (axis n (i + 1) (max lo 0 - stp i) (hi - stp i) (x - y / 2 ^ i) (y + x / 2 ^ i) && axis n (i + 1) (lo + stp i) (min hi (-1) + stp i) (x + y / 2 ^ i) (y - x / 2 ^ i))
theorem axis_all : axis 30 0 0 1073741823 2608131496 0 = true := by decide +kernel
theorem far_stays (a : Int) (i : Nat) (hx : 2 ^ (34 - i) ≤ (bothAt a i).1) (hy : 2 ^ (34 - i) ≤ (bothAt a i).2.1) : ∀ j, i + j ≤ 30 → 2 ^ (34 - (i + j)) ≤ (bothAt a (i + j)).1 ∧ 2 ^ (34 - (i + j)) ≤ (bothAt a (i + j)).2.1
  | 0, _ => ⟨hx, hy⟩
  | j + 1, h => by
    have ih := far_stays a i hx hy j (by omega)
    have bd := both_bd a (i + j) (by omega)
    obtain ⟨s1, s2, _⟩ := both_step a (i + j)
    rw [show i + (j + 1) = i + j + 1 by omega, s1, s2]
    have hs := sgB_is a (i + j)
    have hk29 : i + j < 30 := by omega
    generalize i + j = k at *
    have hp := two_pow_pos k
    have hk : (2 : Int) ^ (34 - k) = 2 * 2 ^ (34 - (k + 1)) := by rw [show 34 - k = (34 - (k + 1)) + 1 by omega, Int.pow_succ]; omega
    have hq : (2 : Int) ^ k * 2 ^ (34 - (k + 1)) = 8589934592 := by rw [← Int.pow_add, show k + (34 - (k + 1)) = 33 by omega]; rfl
    rw [hk] at ih
    have hk30 : (2 : Int) ^ k ≤ 536870912 := by
      have : (2 : Int) ^ k * 2 ^ (29 - k) = 536870912 := by rw [← Int.pow_add, show k + (29 - k) = 29 by omega]; rfl
      have h1 := two_pow_pos (29 - k)
      have := Int.mul_le_mul_of_nonneg_left (show 1 ≤ (2 : Int) ^ (29 - k) by omega) (Int.le_of_lt hp)
      omega
    generalize (2 : Int) ^ (34 - (k + 1)) = t at ih hq ⊢
    generalize (2 : Int) ^ k = p at hp hq hk30 ⊢
    have key : ∀ v : Int, -4296015872 ≤ v ∧ v ≤ 4296015872 → -t ≤ v / p ∧ v / p ≤ t := by
      intro v hv
      obtain ⟨c, f, e1, e2, f0, f1⟩ := parts v p hp
      rw [e1]
      constructor
      · have : p * (-t) < p * (c + 1) := by grind
        have := Int.lt_of_mul_lt_mul_left this (by omega)
        omega
      · have : p * c ≤ p * t := by grind
        exact Int.le_of_mul_le_mul_left this hp
    have k1 := key _ bd.1
    have k2 := key _ bd.2
    rcases hs with hs | hs <;> rw [hs] <;> omega
theorem axis_end (a : Int) : ∀ n i lo hi, n + i = 30 → lo ≤ (bothAt a i).2.2 → (bothAt a i).2.2 ≤ hi → axis n i lo hi (bothAt a i).1 (bothAt a i).2.1 = true → 1 ≤ (bothAt a 30).1 ∧ 1 ≤ (bothAt a 30).2.1
  | 0, i, lo, hi, hn, h1, h2, h => by
    obtain rfl : i = 30 := by omega
    rw [axis] at h
    exact of_decide_eq_true h
  | n + 1, i, lo, hi, hn, h1, h2, h => by
    rw [axis, Bool.or_eq_true, Bool.or_eq_true, Bool.and_eq_true] at h
    rcases h with (h | h) | ⟨h, h'⟩
    · have := of_decide_eq_true h; omega
    · have h := of_decide_eq_true h
      have := far_stays a i h.1 h.2 (n + 1) (by omega)
      rw [show i + (n + 1) = 30 by omega] at this
      exact ⟨Int.le_trans (by decide) this.1, Int.le_trans (by decide) this.2⟩
    · obtain ⟨x, y, z, e⟩ : ∃ x y z, bothAt a i = (x, y, z) := ⟨_, _, _, rfl⟩
      rw [e] at h1 h2 h h'
      rcases Int.lt_or_le z 0 with hz | hz
      · have e' := bothAt_no e hz
        refine axis_end a n (i + 1) _ _ (by omega) ?_ ?_ (by rw [e']; exact h') <;> rw [e'] <;> simp at h1 h2 ⊢ <;> omega
      · have e' := bothAt_yes e hz
        refine axis_end a n (i + 1) _ _ (by omega) ?_ ?_ (by rw [e']; exact h) <;> rw [e'] <;> simp at h1 h2 ⊢ <;> omega
theorem both_pos (a : Int) (ha : 0 ≤ a ∧ a < 1073741824) : 1 ≤ (bothAt a 30).1 ∧ 1 ≤ (bothAt a 30).2.1 :=
  axis_end a 30 0 0 1073741823 rfl ha.1 (by show a ≤ 1073741823; omega) axis_all
/-- Cosine and sine of a rest. -/
def cosOf (a : Int) : Int := min (bothAt a 30).1 4294967296
def sinOf (a : Int) : Int := min (bothAt a 30).2.1 4294967296
theorem cos_sin (a : Int) (ha : 0 ≤ a ∧ a < 1073741824) : 1 ≤ cosOf a ∧ cosOf a ≤ 4294967296 ∧ 1 ≤ sinOf a ∧ sinOf a ≤ 4294967296 ∧ (bothAt a 30).1 - 120 ≤ cosOf a ∧ cosOf a ≤ (bothAt a 30).1 ∧ (bothAt a 30).2.1 - 120 ≤ sinOf a ∧ sinOf a ≤ (bothAt a 30).2.1 ∧
    18446744073709551616 - 1030792151040 ≤ cosOf a * cosOf a + sinOf a * sinOf a ∧ cosOf a * cosOf a + sinOf a * sinOf a ≤ 18446744073709551616 + 1030792151040 := by
  have hp := both_pos a ha
  have hn := both_norm a 30 (by decide)
  have n1 := nLo_end
  have n2 := nHi_end
  unfold cosOf sinOf
  generalize (bothAt a 30).1 = x at *
  generalize (bothAt a 30).2.1 = y at *
  have hx := sq_le' (x := x) (B := 4294967416) (by decide) (by have := sq_nn y; omega)
  have hy := sq_le' (x := y) (B := 4294967416) (by decide) (by have := sq_nn x; omega)
  have key : ∀ v : Int, 1 ≤ v → v ≤ 4294967416 → (v ≤ 4294967296 ∧ min v 4294967296 = v) ∨ (4294967296 < v ∧ min v 4294967296 = 4294967296 ∧ 18446744073709551616 ≤ v * v) := by
    intro v h1 h2
    rcases Int.lt_or_le 4294967296 v with h | h
    · exact Or.inr ⟨h, by omega, by have := Int.mul_le_mul_of_nonneg_left (show 4294967296 ≤ v by omega) (show 0 ≤ v by omega); omega⟩
    · exact Or.inl ⟨h, by omega⟩
  have sx := sq_nn x
  have sy := sq_nn y
  have one : (4294967296 : Int) * 4294967296 = 18446744073709551616 := rfl
  have sx1 := Int.mul_le_mul_of_nonneg_left hp.1 (show 0 ≤ x by omega)
  have sy1 := Int.mul_le_mul_of_nonneg_left hp.2 (show 0 ≤ y by omega)
  rcases key x hp.1 hx.2 with ⟨a1, a2⟩ | ⟨a1, a2, a3⟩ <;> rcases key y hp.2 hy.2 with ⟨b1, b2⟩ | ⟨b1, b2, b3⟩ <;> rw [a2, b2] <;> refine ⟨?_, ?_, ?_, ?_, ?_, ?_, ?_, ?_, ?_, ?_⟩ <;> omega

end Go.Proofs.YtodfcbpcgcgijaaGreatDoor

/- What a run of steps comes to, but for its rounding; what is left of an angle; how far Angle's numbers go. -/
namespace Go.Proofs.YtodfcbpcgcgijaaGreatDoor
set_option maxRecDepth 100000
set_option linter.unusedVariables false
set_option maxRecDepth 100000
/-- The products of 2^i, and what a run's rounding comes to. -/
def tri : Nat → Int
  | 0 => 1
  | n + 1 => tri n * 2 ^ n
def len1 : Nat → Int
  | 0 => 1
  | n + 1 => (2 ^ n + 1) * len1 n
def slip : Nat → Int
  | 0 => 0
  | n + 1 => (2 ^ n + 1) * slip n + tri n * 2 ^ n
/-- The product of 2^i + I u(i). -/
def spin (u : Nat → Int) : Nat → Int × Int
  | 0 => (1, 0)
  | n + 1 => (2 ^ n * (spin u n).1 - u n * (spin u n).2, 2 ^ n * (spin u n).2 + u n * (spin u n).1)
theorem tri_pos : ∀ n, 0 < tri n
  | 0 => by decide
  | n + 1 => Int.mul_pos (tri_pos n) (two_pow_pos n)
/-- |r| ≤ b. -/
def Within (r b : Int) : Prop := -b ≤ r ∧ r ≤ b
theorem Within.add {r s b c : Int} (h : Within r b) (k : Within s c) : Within (r + s) (b + c) := by unfold Within at *; omega
theorem Within.sub {r s b c : Int} (h : Within r b) (k : Within s c) : Within (r - s) (b + c) := by unfold Within at *; omega
theorem Within.mul {r s b c : Int} (h : Within r b) (k : Within s c) : Within (r * s) (b * c) := mul_bd h k
theorem Within.mono {r b c : Int} (h : Within r b) (k : b ≤ c) : Within r c := by unfold Within at *; omega
theorem Within.self {r : Int} (h : 0 ≤ r) : Within r r := by unfold Within; omega
theorem Within.sg {u : Int} (h : u = 1 ∨ u = -1) : Within u 1 := by unfold Within; omega
theorem Within.of_eq {r s b : Int} (h : Within r b) (e : r = s) : Within s b := e ▸ h
theorem Within.nn {r b : Int} (h : Within r b) : 0 ≤ b := by unfold Within at h; omega

theorem spin_len (u : Nat → Int) (hu : ∀ i, u i = 1 ∨ u i = -1) : ∀ n, Within ((spin u n).1 + (spin u n).2) (len1 n) ∧ Within ((spin u n).1 - (spin u n).2) (len1 n)
  | 0 => by rw [spin, len1]; unfold Within; decide
  | n + 1 => by
    obtain ⟨h1, h2⟩ := spin_len u hu n
    have hp := Within.self (Int.le_of_lt (two_pow_pos n))
    have hs := Within.sg (hu n)
    rw [spin, len1]
    exact ⟨(((hp.mul h1).add (hs.mul h2)).of_eq (by grind)).mono (by grind), (((hp.mul h2).sub (hs.mul h1)).of_eq (by grind)).mono (by grind)⟩
theorem run_slips (x y : Nat → Int) (u : Nat → Int) (hu : ∀ i, u i = 1 ∨ u i = -1) (hx : ∀ i, x (i + 1) = x i - u i * (y i / 2 ^ i)) (hy : ∀ i, y (i + 1) = y i + u i * (x i / 2 ^ i)) :
    ∀ n, Within (tri n * x n - (x 0 * (spin u n).1 - y 0 * (spin u n).2)) (slip n) ∧ Within (tri n * y n - (x 0 * (spin u n).2 + y 0 * (spin u n).1)) (slip n)
  | 0 => by rw [tri, spin, slip]; unfold Within; simp
  | n + 1 => by
    obtain ⟨h1, h2⟩ := run_slips x y u hu hx hy n
    have p0 := two_pow_pos n
    have hp := Within.self (Int.le_of_lt p0)
    have hs := Within.sg (hu n)
    have ht := Within.self (Int.le_of_lt (tri_pos n))
    rw [spin, slip, tri, hx n, hy n]
    obtain ⟨a, f, e1, e2, f0, f1⟩ := parts (x n) _ p0
    obtain ⟨b, g, e3, e4, g0, g1⟩ := parts (y n) _ p0
    rw [e1, e3]
    have hf : Within f (2 ^ n) := by unfold Within; omega
    have hg : Within g (2 ^ n) := by unfold Within; omega
    have hu1 : u n * u n = 1 := by rcases hu n with h | h <;> rw [h] <;> rfl
    generalize (2 : Int) ^ n = p at *
    exact ⟨((((hp.mul h1).sub (hs.mul h2)).add (ht.mul (hs.mul hg))).of_eq (by grind)).mono (by grind), ((((hp.mul h2).add (hs.mul h1)).sub (ht.mul (hs.mul hf))).of_eq (by grind)).mono (by grind)⟩
theorem tri_end : len1 30 ≤ 5 * tri 30 ∧ slip 30 ≤ 40 * tri 30 := by decide +kernel

/-- What is left of the angle in the end. -/
def rest : Nat → Int
  | 0 => 0
  | n + 1 => rest n + stp (29 - n)
theorem left_small (a : Int) (ha : 0 ≤ a ∧ a < 1073741824) : ∀ i, i < 31 → -(rest (30 - i) + 2) ≤ (bothAt a i).2.2 ∧ (bothAt a i).2.2 ≤ rest (30 - i) + 2
  | 0, _ => by show -(rest 30 + 2) ≤ a ∧ a ≤ rest 30 + 2; have : 1073741824 ≤ rest 30 := by decide +kernel
               omega
  | i + 1, hi => by
    have ih := left_small a ha i (by omega)
    have key := all_below (P := fun i => stp i ≤ rest (30 - (i + 1)) + 2) 30 (by decide +kernel) i (by omega)
    have e : rest (30 - i) = rest (30 - (i + 1)) + stp i := by
      rw [show 30 - i = (30 - (i + 1)) + 1 by omega, rest, show 29 - (30 - (i + 1)) = i by omega]
    have := stp_bd i (by omega)
    rw [(both_step a i).2.2, sgB]
    split <;> omega
theorem left_end (a : Int) (ha : 0 ≤ a ∧ a < 1073741824) : Within (bothAt a 30).2.2 2 := by
  have := left_small a ha 30 (by decide)
  exact this
/-- The sum of the angles of a run's steps. -/
def turned (u : Nat → Int) : Nat → Int
  | 0 => 0
  | n + 1 => turned u n + u n * stp n
theorem both_turned (a : Int) : ∀ n, (bothAt a n).2.2 = a - turned (sgB a) n
  | 0 => by show a = a - 0; omega
  | n + 1 => by rw [(both_step a n).2.2, both_turned a n, turned]; omega
theorem ang_turned (x y : Int) : ∀ n, (angAt x y n).2.2 = - turned (sgA x y) n
  | 0 => by show (0 : Int) = -0; omega
  | n + 1 => by rw [(ang_step x y n).2.2, ang_turned x y n, turned]; omega

/-- How far x and y of Angle are from the axis, and how great x is. -/
def xHi : Nat → Int
  | 0 => 2305843009213693951
  | 1 => 4611686018427387902
  | n + 2 => xHi (n + 1) + (2 * xHi (n + 1)) / (2 ^ (n + 1) * 2 ^ (n + 1)) + n + 2
theorem xHi_bd (i : Nat) (hi : i < 31) : xHi i ≤ 9223372036854775000 := all_below (P := fun i => xHi i ≤ 9223372036854775000) 31 (by decide +kernel) i hi
/-- What the shifts make of x and y. -/
def Level (x y : Int) : Prop := 0 ≤ x ∧ x ≤ 2305843009213693951 ∧ -2305843009213693951 ≤ y ∧ y ≤ 2305843009213693951 ∧ (1152921504606846976 ≤ x ∨ 1152921504606846976 ≤ y ∨ y ≤ -1152921504606846976)
theorem ang_bd (x y : Int) (h : Level x y) : ∀ n, n < 30 → 1152921504606846976 ≤ (angAt x y (n + 1)).1 ∧ (angAt x y (n + 1)).1 ≤ xHi (n + 1) ∧
    2 ^ n * (angAt x y (n + 1)).2.1 ≤ (angAt x y (n + 1)).1 + (n + 1) * 2 ^ n ∧ -((angAt x y (n + 1)).1 + (n + 1) * 2 ^ n) ≤ 2 ^ n * (angAt x y (n + 1)).2.1
  | 0, _ => by
    obtain ⟨h0, h1, h2, h3, h4⟩ := h
    obtain ⟨s1, s2, _⟩ := ang_step x y 0
    rw [show xHi (0 + 1) = 4611686018427387902 from rfl, s1, s2, sgA]
    show _ ≤ x - _ * (y / 1) ∧ x - _ * (y / 1) ≤ _ ∧ (1 : Int) * (y + _ * (x / 1)) ≤ x - _ * (y / 1) + (0 + 1) * 1 ∧ -(x - _ * (y / 1) + (0 + 1) * 1) ≤ (1 : Int) * (y + _ * (x / 1))
    rw [Int.ediv_one, Int.ediv_one]
    show _ ≤ x - (if 0 ≤ y then (-1 : Int) else 1) * y ∧ x - (if 0 ≤ y then (-1 : Int) else 1) * y ≤ _ ∧ (1 : Int) * (y + (if 0 ≤ y then (-1 : Int) else 1) * x) ≤ x - (if 0 ≤ y then (-1 : Int) else 1) * y + (0 + 1) * 1 ∧ -(x - (if 0 ≤ y then (-1 : Int) else 1) * y + (0 + 1) * 1) ≤ (1 : Int) * (y + (if 0 ≤ y then (-1 : Int) else 1) * x)
    split <;> omega
  | n + 1, hn => by
    obtain ⟨h1, h2, h3, h4⟩ := ang_bd x y h n (by omega)
    obtain ⟨s1, s2, _⟩ := ang_step x y (n + 1)
    have hq : (2 : Int) ^ (n + 1) = 2 * 2 ^ n := by rw [Int.pow_succ]; omega
    have hp := two_pow_pos n
    rw [xHi, s1, s2, sgA]
    generalize (angAt x y (n + 1)).1 = X at *
    generalize (angAt x y (n + 1)).2.1 = Y at *
    rw [hq]
    generalize (2 : Int) ^ n = p at *
    obtain ⟨a, f, e1, e2, f0, f1⟩ := parts X (2 * p) (by omega)
    obtain ⟨b, g, e3, e4, g0, g1⟩ := parts Y (2 * p) (by omega)
    have hq0 := Int.mul_pos hp hp
    have hqb : p * Y = 2 * (p * p * b) + p * g := by rw [e4]; grind
    have hqX : p * X = 2 * (p * p * a) + p * f := by rw [e2]; grind
    have t1 := Int.mul_nonneg (show 0 ≤ p by omega) g0
    have t2 : p * g < p * (2 * p) := Int.mul_lt_mul_of_pos_left g1 hp
    have t3 : p ≤ p * p := by have := Int.mul_nonneg (show 0 ≤ p by omega) (show 0 ≤ p - 1 by omega); grind
    have t4 : (n : Int) * p ≤ p * p * n := by have := Int.mul_nonneg (show (0 : Int) ≤ n by omega) (show 0 ≤ p * p - p by omega); grind
    have t5 : p * (2 * p) = 2 * (p * p) := by grind
    have t8 := Int.mul_nonneg (Int.le_of_lt hq0) (show (0 : Int) ≤ n by omega)
    have t9 := Int.mul_nonneg (show (0 : Int) ≤ n by omega) (Int.le_of_lt hp)
    have t6 : 2 * p * (2 * p) = 4 * (p * p) := by grind
    obtain ⟨c, r, e5, e6, r0, r1⟩ := parts (2 * xHi (n + 1)) (4 * (p * p)) (by omega)
    rw [t6, e1, e3, e5]
    have e7 : 4 * (p * p) * c = 4 * (p * p * c) := by grind
    rw [Int.add_mul] at h3 h4
    have hb1 : b < c + n + 3 := by
      have : p * p * b < p * p * (c + n + 3) := by rw [Int.mul_add, Int.mul_add]; omega
      exact Int.lt_of_mul_lt_mul_left this (by omega)
    have hb2 : -(c + n + 2) < b + 1 := by
      have : p * p * (-(c + n + 2)) < p * p * (b + 1) := by rw [Int.mul_neg, Int.mul_add, Int.mul_add, Int.mul_add]; omega
      exact Int.lt_of_mul_lt_mul_left this (by omega)
    have t7 : (((n + 1 : Nat) : Int) + 1) * (2 * p) = 2 * (n * p) + 4 * p := by grind
    rw [t7]
    have e8 : 2 * p * (Y + -1 * a) = 2 * (p * Y) - (2 * p * a) := by grind
    have e9 : 2 * p * (Y + 1 * a) = 2 * (p * Y) + (2 * p * a) := by grind
    have b1 : 0 ≤ Y → 0 ≤ b := fun h => by rw [← e3]; exact Int.ediv_nonneg h (by omega)
    have b2 : Y < 0 → b ≤ -1 := fun h => by have := Int.ediv_neg_of_neg_of_pos h (show 0 < 2 * p by omega); omega
    have b3 : 0 ≤ Y → 0 ≤ p * Y := fun h => Int.mul_nonneg (by omega) h
    have b4 : Y < 0 → p * Y < 0 := fun h => Int.mul_neg_of_pos_of_neg hp h
    split
    · rw [e8]; omega
    · rw [e9]; omega
theorem ang_small (x y : Int) (h : Level x y) (n : Nat) (hn : n < 31) : 0 ≤ (angAt x y n).1 ∧ (angAt x y n).1 ≤ 9223372036854775000 ∧ -9223372036854775100 ≤ (angAt x y n).2.1 ∧ (angAt x y n).2.1 ≤ 9223372036854775100 := by
  cases n with
  | zero => obtain ⟨h0, h1, h2, h3, h4⟩ := h; show 0 ≤ x ∧ x ≤ _ ∧ _ ≤ y ∧ y ≤ _; omega
  | succ n =>
    obtain ⟨h1, h2, h3, h4⟩ := ang_bd x y h n (by omega)
    have h5 := xHi_bd (n + 1) (by omega)
    have hp := two_pow_pos n
    generalize (angAt x y (n + 1)).1 = X at *
    generalize (angAt x y (n + 1)).2.1 = Y at *
    generalize (2 : Int) ^ n = p at *
    have k1 : p * Y ≤ p * (X + n + 1) := by have := Int.mul_nonneg (show 0 ≤ p - 1 by omega) (show 0 ≤ X by omega); grind
    have k2 : p * (-(X + n + 1)) ≤ p * Y := by have := Int.mul_nonneg (show 0 ≤ p - 1 by omega) (show 0 ≤ X by omega); grind
    have k1 := Int.le_of_mul_le_mul_left k1 hp
    have k2 := Int.le_of_mul_le_mul_left k2 hp
    omega
theorem ang_end (x y : Int) (h : Level x y) : 1152921504606846976 ≤ (angAt x y 30).1 ∧ Within (536870912 * (angAt x y 30).2.1) ((angAt x y 30).1 + 16106127360) := by
  obtain ⟨h1, h2, h3, h4⟩ := ang_bd x y h 29 (by decide)
  unfold Within
  rw [show (2 : Int) ^ 29 = 536870912 from rfl] at h3 h4
  rw [show ((29 : Nat) : Int) = 29 from rfl] at h3 h4
  generalize (angAt x y (29 + 1)).1 = X at *
  generalize (angAt x y (29 + 1)).2.1 = Y at *
  omega

end Go.Proofs.YtodfcbpcgcgijaaGreatDoor

/- The first nine steps, each way; and all behind them. -/
namespace Go.Proofs.YtodfcbpcgcgijaaGreatDoor
set_option maxRecDepth 100000
set_option linter.unusedVariables false
set_option maxRecDepth 100000
/-- The product of 2^i + I d(i), from 1, or from 1 - I; and the sum of the angles. -/
def wind (e : Int) (d : Nat → Int) : Nat → Int × Int
  | 0 => (1, -e)
  | n + 1 => (2 ^ n * (wind e d n).1 - d n * (wind e d n).2, 2 ^ n * (wind e d n).2 + d n * (wind e d n).1)
def wound (e : Int) (d : Nat → Int) : Nat → Int
  | 0 => -(e * 536870912)
  | n + 1 => wound e d n + d n * stp n
/-- Where a product is near the axis the sum of the angles is its slope, times the parts of a turn over two pi, nearly. -/
def leafOk (r m s : Int) : Bool := decide (240 * m < -r ∧ 240 * m < r) || (decide (r < 240 * m ∧ -r < 240 * m) || (decide (-(16 * r) ≤ 683565276 * m - s * r ∧ 683565276 * m - s * r ≤ 16 * r) || decide (16 * r ≤ 683565276 * m - s * r ∧ 683565276 * m - s * r ≤ -(16 * r))))
def leaves : Nat → Nat → Int → Int → Int → Bool
  | 0, _, r, m, s => leafOk r m s
  | n + 1, i, r, m, s => leaves n (i + 1) (2 ^ i * r) (2 ^ i * m) s && (leaves n (i + 1) (2 ^ i * r - m) (2 ^ i * m + r) (s + stp i) && leaves n (i + 1) (2 ^ i * r + m) (2 ^ i * m - r) (s - stp i))
theorem leaves_0 : leaves 9 0 1 0 0 = true := by decide +kernel
theorem leaves_1 : leaves 9 0 1 (-1) (-536870912) = true := by decide +kernel
theorem leaf_at (e : Int) (d : Nat → Int) (hd : ∀ i, d i = 0 ∨ d i = 1 ∨ d i = -1) : ∀ n i, leaves n i (wind e d i).1 (wind e d i).2 (wound e d i) = true → leafOk (wind e d (i + n)).1 (wind e d (i + n)).2 (wound e d (i + n)) = true
  | 0, i, h => by rw [leaves] at h; exact h
  | n + 1, i, h => by
    rw [leaves, Bool.and_eq_true, Bool.and_eq_true] at h
    have ih := leaf_at e d hd n (i + 1)
    rw [wind, wound, show i + 1 + n = i + (n + 1) by omega] at ih
    rcases hd i with k | k | k <;> rw [k] at ih
    · rw [Int.zero_mul, Int.zero_mul, Int.zero_mul, Int.sub_zero, Int.add_zero, Int.add_zero] at ih; exact ih h.1
    · rw [Int.one_mul, Int.one_mul, Int.one_mul] at ih; exact ih h.2.1
    · rw [show (-1) * (wind e d i).2 = -(wind e d i).2 by omega, show (-1) * (wind e d i).1 = -(wind e d i).1 by omega, show (-1) * stp i = -stp i by omega, Int.sub_neg] at ih; exact ih h.2.2

theorem Within.cancel {k r b : Int} (hk : 0 < k) (h : Within (k * r) (k * b)) : Within r b := by
  unfold Within at *
  exact ⟨Int.le_of_mul_le_mul_left (by grind) hk, Int.le_of_mul_le_mul_left h.2 hk⟩
/-- The bounds of the slope and of what it lacks of the sum, from the end. -/
def slope (i : Nat) : Int := 524288 + 17 * 2 ^ (37 - i)
def lacks (i : Nat) : Int := if i < 10 then 208 else if i = 10 then 192 else 200 - i
theorem tail_nums (i : Nat) (h : 9 ≤ i ∧ i < 30) : ((2 ^ i * slope (i + 1) + 1099511627776) * 1099511627776 ≤ slope i * (2 ^ i * 1099511627776 - slope (i + 1))) ∧
    1099511627776 * (2 ^ i * lacks (i + 1) + max (2 ^ i * stp i - 683565276) (683565276 - 2 ^ i * stp i)) + rest (30 - i) * slope (i + 1) ≤ (1099511627776 * 2 ^ i - slope (i + 1)) * lacks i ∧
    slope (i + 1) < 1099511627776 * 2 ^ i ∧ 0 ≤ slope (i + 1) ∧ 0 ≤ slope i ∧ 0 ≤ lacks i := by
  have := all_below (P := fun j => 9 ≤ j → ((2 ^ j * slope (j + 1) + 1099511627776) * 1099511627776 ≤ slope j * (2 ^ j * 1099511627776 - slope (j + 1))) ∧
    1099511627776 * (2 ^ j * lacks (j + 1) + max (2 ^ j * stp j - 683565276) (683565276 - 2 ^ j * stp j)) + rest (30 - j) * slope (j + 1) ≤ (1099511627776 * 2 ^ j - slope (j + 1)) * lacks j ∧
    slope (j + 1) < 1099511627776 * 2 ^ j ∧ 0 ≤ slope (j + 1) ∧ 0 ≤ slope j ∧ 0 ≤ lacks j) 30 (by decide +kernel) i h.2
  exact this h.1
theorem tail_step {p t th k c K R M R1 M1 T1 m1 m B1 B tau : Int} (hp : 0 < p) (ht : t = 0 ∨ t = 1 ∨ t = -1) (hc : 0 < c) (e1 : R1 = p * R - t * M) (e2 : M1 = p * M + t * R)
    (hR : 0 < R1) (h1 : Within (c * M1) (m1 * R1)) (h2 : Within (K * M1 + T1 * R1) (B1 * R1)) (hT : Within (T1 + t * th) tau) (hk : Within (p * th - K) k)
    (n1 : (p * m1 + c) * c ≤ m * (p * c - m1)) (n2 : c * (p * B1 + k) + tau * m1 ≤ (c * p - m1) * B) (n3 : m1 < c * p) (n4 : 0 ≤ m1) (n5 : 0 ≤ m) (n6 : 0 ≤ B) :
    0 < R ∧ Within (c * M) (m * R) ∧ Within (K * M + (T1 + t * th) * R) (B * R) := by
  have ht1 : Within t 1 := by unfold Within; omega
  have htt : 0 ≤ t * t := sq_nn t
  have hg : 0 < p * p + t * t := by have := Int.mul_pos hp hp; omega
  have g1 : (p * p + t * t) * R = p * R1 + t * M1 := by rw [e1, e2]; grind
  have g2 : (p * p + t * t) * M = p * M1 - t * R1 := by rw [e1, e2]; grind
  generalize p * p + t * t = g at hg g1 g2
  have hp' := Within.self (Int.le_of_lt hp)
  have hR' := Within.self (Int.le_of_lt hR)
  have hc' := Within.self (Int.le_of_lt hc)
  have hM := ht1.mul h1
  have lo : (c * p - m1) * R1 ≤ c * (g * R) := by rw [g1]; have := hM.1; grind
  have lo0 : 0 < (c * p - m1) * R1 := Int.mul_pos (by omega) hR
  have hRp : 0 < R := by
    have h0 : 0 < (c * g) * R := by rw [Int.mul_assoc]; omega
    rcases Int.lt_or_le 0 R with h | h
    · exact h
    · have := Int.mul_nonneg (Int.le_of_lt (Int.mul_pos hc hg)) (show 0 ≤ -R by omega)
      grind
  have hcg := Int.mul_pos hc hg
  refine ⟨hRp, ?_, ?_⟩
  · have w1 : Within (c * (g * M)) ((p * m1 + c) * R1) := (((hp'.mul h1).sub (ht1.mul (hc'.mul hR'))).of_eq (by rw [g2]; grind)).mono (by grind)
    have w2 : (p * m1 + c) * c * R1 ≤ m * (p * c - m1) * R1 := Int.mul_le_mul_of_nonneg_right n1 (Int.le_of_lt hR)
    have w3 : m * ((c * p - m1) * R1) ≤ m * (c * (g * R)) := Int.mul_le_mul_of_nonneg_left lo n5
    exact Within.cancel hcg (((hc'.mul w1).of_eq (s := c * g * (c * M)) (by grind)).mono (b := c * ((p * m1 + c) * R1)) (c := c * g * (m * R)) (by grind))
  · have w1 : Within (c * (g * (K * M + (T1 + t * th) * R))) ((c * (p * B1 + k) + tau * m1) * R1) := by
      have x1 := hc'.mul (hp'.mul h2)
      have x2 := (hc'.mul (ht1.mul (hk.mul hR')))
      have x3 := hT.mul hM
      have e3 : c * (p * (K * M1 + T1 * R1)) + c * (t * ((p * th - K) * R1)) + (T1 + t * th) * (t * (c * M1)) = c * (g * (K * M + (T1 + t * th) * R)) := by
        have : g * (K * M + (T1 + t * th) * R) = K * (g * M) + (T1 + t * th) * (g * R) := by grind
        rw [this, g1, g2]; grind
      exact (((x1.add x2).add x3).of_eq e3).mono (by grind)
    have w2 : (c * (p * B1 + k) + tau * m1) * R1 ≤ (c * p - m1) * B * R1 := Int.mul_le_mul_of_nonneg_right n2 (Int.le_of_lt hR)
    have w3 : B * ((c * p - m1) * R1) ≤ B * (c * (g * R)) := Int.mul_le_mul_of_nonneg_left lo n6
    exact Within.cancel hcg ((w1.of_eq (s := c * g * (K * M + (T1 + t * th) * R)) (by grind)).mono (c := c * g * (B * R)) (by grind))
theorem tail_sum (e : Int) (d : Nat → Int) (hd : ∀ i, d i = 0 ∨ d i = 1 ∨ d i = -1) : ∀ j, j ≤ 30 → Within (wound e d 30 - wound e d (30 - j)) (rest j)
  | 0, _ => by rw [rest]; unfold Within; simp
  | j + 1, h => by
    have ih := tail_sum e d hd j (by omega)
    have e1 : wound e d (30 - j) = wound e d (30 - (j + 1)) + d (29 - j) * stp (29 - j) := by
      rw [show 30 - j = (29 - j) + 1 by omega, show 30 - (j + 1) = 29 - j by omega, wound]
    have bd := stp_bd (29 - j) (by omega)
    rw [rest]
    unfold Within at *
    rcases hd (29 - j) with k | k | k <;> rw [k] at e1 <;> omega
theorem tail (e : Int) (d : Nat → Int) (hd : ∀ i, d i = 0 ∨ d i = 1 ∨ d i = -1) (s : Int) (hs : s = 1 ∨ s = -1) (hR : 0 < s * (wind e d 30).1) (hM : Within (4194304 * (wind e d 30).2) (s * (wind e d 30).1)) :
    ∀ j, j ≤ 21 → 0 < s * (wind e d (30 - j)).1 ∧ Within (1099511627776 * (s * (wind e d (30 - j)).2)) (slope (30 - j) * (s * (wind e d (30 - j)).1)) ∧
      Within (683565276 * (s * (wind e d (30 - j)).2) + (wound e d 30 - wound e d (30 - j)) * (s * (wind e d (30 - j)).1)) (lacks (30 - j) * (s * (wind e d (30 - j)).1))
  | 0, _ => by
    refine ⟨hR, ?_, ?_⟩ <;> rw [Nat.sub_zero] <;> generalize (wind e d 30).1 = r at * <;> generalize (wind e d 30).2 = m at *
    · rw [show slope 30 = 526464 by decide]
      unfold Within at *
      rcases hs with h | h <;> subst h <;> omega
    · rw [show lacks 30 = 170 by decide, Int.sub_self]
      unfold Within at *
      rcases hs with h | h <;> subst h <;> omega
  | j + 1, h => by
    obtain ⟨h0, h1, h2⟩ := tail e d hd s hs hR hM j (by omega)
    have ei : 30 - j = (29 - j) + 1 := by omega
    have ei' : 30 - (j + 1) = 29 - j := by omega
    have es := tail_sum e d hd (j + 1) (by omega)
    obtain ⟨n1, n2, n3, n4, n5, n6⟩ := tail_nums (29 - j) (by omega)
    have e1 : wound e d (30 - j) = wound e d (29 - j) + d (29 - j) * stp (29 - j) := by rw [ei, wound]
    have e2 : (wind e d (30 - j)).1 = 2 ^ (29 - j) * (wind e d (29 - j)).1 - d (29 - j) * (wind e d (29 - j)).2 := by rw [ei, wind]
    have e3 : (wind e d (30 - j)).2 = 2 ^ (29 - j) * (wind e d (29 - j)).2 + d (29 - j) * (wind e d (29 - j)).1 := by rw [ei, wind]
    rw [← ei, show 30 - (29 - j) = j + 1 by omega] at *
    rw [ei'] at *
    have e4 : wound e d 30 - wound e d (29 - j) = (wound e d 30 - wound e d (30 - j)) + d (29 - j) * stp (29 - j) := by omega
    rw [e4] at es ⊢
    refine tail_step (two_pow_pos (29 - j)) (hd (29 - j)) (by decide) (by rw [e2]; grind) (by rw [e3]; grind) h0 h1 h2 es (k := max (2 ^ (29 - j) * stp (29 - j) - 683565276) (683565276 - 2 ^ (29 - j) * stp (29 - j))) ?_ n1 n2 n3 n4 n5 n6
    unfold Within
    omega
/-- Where the whole product is near the axis, the sum of the angles is near 0. -/
theorem wound_small (e : Int) (he : e = 0 ∨ e = 1) (d : Nat → Int) (hd : ∀ i, d i = 0 ∨ d i = 1 ∨ d i = -1) (s : Int) (hs : s = 1 ∨ s = -1) (hR : 0 < s * (wind e d 30).1) (hM : Within (4194304 * (wind e d 30).2) (s * (wind e d 30).1)) :
    Within (wound e d 30) 224 := by
  obtain ⟨h0, h1, h2⟩ := tail e d hd s hs hR hM 21 (by decide)
  have hl : leafOk (wind e d 9).1 (wind e d 9).2 (wound e d 9) = true := by
    have := leaf_at e d hd 9 0
    rw [Nat.zero_add] at this
    refine this ?_
    rcases he with h | h <;> subst h
    · exact leaves_0
    · exact leaves_1
  rw [show 30 - 21 = 9 from rfl] at h0 h1 h2
  rw [show slope 9 = 4563927040 + 0 by decide] at h1
  rw [show lacks 9 = 208 by decide] at h2
  unfold leafOk at hl
  rw [Bool.or_eq_true, Bool.or_eq_true, Bool.or_eq_true, decide_eq_true_iff, decide_eq_true_iff, decide_eq_true_iff, decide_eq_true_iff] at hl
  generalize wound e d 30 = S at *
  generalize wound e d 9 = S9 at *
  generalize (wind e d 9).1 = r at *
  generalize (wind e d 9).2 = m at *
  have key : Within (s * r * S) (s * r * 224) := by
    unfold Within at *
    have e1 : (S - S9) * (s * r) = s * r * S - s * (S9 * r) := by grind
    rw [e1] at h2
    generalize s * r * S = z at *
    rcases hs with h | h <;> subst h <;> omega
  exact Within.cancel h0 key

end Go.Proofs.YtodfcbpcgcgijaaGreatDoor

/- The angle of cosine and sine is the angle, nearly. -/
namespace Go.Proofs.YtodfcbpcgcgijaaGreatDoor
set_option maxRecDepth 100000
set_option linter.unusedVariables false
set_option maxRecDepth 100000
/-- Real and imaginary part of the product of both runs, turned back by e quarters. -/
def prod1 (e : Int) (u w : Nat → Int) (n : Nat) : Int := (1 - e) * ((spin u n).1 * (spin w n).1 - (spin u n).2 * (spin w n).2) + e * ((spin u n).1 * (spin w n).2 + (spin u n).2 * (spin w n).1)
def prod2 (e : Int) (u w : Nat → Int) (n : Nat) : Int := (1 - e) * ((spin u n).1 * (spin w n).2 + (spin u n).2 * (spin w n).1) - e * ((spin u n).1 * (spin w n).1 - (spin u n).2 * (spin w n).2)
def half (u w : Nat → Int) (i : Nat) : Int := (u i + w i) / 2
theorem half_is {u w : Nat → Int} (hu : ∀ i, u i = 1 ∨ u i = -1) (hw : ∀ i, w i = 1 ∨ w i = -1) (i : Nat) : (half u w i = 0 ∧ w i = -u i) ∨ (half u w i = u i ∧ w i = u i) := by
  unfold half
  rcases hu i with h | h <;> rcases hw i with k | k <;> rw [h, k] <;> decide
theorem half_tern {u w : Nat → Int} (hu : ∀ i, u i = 1 ∨ u i = -1) (hw : ∀ i, w i = 1 ∨ w i = -1) (i : Nat) : half u w i = 0 ∨ half u w i = 1 ∨ half u w i = -1 := by
  have := half_is hu hw i
  have := hu i
  omega
theorem prod_sq (e : Int) (he : e = 0 ∨ e = 1) (u w : Nat → Int) (hu : ∀ i, u i = 1 ∨ u i = -1) (hw : ∀ i, w i = 1 ∨ w i = -1) : ∀ n, ∃ α β : Int, 0 < α ∧ 0 < β ∧
    α * prod1 e u w n = β * ((wind e (half u w) n).1 * (wind e (half u w) n).1 - (wind e (half u w) n).2 * (wind e (half u w) n).2) ∧ α * prod2 e u w n = β * (2 * ((wind e (half u w) n).1 * (wind e (half u w) n).2))
  | 0 => by
    unfold prod1 prod2
    rw [spin, spin, wind]
    rcases he with h | h <;> subst h
    · exact ⟨1, 1, by decide, by decide, by decide, by decide⟩
    · exact ⟨2, 1, by decide, by decide, by decide, by decide⟩
  | n + 1 => by
    obtain ⟨α, β, ha, hb, e1, e2⟩ := prod_sq e he u w hu hw n
    have hp := two_pow_pos n
    unfold prod1 prod2 at *
    rw [spin, spin, wind]
    generalize (spin u n).1 = A at *
    generalize (spin u n).2 = B at *
    generalize (spin w n).1 = C at *
    generalize (spin w n).2 = D at *
    have hu1 : u n * u n = 1 := by rcases hu n with h | h <;> rw [h] <;> rfl
    rcases half_is hu hw n with ⟨k1, k2⟩ | ⟨k1, k2⟩ <;> rw [k1, k2]
    · generalize (wind e (half u w) n).1 = R at *
      generalize (wind e (half u w) n).2 = M at *
      generalize (2 : Int) ^ n = p at *
      have hpp := Int.mul_pos hp hp
      refine ⟨α * (p * p), β * (p * p + 1), Int.mul_pos ha hpp, Int.mul_pos hb (by omega), ?_, ?_⟩
      · have : α * (p * p) * ((1 - e) * ((p * A - u n * B) * (p * C - -u n * D) - (p * B + u n * A) * (p * D + -u n * C)) + e * ((p * A - u n * B) * (p * D + -u n * C) + (p * B + u n * A) * (p * C - -u n * D))) = (p * p) * (p * p + 1) * (α * ((1 - e) * (A * C - B * D) + e * (A * D + B * C))) := by grind
        simp only [] at *
        rw [this, e1]; grind
      · have : α * (p * p) * ((1 - e) * ((p * A - u n * B) * (p * D + -u n * C) + (p * B + u n * A) * (p * C - -u n * D)) - e * ((p * A - u n * B) * (p * C - -u n * D) - (p * B + u n * A) * (p * D + -u n * C))) = (p * p) * (p * p + 1) * (α * ((1 - e) * (A * D + B * C) - e * (A * C - B * D))) := by grind
        simp only [] at *
        rw [this, e2]; grind
    · generalize (wind e (half u w) n).1 = R at *
      generalize (wind e (half u w) n).2 = M at *
      generalize (2 : Int) ^ n = p at *
      refine ⟨α, β, ha, hb, ?_, ?_⟩
      · have : α * ((1 - e) * ((p * A - u n * B) * (p * C - u n * D) - (p * B + u n * A) * (p * D + u n * C)) + e * ((p * A - u n * B) * (p * D + u n * C) + (p * B + u n * A) * (p * C - u n * D))) =
          (p * p - 1) * (α * ((1 - e) * (A * C - B * D) + e * (A * D + B * C))) - 2 * p * u n * (α * ((1 - e) * (A * D + B * C) - e * (A * C - B * D))) := by grind
        simp only [] at *
        rw [this, e1, e2]; grind
      · have : α * ((1 - e) * ((p * A - u n * B) * (p * D + u n * C) + (p * B + u n * A) * (p * C - u n * D)) - e * ((p * A - u n * B) * (p * C - u n * D) - (p * B + u n * A) * (p * D + u n * C))) =
          (p * p - 1) * (α * ((1 - e) * (A * D + B * C) - e * (A * C - B * D))) + 2 * p * u n * (α * ((1 - e) * (A * C - B * D) + e * (A * D + B * C))) := by grind
        simp only [] at *
        rw [this, e1, e2]; grind
theorem wound_is (e : Int) (u w : Nat → Int) (hu : ∀ i, u i = 1 ∨ u i = -1) (hw : ∀ i, w i = 1 ∨ w i = -1) : ∀ n, 2 * wound e (half u w) n = turned u n + turned w n - e * 1073741824
  | 0 => by rw [wound, turned, turned]; omega
  | n + 1 => by
    have ih := wound_is e u w hu hw n
    rw [wound, turned, turned]
    rcases half_is hu hw n with ⟨k1, k2⟩ | ⟨k1, k2⟩ <;> rw [k1, k2] <;> grind
theorem two_prods {r1 r2 C D b L : Int} (h1 : Within r1 b) (h2 : Within r2 b) (h3 : Within (C + D) L) (h4 : Within (C - D) L) : Within (r1 * C + r2 * D) (b * L) ∧ Within (r1 * C - r2 * D) (b * L) ∧ Within (r1 * D + r2 * C) (b * L) ∧ Within (r1 * D - r2 * C) (b * L) := by
  have c1 : Within C (max C (-C)) := by unfold Within; omega
  have c2 : Within D (max D (-D)) := by unfold Within; omega
  have c3 : max C (-C) + max D (-D) ≤ L := by unfold Within at *; omega
  have c4 : b * max C (-C) + b * max D (-D) ≤ b * L := by
    have := Int.mul_le_mul_of_nonneg_left c3 h1.nn
    grind
  exact ⟨((h1.mul c1).add (h2.mul c2)).mono c4, ((h1.mul c1).sub (h2.mul c2)).mono c4, ((h1.mul c2).add (h2.mul c1)).mono (by omega), ((h1.mul c2).sub (h2.mul c1)).mono (by omega)⟩
/-- What is left of the product near the axis. -/
theorem near_axis {Q k P1 P2 X Y w : Int} (hQ : 0 < Q) (hk : 0 < k) (hw : w ≤ 536870912) (h1 : Within (Q * X - k * P1) (Q * (800 * w + 40))) (h2 : Within (Q * Y - k * P2) (Q * (800 * w + 40)))
    (hX : 1152921504606846976 ≤ X) (hY : Within (536870912 * Y) (X + 16106127360)) : 0 < P1 ∧ Within (2097152 * P2) P1 := by
  have e1 : Within (X * Q - k * P1) (Q * (800 * w + 40)) := h1.of_eq (by grind)
  have lo : Q * (X - (800 * w + 40)) ≤ k * P1 := by have := e1.2; grind
  have lo0 : 0 < Q * (X - (800 * w + 40)) := Int.mul_pos hQ (by omega)
  have y1 : Within (2097152 * (Y + 0)) (X - (800 * w + 40) - 2097152 * (800 * w + 40)) := by unfold Within at *; omega
  have y2 := (Within.self (Int.le_of_lt hQ)).mul y1
  have y3 := (Within.self (show (0 : Int) ≤ 2097152 by decide)).mul h2
  have y4 : Within (k * (2097152 * P2)) (k * P1) := ((y2.sub y3).of_eq (by grind)).mono (by grind)
  refine ⟨?_, Within.cancel hk y4⟩
  rcases Int.lt_or_le 0 P1 with h | h
  · exact h
  · have := Int.mul_nonneg (Int.le_of_lt hk) (show 0 ≤ -P1 by omega)
    grind
theorem near_root {α β P1 P2 R M : Int} (ha : 0 < α) (hb : 0 < β) (e1 : α * P1 = β * (R * R - M * M)) (e2 : α * P2 = β * (2 * (R * M))) (h0 : 0 < P1) (h : Within (2097152 * P2) P1) :
    ∃ s : Int, (s = 1 ∨ s = -1) ∧ 0 < s * R ∧ Within (4194304 * M) (s * R) := by
  have q1 : Within (β * (2097152 * (2 * (R * M)))) (β * (R * R - M * M)) := by
    have := (Within.self (Int.le_of_lt ha)).mul h
    rw [e1] at this
    exact this.of_eq (by grind)
  have q2 := Within.cancel hb q1
  have q3 : 0 < R * R - M * M := by
    have : 0 < β * (R * R - M * M) := by rw [← e1]; exact Int.mul_pos ha h0
    rcases Int.lt_or_le 0 (R * R - M * M) with h | h
    · exact h
    · have := Int.mul_nonneg (Int.le_of_lt hb) (show 0 ≤ -(R * R - M * M) by omega)
      grind
  have q4 := sq_nn M
  have q5 : Within (R * (4194304 * M)) (R * R) := (q2.mono (c := R * R) (by omega)).of_eq (by grind)
  have q6 : Within (-R * (4194304 * M)) (R * R) := by
    have e : -R * (4194304 * M) = -(R * (4194304 * M)) := by grind
    rw [e]
    unfold Within at *
    omega
  rcases Int.lt_trichotomy R 0 with h | h | h
  · exact ⟨-1, Or.inr rfl, by omega, Within.cancel (k := -R) (by omega) (q6.mono (b := R * R) (by grind))⟩
  · subst h; omega
  · exact ⟨1, Or.inl rfl, by omega, by rw [Int.one_mul]; exact Within.cancel h q5⟩
/-- The angle of cosine and sine of a rest, turned back by e quarters, and made longer. -/
theorem back_near (a : Int) (ha : 0 ≤ a ∧ a < 1073741824) (e : Int) (he : e = 0 ∨ e = 1) (w : Int) (hw : 0 < w ∧ w ≤ 536870912) (x y : Int) (hx : x = w * ((1 - e) * cosOf a + e * sinOf a)) (hy : y = w * ((1 - e) * sinOf a - e * cosOf a)) (hL : Level x y) :
    Within ((angAt x y 30).2.2 - (a - e * 1073741824)) 450 := by
  have hu := sgB_is a
  have hv := sgA_is x y
  obtain ⟨b1, b2⟩ := run_slips (fun n => (bothAt a n).1) (fun n => (bothAt a n).2.1) (sgB a) hu (fun i => (both_step a i).1) (fun i => (both_step a i).2.1) 30
  obtain ⟨a1, a2⟩ := run_slips (fun n => (angAt x y n).1) (fun n => (angAt x y n).2.1) (sgA x y) hv (fun i => (ang_step x y i).1) (fun i => (ang_step x y i).2.1) 30
  obtain ⟨c1, c2⟩ := spin_len (sgA x y) hv 30
  obtain ⟨t1, t2⟩ := tri_end
  have tp := tri_pos 30
  obtain ⟨z0, z1⟩ := ang_end x y hL
  obtain ⟨-, -, -, -, k1, k2, k3, k4, -, -⟩ := cos_sin a ha
  have zl := left_end a ha
  rw [both_turned] at zl
  rw [ang_turned]
  obtain ⟨α, β, p1, p2, p3, p4⟩ := prod_sq e he (sgB a) (sgA x y) hu hv 30
  have fin : 0 < prod1 e (sgB a) (sgA x y) 30 ∧ Within (2097152 * prod2 e (sgB a) (sgA x y) 30) (prod1 e (sgB a) (sgA x y) 30) := by
    change Within (tri 30 * (bothAt a 30).1 - (2608131496 * (spin (sgB a) 30).1 - 0 * (spin (sgB a) 30).2)) (slip 30) at b1
    change Within (tri 30 * (bothAt a 30).2.1 - (2608131496 * (spin (sgB a) 30).2 + 0 * (spin (sgB a) 30).1)) (slip 30) at b2
    change Within (tri 30 * (angAt x y 30).1 - (x * (spin (sgA x y) 30).1 - y * (spin (sgA x y) 30).2)) (slip 30) at a1
    change Within (tri 30 * (angAt x y 30).2.1 - (x * (spin (sgA x y) 30).2 + y * (spin (sgA x y) 30).1)) (slip 30) at a2
    unfold prod1 prod2
    clear p1 p2 p3 p4 zl hu hv hL
    generalize (angAt x y 30).1 = X at *
    generalize (angAt x y 30).2.1 = Y at *
    generalize (bothAt a 30).1 = x30 at *
    generalize (bothAt a 30).2.1 = y30 at *
    generalize (spin (sgB a) 30).1 = A at *
    generalize (spin (sgB a) 30).2 = B at *
    generalize (spin (sgA x y) 30).1 = C at *
    generalize (spin (sgA x y) 30).2 = D at *
    generalize cosOf a = c at *
    generalize sinOf a = s at *
    generalize tri 30 = T at *
    generalize len1 30 = L at *
    generalize slip 30 = ρ at *
    have hT := Within.self (Int.le_of_lt tp)
    have r1 : Within (T * c - 2608131496 * A) (160 * T) := by
      have : Within (x30 - c) 120 := by unfold Within; omega
      exact ((b1.sub (hT.mul this)).of_eq (by grind)).mono (by omega)
    have r2 : Within (T * s - 2608131496 * B) (160 * T) := by
      have : Within (y30 - s) 120 := by unfold Within; omega
      exact ((b2.sub (hT.mul this)).of_eq (by grind)).mono (by omega)
    obtain ⟨m1, m2, m3, m4⟩ := two_prods r1 r2 (c1.mono t1) (c2.mono t1)
    have hw' := Within.self (Int.le_of_lt hw.1)
    have ht1 := hT.mul (a1.mono t2)
    have ht2 := hT.mul (a2.mono t2)
    refine near_axis (Q := T * T) (k := 2608131496 * w) (w := w) (X := X) (Y := Y) (Int.mul_pos tp tp) (by omega) hw.2 ?_ ?_ z0 z1
    · rcases he with h | h <;> subst h
      · exact ((ht1.add (hw'.mul m2)).of_eq (by rw [hx, hy]; grind)).mono (by grind)
      · exact ((ht1.add (hw'.mul m3)).of_eq (by rw [hx, hy]; grind)).mono (by grind)
    · rcases he with h | h <;> subst h
      · exact ((ht2.add (hw'.mul m3)).of_eq (by rw [hx, hy]; grind)).mono (by grind)
      · exact ((ht2.sub (hw'.mul m2)).of_eq (by rw [hx, hy]; grind)).mono (by grind)
  obtain ⟨s, hs, hR, hM⟩ := near_root p1 p2 p3 p4 fin.1 fin.2
  have ws := wound_small e he (half (sgB a) (sgA x y)) (half_tern hu hv) s hs hR hM
  have wi := wound_is e (sgB a) (sgA x y) hu hv 30
  unfold Within at *
  omega

end Go.Proofs.YtodfcbpcgcgijaaGreatDoor

/- Rows that are nearly upright, made upright: how far off they are. Plain mathematics; no function of the program is named here. -/
namespace Go.Proofs.YtodfcbpcgcgijaaGreatDoor
set_option maxRecDepth 100000

/-- The inner product, without rounding. -/
def ip (a b c x y z : Int) : Int := a * x + b * y + c * z
theorem Within.neg {r b : Int} (h : Within r b) : Within (-r) b := by unfold Within at *; omega
theorem ip_bd {a b c x y z A X : Int} (ha : Within a A) (hb : Within b A) (hc : Within c A) (hx : Within x X) (hy : Within y X) (hz : Within z X) : Within (ip a b c x y z) (3 * (A * X)) := by
  have := ((ha.mul hx).add (hb.mul hy)).add (hc.mul hz)
  exact (this.of_eq rfl).mono (by omega)
/-- A product's rounding. -/
theorem prod_near (a b : Int) : Within (4294967296 * prod a b - a * b) 2147483648 := by
  unfold prod Within
  rw [near32]
  omega
theorem dot_near (a b c x y z : Int) : Within (4294967296 * dot a b c x y z - ip a b c x y z) 6442450944 := by
  have h1 := prod_near a x
  have h2 := prod_near b y
  have h3 := prod_near c z
  unfold dot ip Within at *
  omega
/-- A truncated quotient, and what is left. -/
theorem quo_rest (n : Int) {L : Int} (hL : 0 < L) : ∃ i, L * n.tdiv L + i = n ∧ Within i L := by
  refine ⟨n.tmod L, Int.mul_tdiv_add_tmod n L, ?_⟩
  have h1 := Int.tmod_lt_of_pos n hL
  have h2 := Int.lt_tmod_of_pos n hL
  unfold Within
  omega

/-- A vector over its length is nearly One long. -/
theorem unit_long {a b c L p q r i j k : Int} (ha : Within a 8589934592) (hb : Within b 8589934592) (hc : Within c 8589934592) (h1 : L * L ≤ ip a b c a b c) (h2 : ip a b c a b c < (L + 1) * (L + 1))
    (hL : 8589934592 ≤ 3 * L) (hp : L * p + i = a * 4294967296) (hq : L * q + j = b * 4294967296) (hr : L * r + k = c * 4294967296) (hi : Within i L) (hj : Within j L) (hk : Within k L) :
    Within (ip p q r p q r - 18446744073709551616) 94489280512 := by
  have L0 : 0 < L := by omega
  have LL : 0 < L * L := Int.mul_pos L0 L0
  have e1 : L * L * (ip p q r p q r - 18446744073709551616) = 18446744073709551616 * (ip a b c a b c - L * L) - 8589934592 * ip a b c i j k + ip i j k i j k := by
    unfold ip
    grind
  have b1 : Within (ip a b c a b c - L * L) (2 * L) := by unfold Within; grind
  have b2 := ip_bd ha hb hc hi hj hk
  have b3 := ip_bd hi hj hk hi hj hk
  have b4 : 8589934592 * L ≤ 3 * (L * L) := by rw [← Int.mul_assoc]; exact Int.mul_le_mul_of_nonneg_right hL (Int.le_of_lt L0)
  refine Within.cancel LL ?_
  rw [e1]
  clear e1 hp hq hr h1 h2
  obtain ⟨x, hx⟩ : ∃ x, L * L = x := ⟨_, rfl⟩
  obtain ⟨u, hu⟩ : ∃ x, ip a b c a b c - L * L = x := ⟨_, rfl⟩
  obtain ⟨v, hv⟩ : ∃ x, ip a b c i j k = x := ⟨_, rfl⟩
  obtain ⟨w, hw⟩ : ∃ x, ip i j k i j k = x := ⟨_, rfl⟩
  rw [hu] at b1
  rw [hv] at b2
  rw [hw] at b3
  rw [hx] at b3 b4 LL
  rw [hu, hv, hw, hx]
  clear hu hv hw hx
  unfold Within at *
  omega

theorem ip_comm (a b c x y z : Int) : ip a b c x y z = ip x y z a b c := by unfold ip; grind
/-- What a vector over its length comes to along another one. -/
theorem unit_along {a b c L p q r i j k x y z : Int} (hx : Within x 8589934592) (hy : Within y 8589934592) (hz : Within z 8589934592)
    (hp : L * p + i = a * 4294967296) (hq : L * q + j = b * 4294967296) (hr : L * r + k = c * 4294967296) (hi : Within i L) (hj : Within j L) (hk : Within k L) :
    Within (L * ip p q r x y z - 4294967296 * ip a b c x y z) (25769803776 * L) := by
  have e : L * ip p q r x y z - 4294967296 * ip a b c x y z = -ip i j k x y z := by
    unfold ip
    grind
  rw [e]
  exact (ip_bd hi hj hk hx hy hz).neg.mono (by omega)
/-- The axes of a vector whose square is known. -/
theorem axes_bd {a b c S B : Int} (h : ip a b c a b c ≤ S) (hB : 0 ≤ B) (hS : S ≤ B * B) : Within a B ∧ Within b B ∧ Within c B := by
  have qa := sq_nn a
  have qb := sq_nn b
  have qc := sq_nn c
  unfold ip at h
  exact ⟨sq_le' hB (by omega), sq_le' hB (by omega), sq_le' hB (by omega)⟩
/-- A root that is not small. -/
theorem root_big {S L : Int} (h0 : 0 ≤ L) (h2 : S < (L + 1) * (L + 1)) (hS : 16000000000000000000 ≤ S) : 8589934592 ≤ 3 * L := by
  rcases Int.lt_or_le (3 * L) 8589934592 with h | h
  · have := sq_le (show 0 ≤ L + 1 by omega) (show L + 1 ≤ 3000000000 by omega)
    omega
  · exact h
/-- A row made One long: how long it is, how far along another row it goes, how great its axes are. -/
theorem unit_facts {a b c L : Int} (hR : IsRoot (ip a b c a b c) L) (h0 : 16000000000000000000 ≤ ip a b c a b c) (h1 : ip a b c a b c ≤ 24000000000000000000) :
    0 < L ∧ L ≤ 4900000000 ∧ Within (ip ((a * 4294967296).tdiv L) ((b * 4294967296).tdiv L) ((c * 4294967296).tdiv L) ((a * 4294967296).tdiv L) ((b * 4294967296).tdiv L) ((c * 4294967296).tdiv L) - 18446744073709551616) 94489280512 ∧
    (Within ((a * 4294967296).tdiv L) 4300000000 ∧ Within ((b * 4294967296).tdiv L) 4300000000 ∧ Within ((c * 4294967296).tdiv L) 4300000000) ∧
    ∀ x y z T : Int, Within x 8589934592 → Within y 8589934592 → Within z 8589934592 → Within (ip a b c x y z) (4294967296 * T) →
      Within (2 * ip ((a * 4294967296).tdiv L) ((b * 4294967296).tdiv L) ((c * 4294967296).tdiv L) x y z) (12884901888 * T + 51539607552) := by
  obtain ⟨r0, r1, r2⟩ := hR
  have hL := root_big r0 r2 h0
  have L0 : 0 < L := by omega
  have L1 : L ≤ 4900000000 := by
    rcases Int.lt_or_le 4900000000 L with h | h
    · have := sq_le (show (0 : Int) ≤ 4900000000 by decide) (Int.le_of_lt h)
      omega
    · exact h
  obtain ⟨i, hp, hi⟩ := quo_rest (a * 4294967296) L0
  obtain ⟨j, hq, hj⟩ := quo_rest (b * 4294967296) L0
  obtain ⟨k, hr, hk⟩ := quo_rest (c * 4294967296) L0
  obtain ⟨p, hp'⟩ : ∃ p, (a * 4294967296).tdiv L = p := ⟨_, rfl⟩
  obtain ⟨q, hq'⟩ : ∃ p, (b * 4294967296).tdiv L = p := ⟨_, rfl⟩
  obtain ⟨r, hr'⟩ : ∃ p, (c * 4294967296).tdiv L = p := ⟨_, rfl⟩
  rw [hp'] at hp ⊢
  rw [hq'] at hq ⊢
  rw [hr'] at hr ⊢
  obtain ⟨ba, bb, bc⟩ := axes_bd h1 (show (0 : Int) ≤ 8589934592 by decide) (by decide)
  have long := unit_long ba bb bc r1 r2 hL hp hq hr hi hj hk
  refine ⟨L0, L1, long, axes_bd (S := 18446744168198832128) (by unfold Within at long; omega) (by decide) (by decide), fun x y z T hx hy hz h => ?_⟩
  have al := unit_along hx hy hz hp hq hr hi hj hk
  refine Within.cancel L0 ?_
  obtain ⟨u, hu⟩ : ∃ u, ip p q r x y z = u := ⟨_, rfl⟩
  obtain ⟨v, hv⟩ : ∃ v, ip a b c x y z = v := ⟨_, rfl⟩
  rw [hu, hv] at al
  rw [hv] at h
  rw [hu]
  have T0 : 0 ≤ T := by unfold Within at h; omega
  have t := Int.mul_le_mul_of_nonneg_right hL T0
  rw [show L * (2 * u) = 2 * (L * u) by grind, show L * (12884901888 * T + 51539607552) = 12884901888 * (L * T) + 51539607552 * L by grind]
  rw [show 3 * L * T = 3 * (L * T) by grind] at t
  clear hu hv hp hq hr hp' hq' hr'
  unfold Within at *
  omega

end Go.Proofs.YtodfcbpcgcgijaaGreatDoor

/- Two rows that are nearly upright, made upright with a third one: how far off they are. Plain mathematics; no function of the program is named here. -/
namespace Go.Proofs.YtodfcbpcgcgijaaGreatDoor
set_option maxRecDepth 100000

theorem prod_bd' {a b A B : Int} (ha : Within a A) (hb : Within b B) : Within (4294967296 * prod a b) (A * B + 2147483648) :=
  ((prod_near a b).add (ha.mul hb)).mono (by omega) |>.of_eq (by omega)

/-- The second row, less what of it lies along the first one. -/
theorem less_along {q0 q1 q2 x0 x1 x2 d e0 e1 e2 : Int} (hq : Within (ip q0 q1 q2 q0 q1 q2 - 18446744073709551616) 1537228672809129301) (hx : Within x0 4300000000 ∧ Within x1 4300000000 ∧ Within x2 4300000000)
    (hxx : Within (ip x0 x1 x2 x0 x1 x2 - 18446744073709551616) 94489280512) (hqx : Within (ip q0 q1 q2 x0 x1 x2) 2310000000000000000) (hd : dot q0 q1 q2 x0 x1 x2 = d) (h0 : prod x0 d = e0) (h1 : prod x1 d = e1) (h2 : prod x2 d = e2) :
    Within d 537900000 ∧ (Within e0 538600000 ∧ Within e1 538600000 ∧ Within e2 538600000) ∧
    16000000000000000000 ≤ ip (q0 - e0) (q1 - e1) (q2 - e2) (q0 - e0) (q1 - e1) (q2 - e2) ∧ ip (q0 - e0) (q1 - e1) (q2 - e2) (q0 - e0) (q1 - e1) (q2 - e2) ≤ 24000000000000000000 ∧
    Within (ip (q0 - e0) (q1 - e1) (q2 - e2) x0 x1 x2) 25769803776 := by
  obtain ⟨x0b, x1b, x2b⟩ := hx
  have nd := dot_near q0 q1 q2 x0 x1 x2
  rw [hd] at nd
  have db : Within d 537900000 := by unfold Within at *; omega
  have n0 := prod_near x0 d
  have n1 := prod_near x1 d
  have n2 := prod_near x2 d
  have m0 := x0b.mul db
  have m1 := x1b.mul db
  have m2 := x2b.mul db
  rw [h0] at n0
  rw [h1] at n1
  rw [h2] at n2
  have e0b : Within e0 538600000 := by unfold Within at *; omega
  have e1b : Within e1 538600000 := by unfold Within at *; omega
  have e2b : Within e2 538600000 := by unfold Within at *; omega
  obtain ⟨q0b, q1b, q2b⟩ := axes_bd (a := q0) (b := q1) (c := q2) (S := 24000000000000000000) (B := 8589934592) (by unfold Within at hq; omega) (by decide) (by decide)
  clear m0 m1 m2 h0 h1 h2 hd
  obtain ⟨r0, hr0⟩ : ∃ r, 4294967296 * e0 - x0 * d = r := ⟨_, rfl⟩
  obtain ⟨r1, hr1⟩ : ∃ r, 4294967296 * e1 - x1 * d = r := ⟨_, rfl⟩
  obtain ⟨r2, hr2⟩ : ∃ r, 4294967296 * e2 - x2 * d = r := ⟨_, rfl⟩
  obtain ⟨r, hr⟩ : ∃ r, 4294967296 * d - ip q0 q1 q2 x0 x1 x2 = r := ⟨_, rfl⟩
  rw [hr0] at n0
  rw [hr1] at n1
  rw [hr2] at n2
  rw [hr] at nd
  -- along the first row
  have ea : 4294967296 * ip (q0 - e0) (q1 - e1) (q2 - e2) x0 x1 x2 = -(d * (ip x0 x1 x2 x0 x1 x2 - 18446744073709551616)) - 4294967296 * r - ip r0 r1 r2 x0 x1 x2 := by
    unfold ip at *
    grind
  have b1 := db.mul hxx
  have b2 := ip_bd n0 n1 n2 x0b x1b x2b
  -- its length
  have eb : 4294967296 * ip q0 q1 q2 e0 e1 e2 = d * ip q0 q1 q2 x0 x1 x2 + ip q0 q1 q2 r0 r1 r2 := by
    unfold ip at *
    grind
  have b3 := db.mul hqx
  have b4 := ip_bd q0b q1b q2b n0 n1 n2
  have ec : ip (q0 - e0) (q1 - e1) (q2 - e2) (q0 - e0) (q1 - e1) (q2 - e2) = ip q0 q1 q2 q0 q1 q2 - 2 * ip q0 q1 q2 e0 e1 e2 + ip e0 e1 e2 e0 e1 e2 := by
    unfold ip
    grind
  have b5 := ip_bd e0b e1b e2b e0b e1b e2b
  have b6 : 0 ≤ ip e0 e1 e2 e0 e1 e2 := by
    have := sq_nn e0
    have := sq_nn e1
    have := sq_nn e2
    unfold ip
    omega
  clear hr0 hr1 hr2 hr
  refine ⟨db, ⟨e0b, e1b, e2b⟩, ?_, ?_, ?_⟩
  · rw [ec]
    clear ec ea b1 b2 n0 n1 n2 nd
    generalize ip q0 q1 q2 e0 e1 e2 = u at *
    generalize ip e0 e1 e2 e0 e1 e2 = v at *
    generalize ip q0 q1 q2 q0 q1 q2 = s at *
    generalize ip q0 q1 q2 r0 r1 r2 = t at *
    generalize d * ip q0 q1 q2 x0 x1 x2 = g at *
    unfold Within at *
    omega
  · rw [ec]
    clear ec ea b1 b2 n0 n1 n2 nd
    generalize ip q0 q1 q2 e0 e1 e2 = u at *
    generalize ip e0 e1 e2 e0 e1 e2 = v at *
    generalize ip q0 q1 q2 q0 q1 q2 = s at *
    generalize ip q0 q1 q2 r0 r1 r2 = t at *
    generalize d * ip q0 q1 q2 x0 x1 x2 = g at *
    unfold Within at *
    omega
  · clear ec eb b3 b4 b5 b6 n0 n1 n2
    generalize ip (q0 - e0) (q1 - e1) (q2 - e2) x0 x1 x2 = u at *
    generalize ip r0 r1 r2 x0 x1 x2 = v at *
    generalize d * (ip x0 x1 x2 x0 x1 x2 - 18446744073709551616) = g at *
    unfold Within at *
    omega

/-- The cross product of two rows that are nearly upright and One long. -/
theorem cross_near {x0 x1 x2 y0 y1 y2 z0 z1 z2 : Int} (hx : Within x0 4300000000 ∧ Within x1 4300000000 ∧ Within x2 4300000000) (hy : Within y0 4300000000 ∧ Within y1 4300000000 ∧ Within y2 4300000000)
    (hxx : Within (ip x0 x1 x2 x0 x1 x2 - 18446744073709551616) 94489280512) (hyy : Within (ip y0 y1 y2 y0 y1 y2 - 18446744073709551616) 94489280512) (hxy : Within (ip x0 x1 x2 y0 y1 y2) 64424509440)
    (h0 : prod x1 y2 + -prod x2 y1 = z0) (h1 : prod x2 y0 + -prod x0 y2 = z1) (h2 : prod x0 y1 + -prod x1 y0 = z2) :
    (Within z0 8620000000 ∧ Within z1 8620000000 ∧ Within z2 8620000000) ∧ Within (ip z0 z1 z2 z0 z1 z2 - 18446744073709551616) 257698037760 ∧ Within (ip z0 z1 z2 x0 x1 x2) 12900000000 ∧ Within (ip z0 z1 z2 y0 y1 y2) 12900000000 := by
  obtain ⟨x0b, x1b, x2b⟩ := hx
  obtain ⟨y0b, y1b, y2b⟩ := hy
  have n0 : Within (4294967296 * z0 - (x1 * y2 - x2 * y1)) 4294967296 := (((prod_near x1 y2).sub (prod_near x2 y1)).of_eq (by rw [← h0]; omega)).mono (by decide)
  have n1 : Within (4294967296 * z1 - (x2 * y0 - x0 * y2)) 4294967296 := (((prod_near x2 y0).sub (prod_near x0 y2)).of_eq (by rw [← h1]; omega)).mono (by decide)
  have n2 : Within (4294967296 * z2 - (x0 * y1 - x1 * y0)) 4294967296 := (((prod_near x0 y1).sub (prod_near x1 y0)).of_eq (by rw [← h2]; omega)).mono (by decide)
  have w0b := (x1b.mul y2b).sub (x2b.mul y1b)
  have w1b := (x2b.mul y0b).sub (x0b.mul y2b)
  have w2b := (x0b.mul y1b).sub (x1b.mul y0b)
  clear h0 h1 h2
  have z0b : Within z0 8620000000 := by unfold Within at *; omega
  have z1b : Within z1 8620000000 := by unfold Within at *; omega
  have z2b : Within z2 8620000000 := by unfold Within at *; omega
  obtain ⟨r0, hr0⟩ : ∃ r, 4294967296 * z0 - (x1 * y2 - x2 * y1) = r := ⟨_, rfl⟩
  obtain ⟨r1, hr1⟩ : ∃ r, 4294967296 * z1 - (x2 * y0 - x0 * y2) = r := ⟨_, rfl⟩
  obtain ⟨r2, hr2⟩ : ∃ r, 4294967296 * z2 - (x0 * y1 - x1 * y0) = r := ⟨_, rfl⟩
  rw [hr0] at n0
  rw [hr1] at n1
  rw [hr2] at n2
  refine ⟨⟨z0b, z1b, z2b⟩, ?_, ?_, ?_⟩
  · have b1 := ip_bd n0 n1 n2 w0b w1b w2b
    have b2 := ip_bd n0 n1 n2 n0 n1 n2
    have b3 := hxx.mul hyy
    have b4 := hxy.mul hxy
    have e1 : 18446744073709551616 * ip z0 z1 z2 z0 z1 z2 = ip (x1 * y2 - x2 * y1) (x2 * y0 - x0 * y2) (x0 * y1 - x1 * y0) (x1 * y2 - x2 * y1) (x2 * y0 - x0 * y2) (x0 * y1 - x1 * y0) + 2 * ip r0 r1 r2 (x1 * y2 - x2 * y1) (x2 * y0 - x0 * y2) (x0 * y1 - x1 * y0) + ip r0 r1 r2 r0 r1 r2 := by
      rw [show (x1 * y2 - x2 * y1) = 4294967296 * z0 - r0 by omega, show (x2 * y0 - x0 * y2) = 4294967296 * z1 - r1 by omega, show (x0 * y1 - x1 * y0) = 4294967296 * z2 - r2 by omega]
      unfold ip
      grind
    have e2 : ip (x1 * y2 - x2 * y1) (x2 * y0 - x0 * y2) (x0 * y1 - x1 * y0) (x1 * y2 - x2 * y1) (x2 * y0 - x0 * y2) (x0 * y1 - x1 * y0) = ip x0 x1 x2 x0 x1 x2 * ip y0 y1 y2 y0 y1 y2 - ip x0 x1 x2 y0 y1 y2 * ip x0 x1 x2 y0 y1 y2 := by
      unfold ip
      grind
    rw [e2] at e1
    clear e2 hr0 hr1 hr2 n0 n1 n2 w0b w1b w2b z0b z1b z2b x0b x1b x2b y0b y1b y2b
    generalize ip r0 r1 r2 (x1 * y2 - x2 * y1) (x2 * y0 - x0 * y2) (x0 * y1 - x1 * y0) = u at *
    generalize ip r0 r1 r2 r0 r1 r2 = v at *
    generalize ip z0 z1 z2 z0 z1 z2 = s at *
    obtain ⟨a, ha⟩ : ∃ a, ip x0 x1 x2 x0 x1 x2 - 18446744073709551616 = a := ⟨_, rfl⟩
    obtain ⟨b, hb⟩ : ∃ a, ip y0 y1 y2 y0 y1 y2 - 18446744073709551616 = a := ⟨_, rfl⟩
    rw [show ip x0 x1 x2 x0 x1 x2 = a + 18446744073709551616 by omega, show ip y0 y1 y2 y0 y1 y2 = b + 18446744073709551616 by omega, show (a + 18446744073709551616) * (b + 18446744073709551616) = a * b + 18446744073709551616 * a + 18446744073709551616 * b + 340282366920938463463374607431768211456 by grind] at e1
    rw [ha, hb] at b3
    rw [ha] at hxx
    rw [hb] at hyy
    generalize ip x0 x1 x2 y0 y1 y2 * ip x0 x1 x2 y0 y1 y2 = g at *
    generalize a * b = h at *
    clear ha hb
    unfold Within at *
    omega
  · have e : 4294967296 * ip z0 z1 z2 x0 x1 x2 = ip r0 r1 r2 x0 x1 x2 := by
      rw [← hr0, ← hr1, ← hr2]
      unfold ip
      grind
    have b := ip_bd n0 n1 n2 x0b x1b x2b
    unfold Within at *
    omega
  · have e : 4294967296 * ip z0 z1 z2 y0 y1 y2 = ip r0 r1 r2 y0 y1 y2 := by
      rw [← hr0, ← hr1, ← hr2]
      unfold ip
      grind
    have b := ip_bd n0 n1 n2 y0b y1b y2b
    unfold Within at *
    omega

/-- How far a rounded product of two rows is from where it should be. -/
theorem dot_off {a b c x y z S B : Int} (h : Within (ip a b c x y z - 4294967296 * S) (4294967296 * B)) : Within (dot a b c x y z - S) (B + 2) := by
  have := dot_near a b c x y z
  unfold Within at *
  omega

end Go.Proofs.YtodfcbpcgcgijaaGreatDoor

/- What turns about one axis, and about two, and is then changed a little: how far its rows are from upright. Plain mathematics; no function of the program is named here. -/
namespace Go.Proofs.YtodfcbpcgcgijaaGreatDoor
set_option maxRecDepth 100000

/-- The inner product of row i of one matrix and row j of another. -/
def rows (A B : Nat → Nat → Int) (i j : Nat) : Int := ip (A i 0) (A i 1) (A i 2) (B j 0) (B j 1) (B j 2)
/-- Rows that are upright to one another, and nearly One long. -/
structure Spun (A : Nat → Nat → Int) : Prop where
  bd : ∀ i j, i < 3 → j < 3 → Within (A i j) 4294967296
  off : ∀ i j, i < 3 → j < 3 → i ≠ j → rows A A i j = 0
  on : ∀ i, i < 3 → Within (rows A A i i - 18446744073709551616) 1030792151040
/-- What turns about axis k, with this cosine and this sine. -/
def spun (k : Nat) (c s : Int) (i j : Nat) : Int := if i = k ∧ j = k then 4294967296 else if i = k ∨ j = k then 0 else if i = j then c else if i = (k + 1) % 3 then -s else s
theorem three {i : Nat} (h : i < 3) : i = 0 ∨ i = 1 ∨ i = 2 := by omega
theorem spun_is (k : Nat) (hk : k < 3) {c s : Int} (hc : Within c 4294967296) (hs : Within s 4294967296) (h : Within (c * c + s * s - 18446744073709551616) 1030792151040) : Spun (spun k c s) := by
  have hs' := hs.neg
  have h0 : Within 0 4294967296 := by unfold Within; omega
  have h1 : Within 4294967296 4294967296 := by unfold Within; omega
  refine ⟨fun i j hi hj => ?_, fun i j hi hj hij => ?_, fun i hi => ?_⟩
  · unfold spun
    split
    · exact h1
    · split
      · exact h0
      · split
        · exact hc
        · split
          · exact hs'
          · exact hs
  · rcases three hk with rfl | rfl | rfl <;> rcases three hi with rfl | rfl | rfl <;> rcases three hj with rfl | rfl | rfl <;> first | exact absurd rfl hij | (simp [rows, spun, ip]; try grind)
  · rcases three hk with rfl | rfl | rfl <;> rcases three hi with rfl | rfl | rfl <;> (simp [rows, spun, ip]; unfold Within at *; first | omega | grind)

/-- The rows of a product of matrices, one of which has upright rows. -/
theorem gram_mul (a0 a1 a2 d0 d1 d2 b00 b01 b02 b10 b11 b12 b20 b21 b22 : Int) (h01 : ip b00 b01 b02 b10 b11 b12 = 0) (h02 : ip b00 b01 b02 b20 b21 b22 = 0) (h12 : ip b10 b11 b12 b20 b21 b22 = 0) :
    ip (ip a0 a1 a2 b00 b10 b20) (ip a0 a1 a2 b01 b11 b21) (ip a0 a1 a2 b02 b12 b22) (ip d0 d1 d2 b00 b10 b20) (ip d0 d1 d2 b01 b11 b21) (ip d0 d1 d2 b02 b12 b22) =
      a0 * d0 * ip b00 b01 b02 b00 b01 b02 + a1 * d1 * ip b10 b11 b12 b10 b11 b12 + a2 * d2 * ip b20 b21 b22 b20 b21 b22 := by
  have e : ip (ip a0 a1 a2 b00 b10 b20) (ip a0 a1 a2 b01 b11 b21) (ip a0 a1 a2 b02 b12 b22) (ip d0 d1 d2 b00 b10 b20) (ip d0 d1 d2 b01 b11 b21) (ip d0 d1 d2 b02 b12 b22) =
      a0 * d0 * ip b00 b01 b02 b00 b01 b02 + a1 * d1 * ip b10 b11 b12 b10 b11 b12 + a2 * d2 * ip b20 b21 b22 b20 b21 b22 +
      (a0 * d1 + a1 * d0) * ip b00 b01 b02 b10 b11 b12 + (a0 * d2 + a2 * d0) * ip b00 b01 b02 b20 b21 b22 + (a1 * d2 + a2 * d1) * ip b10 b11 b12 b20 b21 b22 := by
    unfold ip
    grind
  rw [e, h01, h02, h12]
  omega

/-- The rows of a product of two that turn, without rounding: S is One times One where the rows are the same, and 0 elsewhere. -/
theorem gram_spun {a0 a1 a2 d0 d1 d2 n0 n1 n2 S : Int} (ha : Within a0 4294967296 ∧ Within a1 4294967296 ∧ Within a2 4294967296) (hd : Within d0 4294967296 ∧ Within d1 4294967296 ∧ Within d2 4294967296)
    (h0 : Within (n0 - 18446744073709551616) 1030792151040) (h1 : Within (n1 - 18446744073709551616) 1030792151040) (h2 : Within (n2 - 18446744073709551616) 1030792151040) (h : Within (ip a0 a1 a2 d0 d1 d2 - S) 1030792151040) :
    Within (a0 * d0 * n0 + a1 * d1 * n1 + a2 * d2 * n2 - 18446744073709551616 * S) 76059036917570199190149175541760 := by
  have e : a0 * d0 * n0 + a1 * d1 * n1 + a2 * d2 * n2 - 18446744073709551616 * S = 18446744073709551616 * (ip a0 a1 a2 d0 d1 d2 - S) + (a0 * d0) * (n0 - 18446744073709551616) + (a1 * d1) * (n1 - 18446744073709551616) + (a2 * d2) * (n2 - 18446744073709551616) := by
    unfold ip
    grind
  have m0 := (ha.1.mul hd.1).mul h0
  have m1 := (ha.2.1.mul hd.2.1).mul h1
  have m2 := (ha.2.2.mul hd.2.2).mul h2
  rw [e]
  generalize a0 * d0 * (n0 - 18446744073709551616) = u at *
  generalize a1 * d1 * (n1 - 18446744073709551616) = v at *
  generalize a2 * d2 * (n2 - 18446744073709551616) = x at *
  unfold Within at *
  omega

/-- Two rows that are a little off where they should be. -/
theorem gram_moved {g0 g1 g2 h0 h1 h2 m0 m1 m2 n0 n1 n2 S : Int} (hg : Within g0 18500000000000000000 ∧ Within g1 18500000000000000000 ∧ Within g2 18500000000000000000) (hh : Within h0 18500000000000000000 ∧ Within h1 18500000000000000000 ∧ Within h2 18500000000000000000)
    (hm : Within (4294967296 * m0 - g0) 72057602627862528 ∧ Within (4294967296 * m1 - g1) 72057602627862528 ∧ Within (4294967296 * m2 - g2) 72057602627862528) (hn : Within (4294967296 * n0 - h0) 72057602627862528 ∧ Within (4294967296 * n1 - h1) 72057602627862528 ∧ Within (4294967296 * n2 - h2) 72057602627862528)
    (h : Within (ip g0 g1 g2 h0 h1 h2 - 18446744073709551616 * S) 76059036917570199190149175541760) : Within (ip m0 m1 m2 n0 n1 n2 - S) 1537228668514161336 := by
  obtain ⟨p0, hp0⟩ : ∃ p, 4294967296 * m0 - g0 = p := ⟨_, rfl⟩
  obtain ⟨p1, hp1⟩ : ∃ p, 4294967296 * m1 - g1 = p := ⟨_, rfl⟩
  obtain ⟨p2, hp2⟩ : ∃ p, 4294967296 * m2 - g2 = p := ⟨_, rfl⟩
  obtain ⟨q0, hq0⟩ : ∃ p, 4294967296 * n0 - h0 = p := ⟨_, rfl⟩
  obtain ⟨q1, hq1⟩ : ∃ p, 4294967296 * n1 - h1 = p := ⟨_, rfl⟩
  obtain ⟨q2, hq2⟩ : ∃ p, 4294967296 * n2 - h2 = p := ⟨_, rfl⟩
  rw [hp0, hp1, hp2] at hm
  rw [hq0, hq1, hq2] at hn
  have e : 18446744073709551616 * ip m0 m1 m2 n0 n1 n2 = ip g0 g1 g2 h0 h1 h2 + ip p0 p1 p2 h0 h1 h2 + ip q0 q1 q2 g0 g1 g2 + ip p0 p1 p2 q0 q1 q2 := by
    unfold ip
    grind
  have b1 := ip_bd hm.1 hm.2.1 hm.2.2 hh.1 hh.2.1 hh.2.2
  have b2 := ip_bd hn.1 hn.2.1 hn.2.2 hg.1 hg.2.1 hg.2.2
  have b3 := ip_bd hm.1 hm.2.1 hm.2.2 hn.1 hn.2.1 hn.2.2
  clear hp0 hp1 hp2 hq0 hq1 hq2 hm hn hg hh
  generalize ip p0 p1 p2 h0 h1 h2 = u at *
  generalize ip q0 q1 q2 g0 g1 g2 = v at *
  generalize ip p0 p1 p2 q0 q1 q2 = x at *
  generalize ip m0 m1 m2 n0 n1 n2 = y at *
  generalize ip g0 g1 g2 h0 h1 h2 = z at *
  unfold Within at *
  omega

/-- The product of matrices, each number rounded. -/
def mulM (A B : Nat → Nat → Int) (i j : Nat) : Int := dot (A i 0) (A i 1) (A i 2) (B 0 j) (B 1 j) (B 2 j)
/-- Without rounding. -/
def mulE (A B : Nat → Nat → Int) (i j : Nat) : Int := ip (A i 0) (A i 1) (A i 2) (B 0 j) (B 1 j) (B 2 j)
theorem mulE_rows {A B : Nat → Nat → Int} (hA : Spun A) (hB : Spun B) {i j : Nat} (hi : i < 3) (hj : j < 3) :
    Within (rows (mulE A B) (mulE A B) i j - 18446744073709551616 * (if i = j then 18446744073709551616 else 0)) 76059036917570199190149175541760 := by
  unfold rows mulE
  rw [gram_mul _ _ _ _ _ _ _ _ _ _ _ _ _ _ _ (hB.off 0 1 (by decide) (by decide) (by decide)) (hB.off 0 2 (by decide) (by decide) (by decide)) (hB.off 1 2 (by decide) (by decide) (by decide))]
  refine gram_spun ⟨hA.bd i 0 hi (by decide), hA.bd i 1 hi (by decide), hA.bd i 2 hi (by decide)⟩ ⟨hA.bd j 0 hj (by decide), hA.bd j 1 hj (by decide), hA.bd j 2 hj (by decide)⟩ (hB.on 0 (by decide)) (hB.on 1 (by decide)) (hB.on 2 (by decide)) ?_
  by_cases h : i = j
  · subst h
    rw [if_pos rfl]
    exact hA.on i hi
  · rw [if_neg h]
    have := hA.off i j hi hj h
    unfold rows at this
    rw [this]
    unfold Within
    omega
theorem mulE_bd {A B : Nat → Nat → Int} (hA : Spun A) (hB : Spun B) {i : Nat} (hi : i < 3) : Within (mulE A B i 0) 18500000000000000000 ∧ Within (mulE A B i 1) 18500000000000000000 ∧ Within (mulE A B i 2) 18500000000000000000 := by
  have h := mulE_rows hA hB hi hi
  rw [if_pos rfl] at h
  exact axes_bd (S := 340282450000000000000000000000000000000) (by unfold Within rows at h; omega) (by decide) (by decide)
/-- What turns about two axes, each number changed by 2 to the 24 parts at most: how far off its rows are. -/
theorem moved_rows {A B M : Nat → Nat → Int} (hA : Spun A) (hB : Spun B) (hM : ∀ i j, i < 3 → j < 3 → Within (M i j - mulM A B i j) 16777216) {i j : Nat} (hi : i < 3) (hj : j < 3) :
    Within (rows M M i j - (if i = j then 18446744073709551616 else 0)) 1537228668514161336 := by
  have one : ∀ i k, i < 3 → k < 3 → Within (4294967296 * M i k - mulE A B i k) 72057602627862528 := fun i k hi hk => by
    have h1 := hM i k hi hk
    have h2 := dot_near (A i 0) (A i 1) (A i 2) (B 0 k) (B 1 k) (B 2 k)
    unfold mulM at h1
    unfold mulE
    unfold Within at *
    omega
  exact gram_moved (mulE_bd hA hB hi) (mulE_bd hA hB hj) ⟨one i 0 hi (by decide), one i 1 hi (by decide), one i 2 hi (by decide)⟩ ⟨one j 0 hj (by decide), one j 1 hj (by decide), one j 2 hj (by decide)⟩ (mulE_rows hA hB hi hj)

end Go.Proofs.YtodfcbpcgcgijaaGreatDoor

/- What is made upright, whole: nothing saturates, and how far off it is; what Same does. Plain mathematics; no function of the program is named here. -/
namespace Go.Proofs.YtodfcbpcgcgijaaGreatDoor
set_option maxRecDepth 100000

theorem Within.half {a : Int} (h : Within a 9223372036854775807) : Half a := by unfold Within at h; unfold Half; omega
theorem len_ip {a b c : Int} (ha : Half a) (hb : Half b) (hc : Half c) : IsRoot (ip a b c a b c) (len a b c) := len_root ha hb hc
theorem prod_one (a : Int) : prod a 4294967296 = a := by unfold prod; rw [near32]; omega
theorem prod_nought (a : Int) : prod a 0 = 0 := by unfold prod; rw [near32, Int.mul_zero]; decide
theorem one_prod (a : Int) : prod 4294967296 a = a := by rw [prod_comm, prod_one]
theorem nought_prod (a : Int) : prod 0 a = 0 := by rw [prod_comm, prod_nought]
theorem same_dot0 (a b c : Int) : dot 4294967296 0 0 a b c = a := by unfold dot; rw [one_prod, nought_prod, nought_prod]; omega
theorem same_dot1 (a b c : Int) : dot 0 4294967296 0 a b c = b := by unfold dot; rw [one_prod, nought_prod, nought_prod]; omega
theorem same_dot2 (a b c : Int) : dot 0 0 4294967296 a b c = c := by unfold dot; rw [one_prod, nought_prod, nought_prod]; omega
theorem dot_same0 (a b c : Int) : dot a b c 4294967296 0 0 = a := by rw [dot_comm, same_dot0]
theorem dot_same1 (a b c : Int) : dot a b c 0 4294967296 0 = b := by rw [dot_comm, same_dot1]
theorem dot_same2 (a b c : Int) : dot a b c 0 0 4294967296 = c := by rw [dot_comm, same_dot2]
/-- The rounded product of two rows that turn: how far it is from Same's number. -/
theorem spun_dot {A : Nat → Nat → Int} (hA : Spun A) {i j : Nat} (hi : i < 3) (hj : j < 3) :
    Within (dot (A i 0) (A i 1) (A i 2) (A j 0) (A j 1) (A j 2) - (if i = j then 4294967296 else 0)) 242 := by
  refine dot_off (B := 240) ?_
  by_cases h : i = j
  · subst h
    rw [if_pos rfl]
    exact (hA.on i hi).of_eq rfl
  · rw [if_neg h]
    have := hA.off i j hi hj h
    unfold rows at this
    rw [this]
    unfold Within
    omega
theorem dot_off0 {a b c x y z B : Int} (h : Within (ip a b c x y z) (4294967296 * B)) : Within (dot a b c x y z) (B + 2) := by
  have := dot_near a b c x y z
  unfold Within at *
  omega
/-- The rows that Ortho answers, of two rows that are nearly upright. -/
theorem made_upright {p0 p1 p2 q0 q1 q2 L x0 x1 x2 d e0 e1 e2 f0 f1 f2 M y0 y1 y2 z0 z1 z2 : Int}
    (hp : Within (ip p0 p1 p2 p0 p1 p2 - 18446744073709551616) 1537228668514161336) (hq : Within (ip q0 q1 q2 q0 q1 q2 - 18446744073709551616) 1537228668514161336) (hpq : Within (ip p0 p1 p2 q0 q1 q2) 1537228668514161336)
    (hL : len p0 p1 p2 = L) (hx0 : (p0 * 4294967296).tdiv L = x0) (hx1 : (p1 * 4294967296).tdiv L = x1) (hx2 : (p2 * 4294967296).tdiv L = x2)
    (hd : dot q0 q1 q2 x0 x1 x2 = d) (he0 : prod x0 d = e0) (he1 : prod x1 d = e1) (he2 : prod x2 d = e2) (hf0 : q0 - e0 = f0) (hf1 : q1 - e1 = f1) (hf2 : q2 - e2 = f2)
    (hM : len f0 f1 f2 = M) (hy0 : (f0 * 4294967296).tdiv M = y0) (hy1 : (f1 * 4294967296).tdiv M = y1) (hy2 : (f2 * 4294967296).tdiv M = y2)
    (hz0 : prod x1 y2 + -prod x2 y1 = z0) (hz1 : prod x2 y0 + -prod x0 y2 = z1) (hz2 : prod x0 y1 + -prod x1 y0 = z2) :
    ((Within p0 8589934592 ∧ Within p1 8589934592 ∧ Within p2 8589934592) ∧ (Within q0 8589934592 ∧ Within q1 8589934592 ∧ Within q2 8589934592)) ∧ (0 < L ∧ L ≤ 4900000000) ∧ (Within x0 4300000000 ∧ Within x1 4300000000 ∧ Within x2 4300000000) ∧
    Within d 537900000 ∧ (Within e0 538600000 ∧ Within e1 538600000 ∧ Within e2 538600000) ∧ (Within f0 8589934592 ∧ Within f1 8589934592 ∧ Within f2 8589934592) ∧ (0 < M ∧ M ≤ 4900000000) ∧
    (Within y0 4300000000 ∧ Within y1 4300000000 ∧ Within y2 4300000000) ∧ (Within z0 8620000000 ∧ Within z1 8620000000 ∧ Within z2 8620000000) ∧
    Within (dot x0 x1 x2 x0 x1 x2 - 4294967296) 64 ∧ Within (dot y0 y1 y2 y0 y1 y2 - 4294967296) 64 ∧ Within (dot z0 z1 z2 z0 z1 z2 - 4294967296) 64 ∧
    Within (dot x0 x1 x2 y0 y1 y2) 64 ∧ Within (dot z0 z1 z2 x0 x1 x2) 64 ∧ Within (dot z0 z1 z2 y0 y1 y2) 64 := by
  have pb := axes_bd (a := p0) (b := p1) (c := p2) (S := 24000000000000000000) (B := 8589934592) (by unfold Within at hp; omega) (by decide) (by decide)
  have qb := axes_bd (a := q0) (b := q1) (c := q2) (S := 24000000000000000000) (B := 8589934592) (by unfold Within at hq; omega) (by decide) (by decide)
  have half : ∀ {a : Int}, Within a 8589934592 → Half a := fun h => (h.mono (by decide)).half
  have rp := len_ip (half pb.1) (half pb.2.1) (half pb.2.2)
  rw [hL] at rp
  have ux := unit_facts rp (by unfold Within at hp; omega) (by unfold Within at hp; omega)
  rw [hx0, hx1, hx2] at ux
  obtain ⟨L0, L1, xx, xb, al⟩ := ux
  have qx := al q0 q1 q2 357913941 qb.1 qb.2.1 qb.2.2 (hpq.mono (by decide))
  have lf := less_along (hq.mono (by decide)) xb xx (by rw [ip_comm]; unfold Within at *; omega) hd he0 he1 he2
  rw [hf0, hf1, hf2] at lf
  obtain ⟨db, eb, f16, f24, fx⟩ := lf
  have fb := axes_bd (a := f0) (b := f1) (c := f2) (B := 8589934592) f24 (by decide) (by decide)
  have rf := len_ip (half fb.1) (half fb.2.1) (half fb.2.2)
  rw [hM] at rf
  have uy := unit_facts rf f16 f24
  rw [hy0, hy1, hy2] at uy
  obtain ⟨M0, M1, yy, yb, bl⟩ := uy
  have yx := bl x0 x1 x2 6 (xb.1.mono (by decide)) (xb.2.1.mono (by decide)) (xb.2.2.mono (by decide)) (fx.mono (by decide))
  have xy : Within (ip x0 x1 x2 y0 y1 y2) 64424509440 := by rw [ip_comm]; unfold Within at *; omega
  obtain ⟨zb, zz, zx, zy⟩ := cross_near xb yb xx yy xy hz0 hz1 hz2
  exact ⟨⟨pb, qb⟩, ⟨L0, L1⟩, xb, db, eb, fb, ⟨M0, M1⟩, yb, zb, (dot_off (S := 4294967296) (B := 62) (xx.mono (by decide))), (dot_off (S := 4294967296) (B := 62) (yy.mono (by decide))), (dot_off (S := 4294967296) (B := 62) (zz.mono (by decide))),
    dot_off0 (B := 62) (xy.mono (by decide)), dot_off0 (B := 62) (zx.mono (by decide)), dot_off0 (B := 62) (zy.mono (by decide))⟩

end Go.Proofs.YtodfcbpcgcgijaaGreatDoor
