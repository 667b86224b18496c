/- What the statements on angles ask of cosines, sines and angles. -/
import Derived.Test.YtneljefoglmldaaDoorTurnLev
import Derived.Test.YtneljefoglmldaaDoorTurnS
import Derived.Test.YtneljefoglmldaaDoorTurnNear
namespace Go.Proofs.YtneljefoglmldaaDoor
open Go.RowKit
set_option linter.unusedVariables false

theorem lower_next (n : Nat) (x y : Int) : lower (n + 1) x y = if 2305843009213693951 < grt x y then lower n (x / 2) (y / 2) else (x, y) := rfl
theorem raise_next (n : Nat) (x y : Int) : raise (n + 1) x y = if grt x y < 1152921504606846976 then raise n (2 * x) (2 * y) else (x, y) := rfl
theorem lower_fuel : ∀ n x y, 0 ≤ x → x < 1152921504606846976 * 2 ^ n → -(1152921504606846976 * 2 ^ n) ≤ y → y < 1152921504606846976 * 2 ^ n → lower (n + 1) x y = lower n x y
  | 0, x, y, h0, h1, h2, h3 => by
    rw [show (2 : Int) ^ 0 = 1 from rfl] at h1 h2 h3
    rw [lower_next, if_neg (by unfold grt; split <;> omega)]
    rfl
  | n + 1, x, y, h0, h1, h2, h3 => by
    rw [lower_next (n + 1) x y, lower_next n x y]
    split
    · have e : 1152921504606846976 * (2 : Int) ^ (n + 1) = 2 * (1152921504606846976 * 2 ^ n) := by rw [Int.pow_succ]; omega
      rw [e] at h1 h2 h3
      exact lower_fuel n (x / 2) (y / 2) (by omega) (by omega) (by omega) (by omega)
    · rfl
theorem raise_fuel : ∀ n x y, 1152921504606846976 ≤ grt x y * 2 ^ n → raise (n + 1) x y = raise n x y
  | 0, x, y, h => by
    rw [show (2 : Int) ^ 0 = 1 from rfl] at h
    rw [raise_next, if_neg (by omega)]
    rfl
  | n + 1, x, y, h => by
    rw [raise_next (n + 1) x y, raise_next n x y]
    split
    · refine raise_fuel n (2 * x) (2 * y) ?_
      rw [grt_two]
      rw [Int.pow_succ] at h
      have e : 2 * grt x y * 2 ^ n = grt x y * (2 ^ n * 2) := by grind
      omega
    · rfl
theorem lev_two {x y : Int} (hx : 0 ≤ x ∧ x < 4611686018427387904) (hy : -4611686018427387904 < y ∧ y < 4611686018427387904) (h0 : ¬ (y = 0 ∧ x = 0)) : lev (2 * x) (2 * y) = lev x y := by
  unfold lev
  by_cases h : 2305843009213693951 < grt (2 * x) (2 * y)
  · have e : lower 3 (2 * x) (2 * y) = lower 3 x y := by
      rw [lower, if_pos h, show 2 * x / 2 = x by omega, show 2 * y / 2 = y by omega]
      exact (lower_fuel 2 x y hx.1 (by rw [show (2 : Int) ^ 2 = 4 from rfl]; omega) (by rw [show (2 : Int) ^ 2 = 4 from rfl]; omega) (by rw [show (2 : Int) ^ 2 = 4 from rfl]; omega)).symm
    rw [e]
  · have h1 : lower 3 (2 * x) (2 * y) = (2 * x, 2 * y) := by rw [lower, if_neg h]
    rw [grt_two] at h
    have h2 : lower 3 x y = (x, y) := by rw [lower, if_neg (by omega)]
    have h3 : 1 ≤ grt x y := by unfold grt; split <;> omega
    rw [h1, h2]
    show raise 60 (2 * x) (2 * y) = raise 60 x y
    have h4 : raise 60 x y = raise 59 (2 * x) (2 * y) := by rw [raise, if_pos (by omega)]
    rw [h4]
    refine raise_fuel 59 (2 * x) (2 * y) ?_
    rw [grt_two, show (2 : Int) ^ 59 = 576460752303423488 from rfl]
    omega
theorem angA_two {y x : Int} (hy : -4611686018427387904 < y ∧ y < 4611686018427387904) (hx : -4611686018427387904 < x ∧ x < 4611686018427387904) : angA (2 * y) (2 * x) = angA y x := by
  unfold angA
  by_cases h0 : y = 0 ∧ x = 0
  · rw [if_pos h0, if_pos (by omega)]
  · rw [if_neg h0, if_neg (by omega)]
    by_cases hn : x < 0
    · rw [if_pos hn, if_pos (by omega)]
      have e1 : oppo (2 * x) = 2 * oppo x := by unfold oppo; omega
      have e2 : oppo (2 * y) = 2 * oppo y := by unfold oppo; omega
      rw [e1, e2]
      unfold angOf
      rw [lev_two (by unfold oppo; omega) (by unfold oppo; omega) (by unfold oppo; omega)]
    · rw [if_neg hn, if_neg (by omega)]
      unfold angOf
      rw [lev_two (by omega) (by omega) h0]
theorem angA_neg {y x : Int} (hy : -9223372036854775808 < y ∧ y ≤ 9223372036854775807) (hx : -9223372036854775808 < x ∧ x ≤ 9223372036854775807) (h : x ≠ 0) : angA (-y) (-x) = (angA y x + 2147483648) % 4294967296 := by
  have ex : oppo x = -x := by unfold oppo; omega
  have ey : oppo y = -y := by unfold oppo; omega
  have ex' : oppo (-x) = x := by unfold oppo; omega
  have ey' : oppo (-y) = y := by unfold oppo; omega
  rcases Int.lt_or_le x 0 with hn | hn
  · have l : angA (-y) (-x) = (0 + angOf (-x) (-y)) % 4294967296 := by unfold angA; rw [if_neg (by omega), if_neg (by omega)]
    have r : angA y x = (2147483648 + angOf (-x) (-y)) % 4294967296 := by unfold angA; rw [if_neg (by omega), if_pos hn, ex, ey]
    rw [l, r]; omega
  · have l : angA (-y) (-x) = (2147483648 + angOf x y) % 4294967296 := by unfold angA; rw [if_neg (by omega), if_pos (by omega), ex', ey']
    have r : angA y x = (0 + angOf x y) % 4294967296 := by unfold angA; rw [if_neg (by omega), if_neg (by omega)]
    rw [l, r]; omega
theorem angA_bd (y x : Int) : Word32 (angA y x) := by
  unfold angA Word32
  split
  · omega
  · split <;> omega

theorem raise_pow : ∀ n x y, ∃ k : Nat, raise n x y = (2 ^ k * x, 2 ^ k * y)
  | 0, x, y => ⟨0, by rw [raise]; simp⟩
  | n + 1, x, y => by
    rw [raise]
    split
    · obtain ⟨k, hk⟩ := raise_pow n (2 * x) (2 * y)
      exact ⟨k + 1, by rw [hk, Int.pow_succ]; simp only [Prod.mk.injEq]; exact ⟨by grind, by grind⟩⟩
    · exact ⟨0, by simp⟩
theorem lev_pow {x y : Int} (hx : 0 ≤ x ∧ x ≤ 4294967296) (hy : -4294967296 ≤ y ∧ y ≤ 4294967296) (hg : 2147483648 ≤ grt x y) : ∃ w : Int, 0 < w ∧ w ≤ 536870912 ∧ lev x y = (w * x, w * y) ∧ Level (w * x) (w * y) := by
  have h2 : lower 3 x y = (x, y) := by rw [lower, if_neg (by unfold grt; split <;> omega)]
  have hl := lev_level (x := x) (y := y) (by omega) (by unfold Half; omega) (by unfold grt at hg; split at hg <;> omega)
  obtain ⟨k, hk⟩ := raise_pow 60 x y
  have e : lev x y = (2 ^ k * x, 2 ^ k * y) := by unfold lev; rw [h2]; exact hk
  rw [e] at hl
  have hp := two_pow_pos k
  refine ⟨2 ^ k, hp, ?_, e, hl⟩
  have hk30 : k < 30 := by
    rcases Nat.lt_or_ge k 30 with h | h
    · exact h
    · have h3 : (1073741824 : Int) ≤ 2 ^ k := by
        obtain ⟨j, rfl⟩ : ∃ j, k = 30 + j := ⟨k - 30, by omega⟩
        have := two_pow_pos j
        rw [Int.pow_add, show (2 : Int) ^ 30 = 1073741824 from rfl]
        omega
      obtain ⟨l0, l1, l2, l3, -⟩ := hl
      dsimp only at l0 l1 l2 l3
      have h4 := grt_is x y hx.1
      rcases h4.2.2.2 with h5 | h5 | h5
      · have := Int.mul_le_mul_of_nonneg_left (show 2147483648 ≤ x by omega) (Int.le_of_lt hp); omega
      · have := Int.mul_le_mul_of_nonneg_left (show 2147483648 ≤ y by omega) (Int.le_of_lt hp); omega
      · have := Int.mul_le_mul_of_nonneg_left (show 2147483648 ≤ -y by omega) (Int.le_of_lt hp); rw [Int.mul_neg] at this; omega
  have : (2 : Int) ^ k * 2 ^ (29 - k) = 536870912 := by rw [← Int.pow_add, show k + (29 - k) = 29 by omega]; rfl
  have h1 := two_pow_pos (29 - k)
  have := Int.mul_le_mul_of_nonneg_left (show 1 ≤ (2 : Int) ^ (29 - k) by omega) (Int.le_of_lt hp)
  omega
theorem great_one {c s : Int} (hc : 1 ≤ c ∧ c ≤ 4294967296) (hs : 1 ≤ s ∧ s ≤ 4294967296) (h : 18446744073709551616 - 1030792151040 ≤ c * c + s * s) : 2147483648 ≤ c ∨ 2147483648 ≤ s := by
  rcases Int.lt_or_le c 2147483648 with h1 | h1
  · rcases Int.lt_or_le s 2147483648 with h2 | h2
    · have a := Int.mul_le_mul_of_nonneg_left (show c ≤ 2147483648 by omega) (show 0 ≤ c by omega)
      have b := Int.mul_le_mul_of_nonneg_left (show s ≤ 2147483648 by omega) (show 0 ≤ s by omega)
      omega
    · exact Or.inr h2
  · exact Or.inl h1
/-- The angles of cosine and sine of a rest, as they lie, and a quarter back. -/
theorem angOf_near (r : Int) (hr : 0 ≤ r ∧ r < 1073741824) : Within (angOf (cosOf r) (sinOf r) - r) 450 ∧ Within (angOf (sinOf r) (-cosOf r) - (r - 1073741824)) 450 := by
  obtain ⟨c0, c1, s0, s1, -, -, -, -, n0, -⟩ := cos_sin r hr
  have g := great_one ⟨c0, c1⟩ ⟨s0, s1⟩ n0
  constructor
  · obtain ⟨w, w0, w1, e, hl⟩ := lev_pow (x := cosOf r) (y := sinOf r) (by omega) (by omega) (by unfold grt; split <;> omega)
    unfold angOf
    rw [e]
    dsimp only
    have := back_near r hr 0 (Or.inl rfl) w ⟨w0, w1⟩ (w * cosOf r) (w * sinOf r) (by rw [show (1 - 0) * cosOf r + 0 * sinOf r = cosOf r by omega]) (by rw [show (1 - 0) * sinOf r - 0 * cosOf r = sinOf r by omega]) hl
    rw [show r - 0 * 1073741824 = r by omega] at this
    exact this
  · obtain ⟨w, w0, w1, e, hl⟩ := lev_pow (x := sinOf r) (y := -cosOf r) (by omega) (by omega) (by unfold grt; split <;> omega)
    unfold angOf
    rw [e]
    dsimp only
    have := back_near r hr 1 (Or.inr rfl) w ⟨w0, w1⟩ (w * sinOf r) (w * -cosOf r) (by rw [show (1 - 1) * cosOf r + 1 * sinOf r = sinOf r by omega]) (by rw [show (1 - 1) * sinOf r - 1 * cosOf r = -cosOf r by omega]) hl
    rw [show r - 1 * 1073741824 = r - 1073741824 by omega] at this
    exact this
theorem angA_back (a : Int) (ha : Word32 a) : -1024 ≤ way a (angA (sinA a) (cosA a)) ∧ way a (angA (sinA a) (cosA a)) ≤ 1024 := by
  obtain ⟨q, r, c, s, e1, e2, hr, e3, e4, ⟨c0, c1⟩, ⟨s0, s1⟩, hq⟩ := cosA_facts a ha
  have hn := angOf_near r hr
  rw [e3, e4] at hn
  obtain ⟨⟨n1, n2⟩, n3, n4⟩ := hn
  unfold Word32 at ha
  rcases hq with ⟨rfl, x1, x2⟩ | ⟨rfl, x1, x2⟩ | ⟨rfl, x1, x2⟩ | ⟨rfl, x1, x2⟩ <;> rw [x1, x2] <;> unfold angA way
  · rw [if_neg (by omega), if_neg (by omega)]
    omega
  · rw [if_neg (by omega), if_pos (by omega), show oppo (-s) = s by unfold oppo; omega, show oppo c = -c by unfold oppo; omega]
    omega
  · rw [if_neg (by omega), if_pos (by omega), show oppo (-c) = c by unfold oppo; omega, show oppo (-s) = s by unfold oppo; omega]
    omega
  · rw [if_neg (by omega), if_neg (by omega)]
    omega
theorem cosA_next (a : Int) (ha : Word32 a) : cosA ((a + 1073741824) % 4294967296) = -sinA a ∧ sinA ((a + 1073741824) % 4294967296) = cosA a := by
  unfold Word32 at ha
  have e1 : (a + 1073741824) % 4294967296 % 1073741824 = a % 1073741824 := by omega
  unfold cosA sinA
  rw [e1]
  rcases (by omega : (a / 1073741824 = 0 ∧ (a + 1073741824) % 4294967296 / 1073741824 = 1) ∨ (a / 1073741824 = 1 ∧ (a + 1073741824) % 4294967296 / 1073741824 = 2) ∨ (a / 1073741824 = 2 ∧ (a + 1073741824) % 4294967296 / 1073741824 = 3) ∨ (a / 1073741824 = 3 ∧ (a + 1073741824) % 4294967296 / 1073741824 = 0)) with ⟨h, k⟩ | ⟨h, k⟩ | ⟨h, k⟩ | ⟨h, k⟩ <;> rw [h, k] <;> simp
theorem cosA_bd (a : Int) (ha : Word32 a) : (-4294967296 ≤ cosA a ∧ cosA a ≤ 4294967296) ∧ (-4294967296 ≤ sinA a ∧ sinA a ≤ 4294967296) := by
  obtain ⟨q, r, c, s, e1, e2, hr, e3, e4, ⟨c0, c1⟩, ⟨s0, s1⟩, hq⟩ := cosA_facts a ha
  omega
theorem cosA_unit (a : Int) (ha : Word32 a) : 18446744073709551616 - 1030792151040 ≤ cosA a * cosA a + sinA a * sinA a ∧ cosA a * cosA a + sinA a * sinA a ≤ 18446744073709551616 + 1030792151040 := by
  obtain ⟨q, r, c, s, e1, e2, hr, e3, e4, ⟨c0, c1⟩, ⟨s0, s1⟩, hq⟩ := cosA_facts a ha
  obtain ⟨-, -, -, -, -, -, -, -, n0, n1⟩ := cos_sin r hr
  rw [e3, e4] at n0 n1
  rcases hq with ⟨rfl, x1, x2⟩ | ⟨rfl, x1, x2⟩ | ⟨rfl, x1, x2⟩ | ⟨rfl, x1, x2⟩ <;> rw [x1, x2]
  · exact ⟨n0, n1⟩
  · rw [Int.neg_mul_neg]; omega
  · rw [Int.neg_mul_neg, Int.neg_mul_neg]; exact ⟨n0, n1⟩
  · rw [Int.neg_mul_neg]; omega
theorem works_nums : 4294966272 < cosA 0 ∧ sinA 0 < 1024 ∧ -256 ≤ way 536870912 (angA 4294967296 4294967296) ∧ way 536870912 (angA 4294967296 4294967296) ≤ 256 ∧ way 1 0 = -1 := by decide +kernel

end Go.Proofs.YtneljefoglmldaaDoor
