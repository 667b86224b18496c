/- The first nine steps, each way; and all behind them. -/
import Derived.Test.YtneljefoglmldaaDoorTurnSpin
namespace Go.Proofs.YtneljefoglmldaaDoor
set_option linter.unusedVariables false
set_option maxRecDepth 100000
/-- The product of 2^i + I d(i), from 1, or from 1 - I; and the sum of the angles. -/
def wind (e : Int) (d : Nat → Int) : Nat → Int × Int
  | 0 => (1, -e)
  | n + 1 => (2 ^ n * (wind e d n).1 - d n * (wind e d n).2, 2 ^ n * (wind e d n).2 + d n * (wind e d n).1)
def wound (e : Int) (d : Nat → Int) : Nat → Int
  | 0 => -(e * 536870912)
  | n + 1 => wound e d n + d n * stp n
/-- Where a product is near the axis the sum of the angles is its slope, times the parts of a turn over two pi, nearly. -/
def leafOk (r m s : Int) : Bool := decide (240 * m < -r ∧ 240 * m < r) || (decide (r < 240 * m ∧ -r < 240 * m) || (decide (-(16 * r) ≤ 683565276 * m - s * r ∧ 683565276 * m - s * r ≤ 16 * r) || decide (16 * r ≤ 683565276 * m - s * r ∧ 683565276 * m - s * r ≤ -(16 * r))))
def leaves : Nat → Nat → Int → Int → Int → Bool
  | 0, _, r, m, s => leafOk r m s
  | n + 1, i, r, m, s => leaves n (i + 1) (2 ^ i * r) (2 ^ i * m) s && (leaves n (i + 1) (2 ^ i * r - m) (2 ^ i * m + r) (s + stp i) && leaves n (i + 1) (2 ^ i * r + m) (2 ^ i * m - r) (s - stp i))
theorem leaves_0 : leaves 9 0 1 0 0 = true := by decide +kernel
theorem leaves_1 : leaves 9 0 1 (-1) (-536870912) = true := by decide +kernel
theorem leaf_at (e : Int) (d : Nat → Int) (hd : ∀ i, d i = 0 ∨ d i = 1 ∨ d i = -1) : ∀ n i, leaves n i (wind e d i).1 (wind e d i).2 (wound e d i) = true → leafOk (wind e d (i + n)).1 (wind e d (i + n)).2 (wound e d (i + n)) = true
  | 0, i, h => by rw [leaves] at h; exact h
  | n + 1, i, h => by
    rw [leaves, Bool.and_eq_true, Bool.and_eq_true] at h
    have ih := leaf_at e d hd n (i + 1)
    rw [wind, wound, show i + 1 + n = i + (n + 1) by omega] at ih
    rcases hd i with k | k | k <;> rw [k] at ih
    · rw [Int.zero_mul, Int.zero_mul, Int.zero_mul, Int.sub_zero, Int.add_zero, Int.add_zero] at ih; exact ih h.1
    · rw [Int.one_mul, Int.one_mul, Int.one_mul] at ih; exact ih h.2.1
    · rw [show (-1) * (wind e d i).2 = -(wind e d i).2 by omega, show (-1) * (wind e d i).1 = -(wind e d i).1 by omega, show (-1) * stp i = -stp i by omega, Int.sub_neg] at ih; exact ih h.2.2

theorem Within.cancel {k r b : Int} (hk : 0 < k) (h : Within (k * r) (k * b)) : Within r b := by
  unfold Within at *
  exact ⟨Int.le_of_mul_le_mul_left (by grind) hk, Int.le_of_mul_le_mul_left h.2 hk⟩
/-- The bounds of the slope and of what it lacks of the sum, from the end. -/
def slope (i : Nat) : Int := 524288 + 17 * 2 ^ (37 - i)
def lacks (i : Nat) : Int := if i < 10 then 208 else if i = 10 then 192 else 200 - i
theorem tail_nums (i : Nat) (h : 9 ≤ i ∧ i < 30) : ((2 ^ i * slope (i + 1) + 1099511627776) * 1099511627776 ≤ slope i * (2 ^ i * 1099511627776 - slope (i + 1))) ∧
    1099511627776 * (2 ^ i * lacks (i + 1) + max (2 ^ i * stp i - 683565276) (683565276 - 2 ^ i * stp i)) + rest (30 - i) * slope (i + 1) ≤ (1099511627776 * 2 ^ i - slope (i + 1)) * lacks i ∧
    slope (i + 1) < 1099511627776 * 2 ^ i ∧ 0 ≤ slope (i + 1) ∧ 0 ≤ slope i ∧ 0 ≤ lacks i := by
  have := all_below (P := fun j => 9 ≤ j → ((2 ^ j * slope (j + 1) + 1099511627776) * 1099511627776 ≤ slope j * (2 ^ j * 1099511627776 - slope (j + 1))) ∧
    1099511627776 * (2 ^ j * lacks (j + 1) + max (2 ^ j * stp j - 683565276) (683565276 - 2 ^ j * stp j)) + rest (30 - j) * slope (j + 1) ≤ (1099511627776 * 2 ^ j - slope (j + 1)) * lacks j ∧
    slope (j + 1) < 1099511627776 * 2 ^ j ∧ 0 ≤ slope (j + 1) ∧ 0 ≤ slope j ∧ 0 ≤ lacks j) 30 (by decide +kernel) i h.2
  exact this h.1
theorem tail_step {p t th k c K R M R1 M1 T1 m1 m B1 B tau : Int} (hp : 0 < p) (ht : t = 0 ∨ t = 1 ∨ t = -1) (hc : 0 < c) (e1 : R1 = p * R - t * M) (e2 : M1 = p * M + t * R)
    (hR : 0 < R1) (h1 : Within (c * M1) (m1 * R1)) (h2 : Within (K * M1 + T1 * R1) (B1 * R1)) (hT : Within (T1 + t * th) tau) (hk : Within (p * th - K) k)
    (n1 : (p * m1 + c) * c ≤ m * (p * c - m1)) (n2 : c * (p * B1 + k) + tau * m1 ≤ (c * p - m1) * B) (n3 : m1 < c * p) (n4 : 0 ≤ m1) (n5 : 0 ≤ m) (n6 : 0 ≤ B) :
    0 < R ∧ Within (c * M) (m * R) ∧ Within (K * M + (T1 + t * th) * R) (B * R) := by
  have ht1 : Within t 1 := by unfold Within; omega
  have htt : 0 ≤ t * t := sq_nn t
  have hg : 0 < p * p + t * t := by have := Int.mul_pos hp hp; omega
  have g1 : (p * p + t * t) * R = p * R1 + t * M1 := by rw [e1, e2]; grind
  have g2 : (p * p + t * t) * M = p * M1 - t * R1 := by rw [e1, e2]; grind
  generalize p * p + t * t = g at hg g1 g2
  have hp' := Within.self (Int.le_of_lt hp)
  have hR' := Within.self (Int.le_of_lt hR)
  have hc' := Within.self (Int.le_of_lt hc)
  have hM := ht1.mul h1
  have lo : (c * p - m1) * R1 ≤ c * (g * R) := by rw [g1]; have := hM.1; grind
  have lo0 : 0 < (c * p - m1) * R1 := Int.mul_pos (by omega) hR
  have hRp : 0 < R := by
    have h0 : 0 < (c * g) * R := by rw [Int.mul_assoc]; omega
    rcases Int.lt_or_le 0 R with h | h
    · exact h
    · have := Int.mul_nonneg (Int.le_of_lt (Int.mul_pos hc hg)) (show 0 ≤ -R by omega)
      grind
  have hcg := Int.mul_pos hc hg
  refine ⟨hRp, ?_, ?_⟩
  · have w1 : Within (c * (g * M)) ((p * m1 + c) * R1) := (((hp'.mul h1).sub (ht1.mul (hc'.mul hR'))).of_eq (by rw [g2]; grind)).mono (by grind)
    have w2 : (p * m1 + c) * c * R1 ≤ m * (p * c - m1) * R1 := Int.mul_le_mul_of_nonneg_right n1 (Int.le_of_lt hR)
    have w3 : m * ((c * p - m1) * R1) ≤ m * (c * (g * R)) := Int.mul_le_mul_of_nonneg_left lo n5
    exact Within.cancel hcg (((hc'.mul w1).of_eq (s := c * g * (c * M)) (by grind)).mono (b := c * ((p * m1 + c) * R1)) (c := c * g * (m * R)) (by grind))
  · have w1 : Within (c * (g * (K * M + (T1 + t * th) * R))) ((c * (p * B1 + k) + tau * m1) * R1) := by
      have x1 := hc'.mul (hp'.mul h2)
      have x2 := (hc'.mul (ht1.mul (hk.mul hR')))
      have x3 := hT.mul hM
      have e3 : c * (p * (K * M1 + T1 * R1)) + c * (t * ((p * th - K) * R1)) + (T1 + t * th) * (t * (c * M1)) = c * (g * (K * M + (T1 + t * th) * R)) := by
        have : g * (K * M + (T1 + t * th) * R) = K * (g * M) + (T1 + t * th) * (g * R) := by grind
        rw [this, g1, g2]; grind
      exact (((x1.add x2).add x3).of_eq e3).mono (by grind)
    have w2 : (c * (p * B1 + k) + tau * m1) * R1 ≤ (c * p - m1) * B * R1 := Int.mul_le_mul_of_nonneg_right n2 (Int.le_of_lt hR)
    have w3 : B * ((c * p - m1) * R1) ≤ B * (c * (g * R)) := Int.mul_le_mul_of_nonneg_left lo n6
    exact Within.cancel hcg ((w1.of_eq (s := c * g * (K * M + (T1 + t * th) * R)) (by grind)).mono (c := c * g * (B * R)) (by grind))
theorem tail_sum (e : Int) (d : Nat → Int) (hd : ∀ i, d i = 0 ∨ d i = 1 ∨ d i = -1) : ∀ j, j ≤ 30 → Within (wound e d 30 - wound e d (30 - j)) (rest j)
  | 0, _ => by rw [rest]; unfold Within; simp
  | j + 1, h => by
    have ih := tail_sum e d hd j (by omega)
    have e1 : wound e d (30 - j) = wound e d (30 - (j + 1)) + d (29 - j) * stp (29 - j) := by
      rw [show 30 - j = (29 - j) + 1 by omega, show 30 - (j + 1) = 29 - j by omega, wound]
    have bd := stp_bd (29 - j) (by omega)
    rw [rest]
    unfold Within at *
    rcases hd (29 - j) with k | k | k <;> rw [k] at e1 <;> omega
theorem tail (e : Int) (d : Nat → Int) (hd : ∀ i, d i = 0 ∨ d i = 1 ∨ d i = -1) (s : Int) (hs : s = 1 ∨ s = -1) (hR : 0 < s * (wind e d 30).1) (hM : Within (4194304 * (wind e d 30).2) (s * (wind e d 30).1)) :
    ∀ j, j ≤ 21 → 0 < s * (wind e d (30 - j)).1 ∧ Within (1099511627776 * (s * (wind e d (30 - j)).2)) (slope (30 - j) * (s * (wind e d (30 - j)).1)) ∧
      Within (683565276 * (s * (wind e d (30 - j)).2) + (wound e d 30 - wound e d (30 - j)) * (s * (wind e d (30 - j)).1)) (lacks (30 - j) * (s * (wind e d (30 - j)).1))
  | 0, _ => by
    refine ⟨hR, ?_, ?_⟩ <;> rw [Nat.sub_zero] <;> generalize (wind e d 30).1 = r at * <;> generalize (wind e d 30).2 = m at *
    · rw [show slope 30 = 526464 by decide]
      unfold Within at *
      rcases hs with h | h <;> subst h <;> omega
    · rw [show lacks 30 = 170 by decide, Int.sub_self]
      unfold Within at *
      rcases hs with h | h <;> subst h <;> omega
  | j + 1, h => by
    obtain ⟨h0, h1, h2⟩ := tail e d hd s hs hR hM j (by omega)
    have ei : 30 - j = (29 - j) + 1 := by omega
    have ei' : 30 - (j + 1) = 29 - j := by omega
    have es := tail_sum e d hd (j + 1) (by omega)
    obtain ⟨n1, n2, n3, n4, n5, n6⟩ := tail_nums (29 - j) (by omega)
    have e1 : wound e d (30 - j) = wound e d (29 - j) + d (29 - j) * stp (29 - j) := by rw [ei, wound]
    have e2 : (wind e d (30 - j)).1 = 2 ^ (29 - j) * (wind e d (29 - j)).1 - d (29 - j) * (wind e d (29 - j)).2 := by rw [ei, wind]
    have e3 : (wind e d (30 - j)).2 = 2 ^ (29 - j) * (wind e d (29 - j)).2 + d (29 - j) * (wind e d (29 - j)).1 := by rw [ei, wind]
    rw [← ei, show 30 - (29 - j) = j + 1 by omega] at *
    rw [ei'] at *
    have e4 : wound e d 30 - wound e d (29 - j) = (wound e d 30 - wound e d (30 - j)) + d (29 - j) * stp (29 - j) := by omega
    rw [e4] at es ⊢
    refine tail_step (two_pow_pos (29 - j)) (hd (29 - j)) (by decide) (by rw [e2]; grind) (by rw [e3]; grind) h0 h1 h2 es (k := max (2 ^ (29 - j) * stp (29 - j) - 683565276) (683565276 - 2 ^ (29 - j) * stp (29 - j))) ?_ n1 n2 n3 n4 n5 n6
    unfold Within
    omega
/-- Where the whole product is near the axis, the sum of the angles is near 0. -/
theorem wound_small (e : Int) (he : e = 0 ∨ e = 1) (d : Nat → Int) (hd : ∀ i, d i = 0 ∨ d i = 1 ∨ d i = -1) (s : Int) (hs : s = 1 ∨ s = -1) (hR : 0 < s * (wind e d 30).1) (hM : Within (4194304 * (wind e d 30).2) (s * (wind e d 30).1)) :
    Within (wound e d 30) 224 := by
  obtain ⟨h0, h1, h2⟩ := tail e d hd s hs hR hM 21 (by decide)
  have hl : leafOk (wind e d 9).1 (wind e d 9).2 (wound e d 9) = true := by
    have := leaf_at e d hd 9 0
    rw [Nat.zero_add] at this
    refine this ?_
    rcases he with h | h <;> subst h
    · exact leaves_0
    · exact leaves_1
  rw [show 30 - 21 = 9 from rfl] at h0 h1 h2
  rw [show slope 9 = 4563927040 + 0 by decide] at h1
  rw [show lacks 9 = 208 by decide] at h2
  unfold leafOk at hl
  rw [Bool.or_eq_true, Bool.or_eq_true, Bool.or_eq_true, decide_eq_true_iff, decide_eq_true_iff, decide_eq_true_iff, decide_eq_true_iff] at hl
  generalize wound e d 30 = S at *
  generalize wound e d 9 = S9 at *
  generalize (wind e d 9).1 = r at *
  generalize (wind e d 9).2 = m at *
  have key : Within (s * r * S) (s * r * 224) := by
    unfold Within at *
    have e1 : (S - S9) * (s * r) = s * r * S - s * (S9 * r) := by grind
    rw [e1] at h2
    generalize s * r * S = z at *
    rcases hs with h | h <;> subst h <;> omega
  exact Within.cancel h0 key

end Go.Proofs.YtneljefoglmldaaDoor
