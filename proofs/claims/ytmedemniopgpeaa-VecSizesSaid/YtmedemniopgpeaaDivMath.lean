/- Plain facts on a division that goes bit by bit; no function of the program is named here. -/
import Derived.Test.YtmedemniopgpeaaBitsMath
namespace Go.Proofs.Ytmedemniopgpeaa

/-- Behind k of 128 rounds: of A the upper k bits are divided; below them lie what is left of A, and the quotient so far. -/
def QInv (A b : Int) (k : Nat) (h l r : Int) : Prop :=
  ∃ q V : Int, 0 ≤ V ∧ V < 2 ^ (128 - k) ∧ 0 ≤ q ∧ q < 2 ^ k ∧ 0 ≤ r ∧ r < b ∧ A = (q * b + r) * 2 ^ (128 - k) + V ∧
    h * 18446744073709551616 + l = V * 2 ^ k + q ∧ 0 ≤ h ∧ h ≤ 18446744073709551615 ∧ 0 ≤ l ∧ l ≤ 18446744073709551615

theorem QInv.start {A b h l : Int} (hA : A = h * 18446744073709551616 + l) (h0 : 0 ≤ h) (h1 : h ≤ 18446744073709551615) (l0 : 0 ≤ l) (l1 : l ≤ 18446744073709551615) (hb : 1 ≤ b) : QInv A b 0 h l 0 := by
  refine ⟨0, A, ?_, ?_, Int.le_refl _, by simp, Int.le_refl _, by omega, by simp, by simp [hA], h0, h1, l0, l1⟩
  · omega
  · rw [show (2 : Int) ^ (128 - 0) = 340282366920938463463374607431768211456 from rfl]; omega
theorem QInv.stop {A b h l r : Int} (H : QInv A b 128 h l r) : h * 18446744073709551616 + l = A / b ∧ r = A % b := by
  obtain ⟨q, V, v0, v1, q0, q1, r0, r1, hA, hZ, _⟩ := H
  have hV : V = 0 := by rw [show (2 : Int) ^ (128 - 128) = 1 from rfl] at v1; omega
  subst hV
  rw [show (2 : Int) ^ (128 - 128) = 1 from rfl, Int.mul_one, Int.add_zero] at hA
  rw [Int.zero_mul, Int.zero_add] at hZ
  rw [hZ, hA]
  constructor
  · rw [Int.mul_comm, Int.mul_add_ediv_left _ _ (by omega), Int.ediv_eq_zero_of_lt r0 r1, Int.add_zero]
  · rw [Int.mul_comm, Int.mul_add_emod_self_left, Int.emod_eq_of_lt r0 r1]
theorem QInv.bounds {A b h l r : Int} {k : Nat} (H : QInv A b k h l r) : 0 ≤ h ∧ h ≤ 18446744073709551615 ∧ 0 ≤ l ∧ l ≤ 18446744073709551615 ∧ 0 ≤ r ∧ r < b := by
  obtain ⟨q, V, v0, v1, q0, q1, r0, r1, hA, hZ, h0, h1, l0, l1⟩ := H
  exact ⟨h0, h1, l0, l1, r0, r1⟩

theorem QInv.step {A b h l r : Int} {k : Nat} (hk : k < 128) (H : QInv A b k h l r) (d : Int) (hd : d = 0 ∨ d = 1)
    (hlo : 0 ≤ 2 * r + h / 9223372036854775808 - d * b) (hhi : 2 * r + h / 9223372036854775808 - d * b < b) :
    QInv A b (k + 1) (2 * h % 18446744073709551616 + l / 9223372036854775808) (2 * l % 18446744073709551616 + d) (2 * r + h / 9223372036854775808 - d * b) := by
  obtain ⟨q, V, v0, v1, q0, q1, r0, r1, hA, hZ, h0, h1, l0, l1⟩ := H
  have hT := pow_pos' (128 - (k + 1))
  have hP := pow_pos' k
  have eT : (2 : Int) ^ (128 - k) = 2 ^ (128 - (k + 1)) * 2 := by rw [← Int.pow_succ, show (128 - (k + 1)).succ = 128 - k by omega]
  have eP : (2 : Int) ^ (k + 1) = 2 ^ k * 2 := Int.pow_succ _ _
  have eTP : (2 : Int) ^ k * 2 ^ (128 - (k + 1)) = 170141183460469231731687303715884105728 := by
    rw [← Int.pow_add, show k + (128 - (k + 1)) = 127 by omega]; rfl
  rw [eT] at v1 hA
  unfold QInv
  generalize (2 : Int) ^ (128 - (k + 1)) = T at *
  generalize (2 : Int) ^ k = P at *
  -- the bit that goes over
  have hV : V = V / T * T + V % T := by have := Int.mul_ediv_add_emod V T; rw [Int.mul_comm] at this; exact this.symm
  have w0 : 0 ≤ V % T := Int.emod_nonneg _ (by omega)
  have w1 : V % T < T := Int.emod_lt_of_pos _ hT
  have b0 : 0 ≤ V / T := Int.ediv_nonneg v0 (by omega)
  have b1 : V / T < 2 := Int.ediv_lt_of_lt_mul hT (by rw [Int.mul_comm]; exact v1)
  generalize V / T = t at *
  generalize V % T = V' at *
  subst hV
  have hZ2 : (t * T + V') * P = t * 170141183460469231731687303715884105728 + V' * P := by rw [Int.add_mul, Int.mul_assoc, Int.mul_comm T P, eTP]
  rw [hZ2] at hZ
  have hVP : V' * P ≤ (T - 1) * P := Int.mul_le_mul_of_nonneg_right (by omega) (by omega)
  rw [Int.sub_mul, Int.mul_comm T P, eTP, Int.one_mul] at hVP
  have hVP0 : 0 ≤ V' * P := Int.mul_nonneg w0 (by omega)
  have ht : h / 9223372036854775808 = t := by
    generalize V' * P = y at *
    omega
  rw [ht] at hlo hhi ⊢
  refine ⟨2 * q + d, V', w0, w1, by omega, by rw [eP]; omega, hlo, hhi, ?_, ?_, by omega, by omega, by omega, by omega⟩
  · rw [hA]
    have e1 : (2 * q + d) * b + (2 * r + t - d * b) = 2 * (q * b) + (2 * r + t) := by rw [Int.add_mul, Int.mul_assoc]; omega
    rw [e1]
    generalize q * b = X
    have e2 : (X + r) * (T * 2) = 2 * ((X + r) * T) := by rw [← Int.mul_assoc, Int.mul_comm]
    have e3 : (2 * X + (2 * r + t)) * T = 2 * ((X + r) * T) + t * T := by rw [show 2 * X + (2 * r + t) = 2 * (X + r) + t by omega, Int.add_mul, Int.mul_assoc]
    rw [e2, e3]
    omega
  · rw [eP]
    have e4 : V' * (P * 2) = 2 * (V' * P) := by rw [← Int.mul_assoc, Int.mul_comm]
    rw [e4]
    generalize V' * P = y at *
    rcases hd with rfl | rfl <;> omega

theorem or_dbl (r t : Int) (r0 : 0 ≤ r) (r1 : r ≤ 9223372036854775807) (t0 : 0 ≤ t) (t1 : t ≤ 1) : bits .or .u64 (r * 2) t = 2 * r + t := by
  rw [or_u64 1 (r * 2) t (by omega) (by omega) (by omega) t0 (by omega) (by omega)]; omega
theorem or_dbl' (r t : Int) (t0 : 0 ≤ t) (t1 : t ≤ 1) : bits .or .u64 (IntKind.u64.wrap (r * 2)) t = 2 * r % 18446744073709551616 + t := by
  rw [IntKind.wrap_u64, or_u64 1 (r * 2 % 18446744073709551616) t (by omega) (by omega) (by omega) t0 (by omega) (by omega)]; omega

/-! ### Mul: what the upper half has too often -/
theorem mul_signs (x y X Y : Int) (hX : (0 ≤ x ∧ X = x) ∨ (x < 0 ∧ X = x + 18446744073709551616)) (hY : (0 ≤ y ∧ Y = y) ∨ (y < 0 ∧ Y = y + 18446744073709551616)) :
    ∃ z : Int, X * Y = x * y + (z + (if x < 0 then Y else 0) + (if y < 0 then X else 0)) * 18446744073709551616 ∧ z % 18446744073709551616 = 0 := by
  rcases hX with ⟨h, rfl⟩ | ⟨h, rfl⟩ <;> rcases hY with ⟨h', rfl⟩ | ⟨h', rfl⟩
  · refine ⟨0, ?_, by decide⟩
    rw [if_neg (by omega), if_neg (by omega)]; omega
  · refine ⟨0, ?_, by decide⟩
    rw [if_neg (by omega), if_pos h', Int.mul_add]; omega
  · refine ⟨0, ?_, by decide⟩
    rw [if_pos h, if_neg (by omega), Int.add_mul]; omega
  · refine ⟨-18446744073709551616, ?_, by decide⟩
    rw [if_pos h, if_pos h', Int.add_mul, Int.mul_add, Int.mul_add]; omega
theorem mul_hi {x y X Y p r u : Int} (hp : X * Y / 18446744073709551616 = p) (hr : X * Y % 18446744073709551616 = r)
    (hm : ∃ z : Int, X * Y = x * y + (z + (if x < 0 then Y else 0) + (if y < 0 then X else 0)) * 18446744073709551616 ∧ z % 18446744073709551616 = 0)
    (hu : (u - (p - (if x < 0 then Y else 0) - (if y < 0 then X else 0))) % 18446744073709551616 = 0) (h0 : -9223372036854775808 ≤ u) (h1 : u ≤ 9223372036854775807) : u = hi (x * y) := by
  obtain ⟨z, hz, hz0⟩ := hm
  generalize (if x < 0 then Y else 0) = s at *
  generalize (if y < 0 then X else 0) = t at *
  generalize X * Y = q at *
  generalize x * y = m at *
  unfold hi
  omega
theorem mul_lo {x y X Y r : Int} (hr : X * Y % 18446744073709551616 = r) (hm : ∃ z : Int, X * Y = x * y + (z + (if x < 0 then Y else 0) + (if y < 0 then X else 0)) * 18446744073709551616 ∧ z % 18446744073709551616 = 0) : r = lo (x * y) := by
  obtain ⟨z, hz, hz0⟩ := hm
  unfold lo
  omega

/-! ### What Div answers, by the words of Lean's own division towards 0 -/
theorem tdiv_cases (a b : Int) :
    (0 ≤ a → 0 < b → a.tdiv b = a / b ∧ a.tmod b = a % b) ∧ (0 ≤ a → b < 0 → a.tdiv b = -(a / -b) ∧ a.tmod b = a % -b) ∧
    (a < 0 → 0 < b → a.tdiv b = -(-a / b) ∧ a.tmod b = -(-a % b)) ∧ (a < 0 → b < 0 → a.tdiv b = -a / -b ∧ a.tmod b = -(-a % -b)) := by
  refine ⟨fun h0 h1 => ⟨Int.tdiv_eq_ediv_of_nonneg h0, Int.tmod_eq_emod_of_nonneg h0⟩, fun h0 h1 => ⟨?_, ?_⟩, fun h0 h1 => ⟨?_, ?_⟩, fun h0 h1 => ⟨?_, ?_⟩⟩
  · have : a.tdiv b = -(a.tdiv (-b)) := by rw [Int.tdiv_neg, Int.neg_neg]
    rw [this, Int.tdiv_eq_ediv_of_nonneg h0]
  · rw [← Int.tmod_neg, Int.tmod_eq_emod_of_nonneg h0]
  · have : a.tdiv b = -((-a).tdiv b) := by rw [Int.neg_tdiv, Int.neg_neg]
    rw [this, Int.tdiv_eq_ediv_of_nonneg (by omega)]
  · have : a.tmod b = -((-a).tmod b) := by rw [Int.neg_tmod, Int.neg_neg]
    rw [this, Int.tmod_eq_emod_of_nonneg (by omega)]
  · have : a.tdiv b = (-a).tdiv (-b) := by rw [Int.neg_tdiv, Int.tdiv_neg, Int.neg_neg]
    rw [this, Int.tdiv_eq_ediv_of_nonneg (by omega)]
  · have : a.tmod b = -((-a).tmod (-b)) := by rw [Int.neg_tmod, Int.tmod_neg, Int.neg_neg]
    rw [this, Int.tmod_eq_emod_of_nonneg (by omega)]

end Go.Proofs.Ytmedemniopgpeaa
