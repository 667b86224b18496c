/- Plain facts on a product, a rest and a quotient; no function of the program is named here. -/
import Derived.Test.YtmedemniopgpeaaDivMath
namespace Go.Proofs.Ytmedemniopgpeaa

/-- A product of two numbers of 64 bits, and a rest. -/
def Small (A : Int) : Prop := -85070591730234615875067023894796828672 ≤ A ∧ A ≤ 85070591730234615875067023894796828672
theorem Small.fits {A : Int} (h : Small A) : Fits A := by unfold Small at h; unfold Fits; omega

/-- What the walk wants to know of a rest of the product's sign, and of the quotient by it. -/
theorem back_facts (q b r : Int) (hq : Half q) (hb : Half b) (hr : Half r) (hz : b ≠ 0) :
    (-9223372036854775808 ≤ r.tmod b ∧ r.tmod b ≤ 9223372036854775807) ∧ Small (q * b) ∧ Small (q * b + r.tmod b) := by
  unfold Half at hq hb hr
  have h1 : -9223372036854775808 ≤ r.tmod b ∧ r.tmod b ≤ 9223372036854775807 := by
    have h := tdiv_cases r b
    rcases Int.lt_or_le r 0 with h0 | h0 <;> rcases Int.lt_or_le b 0 with h1 | h1
    · rw [(h.2.2.2 h0 h1).2]; have := Int.emod_nonneg (-r) (show -b ≠ 0 by omega); have := Int.emod_lt_of_pos (-r) (show 0 < -b by omega); omega
    · rw [(h.2.2.1 h0 (by omega)).2]; have := Int.emod_nonneg (-r) hz; have := Int.emod_lt_of_pos (-r) (show 0 < b by omega); omega
    · rw [(h.2.1 h0 h1).2]; have := Int.emod_nonneg r (show -b ≠ 0 by omega); have := Int.emod_lt_of_pos r (show 0 < -b by omega); omega
    · rw [(h.1 h0 (by omega)).2]; have := Int.emod_nonneg r hz; have := Int.emod_lt_of_pos r (show 0 < b by omega); omega
  have h2 : -85070591730234615865843651857942052864 ≤ q * b ∧ q * b ≤ 85070591730234615865843651857942052864 := by
    rcases Int.lt_or_le q 0 with h0 | h0 <;> rcases Int.lt_or_le b 0 with h1 | h1
    · have e : q * b = -q * -b := by rw [Int.neg_mul_neg]
      have := Int.mul_le_mul (show -q ≤ 9223372036854775808 by omega) (show -b ≤ 9223372036854775808 by omega) (by omega) (by decide)
      have := Int.mul_nonneg (show 0 ≤ -q by omega) (show 0 ≤ -b by omega)
      omega
    · have e : q * b = -(-q * b) := by rw [Int.neg_mul, Int.neg_neg]
      have := Int.mul_le_mul (show -q ≤ 9223372036854775808 by omega) (show b ≤ 9223372036854775808 by omega) h1 (by decide)
      have := Int.mul_nonneg (show 0 ≤ -q by omega) h1
      omega
    · have e : q * b = -(q * -b) := by rw [Int.mul_neg, Int.neg_neg]
      have := Int.mul_le_mul (show q ≤ 9223372036854775808 by omega) (show -b ≤ 9223372036854775808 by omega) (by omega) (by decide)
      have := Int.mul_nonneg h0 (show 0 ≤ -b by omega)
      omega
    · have := Int.mul_le_mul (show q ≤ 9223372036854775808 by omega) (show b ≤ 9223372036854775808 by omega) h1 (by decide)
      have := Int.mul_nonneg h0 h1
      omega
  unfold Small
  refine ⟨h1, ?_, ?_⟩ <;> omega
/-- Quotient and rest of A by b, b not 0. -/
theorem quo_facts (A b : Int) (hA : Small A) (hz : b ≠ 0) :
    Small (A.tdiv b) ∧ A.tdiv b * b + A.tmod b = A ∧ (A.tmod b = 0 ∨ (A.tmod b < 0 ∧ A < 0) ∨ (0 < A.tmod b ∧ 0 < A)) ∧
      (0 < b → -b < A.tmod b ∧ A.tmod b < b) ∧ (b < 0 → b < A.tmod b ∧ A.tmod b < -b) := by
  unfold Small at hA
  have hm : A.tdiv b * b + A.tmod b = A := by rw [Int.mul_comm]; exact Int.mul_tdiv_add_tmod A b
  have h := tdiv_cases A b
  have g : Small (A.tdiv b) ∧ (A.tmod b = 0 ∨ (A.tmod b < 0 ∧ A < 0) ∨ (0 < A.tmod b ∧ 0 < A)) ∧ (0 < b → -b < A.tmod b ∧ A.tmod b < b) ∧ (b < 0 → b < A.tmod b ∧ A.tmod b < -b) := by
    unfold Small
    rcases Int.lt_or_le A 0 with h0 | h0 <;> rcases Int.lt_or_le b 0 with h1 | h1
    · rw [(h.2.2.2 h0 h1).1, (h.2.2.2 h0 h1).2]
      have := Int.ediv_nonneg (show 0 ≤ -A by omega) (show 0 ≤ -b by omega)
      have := Int.ediv_le_self (-b) (show 0 ≤ -A by omega)
      have := Int.emod_nonneg (-A) (show -b ≠ 0 by omega)
      have := Int.emod_lt_of_pos (-A) (show 0 < -b by omega)
      refine ⟨⟨by omega, by omega⟩, by omega, fun _ => ⟨by omega, by omega⟩, fun _ => ⟨by omega, by omega⟩⟩
    · rw [(h.2.2.1 h0 (by omega)).1, (h.2.2.1 h0 (by omega)).2]
      have := Int.ediv_nonneg (show 0 ≤ -A by omega) h1
      have := Int.ediv_le_self b (show 0 ≤ -A by omega)
      have := Int.emod_nonneg (-A) hz
      have := Int.emod_lt_of_pos (-A) (show 0 < b by omega)
      refine ⟨⟨by omega, by omega⟩, by omega, fun _ => ⟨by omega, by omega⟩, fun _ => ⟨by omega, by omega⟩⟩
    · rw [(h.2.1 h0 h1).1, (h.2.1 h0 h1).2]
      have := Int.ediv_nonneg h0 (show 0 ≤ -b by omega)
      have := Int.ediv_le_self (-b) h0
      have := Int.emod_nonneg A (show -b ≠ 0 by omega)
      have := Int.emod_lt_of_pos A (show 0 < -b by omega)
      have z : A = 0 → A % -b = 0 := fun e => by rw [e, Int.zero_emod]
      refine ⟨⟨by omega, by omega⟩, by omega, fun _ => ⟨by omega, by omega⟩, fun _ => ⟨by omega, by omega⟩⟩
    · rw [(h.1 h0 (by omega)).1, (h.1 h0 (by omega)).2]
      have := Int.ediv_nonneg h0 h1
      have := Int.ediv_le_self b h0
      have := Int.emod_nonneg A hz
      have := Int.emod_lt_of_pos A (show 0 < b by omega)
      have z : A = 0 → A % b = 0 := fun e => by rw [e, Int.zero_emod]
      refine ⟨⟨by omega, by omega⟩, by omega, fun _ => ⟨by omega, by omega⟩, fun _ => ⟨by omega, by omega⟩⟩
  exact ⟨g.1, hm, g.2.1, g.2.2.1, g.2.2.2⟩
theorem sgn_neg (A : Int) : decide (sgn A < 0) = decide (A < 0) := by
  rw [Bool.eq_iff_iff]
  simp only [decide_eq_true_eq]
  unfold sgn
  split
  · omega
  · split <;> omega
theorem clipped_in (P : Int) (h : cut P = false) : clipped P = P := by
  unfold cut at h
  have := of_decide_eq_false h
  unfold clipped
  omega
theorem clipped_half (P : Int) : Half (clipped P) := by unfold Half clipped; omega
theorem cut_cases (P : Int) : cut P = true ∨ cut P = false := by cases cut P <;> simp

end Go.Proofs.Ytmedemniopgpeaa
