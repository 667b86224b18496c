/- Two numbers, shifted alike until the greater one is within the bounds; and the angle of any two. -/
import Derived.Test.YtneljefoglmldaaDoorTurnSpin
import Derived.Test.YtneljefoglmldaaDoorTurnQ
namespace Go.Proofs.YtneljefoglmldaaDoor
open Go.RowKit
set_option linter.unusedVariables false

def lower : Nat → Int → Int → Int × Int
  | 0, x, y => (x, y)
  | n + 1, x, y => if 2305843009213693951 < grt x y then lower n (x / 2) (y / 2) else (x, y)
def raise : Nat → Int → Int → Int × Int
  | 0, x, y => (x, y)
  | n + 1, x, y => if grt x y < 1152921504606846976 then raise n (2 * x) (2 * y) else (x, y)
def lev (x y : Int) : Int × Int := raise 60 (lower 3 x y).1 (lower 3 x y).2
/-- The angle of x (not below 0) and y. -/
def angOf (x y : Int) : Int := (angAt (lev x y).1 (lev x y).2 30).2.2
/-- The angle of y and x. -/
def angA (y x : Int) : Int := if y = 0 ∧ x = 0 then 0 else if x < 0 then (2147483648 + angOf (oppo x) (oppo y)) % 4294967296 else (0 + angOf x y) % 4294967296
theorem grt_two (x y : Int) : grt (2 * x) (2 * y) = 2 * grt x y := by
  unfold grt
  split <;> split <;> omega
theorem grt_is (x y : Int) (h : 0 ≤ x) : x ≤ grt x y ∧ y ≤ grt x y ∧ -y ≤ grt x y ∧ (grt x y = x ∨ grt x y = y ∨ grt x y = -y) := by
  unfold grt
  split <;> omega
/-- On the way down, and on the way up. -/
def Low (L : Int × Int) (n : Nat) (x y : Int) : Prop := n ≤ 3 ∧ lower n x y = L ∧ 0 ≤ x ∧ x < 1152921504606846976 * 2 ^ n ∧ -(1152921504606846976 * 2 ^ n) ≤ y ∧ y < 1152921504606846976 * 2 ^ n ∧ 1 ≤ grt x y
def Rise (L : Int × Int) (n : Nat) (x y : Int) : Prop := n ≤ 60 ∧ raise n x y = L ∧ 0 ≤ x ∧ 1 ≤ grt x y ∧ grt x y ≤ 2305843009213693951 ∧ 1152921504606846976 ≤ grt x y * 2 ^ n
theorem pow_3 {n : Nat} (h : n ≤ 3) : (2 : Int) ^ n ≤ 8 := by
  match n, h with
  | 0, _ | 1, _ | 2, _ | 3, _ => decide
theorem Low.bd {L : Int × Int} {n : Nat} {x y : Int} (h : Low L n x y) : (0 ≤ x ∧ x ≤ 9223372036854775807) ∧ Half y ∧ 1 ≤ grt x y := by
  obtain ⟨h0, h1, h2, h3, h4, h5, h6⟩ := h
  have := pow_3 h0
  unfold Half
  omega
theorem Low.start {x y : Int} (hx : 0 ≤ x ∧ x ≤ 9223372036854775807) (hy : Half y) (h : ¬ (y = 0 ∧ x = 0)) : Low (lower 3 x y) 3 x y := by
  unfold Half at hy
  refine ⟨Nat.le_refl _, rfl, hx.1, ?_, ?_, ?_, ?_⟩
  · rw [show (2 : Int) ^ 3 = 8 from rfl]; omega
  · rw [show (2 : Int) ^ 3 = 8 from rfl]; omega
  · rw [show (2 : Int) ^ 3 = 8 from rfl]; omega
  · unfold grt; split <;> omega
theorem Low.step {L : Int × Int} {n : Nat} {x y : Int} (h : Low L n x y) (hg : 2305843009213693951 < grt x y) : ∃ m, n = m + 1 ∧ Low L m (x / 2) (y / 2) ∧ (x / 2).toNat + (y / 2).natAbs < x.toNat + y.natAbs := by
  obtain ⟨h0, h1, h2, h3, h4, h5, h6⟩ := h
  match n with
  | 0 =>
    rw [show (2 : Int) ^ 0 = 1 from rfl] at h3 h4 h5
    unfold grt at hg
    split at hg <;> omega
  | m + 1 =>
    rw [lower, if_pos hg] at h1
    rw [Int.pow_succ] at h3 h4 h5
    have hp := two_pow_pos m
    have e : 1152921504606846976 * ((2 : Int) ^ m * 2) = 2 * (1152921504606846976 * 2 ^ m) := by omega
    rw [e] at h3 h4 h5
    refine ⟨m, rfl, ⟨by omega, h1, by omega, by omega, by omega, by omega, ?_⟩, ?_⟩
    · unfold grt at hg ⊢
      split at hg <;> split <;> omega
    · unfold grt at hg
      split at hg <;> omega
theorem Low.stop {L : Int × Int} {n : Nat} {x y : Int} (h : Low L n x y) (hg : ¬ 2305843009213693951 < grt x y) : L = (x, y) ∧ Rise (raise 60 L.1 L.2) 60 x y := by
  obtain ⟨h0, h1, h2, h3, h4, h5, h6⟩ := h
  have e : L = (x, y) := by
    rw [← h1]
    match n with
    | 0 => rfl
    | m + 1 => rw [lower, if_neg hg]
  refine ⟨e, Nat.le_refl _, by rw [e], h2, h6, by omega, ?_⟩
  have := Int.mul_le_mul_of_nonneg_right h6 (show (0 : Int) ≤ 2 ^ 60 by decide)
  have e2 : (2 : Int) ^ 60 = 1152921504606846976 := by decide
  omega
theorem Rise.bd {L : Int × Int} {n : Nat} {x y : Int} (h : Rise L n x y) : (0 ≤ x ∧ x ≤ 2305843009213693951) ∧ (-2305843009213693951 ≤ y ∧ y ≤ 2305843009213693951) := by
  obtain ⟨h0, h1, h2, h3, h4, h5⟩ := h
  have := grt_is x y h2
  omega
theorem Rise.step {L : Int × Int} {n : Nat} {x y : Int} (h : Rise L n x y) (hg : grt x y < 1152921504606846976) : (∃ m, n = m + 1 ∧ Rise L m (2 * x) (2 * y)) ∧
    (4611686018427387904 - (2 * x + (2 * y).natAbs)).toNat < (4611686018427387904 - (x + y.natAbs)).toNat := by
  obtain ⟨h0, h1, h2, h3, h4, h5⟩ := h
  have hi := grt_is x y h2
  refine ⟨?_, by omega⟩
  match n with
  | 0 =>
    rw [show (2 : Int) ^ 0 = 1 from rfl] at h5
    omega
  | m + 1 =>
    rw [raise, if_pos hg] at h1
    refine ⟨m, rfl, by omega, h1, by omega, by rw [grt_two]; omega, by rw [grt_two]; omega, ?_⟩
    rw [grt_two]
    rw [Int.pow_succ] at h5
    have e : 2 * grt x y * 2 ^ m = grt x y * (2 ^ m * 2) := by grind
    omega
theorem Rise.stop {L : Int × Int} {n : Nat} {x y : Int} (h : Rise L n x y) (hg : ¬ grt x y < 1152921504606846976) : L = (x, y) ∧ Level x y := by
  have hb := h.bd
  obtain ⟨h0, h1, h2, h3, h4, h5⟩ := h
  have hi := grt_is x y h2
  refine ⟨?_, by unfold Level; omega⟩
  rw [← h1]
  match n with
  | 0 => rfl
  | m + 1 => rw [raise, if_neg hg]
theorem raise_level {L : Int × Int} : ∀ {n : Nat} {x y : Int}, Rise L n x y → Level L.1 L.2
  | 0, x, y, h => by
    by_cases hg : grt x y < 1152921504606846976
    · obtain ⟨⟨m, e, _⟩, _⟩ := h.step hg
      omega
    · obtain ⟨e, hl⟩ := h.stop hg
      rw [e]
      exact hl
  | n + 1, x, y, h => by
    by_cases hg : grt x y < 1152921504606846976
    · obtain ⟨⟨m, e, h'⟩, _⟩ := h.step hg
      obtain rfl : m = n := by omega
      exact raise_level h'
    · obtain ⟨e, hl⟩ := h.stop hg
      rw [e]
      exact hl
theorem low_level {L : Int × Int} : ∀ {n : Nat} {x y : Int}, Low L n x y → Level (raise 60 L.1 L.2).1 (raise 60 L.1 L.2).2
  | n, x, y, h => by
    by_cases hg : 2305843009213693951 < grt x y
    · match n with
      | 0 => obtain ⟨m, e, _⟩ := h.step hg; omega
      | n + 1 =>
        obtain ⟨m, e, h', _⟩ := h.step hg
        obtain rfl : m = n := by omega
        exact low_level h'
    · exact raise_level (h.stop hg).2
theorem lev_level {x y : Int} (hx : 0 ≤ x ∧ x ≤ 9223372036854775807) (hy : Half y) (h : ¬ (y = 0 ∧ x = 0)) : Level (lev x y).1 (lev x y).2 := low_level (Low.start hx hy h)
theorem oppo_bd {a : Int} (ha : Half a) : Half (oppo a) := by unfold Half oppo at *; omega
theorem clipped_neg {a : Int} (ha : Half a) : clipped (-a) = oppo a := by unfold Half at ha; unfold clipped oppo; omega
theorem angAt_facts (X Y : Int) (hL : Level X Y) (k : Nat) (hk : k < 30) : ∃ x y z t, angAt X Y k = (x, y, z) ∧ stp k = t ∧ (0 ≤ x ∧ x ≤ 9223372036854775000) ∧ (-9223372036854775100 ≤ y ∧ y ≤ 9223372036854775100) ∧ (1 ≤ t ∧ t ≤ 536870912) ∧ (-(536870912 * k) ≤ z ∧ z ≤ 536870912 * k) ∧
    ((0 ≤ y ∧ angAt X Y (k + 1) = (x + y / 2 ^ k, y - x / 2 ^ k, z + t) ∧ (0 ≤ x + y / 2 ^ k ∧ x + y / 2 ^ k ≤ 9223372036854775000) ∧ (-9223372036854775100 ≤ y - x / 2 ^ k ∧ y - x / 2 ^ k ≤ 9223372036854775100)) ∨
     (y < 0 ∧ angAt X Y (k + 1) = (x - y / 2 ^ k, y + x / 2 ^ k, z - t) ∧ (0 ≤ x - y / 2 ^ k ∧ x - y / 2 ^ k ≤ 9223372036854775000) ∧ (-9223372036854775100 ≤ y + x / 2 ^ k ∧ y + x / 2 ^ k ≤ 9223372036854775100))) := by
  have zb : ∀ n : Nat, n < 31 → -(536870912 * (n : Int)) ≤ (angAt X Y n).2.2 ∧ (angAt X Y n).2.2 ≤ 536870912 * n := by
    intro n
    induction n with
    | zero => intro _; show -(536870912 * (0 : Int)) ≤ 0 ∧ (0 : Int) ≤ 536870912 * 0; decide
    | succ n ih =>
      intro hn
      have ih := ih (by omega)
      have b := stp_bd n (by omega)
      rw [(ang_step X Y n).2.2, sgA]
      split <;> omega
  obtain ⟨x, y, z, e⟩ : ∃ x y z, angAt X Y k = (x, y, z) := ⟨_, _, _, rfl⟩
  have b1 := ang_small X Y hL k (by omega)
  have b3 := ang_small X Y hL (k + 1) (by omega)
  have b4 := stp_bd k hk
  have b5 := zb k (by omega)
  rw [e] at b1 b5
  refine ⟨x, y, z, stp k, e, rfl, ⟨b1.1, b1.2.1⟩, b1.2.2, b4, b5, ?_⟩
  rcases Int.lt_or_le y 0 with h | h
  · have e2 := angAt_no e h
    rw [e2] at b3
    exact Or.inr ⟨h, e2, ⟨b3.1, b3.2.1⟩, b3.2.2⟩
  · have e2 := angAt_yes e h
    rw [e2] at b3
    exact Or.inl ⟨h, e2, ⟨b3.1, b3.2.1⟩, b3.2.2⟩

end Go.Proofs.YtneljefoglmldaaDoor
