/- Plain facts on vectors: products, the length, what is clamped; no function of the program is named here. -/
import Derived.Test.YtmedemniopgpeaaFixMath
import Derived.Test.YtmedemniopgpeaaRootMath
namespace Go.Proofs.Ytmedemniopgpeaa

/-- A product, to the nearest part. -/
def prod (a b : Int) : Int := near (a * b) 32
theorem prod_bd {a b : Int} (ha : Half a) (hb : Half b) : -19807040628566084398385987584 ≤ prod a b ∧ prod a b ≤ 19807040628566084398385987584 := by
  have := product_le ha hb
  unfold prod
  rw [near32]
  omega
theorem prod_fits {a b : Int} (ha : Half a) (hb : Half b) : Fits (prod a b) := by have := prod_bd ha hb; unfold Fits; omega
theorem prod_comm (a b : Int) : prod a b = prod b a := by unfold prod; rw [Int.mul_comm]
theorem area_fits {a b c d : Int} (ha : Half a) (hb : Half b) (hc : Half c) (hd : Half d) : Fits (prod a b + -prod c d) := by
  have := prod_bd ha hb
  have := prod_bd hc hd
  unfold Fits
  omega
/-- The sum of the products of two vectors' axes. -/
def dot (a b c x y z : Int) : Int := prod a x + prod b y + prod c z
theorem dot_fits {a b c x y z : Int} (ha : Half a) (hb : Half b) (hc : Half c) (hx : Half x) (hy : Half y) (hz : Half z) : Fits (dot a b c x y z) := by
  have := prod_bd ha hx
  have := prod_bd hb hy
  have := prod_bd hc hz
  unfold Fits dot
  omega
theorem dot_comm (a b c x y z : Int) : dot a b c x y z = dot x y z a b c := by unfold dot; rw [prod_comm a, prod_comm b, prod_comm c]
/-- The squares' sum. -/
def squares (a b c : Int) : Int := a * a + b * b + c * c
theorem sq_half {a : Int} (ha : Half a) : 0 ≤ a * a ∧ a * a ≤ 85070591730234615865843651857942052864 := by
  have := product_le ha ha
  refine ⟨?_, this.2⟩
  rcases Int.lt_or_le a 0 with h | h
  · rw [← Int.neg_mul_neg]; exact Int.mul_nonneg (by omega) (by omega)
  · exact Int.mul_nonneg h h
theorem squares_bd {a b c : Int} (ha : Half a) (hb : Half b) (hc : Half c) : 0 ≤ squares a b c ∧ squares a b c ≤ 255211775190703847597530955573826158592 := by
  have := sq_half ha
  have := sq_half hb
  have := sq_half hc
  unfold squares
  omega
/-- The length's root, not yet saturated. -/
def len (a b c : Int) : Int := root (squares a b c)
theorem len_root {a b c : Int} (ha : Half a) (hb : Half b) (hc : Half c) : IsRoot (squares a b c) (len a b c) :=
  isRoot_root (squares_bd ha hb hc).1 (by have := (squares_bd ha hb hc).2; omega)
theorem len_lo {a b c : Int} (ha : Half a) (hb : Half b) (hc : Half c) : 0 ≤ len a b c := (len_root ha hb hc).1
theorem len_hi {a b c : Int} (ha : Half a) (hb : Half b) (hc : Half c) : len a b c ≤ 18446744073709551615 :=
  (len_root ha hb hc).le (by decide) (by have := (squares_bd ha hb hc).2; omega)
theorem len_fits {a b c : Int} (ha : Half a) (hb : Half b) (hc : Half c) : Fits (len a b c) := by
  have := len_lo ha hb hc
  have := len_hi ha hb hc
  unfold Fits
  omega
/-- A sum of squares that is too much for 127 bits has a root that is too much for 63. -/
theorem len_over {a b c : Int} (ha : Half a) (hb : Half b) (hc : Half c) (h : 170141183460469231731687303715884105728 ≤ squares a b c) : 9223372036854775807 < len a b c := by
  obtain ⟨h0, h1, h2⟩ := len_root ha hb hc
  rcases Int.lt_or_le 9223372036854775807 (len a b c) with k | k
  · exact k
  · have := sq_le (show 0 ≤ len a b c + 1 by omega) (show len a b c + 1 ≤ 9223372036854775808 by omega)
    omega
/-- A number without its sign. -/
def bare (a : Int) : Int := if a < 0 then -a else a
theorem bare_sq (a : Int) : bare a * bare a = a * a := by
  unfold bare
  split
  · exact Int.neg_mul_neg a a
  · rfl
theorem bare_bd {a : Int} (ha : Half a) : 0 ≤ bare a ∧ bare a ≤ 9223372036854775808 := by unfold Half at ha; unfold bare; split <;> omega
theorem bare_neg (a : Int) : bare (-a) = bare a := by unfold bare; split <;> split <;> omega
/-- The greatest of three numbers without their signs, saturated. -/
def greatest (a b c : Int) : Int := min (max (max (bare a) (bare b)) (bare c)) 9223372036854775807
theorem bare_le_len {a b c : Int} (ha : Half a) (hb : Half b) (hc : Half c) : bare a ≤ len a b c ∧ bare b ≤ len a b c ∧ bare c ≤ len a b c := by
  obtain ⟨h0, h1, h2⟩ := len_root ha hb hc
  have qa := sq_half ha
  have qb := sq_half hb
  have qc := sq_half hc
  unfold squares at h2
  refine ⟨le_of_sq h0 ?_, le_of_sq h0 ?_, le_of_sq h0 ?_⟩
  all_goals
    rw [bare_sq]
    omega
theorem squares_neg (a b c : Int) : squares (-a) (-b) (-c) = squares a b c := by unfold squares; rw [Int.neg_mul_neg, Int.neg_mul_neg, Int.neg_mul_neg]
theorem len_neg (a b c : Int) : len (-a) (-b) (-c) = len a b c := by unfold len; rw [squares_neg]
/-- What the bounds of a clamp come to. -/
def bound (m : Int) : Int := max m 0
theorem bound_half {m : Int} (h : Half m) : Half (bound m) ∧ Half (-bound m) ∧ 0 ≤ bound m := by unfold Half at *; unfold bound; omega
theorem clamp_within {a m : Int} (h : 0 ≤ m) : -m ≤ clamp a (-m) m ∧ clamp a (-m) m ≤ m := by
  unfold clamp
  split
  · omega
  · split
    · omega
    · split <;> omega
theorem clamped_iff {a m : Int} (h : 0 ≤ m) : clamped a (-m) m = !(decide (a ≤ m) && decide (-m ≤ a)) := by
  unfold clamped
  rw [decide_eq_false (show ¬ m < -m by omega), Bool.false_or, Bool.eq_iff_iff]
  simp only [Bool.or_eq_true, decide_eq_true_eq, Bool.not_eq_true', Bool.and_eq_false_iff, decide_eq_false_iff_not]
  omega
theorem clamp_in {a m : Int} (h0 : a ≤ m) (h1 : -m ≤ a) : clamp a (-m) m = a := by
  unfold clamp
  rw [if_neg (by omega), if_neg (by omega), if_neg (by omega)]

end Go.Proofs.Ytmedemniopgpeaa
