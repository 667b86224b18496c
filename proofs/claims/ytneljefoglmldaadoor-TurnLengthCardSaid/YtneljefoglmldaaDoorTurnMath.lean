/- Steps that turn two numbers: how long they stay, and which side of the axes. -/
import Derived.Test.YtneljefoglmldaaDoorBitsMath
namespace Go.Proofs.YtneljefoglmldaaDoor
set_option linter.unusedVariables false
set_option maxRecDepth 100000
/-- The angles of the steps. -/
def angles : List Int := [536870912, 316933406, 167458907, 85004756, 42667331, 21354465, 10679838, 5340245, 2670163, 1335087, 667544, 333772, 166886, 83443, 41722, 20861, 10430, 5215, 2608, 1304, 652, 326, 163, 81, 41, 20, 10, 5, 3, 1]
def stp (i : Nat) : Int := angles.getD i 0
theorem all_below {P : Nat → Prop} [DecidablePred P] (n : Nat) (h : (List.range n).all (fun i => decide (P i)) = true) (i : Nat) (hi : i < n) : P i :=
  of_decide_eq_true (List.all_eq_true.1 h i (List.mem_range.2 hi))
theorem stp_bd (i : Nat) (hi : i < 30) : 1 ≤ stp i ∧ stp i ≤ 536870912 := all_below (P := fun i => 1 ≤ stp i ∧ stp i ≤ 536870912) 30 (by decide +kernel) i hi

/-- x, y and what is left of a, behind so many steps. -/
def bothAt (a : Int) : Nat → Int × Int × Int
  | 0 => (2608131496, 0, a)
  | i + 1 => if 0 ≤ (bothAt a i).2.2 then ((bothAt a i).1 - (bothAt a i).2.1 / 2 ^ i, (bothAt a i).2.1 + (bothAt a i).1 / 2 ^ i, (bothAt a i).2.2 - stp i)
    else ((bothAt a i).1 + (bothAt a i).2.1 / 2 ^ i, (bothAt a i).2.1 - (bothAt a i).1 / 2 ^ i, (bothAt a i).2.2 + stp i)
theorem bothAt_yes {a x y z : Int} {i : Nat} (h : bothAt a i = (x, y, z)) (hz : 0 ≤ z) : bothAt a (i + 1) = (x - y / 2 ^ i, y + x / 2 ^ i, z - stp i) := by
  rw [bothAt, h, if_pos hz]
theorem bothAt_no {a x y z : Int} {i : Nat} (h : bothAt a i = (x, y, z)) (hz : z < 0) : bothAt a (i + 1) = (x + y / 2 ^ i, y - x / 2 ^ i, z + stp i) := by
  rw [bothAt, h, if_neg (by show ¬ 0 ≤ z; omega)]
/-- x, y and the angle, behind so many steps of the other kind. -/
def angAt (x y : Int) : Nat → Int × Int × Int
  | 0 => (x, y, 0)
  | i + 1 => if 0 ≤ (angAt x y i).2.1 then ((angAt x y i).1 + (angAt x y i).2.1 / 2 ^ i, (angAt x y i).2.1 - (angAt x y i).1 / 2 ^ i, (angAt x y i).2.2 + stp i)
    else ((angAt x y i).1 - (angAt x y i).2.1 / 2 ^ i, (angAt x y i).2.1 + (angAt x y i).1 / 2 ^ i, (angAt x y i).2.2 - stp i)
theorem angAt_yes {x0 y0 x y z : Int} {i : Nat} (h : angAt x0 y0 i = (x, y, z)) (hz : 0 ≤ y) : angAt x0 y0 (i + 1) = (x + y / 2 ^ i, y - x / 2 ^ i, z + stp i) := by
  rw [angAt, h, if_pos hz]
theorem angAt_no {x0 y0 x y z : Int} {i : Nat} (h : angAt x0 y0 i = (x, y, z)) (hz : y < 0) : angAt x0 y0 (i + 1) = (x - y / 2 ^ i, y + x / 2 ^ i, z - stp i) := by
  rw [angAt, h, if_neg (by show ¬ 0 ≤ y; omega)]

/-- Half-open parts: x over p. -/
theorem parts (x p : Int) (hp : 0 < p) : ∃ a f, x / p = a ∧ x = p * a + f ∧ 0 ≤ f ∧ f < p :=
  ⟨x / p, x % p, rfl, (Int.mul_ediv_add_emod x p).symm, Int.emod_nonneg x (by omega), Int.emod_lt_of_pos x hp⟩
theorem mul_bd {a b A B : Int} (ha : -A ≤ a ∧ a ≤ A) (hb : -B ≤ b ∧ b ≤ B) : -(A * B) ≤ a * b ∧ a * b ≤ A * B := by
  have h1 := Int.mul_nonneg (show 0 ≤ A - a by omega) (show 0 ≤ B + b by omega)
  have h2 := Int.mul_nonneg (show 0 ≤ A + a by omega) (show 0 ≤ B - b by omega)
  have h3 := Int.mul_nonneg (show 0 ≤ A - a by omega) (show 0 ≤ B - b by omega)
  have h4 := Int.mul_nonneg (show 0 ≤ A + a by omega) (show 0 ≤ B + b by omega)
  constructor <;> grind
theorem sq_le' {x B : Int} (hB : 0 ≤ B) (h : x * x ≤ B * B) : -B ≤ x ∧ x ≤ B := by
  constructor
  · rcases Int.lt_or_le x (-B) with h1 | h1
    · have := Int.mul_nonneg (show 0 ≤ -x - B - 1 by omega) (show 0 ≤ -x + B by omega)
      have : x * x - B * B ≥ -x + B := by grind
      omega
    · exact h1
  · rcases Int.lt_or_le B x with h1 | h1
    · have := Int.mul_nonneg (show 0 ≤ x - B - 1 by omega) (show 0 ≤ x + B by omega)
      have : x * x - B * B ≥ x + B := by grind
      omega
    · exact h1
theorem sq_nn (x : Int) : 0 ≤ x * x := by
  rcases Int.le_total 0 x with h | h
  · exact Int.mul_nonneg h h
  · have := Int.mul_nonneg (show 0 ≤ -x by omega) (show 0 ≤ -x by omega); grind

/-- The square of the length behind a step: times 1 + 4^-i, and a little. -/
theorem norm_step (x y p u : Int) (hp : 0 < p) (h1 : p = 1 ∨ 2 ≤ p) (hu : u = 1 ∨ u = -1) (B : Int) (hx : -B ≤ x ∧ x ≤ B) (hy : -B ≤ y ∧ y ≤ B) :
    -(p * p * (6 * B + 2)) ≤ p * p * ((x - u * (y / p)) * (x - u * (y / p)) + (y + u * (x / p)) * (y + u * (x / p))) - (p * p + 1) * (x * x + y * y) ∧
    p * p * ((x - u * (y / p)) * (x - u * (y / p)) + (y + u * (x / p)) * (y + u * (x / p))) - (p * p + 1) * (x * x + y * y) ≤ p * p * (6 * B + 2) := by
  obtain ⟨a, f, e1, e2, f0, f1⟩ := parts x p hp
  obtain ⟨b, g, e3, e4, g0, g1⟩ := parts y p hp
  rw [e1, e3]
  have hB : 0 ≤ B := by omega
  have e : p * p * ((x - u * b) * (x - u * b) + (y + u * a) * (y + u * a)) - (p * p + 1) * (x * x + y * y) = 2 * p * u * (g * x - f * y) - 2 * (x * f) - 2 * (y * g) + f * f + g * g := by
    have hu1 : u * u = 1 := by rcases hu with h | h <;> rw [h] <;> rfl
    grind
  rw [e]
  rcases h1 with h1 | h1
  · have f2 : f = 0 := by omega
    have g2 : g = 0 := by omega
    subst h1 f2 g2
    constructor <;> grind
  · have a1 := mul_bd hx (b := f) (B := p) (by omega)
    have a2 := mul_bd hy (b := g) (B := p) (by omega)
    have a3 := mul_bd hx (b := g) (B := p) (by omega)
    have a4 := mul_bd hy (b := f) (B := p) (by omega)
    have a5 := mul_bd (a := f) (b := f) (A := p) (B := p) (by omega) (by omega)
    have a6 := mul_bd (a := g) (b := g) (A := p) (B := p) (by omega) (by omega)
    have a7 := sq_nn f
    have a8 := sq_nn g
    have hpB := Int.mul_nonneg (show 0 ≤ p by omega) hB
    have hppB : 2 * (B * p) ≤ p * p * B := by
      have := Int.mul_nonneg (show 0 ≤ p - 2 by omega) hpB
      grind
    have a9 := mul_bd (a := u) (b := g * x - f * y) (A := 1) (B := 2 * (B * p)) (by omega) (by grind)
    have a10 : -(2 * (p * p * (2 * B))) ≤ 2 * p * u * (g * x - f * y) ∧ 2 * p * u * (g * x - f * y) ≤ 2 * (p * p * (2 * B)) := by
      have := mul_bd (a := p) (b := u * (g * x - f * y)) (A := p) (B := 2 * (B * p)) (by omega) (by omega)
      grind
    constructor <;> grind
/-- Which way the step i goes: of Both, and of Angle. -/
def sgB (a : Int) (i : Nat) : Int := if 0 ≤ (bothAt a i).2.2 then 1 else -1
def sgA (x y : Int) (i : Nat) : Int := if 0 ≤ (angAt x y i).2.1 then -1 else 1
theorem sgB_is (a : Int) (i : Nat) : sgB a i = 1 ∨ sgB a i = -1 := by unfold sgB; split <;> simp
theorem sgA_is (x y : Int) (i : Nat) : sgA x y i = 1 ∨ sgA x y i = -1 := by unfold sgA; split <;> simp
theorem both_step (a : Int) (i : Nat) : (bothAt a (i + 1)).1 = (bothAt a i).1 - sgB a i * ((bothAt a i).2.1 / 2 ^ i) ∧ (bothAt a (i + 1)).2.1 = (bothAt a i).2.1 + sgB a i * ((bothAt a i).1 / 2 ^ i) ∧ (bothAt a (i + 1)).2.2 = (bothAt a i).2.2 - sgB a i * stp i := by
  rw [bothAt, sgB]
  split <;> refine ⟨?_, ?_, ?_⟩ <;> simp <;> grind
theorem ang_step (x y : Int) (i : Nat) : (angAt x y (i + 1)).1 = (angAt x y i).1 - sgA x y i * ((angAt x y i).2.1 / 2 ^ i) ∧ (angAt x y (i + 1)).2.1 = (angAt x y i).2.1 + sgA x y i * ((angAt x y i).1 / 2 ^ i) ∧ (angAt x y (i + 1)).2.2 = (angAt x y i).2.2 - sgA x y i * stp i := by
  rw [angAt, sgA]
  split <;> refine ⟨?_, ?_, ?_⟩ <;> simp <;> grind
theorem two_pow_pos (i : Nat) : (0 : Int) < 2 ^ i := Int.pow_pos (by decide)
theorem two_pow_cases : ∀ i : Nat, (2 : Int) ^ i = 1 ∨ 2 ≤ (2 : Int) ^ i
  | 0 => Or.inl rfl
  | i + 1 => Or.inr (by have := two_pow_pos i; rw [Int.pow_succ]; omega)

/-- Bounds of the square of the length. -/
def nHi : Nat → Int
  | 0 => 2608131496 * 2608131496
  | i + 1 => nHi i + nHi i / (2 ^ i * 2 ^ i) + 25776095234
def nLo : Nat → Int
  | 0 => 2608131496 * 2608131496
  | i + 1 => nLo i + nLo i / (2 ^ i * 2 ^ i) - 25776095234
theorem nHi_bd (i : Nat) (hi : i < 31) : nHi i ≤ 4296015872 * 4296015872 := all_below (P := fun i => nHi i ≤ 4296015872 * 4296015872) 31 (by decide +kernel) i hi
theorem nHi_end : nHi 30 ≤ 18446744073709551616 + 1030792151040 := by decide +kernel
theorem nLo_end : 18446744073709551616 - 1030792151040 ≤ nLo 30 := by decide +kernel
theorem of_norm {x y : Int} {i : Nat} (hi : i < 31) (h : x * x + y * y ≤ nHi i) : (-4296015872 ≤ x ∧ x ≤ 4296015872) ∧ (-4296015872 ≤ y ∧ y ≤ 4296015872) := by
  have h1 := nHi_bd i hi
  have h2 := sq_nn x
  have h3 := sq_nn y
  exact ⟨sq_le' (by decide) (by omega), sq_le' (by decide) (by omega)⟩
theorem both_norm (a : Int) : ∀ i, i < 31 → nLo i ≤ (bothAt a i).1 * (bothAt a i).1 + (bothAt a i).2.1 * (bothAt a i).2.1 ∧ (bothAt a i).1 * (bothAt a i).1 + (bothAt a i).2.1 * (bothAt a i).2.1 ≤ nHi i
  | 0, _ => ⟨by show 2608131496 * 2608131496 ≤ (2608131496 * 2608131496 : Int) + 0 * 0; decide, by show (2608131496 * 2608131496 : Int) + 0 * 0 ≤ 2608131496 * 2608131496; decide⟩
  | i + 1, hi => by
    have ih := both_norm a i (by omega)
    obtain ⟨s1, s2, _⟩ := both_step a i
    rw [s1, s2]
    have bd := of_norm (i := i) (by omega) ih.2
    have hp := two_pow_pos i
    have ns := norm_step (bothAt a i).1 (bothAt a i).2.1 (2 ^ i) (sgB a i) hp (two_pow_cases i) (sgB_is a i) 4296015872 bd.1 bd.2
    have hpp := Int.mul_pos hp hp
    rw [nLo, nHi]
    generalize (bothAt a i).1 * (bothAt a i).1 + (bothAt a i).2.1 * (bothAt a i).2.1 = N at ih ns
    generalize ((bothAt a i).1 - sgB a i * ((bothAt a i).2.1 / 2 ^ i)) * ((bothAt a i).1 - sgB a i * ((bothAt a i).2.1 / 2 ^ i)) + ((bothAt a i).2.1 + sgB a i * ((bothAt a i).1 / 2 ^ i)) * ((bothAt a i).2.1 + sgB a i * ((bothAt a i).1 / 2 ^ i)) = N' at ns ⊢
    generalize (2 : Int) ^ i * 2 ^ i = q at ns hpp ⊢
    obtain ⟨k1, r1, e1, e2, f0, f1⟩ := parts (nLo i) q hpp
    obtain ⟨k2, r2, e3, e4, g0, g1⟩ := parts (nHi i) q hpp
    rw [e1, e3]
    constructor
    · have : q * k1 ≤ q * (N' - N + 25776095234) := by grind
      have := Int.le_of_mul_le_mul_left this hpp
      omega
    · have : q * (N' - N - 25776095234) < q * (k2 + 1) := by grind
      have := Int.lt_of_mul_lt_mul_left this (by omega)
      omega
theorem both_bd (a : Int) (i : Nat) (hi : i < 31) : (-4296015872 ≤ (bothAt a i).1 ∧ (bothAt a i).1 ≤ 4296015872) ∧ (-4296015872 ≤ (bothAt a i).2.1 ∧ (bothAt a i).2.1 ≤ 4296015872) := of_norm hi (both_norm a i hi).2
theorem left_bd (a : Int) (ha : 0 ≤ a ∧ a < 1073741824) : ∀ i, i < 31 → -1073741824 ≤ (bothAt a i).2.2 ∧ (bothAt a i).2.2 < 1073741824
  | 0, _ => by show -1073741824 ≤ a ∧ a < 1073741824; omega
  | i + 1, hi => by
    have ih := left_bd a ha i (by omega)
    have := stp_bd i (by omega)
    rw [(both_step a i).2.2, sgB]
    split <;> omega

/-- Whether both are above 0 in the end: by the ways that are near an axis. -/
def axis : Nat → Nat → Int → Int → Int → Int → Bool
  | 0, _, _, _, x, y => decide (1 ≤ x ∧ 1 ≤ y)
  | n + 1, i, lo, hi, x, y => decide (hi < lo) || (decide (2 ^ (34 - i) ≤ x ∧ 2 ^ (34 - i) ≤ y)) ||
    (axis n (i + 1) (max lo 0 - stp i) (hi - stp i) (x - y / 2 ^ i) (y + x / 2 ^ i) && axis n (i + 1) (lo + stp i) (min hi (-1) + stp i) (x + y / 2 ^ i) (y - x / 2 ^ i))
theorem axis_all : axis 30 0 0 1073741823 2608131496 0 = true := by decide +kernel
theorem far_stays (a : Int) (i : Nat) (hx : 2 ^ (34 - i) ≤ (bothAt a i).1) (hy : 2 ^ (34 - i) ≤ (bothAt a i).2.1) : ∀ j, i + j ≤ 30 → 2 ^ (34 - (i + j)) ≤ (bothAt a (i + j)).1 ∧ 2 ^ (34 - (i + j)) ≤ (bothAt a (i + j)).2.1
  | 0, _ => ⟨hx, hy⟩
  | j + 1, h => by
    have ih := far_stays a i hx hy j (by omega)
    have bd := both_bd a (i + j) (by omega)
    obtain ⟨s1, s2, _⟩ := both_step a (i + j)
    rw [show i + (j + 1) = i + j + 1 by omega, s1, s2]
    have hs := sgB_is a (i + j)
    have hk29 : i + j < 30 := by omega
    generalize i + j = k at *
    have hp := two_pow_pos k
    have hk : (2 : Int) ^ (34 - k) = 2 * 2 ^ (34 - (k + 1)) := by rw [show 34 - k = (34 - (k + 1)) + 1 by omega, Int.pow_succ]; omega
    have hq : (2 : Int) ^ k * 2 ^ (34 - (k + 1)) = 8589934592 := by rw [← Int.pow_add, show k + (34 - (k + 1)) = 33 by omega]; rfl
    rw [hk] at ih
    have hk30 : (2 : Int) ^ k ≤ 536870912 := by
      have : (2 : Int) ^ k * 2 ^ (29 - k) = 536870912 := by rw [← Int.pow_add, show k + (29 - k) = 29 by omega]; rfl
      have h1 := two_pow_pos (29 - k)
      have := Int.mul_le_mul_of_nonneg_left (show 1 ≤ (2 : Int) ^ (29 - k) by omega) (Int.le_of_lt hp)
      omega
    generalize (2 : Int) ^ (34 - (k + 1)) = t at ih hq ⊢
    generalize (2 : Int) ^ k = p at hp hq hk30 ⊢
    have key : ∀ v : Int, -4296015872 ≤ v ∧ v ≤ 4296015872 → -t ≤ v / p ∧ v / p ≤ t := by
      intro v hv
      obtain ⟨c, f, e1, e2, f0, f1⟩ := parts v p hp
      rw [e1]
      constructor
      · have : p * (-t) < p * (c + 1) := by grind
        have := Int.lt_of_mul_lt_mul_left this (by omega)
        omega
      · have : p * c ≤ p * t := by grind
        exact Int.le_of_mul_le_mul_left this hp
    have k1 := key _ bd.1
    have k2 := key _ bd.2
    rcases hs with hs | hs <;> rw [hs] <;> omega
theorem axis_end (a : Int) : ∀ n i lo hi, n + i = 30 → lo ≤ (bothAt a i).2.2 → (bothAt a i).2.2 ≤ hi → axis n i lo hi (bothAt a i).1 (bothAt a i).2.1 = true → 1 ≤ (bothAt a 30).1 ∧ 1 ≤ (bothAt a 30).2.1
  | 0, i, lo, hi, hn, h1, h2, h => by
    obtain rfl : i = 30 := by omega
    rw [axis] at h
    exact of_decide_eq_true h
  | n + 1, i, lo, hi, hn, h1, h2, h => by
    rw [axis, Bool.or_eq_true, Bool.or_eq_true, Bool.and_eq_true] at h
    rcases h with (h | h) | ⟨h, h'⟩
    · have := of_decide_eq_true h; omega
    · have h := of_decide_eq_true h
      have := far_stays a i h.1 h.2 (n + 1) (by omega)
      rw [show i + (n + 1) = 30 by omega] at this
      exact ⟨Int.le_trans (by decide) this.1, Int.le_trans (by decide) this.2⟩
    · obtain ⟨x, y, z, e⟩ : ∃ x y z, bothAt a i = (x, y, z) := ⟨_, _, _, rfl⟩
      rw [e] at h1 h2 h h'
      rcases Int.lt_or_le z 0 with hz | hz
      · have e' := bothAt_no e hz
        refine axis_end a n (i + 1) _ _ (by omega) ?_ ?_ (by rw [e']; exact h') <;> rw [e'] <;> simp at h1 h2 ⊢ <;> omega
      · have e' := bothAt_yes e hz
        refine axis_end a n (i + 1) _ _ (by omega) ?_ ?_ (by rw [e']; exact h) <;> rw [e'] <;> simp at h1 h2 ⊢ <;> omega
theorem both_pos (a : Int) (ha : 0 ≤ a ∧ a < 1073741824) : 1 ≤ (bothAt a 30).1 ∧ 1 ≤ (bothAt a 30).2.1 :=
  axis_end a 30 0 0 1073741823 rfl ha.1 (by show a ≤ 1073741823; omega) axis_all
/-- Cosine and sine of a rest. -/
def cosOf (a : Int) : Int := min (bothAt a 30).1 4294967296
def sinOf (a : Int) : Int := min (bothAt a 30).2.1 4294967296
theorem cos_sin (a : Int) (ha : 0 ≤ a ∧ a < 1073741824) : 1 ≤ cosOf a ∧ cosOf a ≤ 4294967296 ∧ 1 ≤ sinOf a ∧ sinOf a ≤ 4294967296 ∧ (bothAt a 30).1 - 120 ≤ cosOf a ∧ cosOf a ≤ (bothAt a 30).1 ∧ (bothAt a 30).2.1 - 120 ≤ sinOf a ∧ sinOf a ≤ (bothAt a 30).2.1 ∧
    18446744073709551616 - 1030792151040 ≤ cosOf a * cosOf a + sinOf a * sinOf a ∧ cosOf a * cosOf a + sinOf a * sinOf a ≤ 18446744073709551616 + 1030792151040 := by
  have hp := both_pos a ha
  have hn := both_norm a 30 (by decide)
  have n1 := nLo_end
  have n2 := nHi_end
  unfold cosOf sinOf
  generalize (bothAt a 30).1 = x at *
  generalize (bothAt a 30).2.1 = y at *
  have hx := sq_le' (x := x) (B := 4294967416) (by decide) (by have := sq_nn y; omega)
  have hy := sq_le' (x := y) (B := 4294967416) (by decide) (by have := sq_nn x; omega)
  have key : ∀ v : Int, 1 ≤ v → v ≤ 4294967416 → (v ≤ 4294967296 ∧ min v 4294967296 = v) ∨ (4294967296 < v ∧ min v 4294967296 = 4294967296 ∧ 18446744073709551616 ≤ v * v) := by
    intro v h1 h2
    rcases Int.lt_or_le 4294967296 v with h | h
    · exact Or.inr ⟨h, by omega, by have := Int.mul_le_mul_of_nonneg_left (show 4294967296 ≤ v by omega) (show 0 ≤ v by omega); omega⟩
    · exact Or.inl ⟨h, by omega⟩
  have sx := sq_nn x
  have sy := sq_nn y
  have one : (4294967296 : Int) * 4294967296 = 18446744073709551616 := rfl
  have sx1 := Int.mul_le_mul_of_nonneg_left hp.1 (show 0 ≤ x by omega)
  have sy1 := Int.mul_le_mul_of_nonneg_left hp.2 (show 0 ≤ y by omega)
  rcases key x hp.1 hx.2 with ⟨a1, a2⟩ | ⟨a1, a2, a3⟩ <;> rcases key y hp.2 hy.2 with ⟨b1, b2⟩ | ⟨b1, b2, b3⟩ <;> rw [a2, b2] <;> refine ⟨?_, ?_, ?_, ?_, ?_, ?_, ?_, ?_, ?_, ?_⟩ <;> omega

end Go.Proofs.YtneljefoglmldaaDoor
