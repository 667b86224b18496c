/- The angle of cosine and sine is the angle, nearly. -/
import Derived.Test.YtneljefoglmldaaDoorTurnTree
namespace Go.Proofs.YtneljefoglmldaaDoor
set_option linter.unusedVariables false
set_option maxRecDepth 100000
/-- Real and imaginary part of the product of both runs, turned back by e quarters. -/
def prod1 (e : Int) (u w : Nat → Int) (n : Nat) : Int := (1 - e) * ((spin u n).1 * (spin w n).1 - (spin u n).2 * (spin w n).2) + e * ((spin u n).1 * (spin w n).2 + (spin u n).2 * (spin w n).1)
def prod2 (e : Int) (u w : Nat → Int) (n : Nat) : Int := (1 - e) * ((spin u n).1 * (spin w n).2 + (spin u n).2 * (spin w n).1) - e * ((spin u n).1 * (spin w n).1 - (spin u n).2 * (spin w n).2)
def half (u w : Nat → Int) (i : Nat) : Int := (u i + w i) / 2
theorem half_is {u w : Nat → Int} (hu : ∀ i, u i = 1 ∨ u i = -1) (hw : ∀ i, w i = 1 ∨ w i = -1) (i : Nat) : (half u w i = 0 ∧ w i = -u i) ∨ (half u w i = u i ∧ w i = u i) := by
  unfold half
  rcases hu i with h | h <;> rcases hw i with k | k <;> rw [h, k] <;> decide
theorem half_tern {u w : Nat → Int} (hu : ∀ i, u i = 1 ∨ u i = -1) (hw : ∀ i, w i = 1 ∨ w i = -1) (i : Nat) : half u w i = 0 ∨ half u w i = 1 ∨ half u w i = -1 := by
  have := half_is hu hw i
  have := hu i
  omega
theorem prod_sq (e : Int) (he : e = 0 ∨ e = 1) (u w : Nat → Int) (hu : ∀ i, u i = 1 ∨ u i = -1) (hw : ∀ i, w i = 1 ∨ w i = -1) : ∀ n, ∃ α β : Int, 0 < α ∧ 0 < β ∧
    α * prod1 e u w n = β * ((wind e (half u w) n).1 * (wind e (half u w) n).1 - (wind e (half u w) n).2 * (wind e (half u w) n).2) ∧ α * prod2 e u w n = β * (2 * ((wind e (half u w) n).1 * (wind e (half u w) n).2))
  | 0 => by
    unfold prod1 prod2
    rw [spin, spin, wind]
    rcases he with h | h <;> subst h
    · exact ⟨1, 1, by decide, by decide, by decide, by decide⟩
    · exact ⟨2, 1, by decide, by decide, by decide, by decide⟩
  | n + 1 => by
    obtain ⟨α, β, ha, hb, e1, e2⟩ := prod_sq e he u w hu hw n
    have hp := two_pow_pos n
    unfold prod1 prod2 at *
    rw [spin, spin, wind]
    generalize (spin u n).1 = A at *
    generalize (spin u n).2 = B at *
    generalize (spin w n).1 = C at *
    generalize (spin w n).2 = D at *
    have hu1 : u n * u n = 1 := by rcases hu n with h | h <;> rw [h] <;> rfl
    rcases half_is hu hw n with ⟨k1, k2⟩ | ⟨k1, k2⟩ <;> rw [k1, k2]
    · generalize (wind e (half u w) n).1 = R at *
      generalize (wind e (half u w) n).2 = M at *
      generalize (2 : Int) ^ n = p at *
      have hpp := Int.mul_pos hp hp
      refine ⟨α * (p * p), β * (p * p + 1), Int.mul_pos ha hpp, Int.mul_pos hb (by omega), ?_, ?_⟩
      · have : α * (p * p) * ((1 - e) * ((p * A - u n * B) * (p * C - -u n * D) - (p * B + u n * A) * (p * D + -u n * C)) + e * ((p * A - u n * B) * (p * D + -u n * C) + (p * B + u n * A) * (p * C - -u n * D))) = (p * p) * (p * p + 1) * (α * ((1 - e) * (A * C - B * D) + e * (A * D + B * C))) := by grind
        simp only [] at *
        rw [this, e1]; grind
      · have : α * (p * p) * ((1 - e) * ((p * A - u n * B) * (p * D + -u n * C) + (p * B + u n * A) * (p * C - -u n * D)) - e * ((p * A - u n * B) * (p * C - -u n * D) - (p * B + u n * A) * (p * D + -u n * C))) = (p * p) * (p * p + 1) * (α * ((1 - e) * (A * D + B * C) - e * (A * C - B * D))) := by grind
        simp only [] at *
        rw [this, e2]; grind
    · generalize (wind e (half u w) n).1 = R at *
      generalize (wind e (half u w) n).2 = M at *
      generalize (2 : Int) ^ n = p at *
      refine ⟨α, β, ha, hb, ?_, ?_⟩
      · have : α * ((1 - e) * ((p * A - u n * B) * (p * C - u n * D) - (p * B + u n * A) * (p * D + u n * C)) + e * ((p * A - u n * B) * (p * D + u n * C) + (p * B + u n * A) * (p * C - u n * D))) =
          (p * p - 1) * (α * ((1 - e) * (A * C - B * D) + e * (A * D + B * C))) - 2 * p * u n * (α * ((1 - e) * (A * D + B * C) - e * (A * C - B * D))) := by grind
        simp only [] at *
        rw [this, e1, e2]; grind
      · have : α * ((1 - e) * ((p * A - u n * B) * (p * D + u n * C) + (p * B + u n * A) * (p * C - u n * D)) - e * ((p * A - u n * B) * (p * C - u n * D) - (p * B + u n * A) * (p * D + u n * C))) =
          (p * p - 1) * (α * ((1 - e) * (A * D + B * C) - e * (A * C - B * D))) + 2 * p * u n * (α * ((1 - e) * (A * C - B * D) + e * (A * D + B * C))) := by grind
        simp only [] at *
        rw [this, e1, e2]; grind
theorem wound_is (e : Int) (u w : Nat → Int) (hu : ∀ i, u i = 1 ∨ u i = -1) (hw : ∀ i, w i = 1 ∨ w i = -1) : ∀ n, 2 * wound e (half u w) n = turned u n + turned w n - e * 1073741824
  | 0 => by rw [wound, turned, turned]; omega
  | n + 1 => by
    have ih := wound_is e u w hu hw n
    rw [wound, turned, turned]
    rcases half_is hu hw n with ⟨k1, k2⟩ | ⟨k1, k2⟩ <;> rw [k1, k2] <;> grind
theorem two_prods {r1 r2 C D b L : Int} (h1 : Within r1 b) (h2 : Within r2 b) (h3 : Within (C + D) L) (h4 : Within (C - D) L) : Within (r1 * C + r2 * D) (b * L) ∧ Within (r1 * C - r2 * D) (b * L) ∧ Within (r1 * D + r2 * C) (b * L) ∧ Within (r1 * D - r2 * C) (b * L) := by
  have c1 : Within C (max C (-C)) := by unfold Within; omega
  have c2 : Within D (max D (-D)) := by unfold Within; omega
  have c3 : max C (-C) + max D (-D) ≤ L := by unfold Within at *; omega
  have c4 : b * max C (-C) + b * max D (-D) ≤ b * L := by
    have := Int.mul_le_mul_of_nonneg_left c3 h1.nn
    grind
  exact ⟨((h1.mul c1).add (h2.mul c2)).mono c4, ((h1.mul c1).sub (h2.mul c2)).mono c4, ((h1.mul c2).add (h2.mul c1)).mono (by omega), ((h1.mul c2).sub (h2.mul c1)).mono (by omega)⟩
/-- What is left of the product near the axis. -/
theorem near_axis {Q k P1 P2 X Y w : Int} (hQ : 0 < Q) (hk : 0 < k) (hw : w ≤ 536870912) (h1 : Within (Q * X - k * P1) (Q * (800 * w + 40))) (h2 : Within (Q * Y - k * P2) (Q * (800 * w + 40)))
    (hX : 1152921504606846976 ≤ X) (hY : Within (536870912 * Y) (X + 16106127360)) : 0 < P1 ∧ Within (2097152 * P2) P1 := by
  have e1 : Within (X * Q - k * P1) (Q * (800 * w + 40)) := h1.of_eq (by grind)
  have lo : Q * (X - (800 * w + 40)) ≤ k * P1 := by have := e1.2; grind
  have lo0 : 0 < Q * (X - (800 * w + 40)) := Int.mul_pos hQ (by omega)
  have y1 : Within (2097152 * (Y + 0)) (X - (800 * w + 40) - 2097152 * (800 * w + 40)) := by unfold Within at *; omega
  have y2 := (Within.self (Int.le_of_lt hQ)).mul y1
  have y3 := (Within.self (show (0 : Int) ≤ 2097152 by decide)).mul h2
  have y4 : Within (k * (2097152 * P2)) (k * P1) := ((y2.sub y3).of_eq (by grind)).mono (by grind)
  refine ⟨?_, Within.cancel hk y4⟩
  rcases Int.lt_or_le 0 P1 with h | h
  · exact h
  · have := Int.mul_nonneg (Int.le_of_lt hk) (show 0 ≤ -P1 by omega)
    grind
theorem near_root {α β P1 P2 R M : Int} (ha : 0 < α) (hb : 0 < β) (e1 : α * P1 = β * (R * R - M * M)) (e2 : α * P2 = β * (2 * (R * M))) (h0 : 0 < P1) (h : Within (2097152 * P2) P1) :
    ∃ s : Int, (s = 1 ∨ s = -1) ∧ 0 < s * R ∧ Within (4194304 * M) (s * R) := by
  have q1 : Within (β * (2097152 * (2 * (R * M)))) (β * (R * R - M * M)) := by
    have := (Within.self (Int.le_of_lt ha)).mul h
    rw [e1] at this
    exact this.of_eq (by grind)
  have q2 := Within.cancel hb q1
  have q3 : 0 < R * R - M * M := by
    have : 0 < β * (R * R - M * M) := by rw [← e1]; exact Int.mul_pos ha h0
    rcases Int.lt_or_le 0 (R * R - M * M) with h | h
    · exact h
    · have := Int.mul_nonneg (Int.le_of_lt hb) (show 0 ≤ -(R * R - M * M) by omega)
      grind
  have q4 := sq_nn M
  have q5 : Within (R * (4194304 * M)) (R * R) := (q2.mono (c := R * R) (by omega)).of_eq (by grind)
  have q6 : Within (-R * (4194304 * M)) (R * R) := by
    have e : -R * (4194304 * M) = -(R * (4194304 * M)) := by grind
    rw [e]
    unfold Within at *
    omega
  rcases Int.lt_trichotomy R 0 with h | h | h
  · exact ⟨-1, Or.inr rfl, by omega, Within.cancel (k := -R) (by omega) (q6.mono (b := R * R) (by grind))⟩
  · subst h; omega
  · exact ⟨1, Or.inl rfl, by omega, by rw [Int.one_mul]; exact Within.cancel h q5⟩
/-- The angle of cosine and sine of a rest, turned back by e quarters, and made longer. -/
theorem back_near (a : Int) (ha : 0 ≤ a ∧ a < 1073741824) (e : Int) (he : e = 0 ∨ e = 1) (w : Int) (hw : 0 < w ∧ w ≤ 536870912) (x y : Int) (hx : x = w * ((1 - e) * cosOf a + e * sinOf a)) (hy : y = w * ((1 - e) * sinOf a - e * cosOf a)) (hL : Level x y) :
    Within ((angAt x y 30).2.2 - (a - e * 1073741824)) 450 := by
  have hu := sgB_is a
  have hv := sgA_is x y
  obtain ⟨b1, b2⟩ := run_slips (fun n => (bothAt a n).1) (fun n => (bothAt a n).2.1) (sgB a) hu (fun i => (both_step a i).1) (fun i => (both_step a i).2.1) 30
  obtain ⟨a1, a2⟩ := run_slips (fun n => (angAt x y n).1) (fun n => (angAt x y n).2.1) (sgA x y) hv (fun i => (ang_step x y i).1) (fun i => (ang_step x y i).2.1) 30
  obtain ⟨c1, c2⟩ := spin_len (sgA x y) hv 30
  obtain ⟨t1, t2⟩ := tri_end
  have tp := tri_pos 30
  obtain ⟨z0, z1⟩ := ang_end x y hL
  obtain ⟨-, -, -, -, k1, k2, k3, k4, -, -⟩ := cos_sin a ha
  have zl := left_end a ha
  rw [both_turned] at zl
  rw [ang_turned]
  obtain ⟨α, β, p1, p2, p3, p4⟩ := prod_sq e he (sgB a) (sgA x y) hu hv 30
  have fin : 0 < prod1 e (sgB a) (sgA x y) 30 ∧ Within (2097152 * prod2 e (sgB a) (sgA x y) 30) (prod1 e (sgB a) (sgA x y) 30) := by
    change Within (tri 30 * (bothAt a 30).1 - (2608131496 * (spin (sgB a) 30).1 - 0 * (spin (sgB a) 30).2)) (slip 30) at b1
    change Within (tri 30 * (bothAt a 30).2.1 - (2608131496 * (spin (sgB a) 30).2 + 0 * (spin (sgB a) 30).1)) (slip 30) at b2
    change Within (tri 30 * (angAt x y 30).1 - (x * (spin (sgA x y) 30).1 - y * (spin (sgA x y) 30).2)) (slip 30) at a1
    change Within (tri 30 * (angAt x y 30).2.1 - (x * (spin (sgA x y) 30).2 + y * (spin (sgA x y) 30).1)) (slip 30) at a2
    unfold prod1 prod2
    clear p1 p2 p3 p4 zl hu hv hL
    generalize (angAt x y 30).1 = X at *
    generalize (angAt x y 30).2.1 = Y at *
    generalize (bothAt a 30).1 = x30 at *
    generalize (bothAt a 30).2.1 = y30 at *
    generalize (spin (sgB a) 30).1 = A at *
    generalize (spin (sgB a) 30).2 = B at *
    generalize (spin (sgA x y) 30).1 = C at *
    generalize (spin (sgA x y) 30).2 = D at *
    generalize cosOf a = c at *
    generalize sinOf a = s at *
    generalize tri 30 = T at *
    generalize len1 30 = L at *
    generalize slip 30 = ρ at *
    have hT := Within.self (Int.le_of_lt tp)
    have r1 : Within (T * c - 2608131496 * A) (160 * T) := by
      have : Within (x30 - c) 120 := by unfold Within; omega
      exact ((b1.sub (hT.mul this)).of_eq (by grind)).mono (by omega)
    have r2 : Within (T * s - 2608131496 * B) (160 * T) := by
      have : Within (y30 - s) 120 := by unfold Within; omega
      exact ((b2.sub (hT.mul this)).of_eq (by grind)).mono (by omega)
    obtain ⟨m1, m2, m3, m4⟩ := two_prods r1 r2 (c1.mono t1) (c2.mono t1)
    have hw' := Within.self (Int.le_of_lt hw.1)
    have ht1 := hT.mul (a1.mono t2)
    have ht2 := hT.mul (a2.mono t2)
    refine near_axis (Q := T * T) (k := 2608131496 * w) (w := w) (X := X) (Y := Y) (Int.mul_pos tp tp) (by omega) hw.2 ?_ ?_ z0 z1
    · rcases he with h | h <;> subst h
      · exact ((ht1.add (hw'.mul m2)).of_eq (by rw [hx, hy]; grind)).mono (by grind)
      · exact ((ht1.add (hw'.mul m3)).of_eq (by rw [hx, hy]; grind)).mono (by grind)
    · rcases he with h | h <;> subst h
      · exact ((ht2.add (hw'.mul m3)).of_eq (by rw [hx, hy]; grind)).mono (by grind)
      · exact ((ht2.sub (hw'.mul m2)).of_eq (by rw [hx, hy]; grind)).mono (by grind)
  obtain ⟨s, hs, hR, hM⟩ := near_root p1 p2 p3 p4 fin.1 fin.2
  have ws := wound_small e he (half (sgB a) (sgA x y)) (half_tern hu hv) s hs hR hM
  have wi := wound_is e (sgB a) (sgA x y) hu hv 30
  unfold Within at *
  omega

end Go.Proofs.YtneljefoglmldaaDoor
