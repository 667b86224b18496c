/- Plain facts on numbers of 128 bits as two halves: the upper half with a sign, the lower half without; no function of the program is named here. -/
namespace Go.Proofs.YtmhehnimgkmmaaaDoor
set_option maxRecDepth 100000

/-- The upper half of a number, modulo 2^128. -/
def hi (v : Int) : Int := (v / 18446744073709551616 + 9223372036854775808) % 18446744073709551616 - 9223372036854775808
/-- The lower half. -/
def lo (v : Int) : Int := v % 18446744073709551616
/-- A number of 128 bits. -/
def Fits (v : Int) : Prop := -170141183460469231731687303715884105728 ≤ v ∧ v < 170141183460469231731687303715884105728
/-- A number of 64 bits. -/
def Half (n : Int) : Prop := -9223372036854775808 ≤ n ∧ n ≤ 9223372036854775807
/-- Going round into 128 bits. -/
def sw (v : Int) : Int := (v + 170141183460469231731687303715884105728) % 340282366920938463463374607431768211456 - 170141183460469231731687303715884105728

theorem hi_lo (v : Int) : -9223372036854775808 ≤ hi v := by unfold hi; omega
theorem hi_hi (v : Int) : hi v ≤ 9223372036854775807 := by unfold hi; omega
theorem lo_lo (v : Int) : 0 ≤ lo v := by unfold lo; omega
theorem lo_hi (v : Int) : lo v ≤ 18446744073709551615 := by unfold lo; omega
theorem lo_lt (v : Int) : lo v < 18446744073709551616 := by unfold lo; omega

theorem hi_sw (v : Int) : hi (sw v) = hi v := by unfold hi sw; omega
theorem lo_sw (v : Int) : lo (sw v) = lo v := by unfold lo sw; omega
theorem fits_sw (v : Int) : Fits (sw v) := by unfold Fits sw; omega
theorem sw_fits {v : Int} (h : Fits v) : sw v = v := by unfold Fits at h; unfold sw; omega
theorem sw_congr {u v : Int} (h : sw u = sw v) : hi u = hi v ∧ lo u = lo v := by rw [← hi_sw u, ← lo_sw u, h, hi_sw, lo_sw]; exact ⟨rfl, rfl⟩
theorem halves {v : Int} (h : Fits v) : hi v * 18446744073709551616 + lo v = v := by unfold Fits at h; unfold hi lo; omega
theorem of_halves {h l : Int} (hh : Half h) (l0 : 0 ≤ l) (l1 : l ≤ 18446744073709551615) : ∃ v, Fits v ∧ h = hi v ∧ l = lo v := by
  unfold Half at hh
  refine ⟨h * 18446744073709551616 + l, ?_, ?_, ?_⟩
  · unfold Fits; omega
  · unfold hi; omega
  · unfold lo; omega
theorem halves_inj {u v : Int} (hu : Fits u) (hv : Fits v) (h : hi u = hi v) (l : lo u = lo v) : u = v := by
  have := halves hu; have := halves hv; omega
theorem half_fits {n : Int} (h : Half n) : Fits n := by unfold Half at h; unfold Fits; omega
theorem half_hi (v : Int) : Half (hi v) := ⟨hi_lo v, hi_hi v⟩

theorem add_carry (a b : Int) (h : (lo a + lo b) % 18446744073709551616 < lo a) :
    (hi a + hi b + 1 + 9223372036854775808) % 18446744073709551616 - 9223372036854775808 = hi (a + b) := by unfold hi lo at *; omega
theorem add_none (a b : Int) (h : ¬ (lo a + lo b) % 18446744073709551616 < lo a) :
    (hi a + hi b + 9223372036854775808) % 18446744073709551616 - 9223372036854775808 = hi (a + b) := by unfold hi lo at *; omega
theorem add_low (a b : Int) : (lo a + lo b) % 18446744073709551616 = lo (a + b) := by unfold lo; omega

/-- -1, 0 or 1. -/
def sgn (a : Int) : Int := if a < 0 then -1 else if a = 0 then 0 else 1
/-- How many places Right and Near count. -/
def places (n : Int) : Int := min (max n 0) 127
/-- The number of 64 bits that is nearest. -/
def clipped (a : Int) : Int := max (-9223372036854775808) (min 9223372036854775807 a)
/-- Whether that is another one. -/
def cut (a : Int) : Bool := decide (a < -9223372036854775808 ∨ 9223372036854775807 < a)

end Go.Proofs.YtmhehnimgkmmaaaDoor
