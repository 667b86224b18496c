/- What the calls of package fix answer, each for every number that its parameters can hold. -/
import Derived.Test.YtmedemniopgpeaaWideE
import Derived.Test.YtmedemniopgpeaaFixMath
import Derived.Test.YtmedemniopgpeaaVars
namespace Go.Proofs.Ytmedemniopgpeaa
open Go.RowKit
attribute [local go_sem] cell_re eqW_self
attribute [local go_sem ↓] run_eqlW run_neqW

set_option maxHeartbeats 400000 in
theorem fixWiden (a : Int) (ha : Half a) (w : World) :
    Calls Try.prog 60 #[.int .i64 a] w fun e w' => e = .returned (W a) ∧ Below w.heap.size w w' := by
  go_enter Try.func60, Try.ntmps60
  go_wp2_with ((go_at_call 68; refine (wideOf a ha _).mono ?_; rintro e w' ⟨rfl, hb⟩; obtain ⟨hc, hf⟩ := bcell hb; have hz := hb.size; have ht := (Below.trans (by go_grown) (hb.mono (by simp; try omega)) : Below w.heap.size w w')))
  refine bodyPost_ret (by simp [results, Try.results60, go_sem, hc]; try rfl) rfl ?_
  exact ⟨rfl, by go_grown⟩

set_option maxHeartbeats 1000000 in
theorem fixSat (a : Int) (ha : Fits a) (w : World) :
    Calls Try.prog 62 #[W a] w fun e w' => e = .returned (sat a) ∧ Below w.heap.size w w' := by
  go_enter Try.func62, Try.ntmps62
  go_wp2_with (first | (go_at_call 44; refine (chain (w0 := w) (by go_grown) (by first | with_reducible exact wideClip a ha _)).mono ?_; rintro e w' ⟨rfl, ht⟩; have hs := ht.size))
  go_ret2
  exact ⟨rfl, by go_grown⟩

theorem pow32 (n : Int) : n * 2 ^ (32 : Int).toNat = n * 4294967296 := by
  rw [show (2 : Int) ^ (32 : Int).toNat = 4294967296 by decide]
theorem wideLeft_32 (n : Int) (w : World) : Calls Try.prog 59 #[W n, .int .i64 32] w fun e w' => e = .returned (W (n * 4294967296)) ∧ Below w.heap.size w w' := by
  rw [← pow32]
  exact wideLeft n 32 (by unfold Half; omega) w

set_option maxHeartbeats 1000000 in
theorem fixNeg (a : Int) (ha : Half a) (w : World) :
    Calls Try.prog 65 #[.int .i64 a] w fun e w' => e = .returned (sat (-a)) ∧ Below w.heap.size w w' := by
  go_enter Try.func65, Try.ntmps65
  go_wp2_with (first | (go_at_call 60; refine (chain (w0 := w) (by go_grown) (by first | with_reducible exact fixWiden a ha _)).mono ?_; rintro e w' ⟨rfl, ht⟩; have hs := ht.size) | (go_at_call 29; refine (chain (w0 := w) (by go_grown) (by first | with_reducible exact wideNeg a _)).mono ?_; rintro e w' ⟨rfl, ht⟩; have hs := ht.size) | (go_at_call 62; refine (chain (w0 := w) (by go_grown) (by first | with_reducible exact fixSat _ (fits_neg ha) _)).mono ?_; rintro e w' ⟨rfl, ht⟩; have hs := ht.size))
  go_ret2
  exact ⟨rfl, by go_grown⟩

set_option maxHeartbeats 1000000 in
theorem fixAbs_lo (a : Int) (ha : Half a) (h : a < 0) (w : World) :
    Calls Try.prog 42 #[.int .i64 a] w fun e w' => e = .returned (sat (-a)) ∧ Below w.heap.size w w' := by
  go_enter Try.func42, Try.ntmps42
  go_wp2_with (first | (go_at_call 65; refine (chain (w0 := w) (by go_grown) (by first | with_reducible exact fixNeg a ha _)).mono ?_; rintro e w' ⟨rfl, ht⟩; have hs := ht.size))
  go_ret2
  exact ⟨rfl, by go_grown⟩

set_option maxHeartbeats 1000000 in
theorem fixAbs_hi (a : Int) (ha : Half a) (h : ¬ a < 0) (w : World) :
    Calls Try.prog 42 #[.int .i64 a] w fun e w' => e = .returned (sat a) ∧ Below w.heap.size w w' := by
  go_enter Try.func42, Try.ntmps42
  go_wp2
  go_ret2
  exact ⟨by rw [sat_in a ha]; rfl, by go_grown⟩

theorem fixAbs (a : Int) (ha : Half a) (w : World) : Calls Try.prog 42 #[.int .i64 a] w fun e w' => e = .returned (sat (if a < 0 then -a else a)) ∧ Below w.heap.size w w' := by
  by_cases h : a < 0
  · rw [if_pos h]; exact fixAbs_lo a ha h w
  · rw [if_neg h]; exact fixAbs_hi a ha h w

def over (a : Int) : Int := if 0 < a then 9223372036854775807 else if a < 0 then -9223372036854775808 else 0
theorem quo_zero (a : Int) : quo a 0 = .tuple #[.int .i64 (over a), .bool true] := by
  unfold quo over
  rw [if_pos rfl]
  by_cases h : 0 < a
  · rw [if_pos h, if_pos h]
  · rw [if_neg h, if_neg h]
    by_cases g : a < 0
    · rw [if_pos g, if_pos g]
    · rw [if_neg g, if_neg g]
theorem fixOver (a : Int) (w : World) : Calls Try.prog 61 #[.int .i64 a] w fun e w' => e = .returned (.int .i64 (over a)) ∧ Below w.heap.size w w' := by
  rcases Int.lt_trichotomy a 0 with h | h | h
  all_goals
    obtain ⟨x, hx⟩ : ∃ x, Hid (over a = x) := ⟨_, rfl⟩
    rw [hx.out]
    go_enter Try.func61, Try.ntmps61
    go_wp2
    go_returns
    refine ⟨retI ?_, by go_grown⟩
    rw [← hx.out]
    unfold over
    repeat' split
    all_goals omega
set_option maxHeartbeats 1000000 in
theorem fixDiv_0 (a b : Int) (ha : Half a) (hb : b = 0) (w : World) :
    Calls Try.prog 40 #[.int .i64 a, .int .i64 b] w fun e w' => e = .returned (quo a b) ∧ Below w.heap.size w w' := by
  subst hb
  have d1 := Lib.hid (fun W1 : World => wideDiv (a * 4294967296) 0 (fits_shift a ha) (by unfold Half; omega) W1)
  unfold divided at d1
  rw [if_pos rfl] at d1
  rw [quo_zero]
  have f1 := Lib.hid ha
  clear ha
  go_enter Try.func40, Try.ntmps40
  go_wp2_with (first | (go_at_call 60; refine (chain (w0 := w) (by go_grown) (by first | with_reducible exact fixWiden a f1.out _)).mono ?_; rintro e w' ⟨rfl, ht⟩; have hs := ht.size) | (go_at_call 59; refine (chain (w0 := w) (by go_grown) (by first | with_reducible exact wideLeft_32 a _)).mono ?_; rintro e w' ⟨rfl, ht⟩; have hs := ht.size) | (go_at_call 58; refine (chain (w0 := w) (by go_grown) (by first | with_reducible exact d1.out _)).mono ?_; rintro e w' ⟨rfl, ht⟩; have hs := ht.size) | (go_at_call 61; refine (chain (w0 := w) (by go_grown) (by first | with_reducible exact fixOver a _)).mono ?_; rintro e w' ⟨rfl, ht⟩; have hs := ht.size))
  go_ret2
  exact ⟨rfl, by go_grown⟩

set_option maxHeartbeats 1000000 in
theorem fixDiv_not (a b : Int) (ha : Half a) (hb : Half b) (hz : b ≠ 0) (w : World) :
    Calls Try.prog 40 #[.int .i64 a, .int .i64 b] w fun e w' => e = .returned (quo a b) ∧ Below w.heap.size w w' := by
  have d1 := Lib.hid (fun W1 : World => wideDiv (a * 4294967296) b (fits_shift a ha) hb W1)
  unfold quo
  rw [if_neg hz]
  unfold divided at d1
  rw [if_neg hz] at d1
  have f3 := Lib.hid (fits_quo ha b)
  have f1 := Lib.hid ha
  have f2 := Lib.hid hb
  clear ha hb
  go_enter Try.func40, Try.ntmps40
  go_wp2_with (first | (go_at_call 60; refine (chain (w0 := w) (by go_grown) (by first | with_reducible exact fixWiden a f1.out _)).mono ?_; rintro e w' ⟨rfl, ht⟩; have hs := ht.size) | (go_at_call 59; refine (chain (w0 := w) (by go_grown) (by first | with_reducible exact wideLeft_32 a _)).mono ?_; rintro e w' ⟨rfl, ht⟩; have hs := ht.size) | (go_at_call 58; refine (chain (w0 := w) (by go_grown) (by first | with_reducible exact d1.out _)).mono ?_; rintro e w' ⟨rfl, ht⟩; have hs := ht.size) | (go_at_call 62; refine (chain (w0 := w) (by go_grown) (by first | with_reducible exact fixSat _ f3.out _)).mono ?_; rintro e w' ⟨rfl, ht⟩; have hs := ht.size))
  go_ret2
  exact ⟨rfl, by go_grown⟩

theorem fixDiv (a b : Int) (ha : Half a) (hb : Half b) (w : World) : Calls Try.prog 40 #[.int .i64 a, .int .i64 b] w fun e w' => e = .returned (quo a b) ∧ Below w.heap.size w w' := by
  by_cases hz : b = 0
  · exact fixDiv_0 a b ha hz w
  · exact fixDiv_not a b ha hb hz w
set_option maxHeartbeats 1000000 in
theorem fixClamp (a lo hi : Int) (_ha : Half a) (_hl : Half lo) (_hh : Half hi) (w : World) : Calls Try.prog 37 #[.int .i64 a, .int .i64 lo, .int .i64 hi] w fun e w' => e = .returned (.tuple #[.int .i64 (clamp a lo hi), .bool (clamped a lo hi)]) ∧ Below w.heap.size w w' := by
  by_cases h1 : hi < lo
  · have c1 : clamp a lo hi = lo := by unfold clamp; rw [if_pos h1]
    have c2 : clamped a lo hi = true := by unfold clamped; rw [decide_eq_true h1]; rfl
    rw [c1, c2]
    go_enter Try.func37, Try.ntmps37
    go_wp2
    all_goals
      go_returns
      refine ⟨retIB ?_ ?_, by go_grown⟩ <;> first | rfl | omega
  · have h1' := decide_eq_false h1
    rcases Int.lt_trichotomy a lo with h2 | h2 | h2
    all_goals
      rcases Int.lt_trichotomy hi a with h3 | h3 | h3
      all_goals
        obtain ⟨x, hx⟩ : ∃ x, Hid (clamp a lo hi = x) := ⟨_, rfl⟩
        obtain ⟨k, hk⟩ : ∃ k, Hid (clamped a lo hi = k) := ⟨_, rfl⟩
        rw [hx.out, hk.out]
        go_enter Try.func37, Try.ntmps37
        go_wp2
        all_goals
          go_returns
          refine ⟨retIB ?_ ?_, by go_grown⟩
          · rw [← hx.out]; unfold clamp; split <;> (try split) <;> (try split) <;> omega
          · rw [← hk.out]; unfold clamped; first | (simp <;> omega) | (rw [h1', Bool.false_or, Bool.eq_iff_iff, bne_iff_ne, Bool.or_eq_true, decide_eq_true_eq, decide_eq_true_eq]; omega)

end Go.Proofs.Ytmedemniopgpeaa
