/- What the calls of package fix answer, each for every number that its parameters can hold. -/
import Derived.Test.YtlpajjhkiaobbaaWideE
import Derived.Test.YtlpajjhkiaobbaaFixMath
import Derived.Test.YtlpajjhkiaobbaaVars
namespace Go.Proofs.Ytlpajjhkiaobbaa
open Go.RowKit
attribute [local go_sem] cell_re eqW_self
attribute [local go_sem ↓] run_eqlW run_neqW

set_option maxHeartbeats 1000000 in
theorem fixSat (a : Int) (ha : Fits a) (w : World) :
    Calls Try.prog 50 #[W a] w fun e w' => e = .returned (sat a) ∧ Below w.heap.size w w' := by
  go_enter Try.func50, Try.ntmps50
  go_wp2_with (first | (go_at_call 55; refine (chain (w0 := w) (by go_grown) (by first | with_reducible exact wideClip a ha _)).mono ?_; rintro e w' ⟨rfl, ht⟩; have hs := ht.size))
  go_ret2
  exact ⟨rfl, by go_grown⟩

theorem pow32 (n : Int) : n * 2 ^ (32 : Int).toNat = n * 4294967296 := by
  rw [show (2 : Int) ^ (32 : Int).toNat = 4294967296 by decide]
set_option maxHeartbeats 1000000 in
theorem fixMul (a b : Int) (ha : Half a) (hb : Half b) (w : World) :
    Calls Try.prog 37 #[.int .i64 a, .int .i64 b] w fun e w' => e = .returned (sat (near (a * b) 32)) ∧ Below w.heap.size w w' := by
  have f1 := Lib.hid ha
  have f2 := Lib.hid hb
  clear ha hb
  go_enter Try.func37, Try.ntmps37
  go_wp2_with (first | (go_at_call 52; refine (chain (w0 := w) (by go_grown) (by first | with_reducible exact wideMul a b f1.out f2.out _)).mono ?_; rintro e w' ⟨rfl, ht⟩; have hs := ht.size) | (go_at_call 51; refine (chain (w0 := w) (by go_grown) (by first | with_reducible exact wideNear (a * b) 32 (fits_mul f1.out f2.out) (by unfold Half; omega) _)).mono ?_; rintro e w' ⟨rfl, ht⟩; have hs := ht.size) | (go_at_call 50; refine (chain (w0 := w) (by go_grown) (by first | with_reducible exact fixSat _ (fits_near f1.out f2.out) _)).mono ?_; rintro e w' ⟨rfl, ht⟩; have hs := ht.size))
  go_ret2
  exact ⟨rfl, by go_grown⟩

def over (a : Int) : Int := if 0 < a then 9223372036854775807 else if a < 0 then -9223372036854775808 else 0
theorem quo_zero (a : Int) : quo a 0 = .tuple #[.int .i64 (over a), .bool true] := by
  unfold quo over
  rw [if_pos rfl]
  by_cases h : 0 < a
  · rw [if_pos h, if_pos h]
  · rw [if_neg h, if_neg h]
    by_cases g : a < 0
    · rw [if_pos g, if_pos g]
    · rw [if_neg g, if_neg g]
set_option maxHeartbeats 1000000 in
theorem fixClamp (a lo hi : Int) (_ha : Half a) (_hl : Half lo) (_hh : Half hi) (w : World) : Calls Try.prog 31 #[.int .i64 a, .int .i64 lo, .int .i64 hi] w fun e w' => e = .returned (.tuple #[.int .i64 (clamp a lo hi), .bool (clamped a lo hi)]) ∧ Below w.heap.size w w' := by
  by_cases h1 : hi < lo
  · have c1 : clamp a lo hi = lo := by unfold clamp; rw [if_pos h1]
    have c2 : clamped a lo hi = true := by unfold clamped; rw [decide_eq_true h1]; rfl
    rw [c1, c2]
    go_enter Try.func31, Try.ntmps31
    go_wp2
    all_goals
      go_returns
      refine ⟨retIB ?_ ?_, by go_grown⟩ <;> first | rfl | omega
  · have h1' := decide_eq_false h1
    rcases Int.lt_trichotomy a lo with h2 | h2 | h2
    all_goals
      rcases Int.lt_trichotomy hi a with h3 | h3 | h3
      all_goals
        obtain ⟨x, hx⟩ : ∃ x, Hid (clamp a lo hi = x) := ⟨_, rfl⟩
        obtain ⟨k, hk⟩ : ∃ k, Hid (clamped a lo hi = k) := ⟨_, rfl⟩
        rw [hx.out, hk.out]
        go_enter Try.func31, Try.ntmps31
        go_wp2
        all_goals
          go_returns
          refine ⟨retIB ?_ ?_, by go_grown⟩
          · rw [← hx.out]; unfold clamp; split <;> (try split) <;> (try split) <;> omega
          · rw [← hk.out]; unfold clamped; first | (simp <;> omega) | (rw [h1', Bool.false_or, Bool.eq_iff_iff, bne_iff_ne, Bool.or_eq_true, decide_eq_true_eq, decide_eq_true_eq]; omega)

end Go.Proofs.Ytlpajjhkiaobbaa
