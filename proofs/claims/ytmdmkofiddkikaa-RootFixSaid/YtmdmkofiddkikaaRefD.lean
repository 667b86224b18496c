/- What Of, Sign, Less and Neg of the document's answers give. -/
import Derived.Test.YtmdmkofiddkikaaRefC
namespace Go.Proofs.Ytmdmkofiddkikaa
open Go.RowKit
attribute [local go_sem] cell_re eqW_self
attribute [local go_sem ↓] run_eqlW run_neqW

/-- The bits of a, of which the first k have been turned. -/
def mix (a : Int) (k : Nat) : List Value := (List.range 128).map fun i => Value.int .i64 (if i < k then bit (-a - 1) i else bit a i)
theorem mix_at (a : Int) (k j : Nat) (h : j < 128) : (mix a k)[j]? = some (Value.int .i64 (if j < k then bit (-a - 1) j else bit a j)) := by unfold mix; simp [h]
theorem mix_start (a : Int) : bits_ a 128 = mix a 0 := by unfold mix bits_; simp
theorem mix_succ (a : Int) (k : Nat) (hk : k < 128) : (mix a k).set k (.int .i64 (1 - bit a k)) = mix a (k + 1) := by
  apply List.ext_getElem?
  intro j
  by_cases hj : j < 128
  · rw [List.getElem?_set, mix_at a (k + 1) j hj]
    by_cases hjk : k = j
    · subst hjk
      rw [if_pos rfl, if_pos (by unfold mix; simpa using hk), if_pos (by omega), neg_bit]
    · rw [if_neg hjk, mix_at a k j hj]
      by_cases h : j < k
      · rw [if_pos h, if_pos (by omega)]
      · rw [if_neg h, if_neg (by omega)]
  · rw [List.getElem?_eq_none (by unfold mix; simp; omega), List.getElem?_eq_none (by unfold mix; simp; omega)]

set_option maxHeartbeats 400000 in
theorem refOf (n : Int) (hn : Half n) (w : World) :
    Calls Try.prog 18 #[.int .i64 n] w fun e w' => e = .returned (W n) ∧ Below w.heap.size w w' := by
  obtain ⟨hn0, hn1⟩ := hn
  go_enter Try.func18, Try.ntmps18
  go_wp2
  all_goals
    go_returns
    refine ⟨retW (by unfold hi; omega) (by unfold lo; first | rw [IntKind.wrap_u64] | omega), by go_grown⟩

set_option maxHeartbeats 400000 in
theorem refLess (a b : Int) (ha : Fits a) (hb : Fits b) (w : World) :
    Calls Try.prog 16 #[W a, W b] w fun e w' => e = .returned (.bool (decide (a < b))) ∧ Below w.heap.size w w' := by
  have hha := hi_lo a
  have hga := hi_hi a
  have hla := lo_lo a
  have hka := lo_hi a
  have hhb := hi_lo b
  have hgb := hi_hi b
  have hlb := lo_lo b
  have hkb := lo_hi b
  rcases Int.lt_trichotomy (hi a) (hi b) with z | z | z
  all_goals
    go_enter Try.func16, Try.ntmps16
    go_wp2
  all_goals
    go_returns
    refine ⟨retB ?_, by go_grown⟩
    have q := halves ha
    have r := halves hb
    first
      | (rw [Bool.eq_iff_iff]; simp only [decide_eq_true_eq]; omega)
      | (symm; exact decide_eq_true (by omega))
      | (symm; exact decide_eq_false (by omega))

end Go.Proofs.Ytmdmkofiddkikaa
