/- What the document's answers on numbers with a point are, each for every number that its parameters can hold. -/
import Derived.Test.YtmedemniopgpeaaRefI
import Derived.Test.YtmedemniopgpeaaRefJ
import Derived.Test.YtmedemniopgpeaaRefE
import Derived.Test.YtmedemniopgpeaaRefD
import Derived.Test.YtmedemniopgpeaaFixMath
import Derived.Laws.MakeOwn
namespace Go.Proofs.Ytmedemniopgpeaa
open Go.RowKit
attribute [local go_sem] cell_re eqW_self
attribute [local go_sem ↓] run_eqlW run_neqW

set_option maxHeartbeats 1000000 in
theorem ref2Clip (a : Int) (ha : Fits a) (w : World) :
    Calls Try.prog 64 #[W a] w fun e w' => e = .returned (sat a) ∧ Below w.heap.size w w' := by
  go_enter Try.func64, Try.ntmps64
  go_wp2_with (first | (go_at_call 45; refine (chain (w0 := w) (by go_grown) (by first | with_reducible exact refClip a ha _)).mono ?_; rintro e w' ⟨rfl, ht⟩; have hs := ht.size))
  go_ret2
  exact ⟨rfl, by go_grown⟩

theorem ref2Div_0 (a b : Int) (h : b = 0) (w : World) : Calls Try.prog 41 #[.int .i64 a, .int .i64 b] w fun e w' => e = .returned (quo a b) ∧ Below w.heap.size w w' := by
  subst h
  unfold quo
  rw [if_pos rfl]
  rcases Int.lt_trichotomy a 0 with h | h | h
  · have g : ¬ 0 < a := by omega
    rw [if_neg g, if_pos h]
    go_enter Try.func41, Try.ntmps41
    go_wp2
    go_ret2
    exact ⟨rfl, by go_grown⟩
  · subst h
    go_enter Try.func41, Try.ntmps41
    go_wp2
    go_ret2
    exact ⟨rfl, by go_grown⟩
  · rw [if_pos h]
    go_enter Try.func41, Try.ntmps41
    go_wp2
    go_ret2
    exact ⟨rfl, by go_grown⟩

set_option maxHeartbeats 1000000 in
theorem ref2Div_not (a b : Int) (ha : Half a) (hb : Half b) (hz : b ≠ 0) (w : World) :
    Calls Try.prog 41 #[.int .i64 a, .int .i64 b] w fun e w' => e = .returned (quo a b) ∧ Below w.heap.size w w' := by
  have d1 := Lib.hid (fun W1 : World => refDiv (a * 4294967296) b (fits_shift a ha) hb W1)
  unfold quo
  rw [if_neg hz]
  unfold divided at d1
  rw [if_neg hz] at d1
  have f3 := Lib.hid (fits_quo ha b)
  have f1 := Lib.hid ha
  have f2 := Lib.hid hb
  clear ha hb
  go_enter Try.func41, Try.ntmps41
  go_wp2_with (first | (go_at_call 49; refine (chain (w0 := w) (by go_grown) (by first | with_reducible exact refMul a 4294967296 f1.out (by unfold Half; omega) _)).mono ?_; rintro e w' ⟨rfl, ht⟩; have hs := ht.size) | (go_at_call 63; refine (chain (w0 := w) (by go_grown) (by first | with_reducible exact d1.out _)).mono ?_; rintro e w' ⟨rfl, ht⟩; have hs := ht.size) | (go_at_call 64; refine (chain (w0 := w) (by go_grown) (by first | with_reducible exact ref2Clip _ f3.out _)).mono ?_; rintro e w' ⟨rfl, ht⟩; have hs := ht.size))
  go_ret2
  exact ⟨rfl, by go_grown⟩

theorem ref2Div (a b : Int) (ha : Half a) (hb : Half b) (w : World) : Calls Try.prog 41 #[.int .i64 a, .int .i64 b] w fun e w' => e = .returned (quo a b) ∧ Below w.heap.size w w' := by
  by_cases hz : b = 0
  · exact ref2Div_0 a b hz w
  · exact ref2Div_not a b ha hb hz w
end Go.Proofs.Ytmedemniopgpeaa
