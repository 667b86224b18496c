/- What the document's answers on numbers with a point are, each for every number that its parameters can hold. -/
import Derived.Test.YtbedmkingceepaaRefI
import Derived.Test.YtbedmkingceepaaRefJ
import Derived.Test.YtbedmkingceepaaRefE
import Derived.Test.YtbedmkingceepaaRefD
import Derived.Test.YtbedmkingceepaaFixMath
import Derived.Laws.MakeOwn
namespace Go.Proofs.Ytbedmkingceepaa
open Go.RowKit
attribute [local go_sem] cell_re eqW_self
attribute [local go_sem ↓] run_eqlW run_neqW

set_option maxHeartbeats 1000000 in
theorem ref2Clip (a : Int) (ha : Fits a) (w : World) :
    Calls Try.prog 31 #[W a] w fun e w' => e = .returned (sat a) ∧ Below w.heap.size w w' := by
  go_enter Try.func31, Try.ntmps31
  go_wp2_with (first | (go_at_call 46; refine (chain (w0 := w) (by go_grown) (by first | with_reducible exact refClip a ha _)).mono ?_; rintro e w' ⟨rfl, ht⟩; have hs := ht.size))
  go_ret2
  exact ⟨rfl, by go_grown⟩

set_option maxHeartbeats 1000000 in
theorem ref2Int (n : Int) (hn : Half n) (w : World) :
    Calls Try.prog 10 #[.int .i64 n] w fun e w' => e = .returned (sat (n * 4294967296)) ∧ Below w.heap.size w w' := by
  go_enter Try.func10, Try.ntmps10
  go_wp2_with (first | (go_at_call 32; refine (chain (w0 := w) (by go_grown) (by first | with_reducible exact refMul n 4294967296 hn (by unfold Half; omega) _)).mono ?_; rintro e w' ⟨rfl, ht⟩; have hs := ht.size) | (go_at_call 31; refine (chain (w0 := w) (by go_grown) (by first | with_reducible exact ref2Clip _ (fits_shift n hn) _)).mono ?_; rintro e w' ⟨rfl, ht⟩; have hs := ht.size))
  go_ret2
  exact ⟨rfl, by go_grown⟩

set_option maxHeartbeats 1000000 in
theorem ref2Add (a b : Int) (ha : Half a) (hb : Half b) (w : World) :
    Calls Try.prog 12 #[.int .i64 a, .int .i64 b] w fun e w' => e = .returned (sat (a + b)) ∧ Below w.heap.size w w' := by
  have f1 := Lib.hid ha
  have f2 := Lib.hid hb
  clear ha hb
  go_enter Try.func12, Try.ntmps12
  go_wp2_with (first | (go_at_call 34; refine (chain (w0 := w) (by go_grown) (by first | with_reducible exact refOf a f1.out _ | with_reducible exact refOf b f2.out _)).mono ?_; rintro e w' ⟨rfl, ht⟩; have hs := ht.size) | (go_at_call 33; refine (chain (w0 := w) (by go_grown) (by first | with_reducible exact refAdd a b _)).mono ?_; rintro e w' ⟨rfl, ht⟩; have hs := ht.size) | (go_at_call 31; refine (chain (w0 := w) (by go_grown) (by first | with_reducible exact ref2Clip _ (fits_add f1.out f2.out) _)).mono ?_; rintro e w' ⟨rfl, ht⟩; have hs := ht.size))
  go_ret2
  exact ⟨rfl, by go_grown⟩

set_option maxHeartbeats 1000000 in
theorem ref2Sub (a b : Int) (ha : Half a) (hb : Half b) (w : World) :
    Calls Try.prog 14 #[.int .i64 a, .int .i64 b] w fun e w' => e = .returned (sat (a + -b)) ∧ Below w.heap.size w w' := by
  have f1 := Lib.hid ha
  have f2 := Lib.hid hb
  clear ha hb
  go_enter Try.func14, Try.ntmps14
  go_wp2_with (first | (go_at_call 34; refine (chain (w0 := w) (by go_grown) (by first | with_reducible exact refOf a f1.out _ | with_reducible exact refOf b f2.out _)).mono ?_; rintro e w' ⟨rfl, ht⟩; have hs := ht.size) | (go_at_call 38; refine (chain (w0 := w) (by go_grown) (by first | with_reducible exact refNeg b _)).mono ?_; rintro e w' ⟨rfl, ht⟩; have hs := ht.size) | (go_at_call 33; refine (chain (w0 := w) (by go_grown) (by first | with_reducible exact refAdd a (-b) _)).mono ?_; rintro e w' ⟨rfl, ht⟩; have hs := ht.size) | (go_at_call 31; refine (chain (w0 := w) (by go_grown) (by first | with_reducible exact ref2Clip _ (fits_sub f1.out f2.out) _)).mono ?_; rintro e w' ⟨rfl, ht⟩; have hs := ht.size))
  go_ret2
  exact ⟨rfl, by go_grown⟩

set_option maxHeartbeats 1000000 in
theorem ref2Neg (a : Int) (ha : Half a) (w : World) :
    Calls Try.prog 16 #[.int .i64 a] w fun e w' => e = .returned (sat (-a)) ∧ Below w.heap.size w w' := by
  go_enter Try.func16, Try.ntmps16
  go_wp2_with (first | (go_at_call 14; refine (chain (w0 := w) (by go_grown) (by first | with_reducible exact ref2Sub 0 a (by unfold Half; omega) ha _)).mono ?_; rintro e w' ⟨rfl, ht⟩; have hs := ht.size))
  go_ret2
  exact ⟨rfl, by go_grown⟩

set_option maxHeartbeats 1000000 in
theorem ref2Abs_lo (a : Int) (ha : Half a) (h : a < 0) (w : World) :
    Calls Try.prog 18 #[.int .i64 a] w fun e w' => e = .returned (sat (-a)) ∧ Below w.heap.size w w' := by
  go_enter Try.func18, Try.ntmps18
  go_wp2_with (first | (go_at_call 16; refine (chain (w0 := w) (by go_grown) (by first | with_reducible exact ref2Neg a ha _)).mono ?_; rintro e w' ⟨rfl, ht⟩; have hs := ht.size))
  go_ret2
  exact ⟨rfl, by go_grown⟩

set_option maxHeartbeats 1000000 in
theorem ref2Abs_hi (a : Int) (ha : Half a) (h : ¬ a < 0) (w : World) :
    Calls Try.prog 18 #[.int .i64 a] w fun e w' => e = .returned (sat a) ∧ Below w.heap.size w w' := by
  go_enter Try.func18, Try.ntmps18
  go_wp2
  go_ret2
  exact ⟨by rw [sat_in a ha]; rfl, by go_grown⟩

set_option maxHeartbeats 1000000 in
theorem ref2Mul (a b : Int) (ha : Half a) (hb : Half b) (w : World) :
    Calls Try.prog 21 #[.int .i64 a, .int .i64 b] w fun e w' => e = .returned (sat (near (a * b) 32)) ∧ Below w.heap.size w w' := by
  have f1 := Lib.hid ha
  have f2 := Lib.hid hb
  clear ha hb
  go_enter Try.func21, Try.ntmps21
  go_wp2_with (first | (go_at_call 32; refine (chain (w0 := w) (by go_grown) (by first | with_reducible exact refMul a b f1.out f2.out _)).mono ?_; rintro e w' ⟨rfl, ht⟩; have hs := ht.size) | (go_at_call 41; refine (chain (w0 := w) (by go_grown) (by first | with_reducible exact refNear (a * b) 32 (fits_mul f1.out f2.out) (by unfold Half; omega) _)).mono ?_; rintro e w' ⟨rfl, ht⟩; have hs := ht.size) | (go_at_call 31; refine (chain (w0 := w) (by go_grown) (by first | with_reducible exact ref2Clip _ (fits_near f1.out f2.out) _)).mono ?_; rintro e w' ⟨rfl, ht⟩; have hs := ht.size))
  go_ret2
  exact ⟨rfl, by go_grown⟩

theorem ref2Div_0 (a b : Int) (h : b = 0) (w : World) : Calls Try.prog 23 #[.int .i64 a, .int .i64 b] w fun e w' => e = .returned (quo a b) ∧ Below w.heap.size w w' := by
  subst h
  unfold quo
  rw [if_pos rfl]
  rcases Int.lt_trichotomy a 0 with h | h | h
  · have g : ¬ 0 < a := by omega
    rw [if_neg g, if_pos h]
    go_enter Try.func23, Try.ntmps23
    go_wp2
    go_ret2
    exact ⟨rfl, by go_grown⟩
  · subst h
    go_enter Try.func23, Try.ntmps23
    go_wp2
    go_ret2
    exact ⟨rfl, by go_grown⟩
  · rw [if_pos h]
    go_enter Try.func23, Try.ntmps23
    go_wp2
    go_ret2
    exact ⟨rfl, by go_grown⟩

set_option maxHeartbeats 1000000 in
theorem ref2Div_not (a b : Int) (ha : Half a) (hb : Half b) (hz : b ≠ 0) (w : World) :
    Calls Try.prog 23 #[.int .i64 a, .int .i64 b] w fun e w' => e = .returned (quo a b) ∧ Below w.heap.size w w' := by
  have d1 := Lib.hid (fun W1 : World => refDiv (a * 4294967296) b (fits_shift a ha) hb W1)
  unfold quo
  rw [if_neg hz]
  unfold divided at d1
  rw [if_neg hz] at d1
  have f3 := Lib.hid (fits_quo ha b)
  have f1 := Lib.hid ha
  have f2 := Lib.hid hb
  clear ha hb
  go_enter Try.func23, Try.ntmps23
  go_wp2_with (first | (go_at_call 32; refine (chain (w0 := w) (by go_grown) (by first | with_reducible exact refMul a 4294967296 f1.out (by unfold Half; omega) _)).mono ?_; rintro e w' ⟨rfl, ht⟩; have hs := ht.size) | (go_at_call 44; refine (chain (w0 := w) (by go_grown) (by first | with_reducible exact d1.out _)).mono ?_; rintro e w' ⟨rfl, ht⟩; have hs := ht.size) | (go_at_call 31; refine (chain (w0 := w) (by go_grown) (by first | with_reducible exact ref2Clip _ f3.out _)).mono ?_; rintro e w' ⟨rfl, ht⟩; have hs := ht.size))
  go_ret2
  exact ⟨rfl, by go_grown⟩

theorem ref2Div (a b : Int) (ha : Half a) (hb : Half b) (w : World) : Calls Try.prog 23 #[.int .i64 a, .int .i64 b] w fun e w' => e = .returned (quo a b) ∧ Below w.heap.size w w' := by
  by_cases hz : b = 0
  · exact ref2Div_0 a b hz w
  · exact ref2Div_not a b ha hb hz w
theorem ref2Abs (a : Int) (ha : Half a) (w : World) : Calls Try.prog 18 #[.int .i64 a] w fun e w' => e = .returned (sat (if a < 0 then -a else a)) ∧ Below w.heap.size w w' := by
  by_cases h : a < 0
  · rw [if_pos h]; exact ref2Abs_lo a ha h w
  · rw [if_neg h]; exact ref2Abs_hi a ha h w

end Go.Proofs.Ytbedmkingceepaa
