/- What the document's answers on short numbers are. -/
import Derived.Test.YtlpajjhkiaobbaaRefK
import Derived.Test.YtlpajjhkiaobbaaSmallMath
namespace Go.Proofs.Ytlpajjhkiaobbaa
open Go.RowKit
attribute [local go_sem] cell_re eqW_self
attribute [local go_sem ↓] run_eqlW run_neqW

theorem ref3Clip_lo (n : Int) (hn : Half n) (h : n < -2147483648) (w : World) : Calls Try.prog 35 #[.int .i64 n] w fun e w' => e = .returned (sat32 n) ∧ Below w.heap.size w w' := by
  rw [sat32_eq (show clip32 n = -2147483648 by unfold clip32; omega) (show cut32 n = true by unfold cut32; simp; omega)]
  obtain ⟨n0, n1⟩ := hn
  go_enter Try.func35, Try.ntmps35
  go_wp2
  go_ret2
  exact ⟨rfl, by go_grown⟩
theorem ref3Clip_hi (n : Int) (hn : Half n) (h : 2147483647 < n) (w : World) : Calls Try.prog 35 #[.int .i64 n] w fun e w' => e = .returned (sat32 n) ∧ Below w.heap.size w w' := by
  rw [sat32_eq (show clip32 n = 2147483647 by unfold clip32; omega) (show cut32 n = true by unfold cut32; simp; omega)]
  obtain ⟨n0, n1⟩ := hn
  go_enter Try.func35, Try.ntmps35
  go_wp2
  go_ret2
  exact ⟨rfl, by go_grown⟩
theorem ref3Clip_in (n : Int) (hn : Half n) (h : -2147483648 ≤ n ∧ n ≤ 2147483647) (w : World) : Calls Try.prog 35 #[.int .i64 n] w fun e w' => e = .returned (sat32 n) ∧ Below w.heap.size w w' := by
  rw [sat32_eq (show clip32 n = n by unfold clip32; omega) (show cut32 n = false by unfold cut32; simp; omega)]
  obtain ⟨n0, n1⟩ := hn
  go_enter Try.func35, Try.ntmps35
  go_wp2
  go_ret2
  exact ⟨rfl, by go_grown⟩
theorem ref3Clip (n : Int) (hn : Half n) (w : World) : Calls Try.prog 35 #[.int .i64 n] w fun e w' => e = .returned (sat32 n) ∧ Below w.heap.size w w' := by
  rcases Int.lt_or_le n (-2147483648) with h | h
  · exact ref3Clip_lo n hn h w
  · rcases Int.lt_or_le 2147483647 n with h2 | h2
    · exact ref3Clip_hi n hn h2 w
    · exact ref3Clip_in n hn ⟨h, h2⟩ w

set_option maxHeartbeats 1000000 in
theorem ref3Widen (a : Int) (ha : Short a) (w : World) :
    Calls Try.prog 17 #[.int .i32 a] w fun e w' => e = .returned (.int .i64 (65536 * a)) ∧ Below w.heap.size w w' := by
  have f1 := Lib.hid ha
  obtain ⟨a0, a1⟩ := ha
  go_enter Try.func17, Try.ntmps17
  go_wp2
  go_ret
  exact ⟨rfl, by go_grown⟩

set_option maxHeartbeats 1000000 in
theorem ref3Narrow (a : Int) (ha : Half a) (w : World) :
    Calls Try.prog 9 #[.int .i64 a] w fun e w' => e = .returned (sat32 ((a + 32768) / 65536)) ∧ Below w.heap.size w w' := by
  have f1 := Lib.hid ha
  have f3 := Lib.hid (half_near16 ha)
  have d1 := Lib.hid (fun W1 : World => refNear a 16 (by unfold Half at ha; unfold Fits; omega) (by unfold Half; omega) W1)
  rw [near16] at d1
  have d2 := Lib.hid (fun W1 : World => refClip ((a + 32768) / 65536) (by have := half_near16 ha; unfold Half at this; unfold Fits; omega) W1)
  rw [clipped_of_half (half_near16 ha)] at d2
  clear ha
  go_enter Try.func9, Try.ntmps9
  go_wp2_with (first | (go_at_call 34; refine (chain (w0 := w) (by go_grown) (by first | with_reducible exact refOf a f1.out _)).mono ?_; rintro e w' ⟨rfl, ht⟩; have hs := ht.size) | (go_at_call 33; refine (chain (w0 := w) (by go_grown) (by first | with_reducible exact d1.out _)).mono ?_; rintro e w' ⟨rfl, ht⟩; have hs := ht.size) | (go_at_call 32; refine (chain (w0 := w) (by go_grown) (by first | with_reducible exact d2.out _)).mono ?_; rintro e w' ⟨rfl, ht⟩; have hs := ht.size) | (go_at_call 35; refine (chain (w0 := w) (by go_grown) (by first | with_reducible exact ref3Clip _ f3.out _)).mono ?_; rintro e w' ⟨rfl, ht⟩; have hs := ht.size))
  go_ret2
  exact ⟨rfl, by go_grown⟩

set_option maxHeartbeats 1000000 in
theorem ref3Add (a b : Int) (ha : Short a) (hb : Short b) (w : World) :
    Calls Try.prog 11 #[.int .i32 a, .int .i32 b] w fun e w' => e = .returned (sat32 (a + b)) ∧ Below w.heap.size w w' := by
  have f3 := Lib.hid (show Half (a + b) by unfold Short at ha hb; unfold Half; omega)
  have f1 := Lib.hid ha
  obtain ⟨a0, a1⟩ := ha
  have f2 := Lib.hid hb
  obtain ⟨b0, b1⟩ := hb
  go_enter Try.func11, Try.ntmps11
  go_wp2_with (first | (go_at_call 35; refine (chain (w0 := w) (by go_grown) (by first | with_reducible exact ref3Clip (a + b) f3.out _)).mono ?_; rintro e w' ⟨rfl, ht⟩; have hs := ht.size))
  go_ret2
  exact ⟨rfl, by go_grown⟩

set_option maxHeartbeats 1000000 in
theorem ref3Mul (a b : Int) (ha : Short a) (hb : Short b) (w : World) :
    Calls Try.prog 13 #[.int .i32 a, .int .i32 b] w fun e w' => e = .returned (sat32 ((a * b + 32768) / 65536)) ∧ Below w.heap.size w w' := by
  have hp := half_product ha hb
  have g1 := Lib.hid ha.half
  have g2 := Lib.hid hb.half
  have h3 : Half ((a * b + 32768) / 65536) := by unfold Half; omega
  have f3 := Lib.hid h3
  have d1 := Lib.hid (fun W1 : World => refNear (a * b) 16 (by unfold Fits; omega) (by unfold Half; omega) W1)
  rw [near16] at d1
  have d2 := Lib.hid (fun W1 : World => refClip ((a * b + 32768) / 65536) (by unfold Fits; omega) W1)
  rw [clipped_of_half h3] at d2
  clear hp h3
  have f1 := Lib.hid ha
  obtain ⟨a0, a1⟩ := ha
  have f2 := Lib.hid hb
  obtain ⟨b0, b1⟩ := hb
  go_enter Try.func13, Try.ntmps13
  go_wp2_with (first | (go_at_call 36; refine (chain (w0 := w) (by go_grown) (by first | with_reducible exact refMul a b g1.out g2.out _)).mono ?_; rintro e w' ⟨rfl, ht⟩; have hs := ht.size) | (go_at_call 33; refine (chain (w0 := w) (by go_grown) (by first | with_reducible exact d1.out _)).mono ?_; rintro e w' ⟨rfl, ht⟩; have hs := ht.size) | (go_at_call 32; refine (chain (w0 := w) (by go_grown) (by first | with_reducible exact d2.out _)).mono ?_; rintro e w' ⟨rfl, ht⟩; have hs := ht.size) | (go_at_call 35; refine (chain (w0 := w) (by go_grown) (by first | with_reducible exact ref3Clip _ f3.out _)).mono ?_; rintro e w' ⟨rfl, ht⟩; have hs := ht.size))
  go_ret2
  exact ⟨rfl, by go_grown⟩

set_option maxHeartbeats 1000000 in
theorem ref3Times (a b : Int) (ha : Short a) (hb : Half b) (w : World) :
    Calls Try.prog 15 #[.int .i32 a, .int .i64 b] w fun e w' => e = .returned (sat (near (65536 * a * b) 32)) ∧ Below w.heap.size w w' := by
  have f3 := Lib.hid (show Half (65536 * a) by unfold Short at ha; unfold Half; omega)
  have f1 := Lib.hid ha
  obtain ⟨a0, a1⟩ := ha
  have f2 := Lib.hid hb
  obtain ⟨b0, b1⟩ := hb
  go_enter Try.func15, Try.ntmps15
  go_wp2_with (first | (go_at_call 17; refine (chain (w0 := w) (by go_grown) (by first | with_reducible exact ref3Widen a f1.out _)).mono ?_; rintro e w' ⟨rfl, ht⟩; have hs := ht.size) | (go_at_call 38; refine (chain (w0 := w) (by go_grown) (by first | with_reducible exact ref2Mul (65536 * a) b f3.out f2.out _)).mono ?_; rintro e w' ⟨rfl, ht⟩; have hs := ht.size))
  go_ret2
  exact ⟨rfl, by go_grown⟩


end Go.Proofs.Ytlpajjhkiaobbaa
