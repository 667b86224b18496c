/- What the calls of package small answer on numbers. -/
import Derived.Test.YtlpajjhkiaobbaaFixP
import Derived.Test.YtlpajjhkiaobbaaSmallMath
import Derived.Test.YtlpajjhkiaobbaaBase
import Derived.Laws.Cover3
namespace Go.Proofs.Ytlpajjhkiaobbaa
open Go.RowKit
attribute [local go_sem] cell_re eqW_self
attribute [local go_sem ↓] run_eqlW run_neqW

theorem retT {j k : IntKind} {a b c d : Int} (h : a = b) (l : c = d) : Ending.returned (.tuple #[.int j a, .int k c]) = .returned (.tuple #[.int j b, .int k d]) := by rw [h, l]
theorem half_wrap64 (x : Int) : Half (wrap64 x) := by unfold Half wrap64; omega
theorem clamp_short (x : Int) : clamp x (-2147483648) 2147483647 = clip32 x := by unfold clamp clip32; split <;> (try split) <;> (try split) <;> omega
theorem clamped_short (x : Int) : clamped x (-2147483648) 2147483647 = cut32 x := by
  unfold clamped cut32
  rw [decide_eq_false (show ¬ (2147483647 : Int) < -2147483648 by decide), Bool.false_or]
theorem narrowed (a : Int) : (a / 32768 + 1) / 2 = (a + 32768) / 65536 := by omega
theorem short_of_wf {n : Int} (h : (Lit.int .i32 n).wf = true) : Short n := by
  simp [Lit.wf, IntKind.min, IntKind.max, IntKind.signed, IntKind.bits] at h
  exact ⟨by omega, by omega⟩
theorem short_clip32 (x : Int) : Short (clip32 x) := by unfold Short clip32; omega
theorem turn_product {a t : Int} (ha : Short a) (ht : 0 ≤ t ∧ t ≤ 65535) : -140737488355328 * 1 + 2147483648 ≤ a * t ∧ a * t ≤ 140737488355328 - 2147483648 := by
  obtain ⟨a0, a1⟩ := ha
  have h1 := Int.mul_le_mul_of_nonneg_right a0 ht.1
  have h2 := Int.mul_le_mul_of_nonneg_right a1 ht.1
  omega
theorem wrap64_in {x : Int} (h : -9223372036854775808 ≤ x ∧ x ≤ 9223372036854775807) : wrap64 x = x := by unfold wrap64; omega
theorem over_100 (x : Int) : (if x.tmod 100 < 0 then x.tdiv 100 - 1 else x.tdiv 100) = x / 100 := by
  have h := tdiv_cases x 100
  rcases Int.lt_or_le x 0 with h0 | h0
  · rw [(h.2.2.1 h0 (by decide)).1, (h.2.2.1 h0 (by decide)).2]; split <;> omega
  · rw [(h.1 h0 (by decide)).1, (h.1 h0 (by decide)).2]; split <;> omega

set_option maxRecDepth 100000 in
set_option maxHeartbeats 1000000 in
theorem smallWiden (a : Int) (ha : Short a) (w : World) : Calls Try.prog 16 #[.int .i32 a] w fun e w' => e = .returned (.int .i64 (65536 * a)) ∧ Below w.heap.size w w' := by
  obtain ⟨a0, a1⟩ := ha
  go_enter Try.func16, Try.ntmps16
  go_wp2
  go_ret
  exact ⟨retI (Int.mul_comm _ _), by go_grown⟩

set_option maxRecDepth 100000 in
set_option maxHeartbeats 1000000 in
theorem smallNarrow (a : Int) (ha : Half a) (w : World) : Calls Try.prog 8 #[.int .i64 a] w fun e w' => e = .returned (sat32 ((a + 32768) / 65536)) ∧ Below w.heap.size w w' := by
  have d1 := Lib.hid (fun W1 : World => fixClamp ((a / 32768 + 1) / 2) (-2147483648) 2147483647 (by unfold Half at ha ⊢; omega) (by unfold Half; omega) (by unfold Half; omega) W1)
  rw [clamp_short, clamped_short] at d1
  have e1 := Lib.hid (narrowed a)
  obtain ⟨c, hc⟩ : ∃ c, Hid (clip32 ((a / 32768 + 1) / 2) = c) := ⟨_, rfl⟩
  have c0 := short_clip32 ((a / 32768 + 1) / 2)
  rw [hc.out] at c0 d1
  obtain ⟨c0, c1⟩ := c0
  obtain ⟨a0, a1⟩ := ha
  go_enter Try.func8, Try.ntmps8
  go_wp2_with fail
  refine (d1.out _).mono ?_
  rintro e w1 ⟨rfl, hb1⟩
  go_wp2
  go_ret2
  exact ⟨retIB (by rw [← hc.out, e1.out]) (by rw [← e1.out]), hb1⟩

set_option maxRecDepth 100000 in
set_option maxHeartbeats 1000000 in
theorem smallOver (a : Int) (ha : Half a) (w : World) : Calls Try.prog 42 #[.int .i64 a, .int .i64 100] w fun e w' => e = .returned (.int .i64 (a / 100)) ∧ Below w.heap.size w w' := by
  have e1 := Lib.hid (over_100 a)
  have f1 := Lib.hid ha
  obtain ⟨a0, a1⟩ := ha
  rcases Int.lt_or_le (a.tmod 100) 0 with h | h
  all_goals
    go_enter Try.func42, Try.ntmps42
    go_wp2
    go_ret
    refine ⟨retI ?_, by go_grown⟩
    have e := e1.out
    first | rw [if_pos h] at e | rw [if_neg (by omega)] at e
    have := f1.out
    unfold Half at this
    try unfold wrap64
    omega

set_option maxRecDepth 100000 in
set_option maxHeartbeats 1000000 in
theorem smallAdd (a b : Int) (ha : Short a) (hb : Short b) (w : World) : Calls Try.prog 10 #[.int .i32 a, .int .i32 b] w fun e w' => e = .returned (sat32 (a + b)) ∧ Below w.heap.size w w' := by
  have f1 := Lib.hid ha
  have f2 := Lib.hid hb
  have d1 := Lib.hid (fun W1 : World => smallNarrow (65536 * a + 65536 * b) (by unfold Half; unfold Short at ha hb; omega) W1)
  rw [show (65536 * a + 65536 * b + 32768) / 65536 = a + b by omega] at d1
  obtain ⟨a0, a1⟩ := ha
  obtain ⟨b0, b1⟩ := hb
  go_enter Try.func10, Try.ntmps10
  go_wp2_with (first | (go_at_call 16; refine (chain (w0 := w) (by go_grown) (by first | with_reducible exact smallWiden a f1.out _ | with_reducible exact smallWiden b f2.out _)).mono ?_; rintro e w' ⟨rfl, ht⟩; have hs := ht.size) | (go_at_call 8; refine (chain (w0 := w) (by go_grown) (by first | with_reducible exact d1.out _)).mono ?_; rintro e w' ⟨rfl, ht⟩; have hs := ht.size))
  go_ret2
  exact ⟨rfl, by go_grown⟩

set_option maxRecDepth 100000 in
set_option maxHeartbeats 1000000 in
theorem smallMul (a b : Int) (ha : Short a) (hb : Short b) (w : World) : Calls Try.prog 12 #[.int .i32 a, .int .i32 b] w fun e w' => e = .returned (sat32 ((a * b + 32768) / 65536)) ∧ Below w.heap.size w w' := by
  have hp := half_product ha hb
  have d1 := Lib.hid (fun W1 : World => smallNarrow (a * b) (by unfold Half; omega) W1)
  obtain ⟨a0, a1⟩ := ha
  obtain ⟨b0, b1⟩ := hb
  obtain ⟨x, hx⟩ : ∃ x, Hid (a * b = x) := ⟨_, rfl⟩
  have m1 : wrap64 (a * b) = x := by rw [hx.out] at hp ⊢; unfold wrap64; omega
  rw [hx.out] at d1 hp ⊢
  go_enter Try.func12, Try.ntmps12
  go_wp2_with (go_at_call 8; refine (chain (w0 := w) (by go_grown) (by first | with_reducible exact d1.out _)).mono ?_; rintro e w' ⟨rfl, ht⟩; have hs := ht.size)
  go_ret2
  exact ⟨rfl, by go_grown⟩

set_option maxRecDepth 100000 in
set_option maxHeartbeats 1000000 in
theorem smallTimes (a b : Int) (ha : Short a) (hb : Half b) (w : World) : Calls Try.prog 14 #[.int .i32 a, .int .i64 b] w fun e w' => e = .returned (sat (near (65536 * a * b) 32)) ∧ Below w.heap.size w w' := by
  have f1 := Lib.hid ha
  have f2 := Lib.hid hb
  have f3 := Lib.hid (show Half (65536 * a) by unfold Short at ha; unfold Half; omega)
  clear ha hb
  go_enter Try.func14, Try.ntmps14
  go_wp2_with (first | (go_at_call 16; refine (chain (w0 := w) (by go_grown) (by first | with_reducible exact smallWiden a f1.out _)).mono ?_; rintro e w' ⟨rfl, ht⟩; have hs := ht.size) | (go_at_call 37; refine (chain (w0 := w) (by go_grown) (by first | with_reducible exact fixMul (65536 * a) b f3.out f2.out _)).mono ?_; rintro e w' ⟨rfl, ht⟩; have hs := ht.size))
  go_ret2
  exact ⟨rfl, by go_grown⟩

set_option maxRecDepth 100000 in
set_option maxHeartbeats 1000000 in
theorem smallTurn_t (a n t : Int) (ha : Short a) (hn : Half n) (ht : (n < 0 ∧ t = 0) ∨ (0 ≤ n ∧ n ≤ 65535 ∧ t = n) ∨ (65535 < n ∧ t = 65535)) (w : World) : Calls Try.prog 29 #[.int .i32 a, .int .i64 n] w fun e w' => e = .returned (.int .u32 (a * t * 65536 / 100 % 4294967296)) ∧ Below w.heap.size w w' := by
  have f1 := Lib.hid ha
  have d1 := Lib.hid (fun (x : Int) (W1 : World) => smallOver (wrap64 x) (half_wrap64 x) W1)
  have hp := Lib.hid (turn_product ha (show 0 ≤ t ∧ t ≤ 65535 by omega))
  have e1 := Lib.hid (show 65536 * a * t = a * t * 65536 by rw [Int.mul_assoc, Int.mul_comm])
  obtain ⟨a0, a1⟩ := ha
  obtain ⟨n0, n1⟩ := hn
  rcases ht with ⟨h1, rfl⟩ | ⟨h1, h2, ht⟩ | ⟨h1, rfl⟩
  case' inr.inl => subst ht
  all_goals
    go_enter Try.func29, Try.ntmps29
    go_wp2_with (first | (go_at_call 16; refine (chain (w0 := w) (by go_grown) (by first | with_reducible exact smallWiden a f1.out _)).mono ?_; rintro e w' ⟨rfl, ht⟩; have hs := ht.size) | (go_at_call 42; refine (chain (w0 := w) (by go_grown) (by first | with_reducible exact d1.out _ _ | with_reducible exact smallOver 0 (by unfold Half; omega) _ | with_reducible exact smallOver (65536 * a * 65535) (by have := f1.out; unfold Short at this; unfold Half; omega) _)).mono ?_; rintro e w' ⟨rfl, ht⟩; have hs := ht.size))
    all_goals
      go_returns
      refine ⟨retI ?_, by go_grown⟩
      have h1 := hp.out
      have h2 := e1.out
      first
        | (rw [Int.mul_zero]; rfl)
        | (rw [h2, wrap64_in (by omega)])
        | rw [h2]

/-- Ticks, within bounds. -/
def within_ (n : Int) : Int := max 0 (min n 65535)
theorem smallTurn (a n : Int) (ha : Short a) (hn : Half n) (w : World) :
    Calls Try.prog 29 #[.int .i32 a, .int .i64 n] w fun e w' => e = .returned (.int .u32 (a * within_ n * 65536 / 100 % 4294967296)) ∧ Below w.heap.size w w' :=
  smallTurn_t a n (within_ n) ha hn (by unfold within_; omega) w

/-- The lowest n bytes of a number, the highest first. -/
def digs : Nat → Int → List Int
  | 0, _ => []
  | n + 1, x => digs n (x / 256) ++ [x % 256]
theorem digs_len : ∀ (n : Nat) (x : Int), (digs n x).length = n
  | 0, _ => rfl
  | n + 1, x => by rw [digs, List.length_append, digs_len n]; rfl
theorem digs_byted : ∀ (n : Nat) (x : Int), Byted (digs n x)
  | 0, _ => fun x hx => by cases hx
  | n + 1, x => (digs_byted n _).append fun y hy => by
    rw [List.mem_singleton] at hy
    subst hy
    omega
abbrev arr (xs : List Int) : Value := .agg (xs.map (Value.int .u8)).toArray

set_option maxRecDepth 100000 in
set_option maxHeartbeats 1000000 in
theorem smallPutFix (a : Int) (ha : Half a) (w : World) : Calls Try.prog 20 #[.int .i64 a] w fun e w' => e = .returned (arr (digs 8 (IntKind.u64.wrap a))) ∧ Below w.heap.size w w' := by
  obtain ⟨a0, a1⟩ := ha
  go_enter Try.func20, Try.ntmps20
  go_wp2
  go_rounds 9
  go_returns
  exact ⟨rfl, by go_grown⟩

set_option maxRecDepth 100000 in
set_option maxHeartbeats 1000000 in
theorem smallPut (a : Int) (ha : Short a) (w : World) : Calls Try.prog 19 #[.int .i32 a] w fun e w' => e = .returned (arr (digs 4 (IntKind.u64.wrap a))) ∧ Below w.heap.size w w' := by
  obtain ⟨u, hu⟩ : ∃ u, Hid (IntKind.u64.wrap a = u) := ⟨_, rfl⟩
  have hh : Half a := by unfold Short at ha; unfold Half; omega
  have d1 : Hid (∀ W1 : World, Calls Try.prog 20 #[.int .i64 a] W1 fun e w' => e = .returned (.agg #[.int .u8 (u / 256 / 256 / 256 / 256 / 256 / 256 / 256 % 256), .int .u8 (u / 256 / 256 / 256 / 256 / 256 / 256 % 256), .int .u8 (u / 256 / 256 / 256 / 256 / 256 % 256), .int .u8 (u / 256 / 256 / 256 / 256 % 256), .int .u8 (u / 256 / 256 / 256 % 256), .int .u8 (u / 256 / 256 % 256), .int .u8 (u / 256 % 256), .int .u8 (u % 256)]) ∧ Below W1.heap.size W1 w') := fun W1 => by
    have := smallPutFix a hh W1
    rw [hu.out] at this
    exact this
  rw [hu.out]
  clear hh
  have cv := fun (x : Option Addr) (W1 : World) => run_arrayAt (P := Try.prog) W1 33 5 4 x 4 4 Try.underlying33 (Nat.le_refl _)
  obtain ⟨a0, a1⟩ := ha
  go_enter Try.func19, Try.ntmps19
  go_wp2_with (go_at_call 20; refine (d1.out _).mono ?_; rintro e w' ⟨rfl, hb⟩; obtain ⟨hc, hf⟩ := bcell hb; have hz := hb.size; have ht := (Below.trans (by go_grown) (hb.mono (by simp; try omega)) : Below w.heap.size w w'); have hlt : w.heap.size < w'.heap.size := (by have := hb.size; simp at this; omega))
  refine bodyPost_ret (by simp [results, Try.results19, go_sem, hc, hlt]; try rfl) rfl ?_
  exact ⟨rfl, by go_grown⟩


end Go.Proofs.Ytlpajjhkiaobbaa
