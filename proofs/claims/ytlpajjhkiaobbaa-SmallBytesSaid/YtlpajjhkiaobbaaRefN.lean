/- How far something turns, in the document's answer. -/
import Derived.Test.YtlpajjhkiaobbaaRefM
namespace Go.Proofs.Ytlpajjhkiaobbaa
open Go.RowKit
attribute [local go_sem] cell_re eqW_self run_fieldW
attribute [local go_sem ↓] run_eqlW run_neqW

/-- Ticks, within bounds. -/
def within (n : Int) : Int := max 0 (min n 65535)
theorem turn_floor (x : Int) : (if x.tmod 100 < 0 then x.tdiv 100 - 1 else x.tdiv 100) = x / 100 := by
  have h := tdiv_cases x 100
  rcases Int.lt_or_le x 0 with h0 | h0
  · rw [(h.2.2.1 h0 (by decide)).1, (h.2.2.1 h0 (by decide)).2]; split <;> omega
  · rw [(h.1 h0 (by decide)).1, (h.1 h0 (by decide)).2]; split <;> omega

set_option maxRecDepth 100000 in
set_option maxHeartbeats 1000000 in
theorem ref3Turn_t (a n t : Int) (ha : Short a) (hn : Half n) (ht : (n < 0 ∧ t = 0) ∨ (0 ≤ n ∧ n ≤ 65535 ∧ t = n) ∨ (65535 < n ∧ t = 65535)) (w : World) :
    Calls Try.prog 30 #[.int .i32 a, .int .i64 n] w fun e w' => e = .returned (.int .u32 (a * t * 65536 / 100 % 4294967296)) ∧ Below w.heap.size w w' := by
  have h0 : 0 ≤ t ∧ t ≤ 65535 := by omega
  have hp := half_product ha (show Short t by unfold Short; omega)
  obtain ⟨x, hx⟩ : ∃ x, Hid (a * t * 65536 = x) := ⟨_, rfl⟩
  have hxf : Fits x := by rw [← hx.out]; unfold Fits; omega
  obtain ⟨q, hq⟩ : ∃ q, Hid (x.tdiv 100 = q) := ⟨_, rfl⟩
  obtain ⟨r, hr⟩ : ∃ r, Hid (x.tmod 100 = r) := ⟨_, rfl⟩
  have hfl := Lib.hid (turn_floor x)
  rw [hq.out, hr.out] at hfl
  have g1 := Lib.hid ha.half
  have g2 := Lib.hid (show Half t by unfold Half; omega)
  have d1 := Lib.hid (fun W1 : World => refLeft (a * t) 16 (by unfold Half; omega) W1)
  rw [show (16 : Int).toNat = 16 by decide, show (2 : Int) ^ 16 = 65536 by decide, hx.out] at d1
  have d2 : Hid (∀ W1 : World, Calls Try.prog 44 #[W x, .int .i64 100] W1 fun e w' => e = .returned (.tuple #[W q, .int .i64 r, .bool true]) ∧ Below W1.heap.size W1 w') := fun W1 => by
    have := refDiv x 100 hxf (by unfold Half; omega) W1
    rw [divided, if_neg (by decide), hq.out, hr.out] at this
    exact this
  have l0 := lo_lo q
  have l1 := lo_hi q
  obtain ⟨a0, a1⟩ := ha
  obtain ⟨n0, n1⟩ := hn
  rw [hx.out]
  clear hp hxf
  rcases Int.lt_or_le r 0 with hr0 | hr0
  · rw [if_pos hr0] at hfl
    rcases ht with ⟨h1, rfl⟩ | ⟨h1, h2, rfl⟩ | ⟨h1, rfl⟩
    all_goals
      try rw [Int.mul_zero] at d1
      go_enter Try.func30, Try.ntmps30
      go_wp2_with (first | (go_at_call 36; refine (chain (w0 := w) (by go_grown) (by first | with_reducible exact refMul a _ g1.out g2.out _)).mono ?_; rintro e w' ⟨rfl, ht⟩; have hs := ht.size) | (go_at_call 43; refine (chain (w0 := w) (by go_grown) (by first | with_reducible exact d1.out _)).mono ?_; rintro e w' ⟨rfl, ht⟩; have hs := ht.size) | (go_at_call 44; refine (chain (w0 := w) (by go_grown) (by first | with_reducible exact d2.out _)).mono ?_; rintro e w' ⟨rfl, ht⟩; have hs := ht.size))
      all_goals
        go_returns
        refine ⟨retI ?_, by go_grown⟩
        rw [← hfl.out]
        unfold lo
        omega
  · have hr1 : ¬ r < 0 := by omega
    rw [if_neg hr1] at hfl
    rcases ht with ⟨h1, rfl⟩ | ⟨h1, h2, rfl⟩ | ⟨h1, rfl⟩
    all_goals
      try rw [Int.mul_zero] at d1
      go_enter Try.func30, Try.ntmps30
      go_wp2_with (first | (go_at_call 36; refine (chain (w0 := w) (by go_grown) (by first | with_reducible exact refMul a _ g1.out g2.out _)).mono ?_; rintro e w' ⟨rfl, ht⟩; have hs := ht.size) | (go_at_call 43; refine (chain (w0 := w) (by go_grown) (by first | with_reducible exact d1.out _)).mono ?_; rintro e w' ⟨rfl, ht⟩; have hs := ht.size) | (go_at_call 44; refine (chain (w0 := w) (by go_grown) (by first | with_reducible exact d2.out _)).mono ?_; rintro e w' ⟨rfl, ht⟩; have hs := ht.size))
      all_goals
        go_returns
        refine ⟨retI ?_, by go_grown⟩
        rw [← hfl.out]
        unfold lo
        omega
theorem ref3Turn (a n : Int) (ha : Short a) (hn : Half n) (w : World) :
    Calls Try.prog 30 #[.int .i32 a, .int .i64 n] w fun e w' => e = .returned (.int .u32 (a * within n * 65536 / 100 % 4294967296)) ∧ Below w.heap.size w w' :=
  ref3Turn_t a n (within n) ha hn (by unfold within; omega) w

end Go.Proofs.Ytlpajjhkiaobbaa
