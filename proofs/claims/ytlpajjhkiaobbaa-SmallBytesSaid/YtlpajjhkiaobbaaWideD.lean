/- What Near and Div of package wide answer, each for every number that its parameters can hold; of what was in memory nothing has turned. -/
import Derived.Test.YtlpajjhkiaobbaaWideC
namespace Go.Proofs.Ytlpajjhkiaobbaa
open Go.RowKit
theorem run_fieldW (v : Int) (w : World) : (Instr.field 57 (W v) 1).run Try.prog w = .ok (.int .u64 (lo v)) w := by rfl
attribute [local go_sem] cell_re eqW_self run_fieldW
attribute [local go_sem ↓] run_eqlW run_neqW

theorem full (U : Int) (h0 : 0 ≤ U) (h1 : U < 340282366920938463463374607431768211456) : U = IntKind.u64.wrap (hi U) * 18446744073709551616 + lo U := by
  rw [IntKind.wrap_u64]; unfold hi lo; omega

set_option maxHeartbeats 400000 in
theorem wideNear_zero (a : Int) (n : Int) (hn : Half n) (pn : places n = 0) (w : World) :
    Calls Try.prog 51 #[W a, .int .i64 n] w fun e w' => e = .returned (W a) ∧ Below w.heap.size w w' := by
  have hha := hi_lo a
  have hga := hi_hi a
  have hla := lo_lo a
  have hka := lo_hi a
  go_enter Try.func51, Try.ntmps51
  go_wp2_with ((go_at_call 56; refine (widePlaces _ _ hn pn _).mono ?_; rintro e w' ⟨rfl, rfl⟩))
  go_returns
  exact ⟨rfl, by go_grown⟩

set_option maxRecDepth 100000 in
set_option maxHeartbeats 400000 in
theorem wideNear_pos (a : Int) (ha : Fits a) (n : Int) (hn : Half n) (k : Nat) (pn : places n = (k : Int) + 1) (w : World) :
    Calls Try.prog 51 #[W a, .int .i64 n] w fun e w' => e = .returned (W (a / 2 ^ (k + 1) + lo (a / 2 ^ k) % 2)) ∧ Below w.heap.size w w' := by
  have hha := hi_lo a
  have hga := hi_hi a
  have hla := lo_lo a
  have hka := lo_hi a
  have k0 : (k : Int) ≤ 126 := by unfold places at pn; omega
  have b0 := lo_lo (a / 2 ^ k)
  have b1 := lo_hi (a / 2 ^ k)
  have a1 := and1 (lo (a / 2 ^ k)) b0 b1
  have p1 : Hid (places (k : Int) = (k : Int)) := by show places (k : Int) = (k : Int); unfold places; omega
  have p2 : Hid (places ((k : Int) + 1) = ((k + 1 : Nat) : Int)) := by show places ((k : Int) + 1) = ((k + 1 : Nat) : Int); unfold places; omega
  go_enter Try.func51, Try.ntmps51
  go_wp2_with ((go_at_call 56; refine (widePlaces _ _ hn pn _).mono ?_; rintro e w' ⟨rfl, rfl⟩))
  refine (wideRight a ha _ (by unfold Half; omega) k p1.out _).mono ?_
  rintro e1 w1 ⟨rfl, hb1⟩
  obtain ⟨hc1, hf1⟩ := bcell hb1
  have kA1 : w.heap.size < w1.heap.size := by
    have := hb1.size
    try simp at this
    omega
  have kB1 : w.heap.size + 1 < w1.heap.size := by
    have := hb1.size
    try simp at this
    omega
  have ht1 : Below w.heap.size w w1 := Below.trans (by go_grown) (hb1.mono (by simp; try omega))
  go_wp2_with fail
  refine (wideRight a ha _ (by unfold Half; omega) (k + 1) p2.out _).mono ?_
  rintro e2 w2 ⟨rfl, hb2⟩
  obtain ⟨hc2, hf2⟩ := bcell hb2
  have kA2 : w.heap.size < w2.heap.size := by have := hb2.size; omega
  have kB2 : w.heap.size + 1 < w2.heap.size := by have := hb2.size; omega
  have ht2 : Below w.heap.size w w2 := Below.trans ht1 (hb2.mono (by have := ht1.size; omega))
  go_wp2_with fail
  refine (wideAdd_low _ (lo (a / 2 ^ k) % 2) (by omega) (by omega) _).mono ?_
  rintro e3 w3 ⟨rfl, hb3⟩
  obtain ⟨hc3, hf3⟩ := bcell hb3
  have kA3 : w.heap.size < w3.heap.size := by have := hb3.size; omega
  have kB3 : w.heap.size + 1 < w3.heap.size := by have := hb3.size; omega
  have ht3 : Below w.heap.size w w3 := Below.trans ht2 (hb3.mono (by have := ht2.size; omega))
  go_wp2
  refine bodyPost_ret (by simp [results, Try.results51, go_sem, hc1, hc2, hc3, kB1, kB2]; try rfl) rfl ?_
  exact ⟨rfl, Below.setCell (Below.setCell ht3 (by simp) _) (by simp) _⟩

/-- What Div answers, whatever it is asked. -/
def divided (a b : Int) : Value := if b = 0 then .tuple #[.agg #[.int .i64 0, .int .u64 0], .int .i64 0, .bool false] else .tuple #[W (a.tdiv b), .int .i64 (a.tmod b), .bool true]

theorem wideNear (a n : Int) (ha : Fits a) (hn : Half n) (w : World) :
    Calls Try.prog 51 #[W a, .int .i64 n] w fun e w' => e = .returned (W (near a n)) ∧ Below w.heap.size w w' := by
  rcases Int.lt_or_le 0 n with h | h
  · obtain ⟨k, hk⟩ : ∃ k : Nat, places n = (k : Int) + 1 := ⟨(places n).toNat - 1, by unfold places; omega⟩
    have e : near a n = a / 2 ^ (k + 1) + lo (a / 2 ^ k) % 2 := by
      unfold near
      rw [if_neg (by omega), hk, show ((k : Int) + 1).toNat = k + 1 by omega, near_half a (k + 1) (by omega), show k + 1 - 1 = k by omega]
      unfold lo
      omega
    rw [e]
    exact wideNear_pos a ha n hn k hk w
  · have e : near a n = a := by unfold near; rw [if_pos h]
    rw [e]
    exact wideNear_zero a n hn (by unfold places; omega) w

end Go.Proofs.Ytlpajjhkiaobbaa
