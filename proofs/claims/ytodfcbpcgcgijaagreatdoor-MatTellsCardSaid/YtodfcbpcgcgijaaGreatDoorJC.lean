import Derived.Test.YtodfcbpcgcgijaaGreatDoorJB
/- What Near and Div of package wide answer, each for every number that its parameters can hold; of what was in memory nothing has turned. -/
namespace Go.Proofs.YtodfcbpcgcgijaaGreatDoor
set_option maxRecDepth 100000
open Go.RowKit
theorem run_fieldW (v : Int) (w : World) : (Instr.field 56 (W v) 1).run Tryz.prog w = .ok (.int .u64 (lo v)) w := by rfl
attribute [local go_sem] cell_re eqW_self run_fieldW
attribute [local go_sem ↓] run_eqlW run_neqW

theorem full (U : Int) (h0 : 0 ≤ U) (h1 : U < 340282366920938463463374607431768211456) : U = IntKind.u64.wrap (hi U) * 18446744073709551616 + lo U := by
  rw [IntKind.wrap_u64]; unfold hi lo; omega

set_option maxHeartbeats 400000 in
theorem wideNear_zero (a : Int) (n : Int) (hn : Half n) (pn : places n = 0) (w : World) :
    Calls Tryz.prog 75 #[W a, .int .i64 n] w fun e w' => e = .returned (W a) ∧ Below w.heap.size w w' := by
  have hha := hi_lo a
  have hga := hi_hi a
  have hla := lo_lo a
  have hka := lo_hi a
  go_enter Tryz.func75, Tryz.ntmps75
  go_wp2_with ((go_at_call 98; refine (widePlaces _ _ hn pn _).mono ?_; rintro e w' ⟨rfl, rfl⟩))
  go_returns
  exact ⟨rfl, by go_grown⟩

set_option maxRecDepth 100000 in
set_option maxHeartbeats 400000 in
theorem wideNear_pos (a : Int) (ha : Fits a) (n : Int) (hn : Half n) (k : Nat) (pn : places n = (k : Int) + 1) (w : World) :
    Calls Tryz.prog 75 #[W a, .int .i64 n] w fun e w' => e = .returned (W (a / 2 ^ (k + 1) + lo (a / 2 ^ k) % 2)) ∧ Below w.heap.size w w' := by
  have hha := hi_lo a
  have hga := hi_hi a
  have hla := lo_lo a
  have hka := lo_hi a
  have k0 : (k : Int) ≤ 126 := by unfold places at pn; omega
  have b0 := lo_lo (a / 2 ^ k)
  have b1 := lo_hi (a / 2 ^ k)
  have a1 := and1 (lo (a / 2 ^ k)) b0 b1
  have p1 : Hid (places (k : Int) = (k : Int)) := by show places (k : Int) = (k : Int); unfold places; omega
  have p2 : Hid (places ((k : Int) + 1) = ((k + 1 : Nat) : Int)) := by show places ((k : Int) + 1) = ((k + 1 : Nat) : Int); unfold places; omega
  go_enter Tryz.func75, Tryz.ntmps75
  go_wp2_with ((go_at_call 98; refine (widePlaces _ _ hn pn _).mono ?_; rintro e w' ⟨rfl, rfl⟩))
  refine (wideRight a ha _ (by unfold Half; omega) k p1.out _).mono ?_
  rintro e1 w1 ⟨rfl, hb1⟩
  obtain ⟨hc1, hf1⟩ := bcell hb1
  have kA1 : w.heap.size < w1.heap.size := by
    have := hb1.size
    try simp at this
    omega
  have kB1 : w.heap.size + 1 < w1.heap.size := by
    have := hb1.size
    try simp at this
    omega
  have ht1 : Below w.heap.size w w1 := Below.trans (by go_grown) (hb1.mono (by simp; try omega))
  go_wp2_with fail
  refine (wideRight a ha _ (by unfold Half; omega) (k + 1) p2.out _).mono ?_
  rintro e2 w2 ⟨rfl, hb2⟩
  obtain ⟨hc2, hf2⟩ := bcell hb2
  have kA2 : w.heap.size < w2.heap.size := by have := hb2.size; omega
  have kB2 : w.heap.size + 1 < w2.heap.size := by have := hb2.size; omega
  have ht2 : Below w.heap.size w w2 := Below.trans ht1 (hb2.mono (by have := ht1.size; omega))
  go_wp2_with fail
  refine (wideAdd_low _ (lo (a / 2 ^ k) % 2) (by omega) (by omega) _).mono ?_
  rintro e3 w3 ⟨rfl, hb3⟩
  obtain ⟨hc3, hf3⟩ := bcell hb3
  have kA3 : w.heap.size < w3.heap.size := by have := hb3.size; omega
  have kB3 : w.heap.size + 1 < w3.heap.size := by have := hb3.size; omega
  have ht3 : Below w.heap.size w w3 := Below.trans ht2 (hb3.mono (by have := ht2.size; omega))
  go_wp2
  refine bodyPost_ret (by simp [results, Tryz.results75, go_sem, hc1, hc2, hc3, kB1, kB2]; try rfl) rfl ?_
  exact ⟨rfl, Below.setCell (Below.setCell ht3 (by simp) _) (by simp) _⟩

set_option maxHeartbeats 400000 in
theorem wideDiv_zero (a : Int) (w : World) :
    Calls Tryz.prog 67 #[W a, .int .i64 0] w fun e w' => e = .returned (.tuple #[.agg #[.int .i64 0, .int .u64 0], .int .i64 0, .bool false]) ∧ Below w.heap.size w w' := by
  have hha := hi_lo a
  have hga := hi_hi a
  have hla := lo_lo a
  have hka := lo_hi a
  go_enter Tryz.func67, Tryz.ntmps67
  go_wp2
  go_returns
  exact ⟨rfl, by go_grown⟩

set_option maxRecDepth 100000 in
set_option maxHeartbeats 800000 in
theorem wideDiv_pp (a b : Int) (ha : Fits a) (hb : Half b) (h0 : 0 ≤ a) (h1 : 0 < b) (w : World) :
    Calls Tryz.prog 67 #[W a, .int .i64 b] w fun e w' => e = .returned (.tuple #[W (a.tdiv b), .int .i64 (a.tmod b), .bool true]) ∧ Below w.heap.size w w' := by
  have hha := hi_lo a
  have hga := hi_hi a
  have hla := lo_lo a
  have hka := lo_hi a
  obtain ⟨hb0', hb1'⟩ := hb
  have hq := halves ha
  obtain ⟨ha0, ha1⟩ := ha
  have h2 : 0 ≤ hi a := by omega
  clear hq
  have g0 : 1 ≤ b := by omega
  have g1 : b ≤ 9223372036854775808 := by omega
  have hU := Lib.hid (full (a) (by omega) (by omega))
  obtain ⟨Q, hQ⟩ : ∃ Q, Hid (a / b = Q) := ⟨_, rfl⟩
  obtain ⟨R, hR, R0, R1⟩ : ∃ R, Hid (a % b = R) ∧ 0 ≤ R ∧ R ≤ 9223372036854775807 := ⟨_, rfl, Int.emod_nonneg _ (by omega), by have := Int.emod_lt_of_pos (a) (show 0 < b by omega); omega⟩
  go_enter Tryz.func67, Tryz.ntmps67
  go_wp2_with fail
  refine (wideQuotient (a) (b) (a) _ Q R g0 g1 hU.out rfl hQ.out hR.out _).mono ?_
  rintro e1 w1 ⟨rfl, hb1⟩
  obtain ⟨hc1, hf1⟩ := bcell hb1
  have kA1 : w.heap.size < w1.heap.size := by
    have := hb1.size
    try simp at this
    omega
  have kB1 : w.heap.size + 1 < w1.heap.size := by
    have := hb1.size
    try simp at this
    omega
  have ht1 : Below w.heap.size w w1 := Below.trans (by go_grown) (hb1.mono (by simp; try omega))
  go_wp2_with fail
  refine (wideSigned_no Q _ (by simp <;> omega) _).mono ?_
  rintro e2 w2 ⟨rfl, hb2⟩
  obtain ⟨hc2, hf2⟩ := bcell hb2
  have kA2 : w.heap.size < w2.heap.size := by
    have := hb2.size
    try simp at this
    omega
  have kB2 : w.heap.size + 1 < w2.heap.size := by
    have := hb2.size
    try simp at this
    omega
  have ht2 : Below w.heap.size w w2 := Below.trans (Below.alloc ht1 ht1.size _) (hb2.mono (by have := ht1.size; simp; try omega))
  go_wp2
  refine bodyPost_ret (by simp [results, Tryz.results67, go_sem, hc1, hc2, kA1, kB1]; try rfl) rfl ?_
  refine ⟨?_, Below.setCell (Below.setCell ht2 (by simp) _) (by simp) _⟩
  obtain ⟨e1, e2⟩ := (tdiv_cases a b).1 h0 h1
  rw [e1, e2, hQ.out, hR.out]

set_option maxRecDepth 100000 in
set_option maxHeartbeats 800000 in
theorem wideDiv_pn (a b : Int) (ha : Fits a) (hb : Half b) (h0 : 0 ≤ a) (h1 : b < 0) (w : World) :
    Calls Tryz.prog 67 #[W a, .int .i64 b] w fun e w' => e = .returned (.tuple #[W (a.tdiv b), .int .i64 (a.tmod b), .bool true]) ∧ Below w.heap.size w w' := by
  have hha := hi_lo a
  have hga := hi_hi a
  have hla := lo_lo a
  have hka := lo_hi a
  obtain ⟨hb0', hb1'⟩ := hb
  have hq := halves ha
  obtain ⟨ha0, ha1⟩ := ha
  have h2 : 0 ≤ hi a := by omega
  clear hq
  have g0 : 1 ≤ -b := by omega
  have g1 : -b ≤ 9223372036854775808 := by omega
  have hU := Lib.hid (full (a) (by omega) (by omega))
  obtain ⟨Q, hQ⟩ : ∃ Q, Hid (a / -b = Q) := ⟨_, rfl⟩
  obtain ⟨R, hR, R0, R1⟩ : ∃ R, Hid (a % -b = R) ∧ 0 ≤ R ∧ R ≤ 9223372036854775807 := ⟨_, rfl, Int.emod_nonneg _ (by omega), by have := Int.emod_lt_of_pos (a) (show 0 < -b by omega); omega⟩
  obtain ⟨B, hB, B2⟩ : ∃ B, IntKind.u64.wrap b = B ∧ Hid (B = b + 18446744073709551616) := ⟨_, rfl, by show IntKind.u64.wrap b = _; rw [IntKind.wrap_u64]; omega⟩
  have hB3 : IntKind.u64.wrap (-B) = -b := by rw [B2.out, IntKind.wrap_u64]; omega
  go_enter Tryz.func67, Tryz.ntmps67
  go_wp2_with fail
  refine (wideQuotient (a) (-b) (a) _ Q R g0 g1 hU.out rfl hQ.out hR.out _).mono ?_
  rintro e1 w1 ⟨rfl, hb1⟩
  obtain ⟨hc1, hf1⟩ := bcell hb1
  have kA1 : w.heap.size < w1.heap.size := by
    have := hb1.size
    try simp at this
    omega
  have kB1 : w.heap.size + 1 < w1.heap.size := by
    have := hb1.size
    try simp at this
    omega
  have ht1 : Below w.heap.size w w1 := Below.trans (by go_grown) (hb1.mono (by simp; try omega))
  go_wp2_with fail
  refine (wideSigned_yes Q _ (by simp <;> omega) _).mono ?_
  rintro e2 w2 ⟨rfl, hb2⟩
  obtain ⟨hc2, hf2⟩ := bcell hb2
  have kA2 : w.heap.size < w2.heap.size := by
    have := hb2.size
    try simp at this
    omega
  have kB2 : w.heap.size + 1 < w2.heap.size := by
    have := hb2.size
    try simp at this
    omega
  have ht2 : Below w.heap.size w w2 := Below.trans (Below.alloc ht1 ht1.size _) (hb2.mono (by have := ht1.size; simp; try omega))
  go_wp2
  refine bodyPost_ret (by simp [results, Tryz.results67, go_sem, hc1, hc2, kA1, kB1]; try rfl) rfl ?_
  refine ⟨?_, Below.setCell (Below.setCell ht2 (by simp) _) (by simp) _⟩
  obtain ⟨e1, e2⟩ := (tdiv_cases a b).2.1 h0 h1
  rw [e1, e2, hQ.out, hR.out]

set_option maxRecDepth 100000 in
set_option maxHeartbeats 800000 in
theorem wideDiv_np (a b : Int) (ha : Fits a) (hb : Half b) (h0 : a < 0) (h1 : 0 < b) (w : World) :
    Calls Tryz.prog 67 #[W a, .int .i64 b] w fun e w' => e = .returned (.tuple #[W (a.tdiv b), .int .i64 (a.tmod b), .bool true]) ∧ Below w.heap.size w w' := by
  have hha := hi_lo a
  have hga := hi_hi a
  have hla := lo_lo a
  have hka := lo_hi a
  obtain ⟨hb0', hb1'⟩ := hb
  have hq := halves ha
  obtain ⟨ha0, ha1⟩ := ha
  have h2 : hi a < 0 := by omega
  clear hq
  have g0 : 1 ≤ b := by omega
  have g1 : b ≤ 9223372036854775808 := by omega
  have hU := Lib.hid (full (-a) (by omega) (by omega))
  obtain ⟨Q, hQ⟩ : ∃ Q, Hid (-a / b = Q) := ⟨_, rfl⟩
  obtain ⟨R, hR, R0, R1⟩ : ∃ R, Hid (-a % b = R) ∧ 0 ≤ R ∧ R ≤ 9223372036854775807 := ⟨_, rfl, Int.emod_nonneg _ (by omega), by have := Int.emod_lt_of_pos (-a) (show 0 < b by omega); omega⟩
  go_enter Tryz.func67, Tryz.ntmps67
  go_wp2_with fail
  refine (wideNeg a _).mono ?_
  rintro e0 w0 ⟨rfl, hb0⟩
  obtain ⟨hc0, hf0⟩ := bcell hb0
  have kA0 : w.heap.size < w0.heap.size := by
    have := hb0.size
    try simp at this
    omega
  have kB0 : w.heap.size + 1 < w0.heap.size := by
    have := hb0.size
    try simp at this
    omega
  have ht0 : Below w.heap.size w w0 := Below.trans (by go_grown) (hb0.mono (by simp; try omega))
  go_wp2_with fail
  refine (wideQuotient (-a) (b) (-a) _ Q R g0 g1 hU.out rfl hQ.out hR.out _).mono ?_
  rintro e1 w1 ⟨rfl, hb1⟩
  obtain ⟨hc1, hf1⟩ := bcell hb1
  have kA1 : w.heap.size < w1.heap.size := by
    have := hb1.size
    try simp at this
    omega
  have kB1 : w.heap.size + 1 < w1.heap.size := by
    have := hb1.size
    try simp at this
    omega
  have ht1 : Below w.heap.size w w1 := Below.trans ht0 (hb1.mono (by have := ht0.size; omega))
  go_wp2_with fail
  refine (wideSigned_yes Q _ (by simp <;> omega) _).mono ?_
  rintro e2 w2 ⟨rfl, hb2⟩
  obtain ⟨hc2, hf2⟩ := bcell hb2
  have kA2 : w.heap.size < w2.heap.size := by
    have := hb2.size
    try simp at this
    omega
  have kB2 : w.heap.size + 1 < w2.heap.size := by
    have := hb2.size
    try simp at this
    omega
  have ht2 : Below w.heap.size w w2 := Below.trans (Below.alloc ht1 ht1.size _) (hb2.mono (by have := ht1.size; simp; try omega))
  go_wp2
  refine bodyPost_ret (by simp [results, Tryz.results67, go_sem, hc0, hc1, hc2, kA1, kB0, kB1]; try rfl) rfl ?_
  refine ⟨?_, Below.setCell (Below.setCell ht2 (by simp) _) (by simp) _⟩
  obtain ⟨e1, e2⟩ := (tdiv_cases a b).2.2.1 h0 h1
  rw [e1, e2, hQ.out, hR.out]

set_option maxRecDepth 100000 in
set_option maxHeartbeats 800000 in
theorem wideDiv_nn (a b : Int) (ha : Fits a) (hb : Half b) (h0 : a < 0) (h1 : b < 0) (w : World) :
    Calls Tryz.prog 67 #[W a, .int .i64 b] w fun e w' => e = .returned (.tuple #[W (a.tdiv b), .int .i64 (a.tmod b), .bool true]) ∧ Below w.heap.size w w' := by
  have hha := hi_lo a
  have hga := hi_hi a
  have hla := lo_lo a
  have hka := lo_hi a
  obtain ⟨hb0', hb1'⟩ := hb
  have hq := halves ha
  obtain ⟨ha0, ha1⟩ := ha
  have h2 : hi a < 0 := by omega
  clear hq
  have g0 : 1 ≤ -b := by omega
  have g1 : -b ≤ 9223372036854775808 := by omega
  have hU := Lib.hid (full (-a) (by omega) (by omega))
  obtain ⟨Q, hQ⟩ : ∃ Q, Hid (-a / -b = Q) := ⟨_, rfl⟩
  obtain ⟨R, hR, R0, R1⟩ : ∃ R, Hid (-a % -b = R) ∧ 0 ≤ R ∧ R ≤ 9223372036854775807 := ⟨_, rfl, Int.emod_nonneg _ (by omega), by have := Int.emod_lt_of_pos (-a) (show 0 < -b by omega); omega⟩
  obtain ⟨B, hB, B2⟩ : ∃ B, IntKind.u64.wrap b = B ∧ Hid (B = b + 18446744073709551616) := ⟨_, rfl, by show IntKind.u64.wrap b = _; rw [IntKind.wrap_u64]; omega⟩
  have hB3 : IntKind.u64.wrap (-B) = -b := by rw [B2.out, IntKind.wrap_u64]; omega
  go_enter Tryz.func67, Tryz.ntmps67
  go_wp2_with fail
  refine (wideNeg a _).mono ?_
  rintro e0 w0 ⟨rfl, hb0⟩
  obtain ⟨hc0, hf0⟩ := bcell hb0
  have kA0 : w.heap.size < w0.heap.size := by
    have := hb0.size
    try simp at this
    omega
  have kB0 : w.heap.size + 1 < w0.heap.size := by
    have := hb0.size
    try simp at this
    omega
  have ht0 : Below w.heap.size w w0 := Below.trans (by go_grown) (hb0.mono (by simp; try omega))
  go_wp2_with fail
  refine (wideQuotient (-a) (-b) (-a) _ Q R g0 g1 hU.out rfl hQ.out hR.out _).mono ?_
  rintro e1 w1 ⟨rfl, hb1⟩
  obtain ⟨hc1, hf1⟩ := bcell hb1
  have kA1 : w.heap.size < w1.heap.size := by
    have := hb1.size
    try simp at this
    omega
  have kB1 : w.heap.size + 1 < w1.heap.size := by
    have := hb1.size
    try simp at this
    omega
  have ht1 : Below w.heap.size w w1 := Below.trans ht0 (hb1.mono (by have := ht0.size; omega))
  go_wp2_with fail
  refine (wideSigned_no Q _ (by simp <;> omega) _).mono ?_
  rintro e2 w2 ⟨rfl, hb2⟩
  obtain ⟨hc2, hf2⟩ := bcell hb2
  have kA2 : w.heap.size < w2.heap.size := by
    have := hb2.size
    try simp at this
    omega
  have kB2 : w.heap.size + 1 < w2.heap.size := by
    have := hb2.size
    try simp at this
    omega
  have ht2 : Below w.heap.size w w2 := Below.trans (Below.alloc ht1 ht1.size _) (hb2.mono (by have := ht1.size; simp; try omega))
  go_wp2
  refine bodyPost_ret (by simp [results, Tryz.results67, go_sem, hc0, hc1, hc2, kA1, kB0, kB1]; try rfl) rfl ?_
  refine ⟨?_, Below.setCell (Below.setCell ht2 (by simp) _) (by simp) _⟩
  obtain ⟨e1, e2⟩ := (tdiv_cases a b).2.2.2 h0 h1
  rw [e1, e2, hQ.out, hR.out]

/-- What Div answers, whatever it is asked. -/
def divided (a b : Int) : Value := if b = 0 then .tuple #[.agg #[.int .i64 0, .int .u64 0], .int .i64 0, .bool false] else .tuple #[W (a.tdiv b), .int .i64 (a.tmod b), .bool true]

theorem wideDiv (a b : Int) (ha : Fits a) (hb : Half b) (w : World) :
    Calls Tryz.prog 67 #[W a, .int .i64 b] w fun e w' => e = .returned (divided a b) ∧ Below w.heap.size w w' := by
  unfold divided
  by_cases hz : b = 0
  · subst hz
    rw [if_pos rfl]
    exact wideDiv_zero a w
  · rw [if_neg hz]
    rcases Int.lt_or_le a 0 with h | h <;> rcases Int.lt_or_le b 0 with h' | h'
    · exact wideDiv_nn a b ha hb h h' w
    · exact wideDiv_np a b ha hb h (by omega) w
    · exact wideDiv_pn a b ha hb h h' w
    · exact wideDiv_pp a b ha hb h (by omega) w

theorem wideNear (a n : Int) (ha : Fits a) (hn : Half n) (w : World) :
    Calls Tryz.prog 75 #[W a, .int .i64 n] w fun e w' => e = .returned (W (near a n)) ∧ Below w.heap.size w w' := by
  rcases Int.lt_or_le 0 n with h | h
  · obtain ⟨k, hk⟩ : ∃ k : Nat, places n = (k : Int) + 1 := ⟨(places n).toNat - 1, by unfold places; omega⟩
    have e : near a n = a / 2 ^ (k + 1) + lo (a / 2 ^ k) % 2 := by
      unfold near
      rw [if_neg (by omega), hk, show ((k : Int) + 1).toNat = k + 1 by omega, near_half a (k + 1) (by omega), show k + 1 - 1 = k by omega]
      unfold lo
      omega
    rw [e]
    exact wideNear_pos a ha n hn k hk w
  · have e : near a n = a := by unfold near; rw [if_pos h]
    rw [e]
    exact wideNear_zero a n hn (by unfold places; omega) w

end Go.Proofs.YtodfcbpcgcgijaaGreatDoor

/- The chapter's examples hold: what works answers. -/
namespace Go.Proofs.YtodfcbpcgcgijaaGreatDoor
set_option maxRecDepth 100000
open Go.RowKit
attribute [local go_sem] cell_re eqW_self run_fieldW
attribute [local go_sem ↓] run_eqlW run_neqW

theorem near_3 (w : World) : Calls Tryz.prog 75 #[W 3, .int .i64 1] w fun e w' => e = .returned (W 2) ∧ Below w.heap.size w w' := by
  have h := wideNear 3 1 (by unfold Fits; omega) (by unfold Half; omega) w
  rw [show near 3 1 = 2 by decide] at h
  exact h
theorem near_m3 (w : World) : Calls Tryz.prog 75 #[W (-3), .int .i64 1] w fun e w' => e = .returned (W (-1)) ∧ Below w.heap.size w w' := by
  have h := wideNear (-3) 1 (by unfold Fits; omega) (by unfold Half; omega) w
  rw [show near (-3) 1 = -1 by decide] at h
  exact h
theorem mul_62 (w : World) : Calls Tryz.prog 65 #[.int .i64 4611686018427387904, .int .i64 4] w fun e w' => e = .returned (W 18446744073709551616) ∧ Below w.heap.size w w' := by
  have h := wideMul 4611686018427387904 4 (by unfold Half; omega) (by unfold Half; omega) w
  rw [show (4611686018427387904 : Int) * 4 = 18446744073709551616 by decide] at h
  exact h
theorem eq_62 : eqW (hi 18446744073709551616) (lo 18446744073709551616) 1 0 = true := by decide
theorem eq_m1 : eqW (hi (-1)) (lo (-1)) (-1) 18446744073709551615 = true := by decide

end Go.Proofs.YtodfcbpcgcgijaaGreatDoor
