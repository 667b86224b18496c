/- What the calls of package wide answer, each for every number that its parameters can hold; of what was in memory nothing has turned. -/
import Derived.Test.YtmedemniopgpeaaRows
import Derived.Test.YtmedemniopgpeaaWideMath
import Derived.WalkKit
import Derived.WalkSpells
import Derived.WalkLawsBesides
import Derived.Laws.StructEq
import Derived.Handy
import Derived.Lib.QuietBelow
import Derived.BigQuiet
namespace Go.Proofs.Ytmedemniopgpeaa
open Go.RowKit

/-- A wide number as the program holds it. -/
abbrev W (v : Int) : Value := .agg #[.int .i64 (hi v), .int .u64 (lo v)]
theorem retW {x y v : Int} (h : x = hi v) (l : y = lo v) : Ending.returned (.agg #[.int .i64 x, .int .u64 y]) = .returned (W v) := by rw [h, l]
theorem retI {k : IntKind} {a b : Int} (h : a = b) : Ending.returned (.int k a) = .returned (.int k b) := by rw [h]
theorem retB {a b : Bool} (h : a = b) : Ending.returned (.bool a) = .returned (.bool b) := by rw [h]
theorem retIB {k : IntKind} {a b : Int} {c d : Bool} (h : a = b) (l : c = d) : Ending.returned (.tuple #[.int k a, .bool c]) = .returned (.tuple #[.int k b, .bool d]) := by rw [h, l]
theorem bcell {W w1 : World} (hb : Below W.heap.size W w1) : (∀ b o, b < W.heap.size → w1.cell? ⟨b, o, none⟩ = W.cell? ⟨b, o, none⟩) ∧ (∀ b o, b < W.heap.size → w1.frozen? ⟨b, o, none⟩ = W.frozen? ⟨b, o, none⟩) :=
  ⟨fun b o h => hb.cell (p := ⟨b, o, none⟩) h, fun b o h => hb.frozen (p := ⟨b, o, none⟩) h⟩
/-- A call behind others: of what was there at the start nothing has turned. -/
theorem chain {P : Program} {f : FuncId} {args : Array Value} {w0 w : World} {v : Value} (ht : Below w0.heap.size w0 w)
    (h : Calls P f args w fun e w' => e = .returned v ∧ Below w.heap.size w w') : Calls P f args w fun e w' => e = .returned v ∧ Below w0.heap.size w0 w' :=
  h.mono fun _ _ ⟨he, hb⟩ => ⟨he, ht.trans (hb.mono ht.size)⟩
theorem bcell3 {W w1 : World} (hb : Below W.heap.size W w1) : (∀ b o, b < W.heap.size → w1.cell? ⟨b, o, none⟩ = W.cell? ⟨b, o, none⟩) ∧ (∀ b o, b < W.heap.size → w1.frozen? ⟨b, o, none⟩ = W.frozen? ⟨b, o, none⟩) ∧ (∀ b, b < W.heap.size → b < w1.heap.size) :=
  ⟨fun b o h => hb.cell (p := ⟨b, o, none⟩) h, fun b o h => hb.frozen (p := ⟨b, o, none⟩) h, fun _ h => Nat.lt_of_lt_of_le h hb.size⟩
theorem below_then {w0 W w1 : World} (ht : Below w0.heap.size w0 W) (hb : Below W.heap.size W w1) : Below w0.heap.size w0 w1 := ht.trans (hb.mono ht.size)
theorem below_of_re {W w' : World} (h : ∃ p : Regrown, w' = Sort.grow (redrawn W p.d) p.os) : Below W.heap.size W w' := by
  obtain ⟨p, rfl⟩ := h
  exact below_regrown W p.d p.os
/-- In a world that has grown behind W the old cells read as they did. -/
theorem cell_re (W : World) (d : Nat) (os : Array Obj) (b o : Nat) (h : b < W.heap.size) : (Sort.grow (redrawn W d) os).cell? ⟨b, o, none⟩ = W.cell? ⟨b, o, none⟩ := (below_regrown W d os).cell (p := ⟨b, o, none⟩) h
attribute [local go_sem] cell_re
/-- Whether two wide numbers are the same, half by half. -/
def eqW (x y x' y' : Int) : Bool := x == x' && y == y'
theorem eqW_self (x y : Int) : eqW x y x y = true := by simp [eqW]
theorem eqW_of {u v : Int} (hu : Fits u) (hv : Fits v) : eqW (hi u) (lo u) (hi v) (lo v) = decide (u = v) := by
  rw [Bool.eq_iff_iff]
  simp only [eqW, Bool.and_eq_true, beq_iff_eq, decide_eq_true_eq]
  exact ⟨fun h => halves_inj hu hv h.1 h.2, fun h => by subst h; exact ⟨rfl, rfl⟩⟩
theorem eqW_zero {u : Int} (hu : Fits u) : eqW (hi u) (lo u) 0 0 = decide (u = 0) := eqW_of hu (v := 0) (by unfold Fits; omega)
theorem run_eqlW (x y x' y' : Int) (w : World) : (binOp .eql 39 (.agg #[.int .i64 x, .int .u64 y]) (.agg #[.int .i64 x', .int .u64 y'])).run Try.prog w = .ok (.bool (eqW x y x' y')) w := by
  unfold eqW
  simp [go_sem]
  split <;> (try split) <;> simp [*]
theorem run_neqW (x y x' y' : Int) (w : World) : (binOp .neq 39 (.agg #[.int .i64 x, .int .u64 y]) (.agg #[.int .i64 x', .int .u64 y'])).run Try.prog w = .ok (.bool (!eqW x y x' y')) w := by
  unfold eqW
  simp [go_sem]
  split <;> (try split) <;> simp [*]
attribute [local go_sem ↓] run_eqlW run_neqW
attribute [local go_sem] eqW_self
theorem W_eq {u v : Int} (h : u = v) : W u = W v := by rw [h]

theorem not_i64 (n : Int) (h : Half n) : bits .xor .i64 (-1) n = -1 - n := by
  show IntKind.i64.wrap ((BitVec.ofInt 64 (-1) ^^^ BitVec.ofInt 64 n).toNat : Int) = _
  have h1 : BitVec.ofInt 64 (-1) = BitVec.allOnes 64 := by decide
  unfold Half at h
  rw [h1, BitVec.allOnes_xor, BitVec.toNat_not, BitVec.toNat_ofInt, IntKind.wrap_i64]
  omega
theorem not_u64 (n : Int) (h0 : 0 ≤ n) (h1 : n ≤ 18446744073709551615) : bits .xor .u64 IntKind.u64.max n = 18446744073709551615 - n := by
  show IntKind.u64.wrap ((BitVec.ofInt 64 18446744073709551615 ^^^ BitVec.ofInt 64 n).toNat : Int) = _
  have h1 : BitVec.ofInt 64 18446744073709551615 = BitVec.allOnes 64 := by decide
  rw [h1, BitVec.allOnes_xor, BitVec.toNat_not, BitVec.toNat_ofInt, IntKind.wrap_u64]
  omega
theorem not_hi (a : Int) : bits .xor .i64 (-1) (hi a) = hi (-a - 1) := by rw [not_i64 _ (half_hi a)]; unfold hi; omega
theorem not_lo (a : Int) : bits .xor .u64 IntKind.u64.max (lo a) = lo (-a - 1) := by rw [not_u64 _ (lo_lo a) (lo_hi a)]; unfold lo; omega

set_option maxHeartbeats 400000 in
theorem wideAdd (a b : Int) (w : World) :
    Calls Try.prog 21 #[W a, W b] w fun e w' => e = .returned (W (a + b)) ∧ Below w.heap.size w w' := by
  have hha := hi_lo a
  have hga := hi_hi a
  have hla := lo_lo a
  have hka := lo_hi a
  have hhb := hi_lo b
  have hgb := hi_hi b
  have hlb := lo_lo b
  have hkb := lo_hi b
  by_cases hc : lo a + lo b ≤ 18446744073709551615
  all_goals
    go_enter Try.func21, Try.ntmps21
    go_wp2
  all_goals
    go_returns
    refine ⟨retW ?_ ?_, by go_grown⟩ <;> (unfold hi lo at *; go_arith)
theorem W_low (h : Int) (h0 : 0 ≤ h) (h1 : h ≤ 18446744073709551615) : W h = .agg #[.int .i64 0, .int .u64 h] := by
  rw [W, show hi h = 0 by unfold hi; omega, show lo h = h by unfold lo; omega]
theorem wideAdd_low (a h : Int) (h0 : 0 ≤ h) (h1 : h ≤ 18446744073709551615) (w : World) :
    Calls Try.prog 21 #[W a, .agg #[.int .i64 0, .int .u64 h]] w fun e w' => e = .returned (W (a + h)) ∧ Below w.heap.size w w' := by
  rw [← W_low h h0 h1]
  exact wideAdd a h w
theorem wideAdd_one (a : Int) (w : World) :
    Calls Try.prog 21 #[W a, .agg #[.int .i64 0, .int .u64 1]] w fun e w' => e = .returned (W (a + 1)) ∧ Below w.heap.size w w' := by
  have h := wideAdd a 1 w
  rw [show W 1 = .agg #[.int .i64 0, .int .u64 1] from by rw [W, show hi 1 = 0 from by decide, show lo 1 = 1 from by decide]] at h
  exact h

set_option maxHeartbeats 400000 in
theorem wideOf (n : Int) (hn : Half n) (w : World) :
    Calls Try.prog 68 #[.int .i64 n] w fun e w' => e = .returned (W n) ∧ Below w.heap.size w w' := by
  obtain ⟨hn0, hn1⟩ := hn
  go_enter Try.func68, Try.ntmps68
  go_wp2
  all_goals
    go_returns
    refine ⟨retW (by unfold hi; omega) (by unfold lo; rw [IntKind.wrap_u64]), by go_grown⟩

set_option maxHeartbeats 400000 in
theorem wideSign (a : Int) (ha : Fits a) (w : World) :
    Calls Try.prog 52 #[W a] w fun e w' => e = .returned (.int .i64 (sgn a)) ∧ Below w.heap.size w w' := by
  have hha := hi_lo a
  have hga := hi_hi a
  have hla := lo_lo a
  have hka := lo_hi a
  have x1 := eqW_zero ha
  go_enter Try.func52, Try.ntmps52
  go_wp2
  all_goals
    go_returns
    refine ⟨retI ?_, by go_grown⟩
    have q := halves ha
    unfold sgn
    repeat' split
    all_goals first | rfl | omega

set_option maxHeartbeats 400000 in
theorem wideLess (a b : Int) (ha : Fits a) (hb : Fits b) (w : World) :
    Calls Try.prog 56 #[W a, W b] w fun e w' => e = .returned (.bool (decide (a < b))) ∧ Below w.heap.size w w' := by
  have hha := hi_lo a
  have hga := hi_hi a
  have hla := lo_lo a
  have hka := lo_hi a
  have hhb := hi_lo b
  have hgb := hi_hi b
  have hlb := lo_lo b
  have hkb := lo_hi b
  by_cases he : hi a = hi b
  all_goals
    go_enter Try.func56, Try.ntmps56
    go_wp2
  all_goals
    go_returns
    refine ⟨?_, by go_grown⟩
    have q := halves ha
    have r := halves hb
    refine retB ?_
    rw [Bool.eq_iff_iff]
    simp only [decide_eq_true_eq]
    omega

set_option maxHeartbeats 400000 in
theorem widePlaces (n k : Int) (hn : Half n) (hk : places n = k) (w : World) :
    Calls Try.prog 66 #[.int .i64 n] w fun e w' => e = .returned (.int .i64 k) ∧ w = w' := by
  subst hk
  obtain ⟨hn0, hn1⟩ := hn
  go_enter Try.func66, Try.ntmps66
  go_wp2
  all_goals
    go_returns
    refine ⟨retI ?_, rfl⟩
    unfold places
    omega

set_option maxHeartbeats 400000 in
theorem wideNeg (a : Int) (w : World) :
    Calls Try.prog 29 #[W a] w fun e w' => e = .returned (W (-a)) ∧ Below w.heap.size w w' := by
  have x1 := not_hi a
  have x2 := not_lo a
  have s1 : IntKind.i64.signed = true := rfl
  have s2 : IntKind.u64.signed = false := rfl
  have x3 : -a - 1 + 1 = -a := by omega
  go_enter Try.func29, Try.ntmps29
  go_wp2_with ((go_at_call 21; refine (wideAdd_one _ _).mono ?_; rintro e w' ⟨rfl, hb⟩; obtain ⟨hc, hf⟩ := bcell hb; have hz := hb.size; have ht := (Below.trans (by go_grown) (hb.mono (by simp; try omega)) : Below w.heap.size w w')))
  refine bodyPost_ret (by simp [results, Try.results29, go_sem, hc]; try rfl) rfl ?_
  exact ⟨rfl, by go_grown⟩

set_option maxHeartbeats 400000 in
theorem wideClip_in (a : Int) (ha : Fits a) (h0 : -9223372036854775808 ≤ a) (h1 : a ≤ 9223372036854775807) (w : World) :
    Calls Try.prog 44 #[W a] w fun e w' => e = .returned (.tuple #[.int .i64 (clipped a), .bool (cut a)]) ∧ Below w.heap.size w w' := by
  have hha := hi_lo a
  have hga := hi_hi a
  have hla := lo_lo a
  have hka := lo_hi a
  have x1 : wrap64 (lo a) = a := by unfold wrap64 lo; omega
  go_enter Try.func44, Try.ntmps44
  go_wp2_with (fail)
  refine wp_region_quiet_below (by kernel_rfl) (by kernel_rfl) ?_
  repeat (go_big_quiet_step ((go_at_call 68; exact Calls.regrown_of (wideOf _ (by unfold Half; go_arith) _))))
  refine wpQuiet_nil ?_
  intro wq hwq
  have hbq := below_of_re hwq
  clear hwq
  obtain ⟨hcq, hfq⟩ := bcell hbq
  have hzq := hbq.size
  have htq : Below w.heap.size w wq := Below.trans (by go_grown) (hbq.mono (by simp <;> omega))
  go_wp2
  all_goals
    go_returns
    refine ⟨retIB ?_ ?_, by go_grown⟩
    · have q := halves ha
      unfold clipped
      try rw [x1]
      omega
    · unfold cut
      have q := halves ha
      rw [Bool.eq_iff_iff]
      simp only [decide_eq_true_eq, false_iff, Bool.false_eq_true]
      omega

set_option maxHeartbeats 400000 in
theorem wideClip_out (a : Int) (ha : Fits a) (h : a < -9223372036854775808 ∨ 9223372036854775807 < a) (w : World) :
    Calls Try.prog 44 #[W a] w fun e w' => e = .returned (.tuple #[.int .i64 (clipped a), .bool (cut a)]) ∧ Below w.heap.size w w' := by
  have hha := hi_lo a
  have hga := hi_hi a
  have hla := lo_lo a
  have hka := lo_hi a
  have x1 : eqW (hi (wrap64 (lo a))) (lo (wrap64 (lo a))) (hi a) (lo a) = false := by
    rw [eqW_of (half_fits (by unfold Half wrap64; omega)) ha]
    simp only [decide_eq_false_iff_not]
    unfold wrap64
    omega
  go_enter Try.func44, Try.ntmps44
  go_wp2_with (fail)
  refine wp_region_quiet_below (by kernel_rfl) (by kernel_rfl) ?_
  repeat (go_big_quiet_step ((go_at_call 68; exact Calls.regrown_of (wideOf _ (by unfold Half; go_arith) _))))
  refine wpQuiet_nil ?_
  intro wq hwq
  have hbq := below_of_re hwq
  clear hwq
  obtain ⟨hcq, hfq⟩ := bcell hbq
  have hzq := hbq.size
  have htq : Below w.heap.size w wq := Below.trans (by go_grown) (hbq.mono (by simp <;> omega))
  go_wp2
  all_goals
    go_returns
    refine ⟨retIB ?_ ?_, by go_grown⟩
    · have q := halves ha
      unfold clipped
      omega
    · unfold cut
      have q := halves ha
      rw [Bool.eq_iff_iff]
      simp only [decide_eq_true_eq, true_iff]
      omega

theorem wideClip (a : Int) (ha : Fits a) (w : World) :
    Calls Try.prog 44 #[W a] w fun e w' => e = .returned (.tuple #[.int .i64 (clipped a), .bool (cut a)]) ∧ Below w.heap.size w w' := by
  by_cases h : a < -9223372036854775808 ∨ 9223372036854775807 < a
  · exact wideClip_out a ha h w
  · exact wideClip_in a ha (by omega) (by omega) w

end Go.Proofs.Ytmedemniopgpeaa
