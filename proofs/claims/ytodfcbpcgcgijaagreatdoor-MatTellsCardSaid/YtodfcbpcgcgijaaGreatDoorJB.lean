import Derived.Test.YtodfcbpcgcgijaaGreatDoorRows
import Derived.Test.YtodfcbpcgcgijaaGreatDoorJA
import Derived.WalkKit
import Derived.WalkSpells
import Derived.WalkLawsBesides
import Derived.Laws.StructEq
import Derived.Handy
import Derived.Lib.QuietBelow
import Derived.BigQuiet
import Derived.Deep.RegionHeld3
import Derived.Deep.DeepCutAuto
import Derived.Lib.Hide
import Derived.ProofKit
import Derived.OpenShut
import Derived.Below
import Derived.ChangeSame
import Derived.Lib.SmallJoins
import Derived.Carry
/- What the calls of package wide answer, each for every number that its parameters can hold; of what was in memory nothing has turned. -/
namespace Go.Proofs.YtodfcbpcgcgijaaGreatDoor
set_option maxRecDepth 100000
open Go.RowKit

/-- A wide number as the program holds it. -/
abbrev W (v : Int) : Value := .agg #[.int .i64 (hi v), .int .u64 (lo v)]
theorem retW {x y v : Int} (h : x = hi v) (l : y = lo v) : Ending.returned (.agg #[.int .i64 x, .int .u64 y]) = .returned (W v) := by rw [h, l]
theorem retI {k : IntKind} {a b : Int} (h : a = b) : Ending.returned (.int k a) = .returned (.int k b) := by rw [h]
theorem retB {a b : Bool} (h : a = b) : Ending.returned (.bool a) = .returned (.bool b) := by rw [h]
theorem retIB {k : IntKind} {a b : Int} {c d : Bool} (h : a = b) (l : c = d) : Ending.returned (.tuple #[.int k a, .bool c]) = .returned (.tuple #[.int k b, .bool d]) := by rw [h, l]
theorem bcell {W w1 : World} (hb : Below W.heap.size W w1) : (∀ b o, b < W.heap.size → w1.cell? ⟨b, o, none⟩ = W.cell? ⟨b, o, none⟩) ∧ (∀ b o, b < W.heap.size → w1.frozen? ⟨b, o, none⟩ = W.frozen? ⟨b, o, none⟩) :=
  ⟨fun b o h => hb.cell (p := ⟨b, o, none⟩) h, fun b o h => hb.frozen (p := ⟨b, o, none⟩) h⟩
/-- A call behind others: of what was there at the start nothing has turned. -/
theorem chain {P : Program} {f : FuncId} {args : Array Value} {w0 w : World} {v : Value} (ht : Below w0.heap.size w0 w)
    (h : Calls P f args w fun e w' => e = .returned v ∧ Below w.heap.size w w') : Calls P f args w fun e w' => e = .returned v ∧ Below w0.heap.size w0 w' :=
  h.mono fun _ _ ⟨he, hb⟩ => ⟨he, ht.trans (hb.mono ht.size)⟩
theorem bcell3 {W w1 : World} (hb : Below W.heap.size W w1) : (∀ b o, b < W.heap.size → w1.cell? ⟨b, o, none⟩ = W.cell? ⟨b, o, none⟩) ∧ (∀ b o, b < W.heap.size → w1.frozen? ⟨b, o, none⟩ = W.frozen? ⟨b, o, none⟩) ∧ (∀ b, b < W.heap.size → b < w1.heap.size) :=
  ⟨fun b o h => hb.cell (p := ⟨b, o, none⟩) h, fun b o h => hb.frozen (p := ⟨b, o, none⟩) h, fun _ h => Nat.lt_of_lt_of_le h hb.size⟩
theorem below_then {w0 W w1 : World} (ht : Below w0.heap.size w0 W) (hb : Below W.heap.size W w1) : Below w0.heap.size w0 w1 := ht.trans (hb.mono ht.size)
theorem below_of_re {W w' : World} (h : ∃ p : Regrown, w' = Sort.grow (redrawn W p.d) p.os) : Below W.heap.size W w' := by
  obtain ⟨p, rfl⟩ := h
  exact below_regrown W p.d p.os
/-- In a world that has grown behind W the old cells read as they did. -/
theorem cell_re (W : World) (d : Nat) (os : Array Obj) (b o : Nat) (h : b < W.heap.size) : (Sort.grow (redrawn W d) os).cell? ⟨b, o, none⟩ = W.cell? ⟨b, o, none⟩ := (below_regrown W d os).cell (p := ⟨b, o, none⟩) h
attribute [local go_sem] cell_re
/-- Whether two wide numbers are the same, half by half. -/
def eqW (x y x' y' : Int) : Bool := x == x' && y == y'
theorem eqW_self (x y : Int) : eqW x y x y = true := by simp [eqW]
theorem eqW_of {u v : Int} (hu : Fits u) (hv : Fits v) : eqW (hi u) (lo u) (hi v) (lo v) = decide (u = v) := by
  rw [Bool.eq_iff_iff]
  simp only [eqW, Bool.and_eq_true, beq_iff_eq, decide_eq_true_eq]
  exact ⟨fun h => halves_inj hu hv h.1 h.2, fun h => by subst h; exact ⟨rfl, rfl⟩⟩
theorem eqW_zero {u : Int} (hu : Fits u) : eqW (hi u) (lo u) 0 0 = decide (u = 0) := eqW_of hu (v := 0) (by unfold Fits; omega)
theorem run_eqlW (x y x' y' : Int) (w : World) : (binOp .eql 56 (.agg #[.int .i64 x, .int .u64 y]) (.agg #[.int .i64 x', .int .u64 y'])).run Tryz.prog w = .ok (.bool (eqW x y x' y')) w := by
  unfold eqW
  simp [go_sem]
  split <;> (try split) <;> simp [*]
theorem run_neqW (x y x' y' : Int) (w : World) : (binOp .neq 56 (.agg #[.int .i64 x, .int .u64 y]) (.agg #[.int .i64 x', .int .u64 y'])).run Tryz.prog w = .ok (.bool (!eqW x y x' y')) w := by
  unfold eqW
  simp [go_sem]
  split <;> (try split) <;> simp [*]
attribute [local go_sem ↓] run_eqlW run_neqW
attribute [local go_sem] eqW_self
theorem W_eq {u v : Int} (h : u = v) : W u = W v := by rw [h]

theorem not_i64 (n : Int) (h : Half n) : bits .xor .i64 (-1) n = -1 - n := by
  show IntKind.i64.wrap ((BitVec.ofInt 64 (-1) ^^^ BitVec.ofInt 64 n).toNat : Int) = _
  have h1 : BitVec.ofInt 64 (-1) = BitVec.allOnes 64 := by decide
  unfold Half at h
  rw [h1, BitVec.allOnes_xor, BitVec.toNat_not, BitVec.toNat_ofInt, IntKind.wrap_i64]
  omega
theorem not_u64 (n : Int) (h0 : 0 ≤ n) (h1 : n ≤ 18446744073709551615) : bits .xor .u64 IntKind.u64.max n = 18446744073709551615 - n := by
  show IntKind.u64.wrap ((BitVec.ofInt 64 18446744073709551615 ^^^ BitVec.ofInt 64 n).toNat : Int) = _
  have h1 : BitVec.ofInt 64 18446744073709551615 = BitVec.allOnes 64 := by decide
  rw [h1, BitVec.allOnes_xor, BitVec.toNat_not, BitVec.toNat_ofInt, IntKind.wrap_u64]
  omega
theorem not_hi (a : Int) : bits .xor .i64 (-1) (hi a) = hi (-a - 1) := by rw [not_i64 _ (half_hi a)]; unfold hi; omega
theorem not_lo (a : Int) : bits .xor .u64 IntKind.u64.max (lo a) = lo (-a - 1) := by rw [not_u64 _ (lo_lo a) (lo_hi a)]; unfold lo; omega

set_option maxHeartbeats 400000 in
theorem wideAdd (a b : Int) (w : World) :
    Calls Tryz.prog 40 #[W a, W b] w fun e w' => e = .returned (W (a + b)) ∧ Below w.heap.size w w' := by
  have hha := hi_lo a
  have hga := hi_hi a
  have hla := lo_lo a
  have hka := lo_hi a
  have hhb := hi_lo b
  have hgb := hi_hi b
  have hlb := lo_lo b
  have hkb := lo_hi b
  by_cases hc : lo a + lo b ≤ 18446744073709551615
  all_goals
    go_enter Tryz.func40, Tryz.ntmps40
    go_wp2
  all_goals
    go_returns
    refine ⟨retW ?_ ?_, by go_grown⟩ <;> (unfold hi lo at *; go_arith)
theorem W_low (h : Int) (h0 : 0 ≤ h) (h1 : h ≤ 18446744073709551615) : W h = .agg #[.int .i64 0, .int .u64 h] := by
  rw [W, show hi h = 0 by unfold hi; omega, show lo h = h by unfold lo; omega]
theorem wideAdd_low (a h : Int) (h0 : 0 ≤ h) (h1 : h ≤ 18446744073709551615) (w : World) :
    Calls Tryz.prog 40 #[W a, .agg #[.int .i64 0, .int .u64 h]] w fun e w' => e = .returned (W (a + h)) ∧ Below w.heap.size w w' := by
  rw [← W_low h h0 h1]
  exact wideAdd a h w
theorem wideAdd_one (a : Int) (w : World) :
    Calls Tryz.prog 40 #[W a, .agg #[.int .i64 0, .int .u64 1]] w fun e w' => e = .returned (W (a + 1)) ∧ Below w.heap.size w w' := by
  have h := wideAdd a 1 w
  rw [show W 1 = .agg #[.int .i64 0, .int .u64 1] from by rw [W, show hi 1 = 0 from by decide, show lo 1 = 1 from by decide]] at h
  exact h

set_option maxHeartbeats 400000 in
theorem wideOf (n : Int) (hn : Half n) (w : World) :
    Calls Tryz.prog 97 #[.int .i64 n] w fun e w' => e = .returned (W n) ∧ Below w.heap.size w w' := by
  obtain ⟨hn0, hn1⟩ := hn
  go_enter Tryz.func97, Tryz.ntmps97
  go_wp2
  all_goals
    go_returns
    refine ⟨retW (by unfold hi; omega) (by unfold lo; rw [IntKind.wrap_u64]), by go_grown⟩

set_option maxHeartbeats 400000 in
theorem wideSign (a : Int) (ha : Fits a) (w : World) :
    Calls Tryz.prog 90 #[W a] w fun e w' => e = .returned (.int .i64 (sgn a)) ∧ Below w.heap.size w w' := by
  have hha := hi_lo a
  have hga := hi_hi a
  have hla := lo_lo a
  have hka := lo_hi a
  have x1 := eqW_zero ha
  go_enter Tryz.func90, Tryz.ntmps90
  go_wp2
  all_goals
    go_returns
    refine ⟨retI ?_, by go_grown⟩
    have q := halves ha
    unfold sgn
    repeat' split
    all_goals first | rfl | omega

set_option maxHeartbeats 400000 in
theorem wideLess (a b : Int) (ha : Fits a) (hb : Fits b) (w : World) :
    Calls Tryz.prog 94 #[W a, W b] w fun e w' => e = .returned (.bool (decide (a < b))) ∧ Below w.heap.size w w' := by
  have hha := hi_lo a
  have hga := hi_hi a
  have hla := lo_lo a
  have hka := lo_hi a
  have hhb := hi_lo b
  have hgb := hi_hi b
  have hlb := lo_lo b
  have hkb := lo_hi b
  by_cases he : hi a = hi b
  all_goals
    go_enter Tryz.func94, Tryz.ntmps94
    go_wp2
  all_goals
    go_returns
    refine ⟨?_, by go_grown⟩
    have q := halves ha
    have r := halves hb
    refine retB ?_
    rw [Bool.eq_iff_iff]
    simp only [decide_eq_true_eq]
    omega

set_option maxHeartbeats 400000 in
theorem widePlaces (n k : Int) (hn : Half n) (hk : places n = k) (w : World) :
    Calls Tryz.prog 98 #[.int .i64 n] w fun e w' => e = .returned (.int .i64 k) ∧ w = w' := by
  subst hk
  obtain ⟨hn0, hn1⟩ := hn
  go_enter Tryz.func98, Tryz.ntmps98
  go_wp2
  all_goals
    go_returns
    refine ⟨retI ?_, rfl⟩
    unfold places
    omega

set_option maxHeartbeats 400000 in
theorem wideNeg (a : Int) (w : World) :
    Calls Tryz.prog 42 #[W a] w fun e w' => e = .returned (W (-a)) ∧ Below w.heap.size w w' := by
  have x1 := not_hi a
  have x2 := not_lo a
  have s1 : IntKind.i64.signed = true := rfl
  have s2 : IntKind.u64.signed = false := rfl
  have x3 : -a - 1 + 1 = -a := by omega
  go_enter Tryz.func42, Tryz.ntmps42
  go_wp2_with ((go_at_call 40; refine (wideAdd_one _ _).mono ?_; rintro e w' ⟨rfl, hb⟩; obtain ⟨hc, hf⟩ := bcell hb; have hz := hb.size; have ht := (Below.trans (by go_grown) (hb.mono (by simp; try omega)) : Below w.heap.size w w')))
  refine bodyPost_ret (by simp [results, Tryz.results42, go_sem, hc]; try rfl) rfl ?_
  exact ⟨rfl, by go_grown⟩

set_option maxHeartbeats 400000 in
theorem wideClip_in (a : Int) (ha : Fits a) (h0 : -9223372036854775808 ≤ a) (h1 : a ≤ 9223372036854775807) (w : World) :
    Calls Tryz.prog 74 #[W a] w fun e w' => e = .returned (.tuple #[.int .i64 (clipped a), .bool (cut a)]) ∧ Below w.heap.size w w' := by
  have hha := hi_lo a
  have hga := hi_hi a
  have hla := lo_lo a
  have hka := lo_hi a
  have x1 : wrap64 (lo a) = a := by unfold wrap64 lo; omega
  go_enter Tryz.func74, Tryz.ntmps74
  go_wp2_with (fail)
  refine wp_region_quiet_below (by kernel_rfl) (by kernel_rfl) ?_
  repeat (go_big_quiet_step ((go_at_call 97; exact Calls.regrown_of (wideOf _ (by unfold Half; go_arith) _))))
  refine wpQuiet_nil ?_
  intro wq hwq
  have hbq := below_of_re hwq
  clear hwq
  obtain ⟨hcq, hfq⟩ := bcell hbq
  have hzq := hbq.size
  have htq : Below w.heap.size w wq := Below.trans (by go_grown) (hbq.mono (by simp <;> omega))
  go_wp2
  all_goals
    go_returns
    refine ⟨retIB ?_ ?_, by go_grown⟩
    · have q := halves ha
      unfold clipped
      try rw [x1]
      omega
    · unfold cut
      have q := halves ha
      rw [Bool.eq_iff_iff]
      simp only [decide_eq_true_eq, false_iff, Bool.false_eq_true]
      omega

set_option maxHeartbeats 400000 in
theorem wideClip_out (a : Int) (ha : Fits a) (h : a < -9223372036854775808 ∨ 9223372036854775807 < a) (w : World) :
    Calls Tryz.prog 74 #[W a] w fun e w' => e = .returned (.tuple #[.int .i64 (clipped a), .bool (cut a)]) ∧ Below w.heap.size w w' := by
  have hha := hi_lo a
  have hga := hi_hi a
  have hla := lo_lo a
  have hka := lo_hi a
  have x1 : eqW (hi (wrap64 (lo a))) (lo (wrap64 (lo a))) (hi a) (lo a) = false := by
    rw [eqW_of (half_fits (by unfold Half wrap64; omega)) ha]
    simp only [decide_eq_false_iff_not]
    unfold wrap64
    omega
  go_enter Tryz.func74, Tryz.ntmps74
  go_wp2_with (fail)
  refine wp_region_quiet_below (by kernel_rfl) (by kernel_rfl) ?_
  repeat (go_big_quiet_step ((go_at_call 97; exact Calls.regrown_of (wideOf _ (by unfold Half; go_arith) _))))
  refine wpQuiet_nil ?_
  intro wq hwq
  have hbq := below_of_re hwq
  clear hwq
  obtain ⟨hcq, hfq⟩ := bcell hbq
  have hzq := hbq.size
  have htq : Below w.heap.size w wq := Below.trans (by go_grown) (hbq.mono (by simp <;> omega))
  go_wp2
  all_goals
    go_returns
    refine ⟨retIB ?_ ?_, by go_grown⟩
    · have q := halves ha
      unfold clipped
      omega
    · unfold cut
      have q := halves ha
      rw [Bool.eq_iff_iff]
      simp only [decide_eq_true_eq, true_iff]
      omega

theorem wideClip (a : Int) (ha : Fits a) (w : World) :
    Calls Tryz.prog 74 #[W a] w fun e w' => e = .returned (.tuple #[.int .i64 (clipped a), .bool (cut a)]) ∧ Below w.heap.size w w' := by
  by_cases h : a < -9223372036854775808 ∨ 9223372036854775807 < a
  · exact wideClip_out a ha h w
  · exact wideClip_in a ha (by omega) (by omega) w

end Go.Proofs.YtodfcbpcgcgijaaGreatDoor

/- Facts that are kept while calls and new variables follow one another in an order that is left open; no function of the program is named here. -/
namespace Go.Proofs.YtodfcbpcgcgijaaGreatDoor
set_option maxRecDepth 100000
open Go.RowKit

theorem kp_call {w w1 w2 : World} {X : Nat} {x y : Option Value} (hb : Below w1.heap.size w1 w2) (h : Below w.heap.size w w1 ∧ X < w1.heap.size ∧ w1.cell? ⟨X, 0, none⟩ = x ∧ w1.cell? ⟨X, 1, none⟩ = y) :
    Below w.heap.size w w2 ∧ X < w2.heap.size ∧ w2.cell? ⟨X, 0, none⟩ = x ∧ w2.cell? ⟨X, 1, none⟩ = y :=
  ⟨h.1.trans (hb.mono h.1.size), Nat.lt_of_lt_of_le h.2.1 hb.size, (hb.cell (p := ⟨X, 0, none⟩) h.2.1).trans h.2.2.1, (hb.cell (p := ⟨X, 1, none⟩) h.2.1).trans h.2.2.2⟩
theorem kp_alloc {w w1 : World} {X : Nat} {x y : Option Value} {o : Obj} (h : Below w.heap.size w w1 ∧ X < w1.heap.size ∧ w1.cell? ⟨X, 0, none⟩ = x ∧ w1.cell? ⟨X, 1, none⟩ = y) :
    Below w.heap.size w (w1.alloc o) ∧ X < (w1.alloc o).heap.size ∧ (w1.alloc o).cell? ⟨X, 0, none⟩ = x ∧ (w1.alloc o).cell? ⟨X, 1, none⟩ = y :=
  ⟨h.1.alloc h.1.size _, by have := h.2.1; simp; omega, (World.cell?_alloc_lt w1 o ⟨X, 0, none⟩ h.2.1).trans h.2.2.1, (World.cell?_alloc_lt w1 o ⟨X, 1, none⟩ h.2.1).trans h.2.2.2⟩
theorem kp_set {w w1 : World} {X : Nat} {x y : Option Value} {p : Addr} {u : Value} (hp : w.heap.size ≤ p.block ∧ p.block ≠ X) (h : Below w.heap.size w w1 ∧ X < w1.heap.size ∧ w1.cell? ⟨X, 0, none⟩ = x ∧ w1.cell? ⟨X, 1, none⟩ = y) :
    Below w.heap.size w (w1.setCell p u) ∧ X < (w1.setCell p u).heap.size ∧ (w1.setCell p u).cell? ⟨X, 0, none⟩ = x ∧ (w1.setCell p u).cell? ⟨X, 1, none⟩ = y :=
  ⟨h.1.setCell hp.1 _, by simp [World.setCell]; exact h.2.1, (World.cell?_setCell_other w1 p ⟨X, 0, none⟩ u (fun e => hp.2 (by rw [e]))).trans h.2.2.1, (World.cell?_setCell_other w1 p ⟨X, 1, none⟩ u (fun e => hp.2 (by rw [e]))).trans h.2.2.2⟩
theorem kp_drew {w w1 : World} {X : Nat} {x y : Option Value} (h : Below w.heap.size w w1 ∧ X < w1.heap.size ∧ w1.cell? ⟨X, 0, none⟩ = x ∧ w1.cell? ⟨X, 1, none⟩ = y) :
    Below w.heap.size w w1.drew ∧ X < w1.drew.heap.size ∧ w1.drew.cell? ⟨X, 0, none⟩ = x ∧ w1.drew.cell? ⟨X, 1, none⟩ = y :=
  ⟨h.1.drew, h.2.1, h.2.2.1, h.2.2.2⟩

/-- A variable of two cells that has just been made, and is still there. -/
abbrev Fresh (g : Nat) (x y : Value) (w : World) : Prop :=
  g < w.heap.size ∧ w.cell? ⟨g, 0, none⟩ = some x ∧ w.cell? ⟨g, 1, none⟩ = some y ∧ w.frozen? ⟨g, 0, none⟩ = false ∧ w.frozen? ⟨g, 1, none⟩ = false
theorem fresh_first {w1 w2 : World} {x y : Value} {t : TypeId} (hb : Below (w1.alloc (.cells #[x, y] t)).heap.size (w1.alloc (.cells #[x, y] t)) w2) : Fresh w1.heap.size x y w2 :=
  have h : w1.heap.size < (w1.alloc (.cells #[x, y] t)).heap.size := by simp
  ⟨Nat.lt_of_lt_of_le h hb.size, (hb.cell (p := ⟨w1.heap.size, 0, none⟩) h).trans (by simp [go_sem]), (hb.cell (p := ⟨w1.heap.size, 1, none⟩) h).trans (by simp [go_sem]),
    (hb.frozen (p := ⟨w1.heap.size, 0, none⟩) h).trans (by simp [go_sem]), (hb.frozen (p := ⟨w1.heap.size, 1, none⟩) h).trans (by simp [go_sem])⟩
theorem fresh_drew {w1 w2 : World} {x y : Value} {t : TypeId} (hb : Below (w1.drew.alloc (.cells #[x, y] t)).heap.size (w1.drew.alloc (.cells #[x, y] t)) w2) : Fresh w1.heap.size x y w2 := fresh_first (w1 := w1.drew) hb
theorem fresh_call {w1 w2 : World} {g : Nat} {x y : Value} (hb : Below w1.heap.size w1 w2) (h : Fresh g x y w1) : Fresh g x y w2 :=
  ⟨Nat.lt_of_lt_of_le h.1 hb.size, (hb.cell (p := ⟨g, 0, none⟩) h.1).trans h.2.1, (hb.cell (p := ⟨g, 1, none⟩) h.1).trans h.2.2.1, (hb.frozen (p := ⟨g, 0, none⟩) h.1).trans h.2.2.2.1, (hb.frozen (p := ⟨g, 1, none⟩) h.1).trans h.2.2.2.2⟩

end Go.Proofs.YtodfcbpcgcgijaaGreatDoor

/- What Mul, Left, Right, Near and Div of package wide answer, each for every number that its parameters can hold; of what was in memory nothing has turned. -/
namespace Go.Proofs.YtodfcbpcgcgijaaGreatDoor
set_option maxRecDepth 100000
open Go.RowKit
attribute [local go_sem] cell_re eqW_self
attribute [local go_sem ↓] run_eqlW run_neqW

theorem left_far_hi' (a : Int) (n : Nat) (h : 64 ≤ n) : wrap64 (IntKind.u64.wrap (lo a * 2 ^ (min (n - 64) 64))) = hi (a * 2 ^ n) := by
  rw [← left_far_hi a n h, IntKind.wrap_i64]
  unfold wrap64
  omega
theorem quarter_in (a : Int) (k : Nat) (h0 : 0 < k) (h1 : k < 64) : IntKind.i64.wrap (lo a / 2 ^ (64 - k)) = lo a / 2 ^ (64 - k) := by
  have hr := pow_pos' (64 - k)
  have hs : (2 : Int) ^ (64 - k) = 2 * 2 ^ (63 - k) := by rw [Int.mul_comm, ← Int.pow_succ, show (63 - k).succ = 64 - k by omega]
  have hq := pow_pos' (63 - k)
  have h2 : lo a / 2 ^ (64 - k) ≤ lo a / 2 := by
    rw [hs, ← Int.ediv_ediv_of_nonneg (by decide)]
    exact Int.ediv_le_self _ (by have := lo_lo a; omega)
  have h3 : 0 ≤ lo a / 2 ^ (64 - k) := Int.ediv_nonneg (lo_lo a) (Int.le_of_lt hr)
  have h4 := lo_lt a
  rw [IntKind.wrap_i64]
  omega

set_option maxHeartbeats 400000 in
theorem wideProduct (x y p r : Int) (x0 : 0 ≤ x) (x1 : x ≤ 18446744073709551615) (y0 : 0 ≤ y) (y1 : y ≤ 18446744073709551615) (hp : x * y / 18446744073709551616 = p) (hr : x * y % 18446744073709551616 = r) (w : World) :
    Calls Tryz.prog 89 #[.int .u64 x, .int .u64 y] w fun e w' => e = .returned (.tuple #[.int .u64 p, .int .u64 r]) ∧ w = w' := by
  subst hp hr
  have m1 := and32 x x0 x1
  have m2 := and32 y y0 y1
  obtain ⟨ac, ad, bc, bd, e1, e2, e3, e4, ⟨l1, l2⟩, ⟨l3, l4⟩, ⟨l5, l6⟩, ⟨l7, l8⟩, exy⟩ := quarters x y x0 x1 y0 y1
  have m3 := and32 (ad + bd / 4294967296) (by omega) (by omega)
  have m4 := and32 bd (by omega) (by omega)
  have m5 : bits .or .u64 (IntKind.u64.wrap ((bc + (ad + bd / 4294967296) % 4294967296) * 4294967296)) (bd % 4294967296) = x * y % 18446744073709551616 := by
    rw [IntKind.wrap_u64, or_u64 32 _ _ (by omega) (by omega) (by rw [show (2 : Int) ^ 32 = 4294967296 from rfl]; omega) (by omega) (by omega) (by rw [show (2 : Int) ^ 32 = 4294967296 from rfl]; omega), exy]
    omega
  have m6 : ac + (ad + bd / 4294967296) / 4294967296 + (bc + (ad + bd / 4294967296) % 4294967296) / 4294967296 = x * y / 18446744073709551616 := by rw [exy]; omega
  have hexy := Lib.hid exy
  clear exy
  go_enter Tryz.func89, Tryz.ntmps89
  go_wp2
  go_ret2
  exact ⟨rfl, rfl⟩

set_option maxHeartbeats 400000 in
theorem wideLeft_mid (a : Int) (k : Nat) (k0 : 0 < k) (k1 : k < 64) (w : World) :
    Calls Tryz.prog 68 #[W a, .int .i64 (k : Int)] w fun e w' => e = .returned (W (a * 2 ^ k)) ∧ Below w.heap.size w w' := by
  have hha := hi_lo a
  have hga := hi_hi a
  have hla := lo_lo a
  have hka := lo_hi a
  have j0 : (0 : Int) < (k : Int) := by omega
  have j1 : (k : Int) < 64 := by omega
  have j2 : IntKind.i64.wrap (64 - (k : Int)) = 64 - (k : Int) := by rw [IntKind.wrap_i64]; omega
  have j3 : (0 : Int) ≤ 64 - (k : Int) := by omega
  have j4 : (64 - (k : Int)).toNat = 64 - k := by omega
  have j5 : min k 64 = k := by omega
  have j6 : min (64 - k) 64 = 64 - k := by omega
  have j7 : IntKind.i64.wrap (lo a / 2 ^ (64 - k)) = lo a / 2 ^ (64 - k) := quarter_in a k k0 k1
  go_enter Tryz.func68, Tryz.ntmps68
  go_wp2
  go_region_held3 (fun w' => w'.cell? ⟨w.heap.size, 0, none⟩ = some (.int .i64 (hi a)) ∧ w'.cell? ⟨w.heap.size, 1, none⟩ = some (.int .u64 (lo a))) (go_keep) (fail)
  go_wp2
  go_returns
  refine ⟨retW ?_ ?_, by go_grown⟩
  · exact left_hi a k k0 k1
  · exact left_lo a k

set_option maxHeartbeats 400000 in
theorem wideLeft_low (a n : Int) (n0 : n ≤ 0) (w : World) :
    Calls Tryz.prog 68 #[W a, .int .i64 n] w fun e w' => e = .returned (W a) ∧ Below w.heap.size w w' := by
  have hha := hi_lo a
  have hga := hi_hi a
  have hla := lo_lo a
  have hka := lo_hi a
  go_enter Tryz.func68, Tryz.ntmps68
  go_wp2
  go_returns
  exact ⟨rfl, by go_grown⟩

set_option maxHeartbeats 400000 in
theorem wideLeft_far (a : Int) (k : Nat) (k0 : 64 ≤ k) (k1 : k ≤ 9223372036854775807) (w : World) :
    Calls Tryz.prog 68 #[W a, .int .i64 (k : Int)] w fun e w' => e = .returned (W (a * 2 ^ k)) ∧ Below w.heap.size w w' := by
  have hha := hi_lo a
  have hga := hi_hi a
  have hla := lo_lo a
  have hka := lo_hi a
  have j0 : (64 : Int) ≤ (k : Int) := by omega
  have j1 : (k : Int) ≤ 9223372036854775807 := by omega
  have j2 : ¬ (k : Int) ≤ 0 := by omega
  go_enter Tryz.func68, Tryz.ntmps68
  go_wp2
  go_returns
  refine ⟨retW ?_ ?_, by go_grown⟩
  · exact (left_far_hi' a k k0)
  · exact (left_far_lo a k k0).symm

theorem wideLeft (a n : Int) (hn : Half n) (w : World) :
    Calls Tryz.prog 68 #[W a, .int .i64 n] w fun e w' => e = .returned (W (a * 2 ^ n.toNat)) ∧ Below w.heap.size w w' := by
  obtain ⟨n0, n1⟩ := hn
  rcases Int.lt_or_le 0 n with h | h
  · obtain ⟨k, rfl⟩ := Int.eq_ofNat_of_zero_le (Int.le_of_lt h)
    rw [Int.toNat_natCast]
    rcases Nat.lt_or_ge k 64 with hk | hk
    · exact wideLeft_mid a k (by omega) hk w
    · exact wideLeft_far a k hk (by omega) w
  · have h0 : n.toNat = 0 := by omega
    rw [h0, Int.pow_zero, Int.mul_one]
    exact wideLeft_low a n h w

set_option maxHeartbeats 400000 in
theorem wideRight_low (a : Int) (ha : Fits a) (n : Int) (hn : Half n) (k : Nat) (pn : places n = (k : Int)) (k1 : k < 64) (w : World) :
    Calls Tryz.prog 99 #[W a, .int .i64 n] w fun e w' => e = .returned (W (a / 2 ^ k)) ∧ Below w.heap.size w w' := by
  have hha := hi_lo a
  have hga := hi_hi a
  have hla := lo_lo a
  have hka := lo_hi a
  have j0 : (0 : Int) ≤ (k : Int) := by omega
  have j1 : (k : Int) < 64 := by omega
  have j2 : IntKind.i64.wrap (64 - (k : Int)) = 64 - (k : Int) := by rw [IntKind.wrap_i64]; omega
  have j3 : (0 : Int) ≤ 64 - (k : Int) := by omega
  have j4 : (64 - (k : Int)).toNat = 64 - k := by omega
  have j5 : min k 64 = k := by omega
  have j6 : min (64 - k) 64 = 64 - k := by omega
  go_enter Tryz.func99, Tryz.ntmps99
  go_wp2_with ((go_at_call 98; refine (widePlaces _ _ hn pn _).mono ?_; rintro e w' ⟨rfl, rfl⟩))
  go_region_held3 (fun w' => w'.cell? ⟨w.heap.size, 0, none⟩ = some (.int .i64 (hi a)) ∧ w'.cell? ⟨w.heap.size, 1, none⟩ = some (.int .u64 (lo a))) (go_keep) (fail)
  go_wp2
  go_returns
  refine ⟨retW ?_ ?_, by go_grown⟩
  · exact right_low_hi a ha k k1
  · exact right_low_lo a ha k k1

set_option maxHeartbeats 400000 in
theorem wideRight_far (a : Int) (ha : Fits a) (n : Int) (hn : Half n) (k : Nat) (pn : places n = (k : Int)) (k0 : 64 ≤ k) (k1 : k ≤ 127) (w : World) :
    Calls Tryz.prog 99 #[W a, .int .i64 n] w fun e w' => e = .returned (W (a / 2 ^ k)) ∧ Below w.heap.size w w' := by
  have hha := hi_lo a
  have hga := hi_hi a
  have hla := lo_lo a
  have hka := lo_hi a
  have j0 : (64 : Int) ≤ (k : Int) := by omega
  have j1 : (k : Int) ≤ 127 := by omega
  have j2 : IntKind.i64.wrap ((k : Int) - 64) = (k : Int) - 64 := by rw [IntKind.wrap_i64]; omega
  have j3 : (0 : Int) ≤ (k : Int) - 64 := by omega
  have j4 : ((k : Int) - 64).toNat = k - 64 := by omega
  have j5 : min (k - 64) 64 = k - 64 := by omega
  go_enter Tryz.func99, Tryz.ntmps99
  go_wp2_with ((go_at_call 98; refine (widePlaces _ _ hn pn _).mono ?_; rintro e w' ⟨rfl, rfl⟩))
  go_region_held3 (fun w' => w'.cell? ⟨w.heap.size, 0, none⟩ = some (.int .i64 (hi a)) ∧ w'.cell? ⟨w.heap.size, 1, none⟩ = some (.int .u64 (lo a))) (go_keep) (fail)
  go_wp2
  go_returns
  refine ⟨retW ?_ ?_, by go_grown⟩
  · exact right_far_hi a ha k k0
  · exact right_far_lo a ha k k0

theorem wideRight (a : Int) (ha : Fits a) (n : Int) (hn : Half n) (k : Nat) (pn : places n = (k : Int)) (w : World) :
    Calls Tryz.prog 99 #[W a, .int .i64 n] w fun e w' => e = .returned (W (a / 2 ^ k)) ∧ Below w.heap.size w w' := by
  have h : k ≤ 127 := by unfold places at pn; omega
  rcases Nat.lt_or_ge k 64 with hk | hk
  · exact wideRight_low a ha n hn k pn hk w
  · exact wideRight_far a ha n hn k pn hk h w

end Go.Proofs.YtodfcbpcgcgijaaGreatDoor

/- What Mul, Near and Div of package wide answer, each for every number that its parameters can hold; of what was in memory nothing has turned. -/
namespace Go.Proofs.YtodfcbpcgcgijaaGreatDoor
set_option maxRecDepth 100000
open Go.RowKit
attribute [local go_sem] cell_re eqW_self
attribute [local go_sem ↓] run_eqlW run_neqW

set_option maxHeartbeats 400000 in
theorem wideMul (x y : Int) (hx : Half x) (hy : Half y) (w : World) :
    Calls Tryz.prog 65 #[.int .i64 x, .int .i64 y] w fun e w' => e = .returned (W (x * y)) ∧ Below w.heap.size w w' := by
  obtain ⟨hx0, hx1⟩ := hx
  obtain ⟨hy0, hy1⟩ := hy
  obtain ⟨X, wx, X0, X1, X2⟩ : ∃ X, IntKind.u64.wrap x = X ∧ 0 ≤ X ∧ X ≤ 18446744073709551615 ∧ ((0 ≤ x ∧ X = x) ∨ (x < 0 ∧ X = x + 18446744073709551616)) := ⟨_, rfl, by rw [IntKind.wrap_u64]; omega, by rw [IntKind.wrap_u64]; omega, by rw [IntKind.wrap_u64]; omega⟩
  obtain ⟨Y, wy, Y0, Y1, Y2⟩ : ∃ Y, IntKind.u64.wrap y = Y ∧ 0 ≤ Y ∧ Y ≤ 18446744073709551615 ∧ ((0 ≤ y ∧ Y = y) ∨ (y < 0 ∧ Y = y + 18446744073709551616)) := ⟨_, rfl, by rw [IntKind.wrap_u64]; omega, by rw [IntKind.wrap_u64]; omega, by rw [IntKind.wrap_u64]; omega⟩
  have X3 := Lib.hid X2
  have Y3 := Lib.hid Y2
  clear X2 Y2
  obtain ⟨p, r, hp, hr, p0, r0, r1⟩ : ∃ p r, X * Y / 18446744073709551616 = p ∧ X * Y % 18446744073709551616 = r ∧ 0 ≤ p ∧ 0 ≤ r ∧ r ≤ 18446744073709551615 := ⟨_, _, rfl, rfl, Int.ediv_nonneg (Int.mul_nonneg X0 Y0) (by decide), by omega, by omega⟩
  have hp3 := Lib.hid hp
  have hr3 := Lib.hid hr
  clear hp hr
  go_enter Tryz.func65, Tryz.ntmps65
  go_wp2_with ((go_at_call 89; refine (wideProduct _ _ p r X0 X1 Y0 Y1 hp3.out hr3.out _).mono ?_; rintro e w' ⟨rfl, rfl⟩))
  all_goals
    go_returns
    refine ⟨?_, by go_grown⟩
    have hp := hp3.out
    have hr := hr3.out
    have hm := mul_signs x y X Y X3.out Y3.out
    refine retW ?_ ?_
    · refine mul_hi hp hr hm ?_ ?_ ?_
      all_goals (try simp only [IntKind.wrap_u64])
      all_goals unfold wrap64
      all_goals (repeat' split)
      all_goals omega
    · exact mul_lo hr hm

set_option maxHeartbeats 400000 in
theorem wideSigned_yes (q : Int) (c : Bool) (h : c = true) (w : World) :
    Calls Tryz.prog 96 #[W q, .bool c] w fun e w' => e = .returned (W (-q)) ∧ Below w.heap.size w w' := by
  subst h
  have hhq := hi_lo q
  have hgq := hi_hi q
  have hlq := lo_lo q
  have hkq := lo_hi q
  go_enter Tryz.func96, Tryz.ntmps96
  go_wp2_with ((go_at_call 42; refine (wideNeg _ _).mono ?_; rintro e w' ⟨rfl, hb⟩; obtain ⟨hc, hf⟩ := bcell hb; have hz := hb.size; have ht := (Below.trans (by go_grown) (hb.mono (by simp; try omega)) : Below w.heap.size w w')))
  refine bodyPost_ret (by simp [results, Tryz.results96, go_sem, hc]; try rfl) rfl ?_
  exact ⟨rfl, by go_grown⟩

set_option maxHeartbeats 400000 in
theorem wideSigned_no (q : Int) (c : Bool) (h : c = false) (w : World) :
    Calls Tryz.prog 96 #[W q, .bool c] w fun e w' => e = .returned (W q) ∧ Below w.heap.size w w' := by
  subst h
  have hhq := hi_lo q
  have hgq := hi_hi q
  have hlq := lo_lo q
  have hkq := lo_hi q
  go_enter Tryz.func96, Tryz.ntmps96
  go_wp2
  go_returns
  exact ⟨rfl, by go_grown⟩

set_option maxRecDepth 100000 in
set_option maxHeartbeats 400000 in
theorem wideQuotient (A b U H Q R : Int) (hb0 : 1 ≤ b) (hb1 : b ≤ 9223372036854775808) (hU : U = H * 18446744073709551616 + lo A) (hH : IntKind.u64.wrap (hi A) = H) (hQ : U / b = Q) (hR : U % b = R) (w : World) :
    Calls Tryz.prog 95 #[W A, .int .u64 b] w fun e w' => e = .returned (.tuple #[W Q, .int .u64 R]) ∧ Below w.heap.size w w' := by
  subst hQ hR
  have hhA := hi_lo A
  have hgA := hi_hi A
  have hlA := lo_lo A
  have hkA := lo_hi A
  have H0 : 0 ≤ H ∧ H ≤ 18446744073709551615 := by rw [← hH, IntKind.wrap_u64]; omega
  obtain ⟨hH0, hH1⟩ := H0
  have hS : Hid (QInv U b 0 H (lo A) 0) := QInv.start hU hH0 hH1 (lo_lo A) (lo_hi A) hb0
  clear hU
  go_enter Tryz.func95, Tryz.ntmps95
  go_wp2
  go_region_held3 (fun w' => w'.cell? ⟨w.heap.size, 0, none⟩ = some (.int .i64 (hi A)) ∧ w'.cell? ⟨w.heap.size, 1, none⟩ = some (.int .u64 (lo A))) (go_keep) (fail)
  go_wp2
  go_loop [8, 6, 7, 14] (fun v8 v6 v7 v14 => ∃ (k : Nat) (h l r : Int), k ≤ 128 ∧ v14 = .int .i64 k ∧ v6 = .int .u64 h ∧ v7 = .int .u64 l ∧ v8 = .int .u64 r ∧ QInv U b k h l r) (fun _ _ _ v14 => 128 - (intOf v14).toNat)
  case atStart => exact ⟨0, H, lo A, 0, by omega, rfl, rfl, rfl, rfl, hS.out⟩
  case round =>
    obtain ⟨k, h, l, r, hk, rfl, rfl, rfl, rfl, hq⟩ := hrel
    obtain ⟨h0, h1, l0, l1, r0, r1⟩ := hq.bounds
    have hQ := Lib.hid hq
    clear hq
    by_cases hlt : k < 128
    · obtain ⟨t, et, t0, t1⟩ : ∃ t, h / 9223372036854775808 = t ∧ 0 ≤ t ∧ t ≤ 1 := ⟨_, rfl, by omega, by omega⟩
      obtain ⟨s, es, s0, s1⟩ : ∃ s, l / 9223372036854775808 = s ∧ 0 ≤ s ∧ s ≤ 1 := ⟨_, rfl, by omega, by omega⟩
      obtain ⟨R, eR, R0, R1⟩ : ∃ R, 2 * r + t = R ∧ 0 ≤ R ∧ R ≤ 18446744073709551615 := ⟨_, rfl, by omega, by omega⟩
      have o1 : bits .or .u64 (r * 2) t = R := by rw [← eR]; exact or_dbl r t r0 (by omega) t0 t1
      have hR := Lib.hid eR
      clear eR
      obtain ⟨G, eG, G0, G1⟩ : ∃ G, 2 * h % 18446744073709551616 + s = G ∧ 0 ≤ G ∧ G ≤ 18446744073709551615 := ⟨_, rfl, by omega, by omega⟩
      have o2 : bits .or .u64 (IntKind.u64.wrap (h * 2)) s = G := by rw [← eG]; exact or_dbl' h s s0 s1
      have hG := Lib.hid eG
      clear eG
      obtain ⟨L, eL, L0, L1⟩ : ∃ L, 2 * l % 18446744073709551616 = L ∧ 0 ≤ L ∧ L ≤ 18446744073709551614 := ⟨_, rfl, by omega, by omega⟩
      have o3 : IntKind.u64.wrap (l * 2) = L := by rw [← eL, IntKind.wrap_u64]; omega
      have hL := Lib.hid eL
      clear eL
      go_wp2
      · go_round
        case rel =>
          have hge : b ≤ R := by assumption
          refine ⟨k + 1, G, L + 1, R - b, by omega, by go_num, rfl, rfl, rfl, ?_⟩
          have := hQ.out.step hlt 1 (.inr rfl) (by rw [et]; have := hR.out; omega) (by rw [et]; have := hR.out; omega)
          rw [et, es, hG.out, hL.out, hR.out, Int.one_mul] at this
          exact this
        case measure => simp [intOf]; omega
      · go_round
        case rel =>
          have hge : R < b := by assumption
          refine ⟨k + 1, G, L, R, by omega, by go_num, rfl, rfl, rfl, ?_⟩
          have := hQ.out.step hlt 0 (.inl rfl) (by rw [et]; have := hR.out; omega) (by rw [et]; have := hR.out; omega)
          rw [et, es, hG.out, hL.out, hR.out, Int.zero_mul, Int.add_zero, Int.sub_zero] at this
          exact this
        case measure => simp [intOf]; omega
    · obtain rfl : k = 128 := by omega
      go_wp2
      obtain ⟨e1, e2⟩ := hQ.out.stop
      go_returns
      refine ⟨?_, by go_grown⟩
      rw [← e1, ← e2]
      have e3 : hi (h * 18446744073709551616 + l) = wrap64 h := by unfold hi wrap64; omega
      have e4 : lo (h * 18446744073709551616 + l) = l := by unfold lo; omega
      rw [W, e3, e4]

end Go.Proofs.YtodfcbpcgcgijaaGreatDoor

/- Small facts for the last step of a law: what a bool answer and memory that has only grown come to; wide numbers and integers as arguments. -/
namespace Go.Proofs.YtodfcbpcgcgijaaGreatDoor
set_option maxRecDepth 100000
open Go.ChangeShapes Go.WideShapes Go.ChangeAt Go.RowKit Go.Joins

theorem own : ownKnob Tryz.prog.godebug = none := by kernel_rfl

theorem half_of_wf {n : Int} (h : (Lit.int .i64 n).wf = true) : Half n := by
  simp [Lit.wf, IntKind.min, IntKind.max, IntKind.signed, IntKind.bits] at h
  exact ⟨by omega, by omega⟩
theorem word_of_wf {n : Int} (h : (Lit.int .u64 n).wf = true) : 0 ≤ n ∧ n ≤ 18446744073709551615 := by
  simp [Lit.wf, IntKind.min, IntKind.max, IntKind.signed, IntKind.bits] at h
  exact ⟨by omega, by omega⟩
theorem byte_of_wf {n : Int} (h : (Lit.int .u8 n).wf = true) : 0 ≤ n ∧ n ≤ 255 := by
  simp [Lit.wf, IntKind.min, IntKind.max, IntKind.signed, IntKind.bits] at h
  exact ⟨by omega, by omega⟩
theorem wf_hi (v : Int) : (Lit.int .i64 (hi v)).wf = true := by
  have := hi_lo v; have := hi_hi v
  simp [Lit.wf, IntKind.min, IntKind.max, IntKind.signed, IntKind.bits]; omega
theorem wf_lo (v : Int) : (Lit.int .u64 (lo v)).wf = true := by
  have := lo_lo v; have := lo_hi v
  simp [Lit.wf, IntKind.min, IntKind.max, IntKind.signed, IntKind.bits]; omega

/-- A wide number's datum. -/
abbrev dW {H : Type} (v : Int) : DataW H := .agg [.lit (.int .i64 (hi v)), .lit (.int .u64 (lo v))]

section
variable {H : Type} {enc : TypeId × Value → H} {w : World} {base : Nat} {spare : Nat → Bool} {held : Bool}
theorem open_W {r : Reach} {b0 : Nat} {v : Value} {d : DataW H} {p : List MemPlace} (hv : Value.okWide Tryz.prog w r b0 56 v) (h : DataW.Trod enc Tryz.prog w base spare held 56 v d p) :
    ∃ a : Int, Fits a ∧ v = W a ∧ d = dW a ∧ p = [] := by
  obtain ⟨c0, c1, y0, y1, m, rfl, rfl, rfl, hy0, hy1⟩ := open_agg2 Tryz.underlying56 (by kernel_rfl) (by kernel_rfl) hv h
  obtain ⟨x, e0, rfl, wx⟩ := DataW.trod_int Tryz.underlying2 hy0
  obtain ⟨y, e1, rfl, wy⟩ := DataW.trod_int Tryz.underlying54 hy1
  simp at e0 e1
  subst e0 e1
  obtain ⟨a, fa, rfl, rfl⟩ := of_halves (half_of_wf wx) (word_of_wf wy).1 (word_of_wf wy).2
  exact ⟨a, fa, rfl, rfl, rfl⟩
theorem shut_W (a : Int) : DataW.Trod enc Tryz.prog w base spare held 56 (W a) (dW a) [] :=
  shut_agg2 (y0 := (.lit (.int .i64 (hi a)), [])) (y1 := (.lit (.int .u64 (lo a)), [])) Tryz.underlying56 (by kernel_rfl) (by kernel_rfl) ⟨1, by simp [DataW.trod, Tryz.underlying2, wf_hi]⟩ ⟨1, by simp [DataW.trod, Tryz.underlying54, wf_lo]⟩
end

end Go.Proofs.YtodfcbpcgcgijaaGreatDoor

/- The last step of any law whose arguments read behind the call as they did: of every readable type; integers of a slice as an argument. -/
namespace Go.Proofs.YtodfcbpcgcgijaaGreatDoor
set_option maxRecDepth 100000
open Go.ChangeShapes Go.WideShapes Go.ChangeAt Go.RowKit Go.Joins

section
variable {H : Type} {enc : TypeId × Value → H} {P : Program}
theorem trodAll_stays (hl : laidOutB P = true) {W W' : World} {sp : Nat → Bool} : ∀ {ts : List TypeId} {vs : List Value} {ds : List (DataW H)} {ps : List MemPlace},
    (ts.all fun t => P.readableRec t && decide (t < P.types.size)) = true → DataW.TrodAll enc P W 0 (fun _ => true) true ts vs ds ps → (∀ p ∈ ps, W.sameAt W' p) → (∀ p ∈ ps, sp p.block = true) → DataW.TrodAll enc P W' 0 sp true ts vs ds ps
  | [], vs, ds, ps, _, h, _, _ => by
    obtain ⟨rfl, rfl, rfl⟩ := trodAll_nil h
    exact trodAll_mk0
  | t :: ts, vs, ds, ps, hr, h, hs, hp => by
    obtain ⟨v, vs', d, ds', p, q, rfl, rfl, rfl, h1, h2⟩ := trodAll_cons h
    simp only [List.all_cons, Bool.and_eq_true, decide_eq_true_eq] at hr
    exact trodAll_cons_mk (WideElems.Trod_stays hl hr.1.1 hr.1.2 h1 (fun x hx => hs x (List.mem_append_left _ hx)) (fun x hx => hp x (List.mem_append_left _ hx)))
      (trodAll_stays hl hr.2 h2 (fun x hx => hs x (List.mem_append_right _ hx)) (fun x hx => hp x (List.mem_append_right _ hx)))

/-- A law that answers true, and behind which nothing old has turned. -/
theorem law_post {f : Func} {s : ChangeSpec} {apart fresh handsOn again : Bool} {t : TypeId} {W W' : World} {args : Array Value} {ds : List (DataW H)} {before : List MemPlace}
    (hl : laidOutB P = true) (hr : (f.params.toList.all fun t => P.readableRec t && decide (t < P.types.size)) = true) (hv : s.vars = []) (ht : f.resultTypes = #[t]) (hu : P.underlying t = some .bool)
    (hW : DataW.Whole enc P f.params.toList s.vars apart W args.toList ds [] before) (hfn : s.fn H (ds ++ []) = { results := [.lit (.bool true)], args := ds }) (hb : Below W.heap.size W W') :
    s.post enc P f apart fresh handsOn again W args (.bool true) W' := by
  have same : ∀ x ∈ before, W.sameAt W' x := fun x hx => hb.same (hW.lt x hx)
  have whole := hW
  obtain ⟨p, q, hA, hV, hbe, hfr, hap⟩ := hW
  rw [hv] at hV
  obtain ⟨_, rfl⟩ := trodVars_none hV
  rw [List.append_nil] at hbe
  subst hbe
  have read : ∀ sp : Nat → Bool, (∀ x ∈ before, sp x.block = true) → DataW.TrodAll enc P W' 0 sp true f.params.toList args.toList ds before :=
    fun sp hs => trodAll_stays hl hr hA same hs
  have told : ∀ (b : Nat) (sp : Nat → Bool) (hd : Bool), DataW.TrodAll enc P W' b sp hd [t] [.bool true] [.lit (.bool true)] [] := fun b sp hd => trodAll_cons_mk (shut_bool hu _) trodAll_mk0
  have none_ : ∀ sp : Nat → Bool, DataW.TrodVars enc P W' sp s.vars (s.fn H (ds ++ [])).vars [] := fun sp => by rw [hv, hfn]; rfl
  have low : ∀ x ∈ before, decide (x.block < W.heap.size) = true := fun x hx => decide_eq_true (whole.lt x hx)
  have hres : f.resultTypes.toList = [t] := by rw [ht]
  have hone : (Value.bool true).resultList f.resultTypes.size = [.bool true] := by rw [ht]; rfl
  refine ⟨ds, [], before, [], before, [], whole, ?_, ?_, none_ _, World.keptBut_mono (fun x hx => ⟨hx, Or.inr (Or.inl hx)⟩) (hb.frame (· ∈ before)), fun _ => ⟨?_, [.lit (.bool true)] ++ ds, _, [] ++ before ++ [], ⟨[] ++ before, [], trodAll_append (read _ fun _ _ => rfl) ?_, none_ _, rfl, ?_, ?_⟩, ?_⟩⟩
  · rw [hres, hone, hfn]; exact told _ _ _
  · rw [hfn]; exact read _ low
  · exact ok_one ht rfl (okWide_bool_mk hu _)
  · rw [hres, hone]; exact told _ _ _
  · intro b off hp
    have hin : MemPlace.cell b off ∈ before := by simpa using hp
    rw [hb.frozen (whole.lt _ hin)]
    exact hfr b off (by simpa using hin)
  · intro ha
    simpa using hap ha
  · intro x hx _
    simpa using hx
end

/-- v is a slice of these integers. -/
def IntsAt (k : IntKind) (w : World) (v : Value) (zs : List Int) : Prop :=
  ∃ p cap, v = .slice p zs.length cap ∧ zs.length ≤ cap ∧ cap ≤ maxLen ∧ (∀ z ∈ zs, (Lit.int k z).wf = true) ∧
    (zs = [] ∨ ∃ b off, p = some ⟨b, off, none⟩ ∧ b < w.heap.size ∧ ∀ j, j < zs.length → w.cell? ⟨b, off + j, none⟩ = some (.int k (zs.getD j 0)))

section
variable {H : Type} {enc : TypeId × Value → H} {P : Program} {w : World} {base b0 : Nat} {held : Bool} {r : Reach}
theorem open_list {t e : TypeId} {k : IntKind} {v : Value} {d : DataW H} {ps : List MemPlace} (ht : P.underlying t = some (.slice e)) (he : P.underlying e = some (.int k)) (hc : P.cellsOf e = 1)
    (hv : Value.okWide P w r b0 t v) (h : DataW.Trod enc P w base (fun _ => true) held t v d ps) : ∃ zs, IntsAt k w v zs := by
  obtain ⟨a0, len, cap, rfl⟩ := okWide_slice ht hv
  obtain ⟨fuel, hf⟩ := h
  rcases open_ints ht he hc hf with ⟨hcs, _⟩ | ⟨a, len', cap', zs, hcs, _, hle, hmax, hall, _, hcell, hwf⟩
  · simp [Value.cells] at hcs
    obtain ⟨rfl, rfl, rfl⟩ := hcs
    exact ⟨[], none, 0, rfl, Nat.le_refl _, Nat.zero_le _, by simp, Or.inl rfl⟩
  · simp [Value.cells] at hcs
    obtain ⟨rfl, rfl, rfl⟩ := hcs
    simp only [if_true] at hall
    have hl : (zs.take len).length = len := by rw [List.length_take]; omega
    refine ⟨zs.take len, some a, cap, by rw [hl], by rw [hl]; exact hle, hmax, fun z hz => hwf z (List.mem_of_mem_take hz), ?_⟩
    rw [hl]
    by_cases h0 : len = 0
    · subst h0
      exact Or.inl (List.take_zero)
    · obtain ⟨b, off, rfl, hc⟩ := ints_at hcell (by omega)
      refine Or.inr ⟨b, off, rfl, World.block_lt_of_cell? w _ (hc 0 (by omega)), fun j hj => ?_⟩
      rw [hc j (by omega)]
      simp [List.getD_eq_getElem?_getD, hj]
end

theorem old_list {k : IntKind} {w w' : World} {n : Nat} {p : Option Addr} {f : Nat → Int} (hb : Below w.heap.size w w')
    (h : n = 0 ∨ ∃ g off, p = some ⟨g, off, none⟩ ∧ g < w.heap.size ∧ ∀ j, j < n → w.cell? ⟨g, off + j, none⟩ = some (.int k (f j))) :
    n = 0 ∨ ∃ g off, p = some ⟨g, off, none⟩ ∧ g < w'.heap.size ∧ ∀ j, j < n → w'.cell? ⟨g, off + j, none⟩ = some (.int k (f j)) := by
  rcases h with h | ⟨g, off, e, hg, hc⟩
  · exact Or.inl h
  · exact Or.inr ⟨g, off, e, Nat.lt_of_lt_of_le hg hb.size, fun j hj => (hb.cell (p := ⟨g, off + j, none⟩) hg).trans (hc j hj)⟩
theorem laidOut : laidOutB Tryz.prog = true := by kernel_rfl

end Go.Proofs.YtodfcbpcgcgijaaGreatDoor
