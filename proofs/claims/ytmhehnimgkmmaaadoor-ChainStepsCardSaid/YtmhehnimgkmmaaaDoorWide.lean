/- What the calls of package wide answer, each for every number that its parameters can hold; of what was in memory nothing has turned. -/
import Derived.Test.YtmhehnimgkmmaaaDoorRows
import Derived.Test.YtmhehnimgkmmaaaDoorWideMath
import Derived.WalkKit
import Derived.WalkSpells
import Derived.WalkLawsBesides
import Derived.Laws.StructEq
import Derived.Handy
import Derived.Lib.QuietBelow
import Derived.BigQuiet
namespace Go.Proofs.YtmhehnimgkmmaaaDoor
set_option maxRecDepth 100000
open Go.RowKit

/-- A wide number as the program holds it. -/
abbrev W (v : Int) : Value := .agg #[.int .i64 (hi v), .int .u64 (lo v)]
theorem retW {x y v : Int} (h : x = hi v) (l : y = lo v) : Ending.returned (.agg #[.int .i64 x, .int .u64 y]) = .returned (W v) := by rw [h, l]
theorem retI {k : IntKind} {a b : Int} (h : a = b) : Ending.returned (.int k a) = .returned (.int k b) := by rw [h]
theorem retB {a b : Bool} (h : a = b) : Ending.returned (.bool a) = .returned (.bool b) := by rw [h]
theorem retIB {k : IntKind} {a b : Int} {c d : Bool} (h : a = b) (l : c = d) : Ending.returned (.tuple #[.int k a, .bool c]) = .returned (.tuple #[.int k b, .bool d]) := by rw [h, l]
theorem bcell {W w1 : World} (hb : Below W.heap.size W w1) : (∀ b o, b < W.heap.size → w1.cell? ⟨b, o, none⟩ = W.cell? ⟨b, o, none⟩) ∧ (∀ b o, b < W.heap.size → w1.frozen? ⟨b, o, none⟩ = W.frozen? ⟨b, o, none⟩) :=
  ⟨fun b o h => hb.cell (p := ⟨b, o, none⟩) h, fun b o h => hb.frozen (p := ⟨b, o, none⟩) h⟩
/-- A call behind others: of what was there at the start nothing has turned. -/
theorem chain {P : Program} {f : FuncId} {args : Array Value} {w0 w : World} {v : Value} (ht : Below w0.heap.size w0 w)
    (h : Calls P f args w fun e w' => e = .returned v ∧ Below w.heap.size w w') : Calls P f args w fun e w' => e = .returned v ∧ Below w0.heap.size w0 w' :=
  h.mono fun _ _ ⟨he, hb⟩ => ⟨he, ht.trans (hb.mono ht.size)⟩
theorem bcell3 {W w1 : World} (hb : Below W.heap.size W w1) : (∀ b o, b < W.heap.size → w1.cell? ⟨b, o, none⟩ = W.cell? ⟨b, o, none⟩) ∧ (∀ b o, b < W.heap.size → w1.frozen? ⟨b, o, none⟩ = W.frozen? ⟨b, o, none⟩) ∧ (∀ b, b < W.heap.size → b < w1.heap.size) :=
  ⟨fun b o h => hb.cell (p := ⟨b, o, none⟩) h, fun b o h => hb.frozen (p := ⟨b, o, none⟩) h, fun _ h => Nat.lt_of_lt_of_le h hb.size⟩
theorem below_then {w0 W w1 : World} (ht : Below w0.heap.size w0 W) (hb : Below W.heap.size W w1) : Below w0.heap.size w0 w1 := ht.trans (hb.mono ht.size)
theorem below_of_re {W w' : World} (h : ∃ p : Regrown, w' = Sort.grow (redrawn W p.d) p.os) : Below W.heap.size W w' := by
  obtain ⟨p, rfl⟩ := h
  exact below_regrown W p.d p.os
/-- In a world that has grown behind W the old cells read as they did. -/
theorem cell_re (W : World) (d : Nat) (os : Array Obj) (b o : Nat) (h : b < W.heap.size) : (Sort.grow (redrawn W d) os).cell? ⟨b, o, none⟩ = W.cell? ⟨b, o, none⟩ := (below_regrown W d os).cell (p := ⟨b, o, none⟩) h
attribute [local go_sem] cell_re
/-- Whether two wide numbers are the same, half by half. -/
def eqW (x y x' y' : Int) : Bool := x == x' && y == y'
theorem eqW_self (x y : Int) : eqW x y x y = true := by simp [eqW]
theorem eqW_of {u v : Int} (hu : Fits u) (hv : Fits v) : eqW (hi u) (lo u) (hi v) (lo v) = decide (u = v) := by
  rw [Bool.eq_iff_iff]
  simp only [eqW, Bool.and_eq_true, beq_iff_eq, decide_eq_true_eq]
  exact ⟨fun h => halves_inj hu hv h.1 h.2, fun h => by subst h; exact ⟨rfl, rfl⟩⟩
theorem eqW_zero {u : Int} (hu : Fits u) : eqW (hi u) (lo u) 0 0 = decide (u = 0) := eqW_of hu (v := 0) (by unfold Fits; omega)

attribute [local go_sem] eqW_self
theorem W_eq {u v : Int} (h : u = v) : W u = W v := by rw [h]

theorem not_i64 (n : Int) (h : Half n) : bits .xor .i64 (-1) n = -1 - n := by
  show IntKind.i64.wrap ((BitVec.ofInt 64 (-1) ^^^ BitVec.ofInt 64 n).toNat : Int) = _
  have h1 : BitVec.ofInt 64 (-1) = BitVec.allOnes 64 := by decide
  unfold Half at h
  rw [h1, BitVec.allOnes_xor, BitVec.toNat_not, BitVec.toNat_ofInt, IntKind.wrap_i64]
  omega
theorem not_u64 (n : Int) (h0 : 0 ≤ n) (h1 : n ≤ 18446744073709551615) : bits .xor .u64 IntKind.u64.max n = 18446744073709551615 - n := by
  show IntKind.u64.wrap ((BitVec.ofInt 64 18446744073709551615 ^^^ BitVec.ofInt 64 n).toNat : Int) = _
  have h1 : BitVec.ofInt 64 18446744073709551615 = BitVec.allOnes 64 := by decide
  rw [h1, BitVec.allOnes_xor, BitVec.toNat_not, BitVec.toNat_ofInt, IntKind.wrap_u64]
  omega
theorem not_hi (a : Int) : bits .xor .i64 (-1) (hi a) = hi (-a - 1) := by rw [not_i64 _ (half_hi a)]; unfold hi; omega
theorem not_lo (a : Int) : bits .xor .u64 IntKind.u64.max (lo a) = lo (-a - 1) := by rw [not_u64 _ (lo_lo a) (lo_hi a)]; unfold lo; omega

theorem W_low (h : Int) (h0 : 0 ≤ h) (h1 : h ≤ 18446744073709551615) : W h = .agg #[.int .i64 0, .int .u64 h] := by
  rw [W, show hi h = 0 by unfold hi; omega, show lo h = h by unfold lo; omega]
end Go.Proofs.YtmhehnimgkmmaaaDoor
