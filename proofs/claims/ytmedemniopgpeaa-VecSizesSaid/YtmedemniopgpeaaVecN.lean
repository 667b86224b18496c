/- A variable that holds a number. -/
import Derived.Test.YtmedemniopgpeaaVecV
namespace Go.Proofs.Ytmedemniopgpeaa
open Go.RowKit
/-- Block g is a variable that holds a number. -/
structure Num (w : World) (g : Nat) (v : Int) : Prop where
  lt : g < w.heap.size
  c0 : w.cell? ⟨g, 0, none⟩ = some (.int .i64 v)
  f0 : w.frozen? ⟨g, 0, none⟩ = false
theorem Num.call {w w' : World} {g : Nat} {v : Int} (h : Num w g v) (hb : Below w.heap.size w w') : Num w' g v :=
  ⟨Nat.lt_of_lt_of_le h.lt hb.size, (hb.cell (p := ⟨g, 0, none⟩) h.lt).trans h.c0, (hb.frozen (p := ⟨g, 0, none⟩) h.lt).trans h.f0⟩
theorem Num.new (w : World) (v : Int) (t : TypeId) : Num (w.alloc (.cells #[.int .i64 v] t)) w.heap.size v := ⟨by simp, by simp [go_sem], by simp [go_sem]⟩
theorem Num.alloc {w : World} {g : Nat} {v : Int} (h : Num w g v) (o : Obj) : Num (w.alloc o) g v := h.call ((Below.refl _ _).alloc (Nat.le_refl _) o)
theorem Num.set {w : World} {g : Nat} {u : Int} (h : Num w g u) (v : Int) : Num (w.setCell ⟨g, 0, none⟩ (.int .i64 v)) g v := by
  obtain ⟨l, c0, f0⟩ := h
  exact ⟨by simp [World.setCell]; exact l, by simp [go_sem, c0], by simp [go_sem, f0]⟩


end Go.Proofs.Ytmedemniopgpeaa
