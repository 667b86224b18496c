/- Facts that are kept while calls and new variables follow one another in an order that is left open; no function of the program is named here. -/
import Derived.Test.YtmhehnimgkmmaaaDoorWide
namespace Go.Proofs.YtmhehnimgkmmaaaDoor
set_option maxRecDepth 100000
open Go.RowKit

theorem kp_call {w w1 w2 : World} {X : Nat} {x y : Option Value} (hb : Below w1.heap.size w1 w2) (h : Below w.heap.size w w1 ∧ X < w1.heap.size ∧ w1.cell? ⟨X, 0, none⟩ = x ∧ w1.cell? ⟨X, 1, none⟩ = y) :
    Below w.heap.size w w2 ∧ X < w2.heap.size ∧ w2.cell? ⟨X, 0, none⟩ = x ∧ w2.cell? ⟨X, 1, none⟩ = y :=
  ⟨h.1.trans (hb.mono h.1.size), Nat.lt_of_lt_of_le h.2.1 hb.size, (hb.cell (p := ⟨X, 0, none⟩) h.2.1).trans h.2.2.1, (hb.cell (p := ⟨X, 1, none⟩) h.2.1).trans h.2.2.2⟩
theorem kp_alloc {w w1 : World} {X : Nat} {x y : Option Value} {o : Obj} (h : Below w.heap.size w w1 ∧ X < w1.heap.size ∧ w1.cell? ⟨X, 0, none⟩ = x ∧ w1.cell? ⟨X, 1, none⟩ = y) :
    Below w.heap.size w (w1.alloc o) ∧ X < (w1.alloc o).heap.size ∧ (w1.alloc o).cell? ⟨X, 0, none⟩ = x ∧ (w1.alloc o).cell? ⟨X, 1, none⟩ = y :=
  ⟨h.1.alloc h.1.size _, by have := h.2.1; simp; omega, (World.cell?_alloc_lt w1 o ⟨X, 0, none⟩ h.2.1).trans h.2.2.1, (World.cell?_alloc_lt w1 o ⟨X, 1, none⟩ h.2.1).trans h.2.2.2⟩
theorem kp_set {w w1 : World} {X : Nat} {x y : Option Value} {p : Addr} {u : Value} (hp : w.heap.size ≤ p.block ∧ p.block ≠ X) (h : Below w.heap.size w w1 ∧ X < w1.heap.size ∧ w1.cell? ⟨X, 0, none⟩ = x ∧ w1.cell? ⟨X, 1, none⟩ = y) :
    Below w.heap.size w (w1.setCell p u) ∧ X < (w1.setCell p u).heap.size ∧ (w1.setCell p u).cell? ⟨X, 0, none⟩ = x ∧ (w1.setCell p u).cell? ⟨X, 1, none⟩ = y :=
  ⟨h.1.setCell hp.1 _, by simp [World.setCell]; exact h.2.1, (World.cell?_setCell_other w1 p ⟨X, 0, none⟩ u (fun e => hp.2 (by rw [e]))).trans h.2.2.1, (World.cell?_setCell_other w1 p ⟨X, 1, none⟩ u (fun e => hp.2 (by rw [e]))).trans h.2.2.2⟩
theorem kp_drew {w w1 : World} {X : Nat} {x y : Option Value} (h : Below w.heap.size w w1 ∧ X < w1.heap.size ∧ w1.cell? ⟨X, 0, none⟩ = x ∧ w1.cell? ⟨X, 1, none⟩ = y) :
    Below w.heap.size w w1.drew ∧ X < w1.drew.heap.size ∧ w1.drew.cell? ⟨X, 0, none⟩ = x ∧ w1.drew.cell? ⟨X, 1, none⟩ = y :=
  ⟨h.1.drew, h.2.1, h.2.2.1, h.2.2.2⟩

/-- A variable of two cells that has just been made, and is still there. -/
abbrev Fresh (g : Nat) (x y : Value) (w : World) : Prop :=
  g < w.heap.size ∧ w.cell? ⟨g, 0, none⟩ = some x ∧ w.cell? ⟨g, 1, none⟩ = some y ∧ w.frozen? ⟨g, 0, none⟩ = false ∧ w.frozen? ⟨g, 1, none⟩ = false
theorem fresh_first {w1 w2 : World} {x y : Value} {t : TypeId} (hb : Below (w1.alloc (.cells #[x, y] t)).heap.size (w1.alloc (.cells #[x, y] t)) w2) : Fresh w1.heap.size x y w2 :=
  have h : w1.heap.size < (w1.alloc (.cells #[x, y] t)).heap.size := by simp
  ⟨Nat.lt_of_lt_of_le h hb.size, (hb.cell (p := ⟨w1.heap.size, 0, none⟩) h).trans (by simp [go_sem]), (hb.cell (p := ⟨w1.heap.size, 1, none⟩) h).trans (by simp [go_sem]),
    (hb.frozen (p := ⟨w1.heap.size, 0, none⟩) h).trans (by simp [go_sem]), (hb.frozen (p := ⟨w1.heap.size, 1, none⟩) h).trans (by simp [go_sem])⟩
theorem fresh_drew {w1 w2 : World} {x y : Value} {t : TypeId} (hb : Below (w1.drew.alloc (.cells #[x, y] t)).heap.size (w1.drew.alloc (.cells #[x, y] t)) w2) : Fresh w1.heap.size x y w2 := fresh_first (w1 := w1.drew) hb
theorem fresh_call {w1 w2 : World} {g : Nat} {x y : Value} (hb : Below w1.heap.size w1 w2) (h : Fresh g x y w1) : Fresh g x y w2 :=
  ⟨Nat.lt_of_lt_of_le h.1 hb.size, (hb.cell (p := ⟨g, 0, none⟩) h.1).trans h.2.1, (hb.cell (p := ⟨g, 1, none⟩) h.1).trans h.2.2.1, (hb.frozen (p := ⟨g, 0, none⟩) h.1).trans h.2.2.2.1, (hb.frozen (p := ⟨g, 1, none⟩) h.1).trans h.2.2.2.2⟩

end Go.Proofs.YtmhehnimgkmmaaaDoor
