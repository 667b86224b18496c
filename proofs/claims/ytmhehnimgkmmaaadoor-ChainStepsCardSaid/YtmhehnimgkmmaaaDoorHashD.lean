/- Eight words in a variable. -/
import Derived.Test.YtmhehnimgkmmaaaDoorHashB
namespace Go.Proofs.YtmhehnimgkmmaaaDoor
set_option maxRecDepth 100000
open Go.RowKit

/-- Block g is a variable that holds a state. -/
structure Eight (w : World) (g : Nat) (s : S8) : Prop where
  lt : g < w.heap.size
  c0 : w.cell? ⟨g, 0, none⟩ = some (.int .u32 s.a)
  c1 : w.cell? ⟨g, 1, none⟩ = some (.int .u32 s.b)
  c2 : w.cell? ⟨g, 2, none⟩ = some (.int .u32 s.c)
  c3 : w.cell? ⟨g, 3, none⟩ = some (.int .u32 s.d)
  c4 : w.cell? ⟨g, 4, none⟩ = some (.int .u32 s.e)
  c5 : w.cell? ⟨g, 5, none⟩ = some (.int .u32 s.f)
  c6 : w.cell? ⟨g, 6, none⟩ = some (.int .u32 s.g)
  c7 : w.cell? ⟨g, 7, none⟩ = some (.int .u32 s.h)
  f0 : w.frozen? ⟨g, 0, none⟩ = false
  f1 : w.frozen? ⟨g, 1, none⟩ = false
  f2 : w.frozen? ⟨g, 2, none⟩ = false
  f3 : w.frozen? ⟨g, 3, none⟩ = false
  f4 : w.frozen? ⟨g, 4, none⟩ = false
  f5 : w.frozen? ⟨g, 5, none⟩ = false
  f6 : w.frozen? ⟨g, 6, none⟩ = false
  f7 : w.frozen? ⟨g, 7, none⟩ = false
theorem Eight.below {w w' : World} {g B : Nat} {s : S8} (h' : Eight w g s) (hb : Below B w w') (hg : g < B) : Eight w' g s :=
  ⟨Nat.lt_of_lt_of_le h'.lt hb.size, (hb.cell (p := ⟨g, 0, none⟩) hg).trans h'.c0, (hb.cell (p := ⟨g, 1, none⟩) hg).trans h'.c1, (hb.cell (p := ⟨g, 2, none⟩) hg).trans h'.c2, (hb.cell (p := ⟨g, 3, none⟩) hg).trans h'.c3, (hb.cell (p := ⟨g, 4, none⟩) hg).trans h'.c4, (hb.cell (p := ⟨g, 5, none⟩) hg).trans h'.c5, (hb.cell (p := ⟨g, 6, none⟩) hg).trans h'.c6, (hb.cell (p := ⟨g, 7, none⟩) hg).trans h'.c7, (hb.frozen (p := ⟨g, 0, none⟩) hg).trans h'.f0, (hb.frozen (p := ⟨g, 1, none⟩) hg).trans h'.f1, (hb.frozen (p := ⟨g, 2, none⟩) hg).trans h'.f2, (hb.frozen (p := ⟨g, 3, none⟩) hg).trans h'.f3, (hb.frozen (p := ⟨g, 4, none⟩) hg).trans h'.f4, (hb.frozen (p := ⟨g, 5, none⟩) hg).trans h'.f5, (hb.frozen (p := ⟨g, 6, none⟩) hg).trans h'.f6, (hb.frozen (p := ⟨g, 7, none⟩) hg).trans h'.f7⟩
theorem Eight.call {w w' : World} {g : Nat} {s : S8} (h' : Eight w g s) (hb : Below w.heap.size w w') : Eight w' g s := h'.below hb h'.lt
theorem Eight.new (w : World) (s : S8) (t : TypeId) : Eight (w.alloc (.cells #[.int .u32 s.a, .int .u32 s.b, .int .u32 s.c, .int .u32 s.d, .int .u32 s.e, .int .u32 s.f, .int .u32 s.g, .int .u32 s.h] t)) w.heap.size s :=
  ⟨by simp, by simp [go_sem], by simp [go_sem], by simp [go_sem], by simp [go_sem], by simp [go_sem], by simp [go_sem], by simp [go_sem], by simp [go_sem], by simp [go_sem], by simp [go_sem], by simp [go_sem], by simp [go_sem], by simp [go_sem], by simp [go_sem], by simp [go_sem], by simp [go_sem]⟩
theorem Eight.alloc {w : World} {g : Nat} {s : S8} (h' : Eight w g s) (o : Obj) : Eight (w.alloc o) g s := h'.call ((Below.refl _ _).alloc (Nat.le_refl _) o)
theorem Eight.drew {w : World} {g : Nat} {s : S8} (h' : Eight w g s) : Eight w.drew g s := ⟨h'.lt, h'.c0, h'.c1, h'.c2, h'.c3, h'.c4, h'.c5, h'.c6, h'.c7, h'.f0, h'.f1, h'.f2, h'.f3, h'.f4, h'.f5, h'.f6, h'.f7⟩
/-- w with a state stored in block g. -/
abbrev putE (w : World) (g : Nat) (s : S8) : World := ((((((((w.setCell ⟨g, 0, none⟩ (.int .u32 s.a)).setCell ⟨g, 1, none⟩ (.int .u32 s.b)).setCell ⟨g, 2, none⟩ (.int .u32 s.c)).setCell ⟨g, 3, none⟩ (.int .u32 s.d)).setCell ⟨g, 4, none⟩ (.int .u32 s.e)).setCell ⟨g, 5, none⟩ (.int .u32 s.f)).setCell ⟨g, 6, none⟩ (.int .u32 s.g)).setCell ⟨g, 7, none⟩ (.int .u32 s.h))
theorem Eight.same {w : World} {g : Nat} {s : S8} (h' : Eight w g s) (t : S8) : Eight (putE w g t) g t := by
  obtain ⟨l, c0, c1, c2, c3, c4, c5, c6, c7, f0, f1, f2, f3, f4, f5, f6, f7⟩ := h'
  exact ⟨by simp [World.setCell]; exact l, by simp [go_sem, c0], by simp [go_sem, c1], by simp [go_sem, c2], by simp [go_sem, c3], by simp [go_sem, c4], by simp [go_sem, c5], by simp [go_sem, c6], by simp [go_sem, c7], by simp [go_sem, f0], by simp [go_sem, f1], by simp [go_sem, f2], by simp [go_sem, f3], by simp [go_sem, f4], by simp [go_sem, f5], by simp [go_sem, f6], by simp [go_sem, f7]⟩
theorem below_putE {B : Nat} {a' w : World} (h : Below B a' w) {g : Nat} (hb : B ≤ g) (s : S8) : Below B a' (putE w g s) := ((((((((h.setCell (p := ⟨g, 0, none⟩) hb _).setCell (p := ⟨g, 1, none⟩) hb _).setCell (p := ⟨g, 2, none⟩) hb _).setCell (p := ⟨g, 3, none⟩) hb _).setCell (p := ⟨g, 4, none⟩) hb _).setCell (p := ⟨g, 5, none⟩) hb _).setCell (p := ⟨g, 6, none⟩) hb _).setCell (p := ⟨g, 7, none⟩) hb _)
theorem Eight.apart1 {w : World} {g k : Nat} {s : S8} (h' : Eight w k s) (hk : k ≠ g) (j : Nat) (v : Value) : Eight (w.setCell ⟨g, j, none⟩ v) k s := by
  have hh : (w.setCell ⟨g, j, none⟩ v).heap[k]? = w.heap[k]? := Below.heap_setCell _ _ _ k (by simpa using hk)
  have hc : ∀ i, (w.setCell ⟨g, j, none⟩ v).cell? ⟨k, i, none⟩ = w.cell? ⟨k, i, none⟩ := fun i => World.cell?_of_block (w := w) (a := ⟨k, i, none⟩) hh
  have hf : ∀ i, (w.setCell ⟨g, j, none⟩ v).frozen? ⟨k, i, none⟩ = w.frozen? ⟨k, i, none⟩ := fun i => World.frozen?_of_block (w := w) (a := ⟨k, i, none⟩) hh
  exact ⟨by simp [World.setCell]; exact h'.lt, by rw [hc]; exact h'.c0, by rw [hc]; exact h'.c1, by rw [hc]; exact h'.c2, by rw [hc]; exact h'.c3, by rw [hc]; exact h'.c4, by rw [hc]; exact h'.c5, by rw [hc]; exact h'.c6, by rw [hc]; exact h'.c7, by rw [hf]; exact h'.f0, by rw [hf]; exact h'.f1, by rw [hf]; exact h'.f2, by rw [hf]; exact h'.f3, by rw [hf]; exact h'.f4, by rw [hf]; exact h'.f5, by rw [hf]; exact h'.f6, by rw [hf]; exact h'.f7⟩

end Go.Proofs.YtmhehnimgkmmaaaDoor
