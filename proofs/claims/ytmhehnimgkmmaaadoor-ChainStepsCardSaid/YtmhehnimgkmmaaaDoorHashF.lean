/- An array in a variable. -/
import Derived.Test.YtmhehnimgkmmaaaDoorHashD
import Derived.Deep.RegionHeld3
import Derived.Deep.DeepCutAuto
namespace Go.Proofs.YtmhehnimgkmmaaaDoor
set_option maxRecDepth 100000
open Go.RowKit
set_option linter.unusedVariables false
attribute [local go_sem] cell_re

/-- Block g is a variable: an array of these integers. -/
structure Arr (k : IntKind) (w : World) (g : Nat) (zs : List Int) : Prop where
  lt : g < w.heap.size
  c : ∀ j, j < zs.length → w.cell? ⟨g, j, none⟩ = some (.int k (zs.getD j 0))
  f : ∀ j, j < zs.length → w.frozen? ⟨g, j, none⟩ = false
section
variable {k : IntKind} {w w' : World} {g B : Nat} {zs : List Int}
theorem Arr.below (h : Arr k w g zs) (hb : Below B w w') (hg : g < B) : Arr k w' g zs :=
  ⟨Nat.lt_of_lt_of_le h.lt hb.size, fun j hj => (hb.cell (p := ⟨g, j, none⟩) hg).trans (h.c j hj), fun j hj => (hb.frozen (p := ⟨g, j, none⟩) hg).trans (h.f j hj)⟩
theorem Arr.call (h : Arr k w g zs) (hb : Below w.heap.size w w') : Arr k w' g zs := h.below hb h.lt
theorem Arr.alloc (h : Arr k w g zs) (o : Obj) : Arr k (w.alloc o) g zs := h.call ((Below.refl _ _).alloc (Nat.le_refl _) o)
theorem Arr.drew (h : Arr k w g zs) : Arr k w.drew g zs := ⟨h.lt, h.c, h.f⟩
theorem Arr.new (w : World) (zs : List Int) (cs : Array Value) (t : TypeId) (hc : cs = (ints k zs).toArray) : Arr k (w.alloc (.cells cs t)) w.heap.size zs := by
  subst hc
  refine ⟨by simp, fun j hj => ?_, fun j hj => ?_⟩
  · have h1 : (ints k zs)[j]? = some (.int k (zs.getD j 0)) := by
      rw [ints, List.getElem?_map, List.getD_eq_getElem?_getD, List.getElem?_eq_getElem hj]; rfl
    simp [go_sem, h1]
  · simp [go_sem]
theorem Arr.set (h : Arr k w g zs) (i : Nat) (v : Int) (hi : i < zs.length) : Arr k (w.setCell ⟨g, i, none⟩ (.int k v)) g (zs.set i v) := by
  refine ⟨by simp [World.setCell]; exact h.lt, fun j hj => ?_, fun j hj => ?_⟩
  · rw [List.length_set] at hj
    by_cases e : i = j
    · subst e
      rw [World.cell?_setCell_same _ _ _ (h.c i hi), List.getD_eq_getElem?_getD, List.getElem?_set_self hi]; rfl
    · rw [World.cell?_setCell_other _ _ _ _ (fun x => e (by injection x)), h.c j hj, List.getD_eq_getElem?_getD, List.getD_eq_getElem?_getD, List.getElem?_set_ne e]
  · rw [List.length_set] at hj
    rw [World.frozen?_setCell]
    exact h.f j hj
theorem Arr.apart (h : Arr k w g zs) {G : Nat} (hg : g ≠ G) (j : Nat) (v : Value) : Arr k (w.setCell ⟨G, j, none⟩ v) g zs := by
  have hh : (w.setCell ⟨G, j, none⟩ v).heap[g]? = w.heap[g]? := Below.heap_setCell _ _ _ g (by simpa using hg)
  exact ⟨by simp [World.setCell]; exact h.lt, fun i hi => (World.cell?_of_block (w := w) (a := ⟨g, i, none⟩) hh).trans (h.c i hi), fun i hi => (World.frozen?_of_block (w := w) (a := ⟨g, i, none⟩) hh).trans (h.f i hi)⟩
end

end Go.Proofs.YtmhehnimgkmmaaaDoor
