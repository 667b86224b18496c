/- Vectors as values, as arguments, and as variables. -/
import Derived.Test.YtmedemniopgpeaaVars
import Derived.Test.YtmedemniopgpeaaLawK
import Derived.Test.YtmedemniopgpeaaVecMath
import Derived.Laws.IdiomArrays
import Derived.ChangeKeysEq
import Derived.Lib.SmallJoins
namespace Go.Proofs.Ytmedemniopgpeaa
open Go.RowKit Go.ChangeShapes Go.WideShapes Go.ChangeAt Go.Joins

/-- A vector as the program holds it. -/
abbrev V (x y z : Int) : Value := .agg #[.int .i64 x, .int .i64 y, .int .i64 z]
/-- Whether two vectors are the same, axis by axis. -/
def eqV (x y z x' y' z' : Int) : Bool := x == x' && y == y' && z == z'
theorem eqV_self (x y z : Int) : eqV x y z x y z = true := by simp [eqV]
theorem run_eqlV (x y z x' y' z' : Int) (w : World) : (binOp .eql 24 (V x y z) (V x' y' z')).run Try.prog w = .ok (.bool (eqV x y z x' y' z')) w := by
  obtain ⟨i, hi⟩ := Option.isSome_iff_exists.mp (show (Try.prog.info? 22).isSome = true by kernel_rfl)
  have hc : Try.prog.cellsOf 22 = 1 := by kernel_rfl
  unfold eqV
  simp [go_sem]
  rw [show (10000 : Nat) = 9999 + 1 from rfl, run_equalIn_array w 9999 _ _ Try.underlying24 hi, hc]
  have r3 : List.range 3 = [0, 1, 2] := rfl
  simp [Op.eqItems, r3, go_sem]
  split <;> (try split) <;> (try split) <;> simp [*]
/-- Block g is a variable that holds a vector. -/
structure Tri (w : World) (g : Nat) (x y z : Int) : Prop where
  lt : g < w.heap.size
  c0 : w.cell? ⟨g, 0, none⟩ = some (.int .i64 x)
  c1 : w.cell? ⟨g, 1, none⟩ = some (.int .i64 y)
  c2 : w.cell? ⟨g, 2, none⟩ = some (.int .i64 z)
  f0 : w.frozen? ⟨g, 0, none⟩ = false
  f1 : w.frozen? ⟨g, 1, none⟩ = false
  f2 : w.frozen? ⟨g, 2, none⟩ = false
theorem Tri.below {w w' : World} {g B : Nat} {x y z : Int} (h : Tri w g x y z) (hb : Below B w w') (hg : g < B) : Tri w' g x y z :=
  ⟨Nat.lt_of_lt_of_le h.lt hb.size, (hb.cell (p := ⟨g, 0, none⟩) hg).trans h.c0, (hb.cell (p := ⟨g, 1, none⟩) hg).trans h.c1, (hb.cell (p := ⟨g, 2, none⟩) hg).trans h.c2,
    (hb.frozen (p := ⟨g, 0, none⟩) hg).trans h.f0, (hb.frozen (p := ⟨g, 1, none⟩) hg).trans h.f1, (hb.frozen (p := ⟨g, 2, none⟩) hg).trans h.f2⟩
theorem Tri.call {w w' : World} {g : Nat} {x y z : Int} (h : Tri w g x y z) (hb : Below w.heap.size w w') : Tri w' g x y z := h.below hb h.lt
theorem Tri.new (w : World) (x y z : Int) (t : TypeId) : Tri (w.alloc (.cells #[.int .i64 x, .int .i64 y, .int .i64 z] t)) w.heap.size x y z :=
  ⟨by simp, by simp [go_sem], by simp [go_sem], by simp [go_sem], by simp [go_sem], by simp [go_sem], by simp [go_sem]⟩
theorem Tri.alloc {w : World} {g : Nat} {x y z : Int} (h : Tri w g x y z) (o : Obj) : Tri (w.alloc o) g x y z := h.call ((Below.refl _ _).alloc (Nat.le_refl _) o)
theorem Tri.drew {w : World} {g : Nat} {x y z : Int} (h : Tri w g x y z) : Tri w.drew g x y z := ⟨h.lt, h.c0, h.c1, h.c2, h.f0, h.f1, h.f2⟩
theorem Tri.apart {w : World} {g k : Nat} {x y z : Int} (h : Tri w k x y z) (hk : k ≠ g) (j : Nat) (v : Value) : Tri (w.setCell ⟨g, j, none⟩ v) k x y z := by
  have hh : (w.setCell ⟨g, j, none⟩ v).heap[k]? = w.heap[k]? := Below.heap_setCell _ _ _ k (by simpa using hk)
  have hc : ∀ i, (w.setCell ⟨g, j, none⟩ v).cell? ⟨k, i, none⟩ = w.cell? ⟨k, i, none⟩ := fun i => World.cell?_of_block (w := w) (a := ⟨k, i, none⟩) hh
  have hf : ∀ i, (w.setCell ⟨g, j, none⟩ v).frozen? ⟨k, i, none⟩ = w.frozen? ⟨k, i, none⟩ := fun i => World.frozen?_of_block (w := w) (a := ⟨k, i, none⟩) hh
  exact ⟨by simp [World.setCell]; exact h.lt, by rw [hc]; exact h.c0, by rw [hc]; exact h.c1, by rw [hc]; exact h.c2, by rw [hf]; exact h.f0, by rw [hf]; exact h.f1, by rw [hf]; exact h.f2⟩
theorem Tri.set0 {w : World} {g : Nat} {x y z : Int} (h : Tri w g x y z) (v : Int) : Tri (w.setCell ⟨g, 0, none⟩ (.int .i64 v)) g v y z := by
  obtain ⟨l, c0, c1, c2, f0, f1, f2⟩ := h
  exact ⟨by simp [World.setCell]; exact l, by simp [go_sem, c0], by simp [go_sem, c1], by simp [go_sem, c2], by simp [go_sem, f0], by simp [go_sem, f1], by simp [go_sem, f2]⟩
theorem Tri.set1 {w : World} {g : Nat} {x y z : Int} (h : Tri w g x y z) (v : Int) : Tri (w.setCell ⟨g, 1, none⟩ (.int .i64 v)) g x v z := by
  obtain ⟨l, c0, c1, c2, f0, f1, f2⟩ := h
  exact ⟨by simp [World.setCell]; exact l, by simp [go_sem, c0], by simp [go_sem, c1], by simp [go_sem, c2], by simp [go_sem, f0], by simp [go_sem, f1], by simp [go_sem, f2]⟩
theorem Tri.set2 {w : World} {g : Nat} {x y z : Int} (h : Tri w g x y z) (v : Int) : Tri (w.setCell ⟨g, 2, none⟩ (.int .i64 v)) g x y v := by
  obtain ⟨l, c0, c1, c2, f0, f1, f2⟩ := h
  exact ⟨by simp [World.setCell]; exact l, by simp [go_sem, c0], by simp [go_sem, c1], by simp [go_sem, c2], by simp [go_sem, f0], by simp [go_sem, f1], by simp [go_sem, f2]⟩
/-- w with a vector stored in block g. -/
abbrev putV (w : World) (g : Nat) (x y z : Int) : World := ((w.setCell ⟨g, 0, none⟩ (.int .i64 x)).setCell ⟨g, 1, none⟩ (.int .i64 y)).setCell ⟨g, 2, none⟩ (.int .i64 z)
theorem below_putV {B : Nat} {a w : World} (h : Below B a w) {g : Nat} (hg : B ≤ g) (x y z : Int) : Below B a (putV w g x y z) :=
  ((h.setCell (p := ⟨g, 0, none⟩) hg _).setCell (p := ⟨g, 1, none⟩) hg _).setCell (p := ⟨g, 2, none⟩) hg _
theorem Tri.other {w : World} {g k : Nat} {x y z : Int} (h : Tri w k x y z) (hk : k ≠ g) (v : Int) : Tri (put w g v) k x y z :=
  ⟨by rw [put_size]; exact h.lt, by rw [put_cell _ _ _ _ _ hk]; exact h.c0, by rw [put_cell _ _ _ _ _ hk]; exact h.c1, by rw [put_cell _ _ _ _ _ hk]; exact h.c2,
    by rw [put_frozen _ _ _ _ _ hk]; exact h.f0, by rw [put_frozen _ _ _ _ _ hk]; exact h.f1, by rw [put_frozen _ _ _ _ _ hk]; exact h.f2⟩

section
variable {H : Type} {enc : TypeId × Value → H} {w : World} {base : Nat} {spare : Nat → Bool} {held : Bool}
theorem open_V {r : Reach} {b0 : Nat} {v : Value} {d : DataW H} {p : List MemPlace} (hv : Value.okWide Try.prog w r b0 24 v) (h : DataW.Trod enc Try.prog w base spare held 24 v d p) :
    ∃ x y z : Int, (Half x ∧ Half y ∧ Half z) ∧ v = V x y z ∧ p = [] := by
  have hv' : ∃ cs, v = .agg cs ∧ cs.size = Try.prog.cellsOf 24 := by
    simp only [Value.okWide, Try.underlying24] at hv
    obtain ⟨cs, h1, h2, _⟩ := hv
    exact ⟨cs, h1, h2⟩
  obtain ⟨cs, rfl, hsz⟩ := hv'
  obtain ⟨c0, c1, c2, rfl⟩ := array3 (hsz.trans (by kernel_rfl))
  obtain ⟨fuel, hf⟩ := h
  obtain ⟨y0, y1, y2, n, hx, h0, h1, h2⟩ := trod_array3 Try.underlying24 (by kernel_rfl) (show DataW.trod enc Try.prog w base spare held fuel 24 [c0, c1, c2] = some (d, p) from hf)
  obtain ⟨x, e0, rfl, wx⟩ := DataW.trod_int Try.underlying22 h0
  obtain ⟨y, e1, rfl, wy⟩ := DataW.trod_int Try.underlying22 h1
  obtain ⟨z, e2, rfl, wz⟩ := DataW.trod_int Try.underlying22 h2
  simp at e0 e1 e2
  subst e0 e1 e2
  simp only [Prod.mk.injEq] at hx
  exact ⟨x, y, z, ⟨half_of_wf wx, half_of_wf wy, half_of_wf wz⟩, rfl, by simpa using hx.2⟩
end

end Go.Proofs.Ytmedemniopgpeaa
