import Derived.Test.YtodfcbpcgcgijaaGreatDoorJD
import Derived.Test.YtodfcbpcgcgijaaGreatDoorJB
import Derived.Test.YtodfcbpcgcgijaaGreatDoorJA
import Derived.Laws.IdiomArrays
import Derived.ChangeKeysEq
import Derived.Lib.SmallJoins
/- Vectors as values, as arguments, and as variables. -/
namespace Go.Proofs.YtodfcbpcgcgijaaGreatDoor
set_option maxRecDepth 100000
open Go.RowKit Go.ChangeShapes Go.WideShapes Go.ChangeAt Go.Joins

/-- A vector as the program holds it. -/
abbrev V (x y z : Int) : Value := .agg #[.int .i64 x, .int .i64 y, .int .i64 z]
/-- Whether two vectors are the same, axis by axis. -/
def eqV (x y z x' y' z' : Int) : Bool := x == x' && y == y' && z == z'
theorem eqV_self (x y z : Int) : eqV x y z x y z = true := by simp [eqV]
theorem run_eqlV (x y z x' y' z' : Int) (w : World) : (binOp .eql 24 (V x y z) (V x' y' z')).run Tryz.prog w = .ok (.bool (eqV x y z x' y' z')) w := by
  obtain ⟨i, hi⟩ := Option.isSome_iff_exists.mp (show (Tryz.prog.info? 22).isSome = true by kernel_rfl)
  have hc : Tryz.prog.cellsOf 22 = 1 := by kernel_rfl
  unfold eqV
  simp [go_sem]
  rw [show (10000 : Nat) = 9999 + 1 from rfl, run_equalIn_array w 9999 _ _ Tryz.underlying24 hi, hc]
  have r3 : List.range 3 = [0, 1, 2] := rfl
  simp [Op.eqItems, r3, go_sem]
  split <;> (try split) <;> (try split) <;> simp [*]
/-- Block g is a variable that holds a vector. -/
structure Tri (w : World) (g : Nat) (x y z : Int) : Prop where
  lt : g < w.heap.size
  c0 : w.cell? ⟨g, 0, none⟩ = some (.int .i64 x)
  c1 : w.cell? ⟨g, 1, none⟩ = some (.int .i64 y)
  c2 : w.cell? ⟨g, 2, none⟩ = some (.int .i64 z)
  f0 : w.frozen? ⟨g, 0, none⟩ = false
  f1 : w.frozen? ⟨g, 1, none⟩ = false
  f2 : w.frozen? ⟨g, 2, none⟩ = false
theorem Tri.below {w w' : World} {g B : Nat} {x y z : Int} (h : Tri w g x y z) (hb : Below B w w') (hg : g < B) : Tri w' g x y z :=
  ⟨Nat.lt_of_lt_of_le h.lt hb.size, (hb.cell (p := ⟨g, 0, none⟩) hg).trans h.c0, (hb.cell (p := ⟨g, 1, none⟩) hg).trans h.c1, (hb.cell (p := ⟨g, 2, none⟩) hg).trans h.c2,
    (hb.frozen (p := ⟨g, 0, none⟩) hg).trans h.f0, (hb.frozen (p := ⟨g, 1, none⟩) hg).trans h.f1, (hb.frozen (p := ⟨g, 2, none⟩) hg).trans h.f2⟩
theorem Tri.call {w w' : World} {g : Nat} {x y z : Int} (h : Tri w g x y z) (hb : Below w.heap.size w w') : Tri w' g x y z := h.below hb h.lt
theorem Tri.new (w : World) (x y z : Int) (t : TypeId) : Tri (w.alloc (.cells #[.int .i64 x, .int .i64 y, .int .i64 z] t)) w.heap.size x y z :=
  ⟨by simp, by simp [go_sem], by simp [go_sem], by simp [go_sem], by simp [go_sem], by simp [go_sem], by simp [go_sem]⟩
theorem Tri.alloc {w : World} {g : Nat} {x y z : Int} (h : Tri w g x y z) (o : Obj) : Tri (w.alloc o) g x y z := h.call ((Below.refl _ _).alloc (Nat.le_refl _) o)
theorem Tri.drew {w : World} {g : Nat} {x y z : Int} (h : Tri w g x y z) : Tri w.drew g x y z := ⟨h.lt, h.c0, h.c1, h.c2, h.f0, h.f1, h.f2⟩
theorem Tri.apart {w : World} {g k : Nat} {x y z : Int} (h : Tri w k x y z) (hk : k ≠ g) (j : Nat) (v : Value) : Tri (w.setCell ⟨g, j, none⟩ v) k x y z := by
  have hh : (w.setCell ⟨g, j, none⟩ v).heap[k]? = w.heap[k]? := Below.heap_setCell _ _ _ k (by simpa using hk)
  have hc : ∀ i, (w.setCell ⟨g, j, none⟩ v).cell? ⟨k, i, none⟩ = w.cell? ⟨k, i, none⟩ := fun i => World.cell?_of_block (w := w) (a := ⟨k, i, none⟩) hh
  have hf : ∀ i, (w.setCell ⟨g, j, none⟩ v).frozen? ⟨k, i, none⟩ = w.frozen? ⟨k, i, none⟩ := fun i => World.frozen?_of_block (w := w) (a := ⟨k, i, none⟩) hh
  exact ⟨by simp [World.setCell]; exact h.lt, by rw [hc]; exact h.c0, by rw [hc]; exact h.c1, by rw [hc]; exact h.c2, by rw [hf]; exact h.f0, by rw [hf]; exact h.f1, by rw [hf]; exact h.f2⟩
theorem Tri.set0 {w : World} {g : Nat} {x y z : Int} (h : Tri w g x y z) (v : Int) : Tri (w.setCell ⟨g, 0, none⟩ (.int .i64 v)) g v y z := by
  obtain ⟨l, c0, c1, c2, f0, f1, f2⟩ := h
  exact ⟨by simp [World.setCell]; exact l, by simp [go_sem, c0], by simp [go_sem, c1], by simp [go_sem, c2], by simp [go_sem, f0], by simp [go_sem, f1], by simp [go_sem, f2]⟩
theorem Tri.set1 {w : World} {g : Nat} {x y z : Int} (h : Tri w g x y z) (v : Int) : Tri (w.setCell ⟨g, 1, none⟩ (.int .i64 v)) g x v z := by
  obtain ⟨l, c0, c1, c2, f0, f1, f2⟩ := h
  exact ⟨by simp [World.setCell]; exact l, by simp [go_sem, c0], by simp [go_sem, c1], by simp [go_sem, c2], by simp [go_sem, f0], by simp [go_sem, f1], by simp [go_sem, f2]⟩
theorem Tri.set2 {w : World} {g : Nat} {x y z : Int} (h : Tri w g x y z) (v : Int) : Tri (w.setCell ⟨g, 2, none⟩ (.int .i64 v)) g x y v := by
  obtain ⟨l, c0, c1, c2, f0, f1, f2⟩ := h
  exact ⟨by simp [World.setCell]; exact l, by simp [go_sem, c0], by simp [go_sem, c1], by simp [go_sem, c2], by simp [go_sem, f0], by simp [go_sem, f1], by simp [go_sem, f2]⟩
/-- w with a vector stored in block g. -/
abbrev putV (w : World) (g : Nat) (x y z : Int) : World := ((w.setCell ⟨g, 0, none⟩ (.int .i64 x)).setCell ⟨g, 1, none⟩ (.int .i64 y)).setCell ⟨g, 2, none⟩ (.int .i64 z)
theorem below_putV {B : Nat} {a w : World} (h : Below B a w) {g : Nat} (hg : B ≤ g) (x y z : Int) : Below B a (putV w g x y z) :=
  ((h.setCell (p := ⟨g, 0, none⟩) hg _).setCell (p := ⟨g, 1, none⟩) hg _).setCell (p := ⟨g, 2, none⟩) hg _
theorem Tri.other {w : World} {g k : Nat} {x y z : Int} (h : Tri w k x y z) (hk : k ≠ g) (v : Int) : Tri (put w g v) k x y z :=
  ⟨by rw [put_size]; exact h.lt, by rw [put_cell _ _ _ _ _ hk]; exact h.c0, by rw [put_cell _ _ _ _ _ hk]; exact h.c1, by rw [put_cell _ _ _ _ _ hk]; exact h.c2,
    by rw [put_frozen _ _ _ _ _ hk]; exact h.f0, by rw [put_frozen _ _ _ _ _ hk]; exact h.f1, by rw [put_frozen _ _ _ _ _ hk]; exact h.f2⟩

section
variable {H : Type} {enc : TypeId × Value → H} {w : World} {base : Nat} {spare : Nat → Bool} {held : Bool}
theorem open_V {r : Reach} {b0 : Nat} {v : Value} {d : DataW H} {p : List MemPlace} (hv : Value.okWide Tryz.prog w r b0 24 v) (h : DataW.Trod enc Tryz.prog w base spare held 24 v d p) :
    ∃ x y z : Int, (Half x ∧ Half y ∧ Half z) ∧ v = V x y z ∧ p = [] := by
  have hv' : ∃ cs, v = .agg cs ∧ cs.size = Tryz.prog.cellsOf 24 := by
    simp only [Value.okWide, Tryz.underlying24] at hv
    obtain ⟨cs, h1, h2, _⟩ := hv
    exact ⟨cs, h1, h2⟩
  obtain ⟨cs, rfl, hsz⟩ := hv'
  obtain ⟨c0, c1, c2, rfl⟩ := array3 (hsz.trans (by kernel_rfl))
  obtain ⟨fuel, hf⟩ := h
  obtain ⟨y0, y1, y2, n, hx, h0, h1, h2⟩ := trod_array3 Tryz.underlying24 (by kernel_rfl) (show DataW.trod enc Tryz.prog w base spare held fuel 24 [c0, c1, c2] = some (d, p) from hf)
  obtain ⟨x, e0, rfl, wx⟩ := DataW.trod_int Tryz.underlying22 h0
  obtain ⟨y, e1, rfl, wy⟩ := DataW.trod_int Tryz.underlying22 h1
  obtain ⟨z, e2, rfl, wz⟩ := DataW.trod_int Tryz.underlying22 h2
  simp at e0 e1 e2
  subst e0 e1 e2
  simp only [Prod.mk.injEq] at hx
  exact ⟨x, y, z, ⟨half_of_wf wx, half_of_wf wy, half_of_wf wz⟩, rfl, by simpa using hx.2⟩
end

end Go.Proofs.YtodfcbpcgcgijaaGreatDoor

/- A variable that holds a number. -/
namespace Go.Proofs.YtodfcbpcgcgijaaGreatDoor
set_option maxRecDepth 100000
open Go.RowKit
/-- Block g is a variable that holds a number. -/
structure Num (w : World) (g : Nat) (v : Int) : Prop where
  lt : g < w.heap.size
  c0 : w.cell? ⟨g, 0, none⟩ = some (.int .i64 v)
  f0 : w.frozen? ⟨g, 0, none⟩ = false
theorem Num.call {w w' : World} {g : Nat} {v : Int} (h : Num w g v) (hb : Below w.heap.size w w') : Num w' g v :=
  ⟨Nat.lt_of_lt_of_le h.lt hb.size, (hb.cell (p := ⟨g, 0, none⟩) h.lt).trans h.c0, (hb.frozen (p := ⟨g, 0, none⟩) h.lt).trans h.f0⟩
theorem Num.new (w : World) (v : Int) (t : TypeId) : Num (w.alloc (.cells #[.int .i64 v] t)) w.heap.size v := ⟨by simp, by simp [go_sem], by simp [go_sem]⟩
theorem Num.alloc {w : World} {g : Nat} {v : Int} (h : Num w g v) (o : Obj) : Num (w.alloc o) g v := h.call ((Below.refl _ _).alloc (Nat.le_refl _) o)
theorem Num.set {w : World} {g : Nat} {u : Int} (h : Num w g u) (v : Int) : Num (w.setCell ⟨g, 0, none⟩ (.int .i64 v)) g v := by
  obtain ⟨l, c0, f0⟩ := h
  exact ⟨by simp [World.setCell]; exact l, by simp [go_sem, c0], by simp [go_sem, f0]⟩


end Go.Proofs.YtodfcbpcgcgijaaGreatDoor

/- Matrices as values, as arguments, and as variables. -/
namespace Go.Proofs.YtodfcbpcgcgijaaGreatDoor
set_option maxRecDepth 100000
open Go.RowKit Go.ChangeShapes Go.WideShapes Go.ChangeAt Go.Joins

/-- A matrix as the program holds it. -/
abbrev M9 (a b c d e f g h i : Int) : Value := .agg #[.int .i64 a, .int .i64 b, .int .i64 c, .int .i64 d, .int .i64 e, .int .i64 f, .int .i64 g, .int .i64 h, .int .i64 i]
/-- Whether two matrices are the same. -/
def eqM (a b c d e f g h i : Int) (a' b' c' d' e' f' g' h' i' : Int) : Bool := eqV a b c a' b' c' && eqV d e f d' e' f' && eqV g h i g' h' i'
theorem eqM_self (a b c d e f g h i : Int) : eqM a b c d e f g h i a b c d e f g h i = true := by simp [eqM, eqV]
theorem run_eqlM (a b c d e f g h i : Int) (a' b' c' d' e' f' g' h' i' : Int) (w : World) : (binOp .eql 26 (M9 a b c d e f g h i) (M9 a' b' c' d' e' f' g' h' i')).run Tryz.prog w = .ok (.bool (eqM a b c d e f g h i a' b' c' d' e' f' g' h' i')) w := by
  obtain ⟨u, hu⟩ := Option.isSome_iff_exists.mp (show (Tryz.prog.info? 22).isSome = true by kernel_rfl)
  obtain ⟨v, hv⟩ := Option.isSome_iff_exists.mp (show (Tryz.prog.info? 24).isSome = true by kernel_rfl)
  have hc : Tryz.prog.cellsOf 22 = 1 := by kernel_rfl
  have hd : Tryz.prog.cellsOf 24 = 3 := by kernel_rfl
  have r3 : List.range 3 = [0, 1, 2] := rfl
  have one : ∀ (x y z x' y' z' : Int) (w : World), (Op.equalIn 9999 24 (V x y z) (V x' y' z')).run Tryz.prog w = .ok (eqV x y z x' y' z') w := fun x y z x' y' z' w => by
    unfold eqV
    rw [show (9999 : Nat) = 9998 + 1 from rfl, run_equalIn_array w 9998 _ _ Tryz.underlying24 hu, hc]
    simp [Op.eqItems, r3, go_sem]
    split <;> (try split) <;> (try split) <;> simp [*]
  unfold eqM
  simp [go_sem]
  rw [show (10000 : Nat) = 9999 + 1 from rfl, run_equalIn_array w 9999 _ _ Tryz.underlying26 hv, hd]
  simp [Op.eqItems, r3, go_sem, one]
  cases eqV a b c a' b' c' <;> cases eqV d e f d' e' f' <;> cases eqV g h i g' h' i' <;> simp
/-- Block b is a variable that holds a matrix. -/
structure Nine (w : World) (blk : Nat) (a b c d e f g h i : Int) : Prop where
  lt : blk < w.heap.size
  c0 : w.cell? ⟨blk, 0, none⟩ = some (.int .i64 a)
  c1 : w.cell? ⟨blk, 1, none⟩ = some (.int .i64 b)
  c2 : w.cell? ⟨blk, 2, none⟩ = some (.int .i64 c)
  c3 : w.cell? ⟨blk, 3, none⟩ = some (.int .i64 d)
  c4 : w.cell? ⟨blk, 4, none⟩ = some (.int .i64 e)
  c5 : w.cell? ⟨blk, 5, none⟩ = some (.int .i64 f)
  c6 : w.cell? ⟨blk, 6, none⟩ = some (.int .i64 g)
  c7 : w.cell? ⟨blk, 7, none⟩ = some (.int .i64 h)
  c8 : w.cell? ⟨blk, 8, none⟩ = some (.int .i64 i)
  f0 : w.frozen? ⟨blk, 0, none⟩ = false
  f1 : w.frozen? ⟨blk, 1, none⟩ = false
  f2 : w.frozen? ⟨blk, 2, none⟩ = false
  f3 : w.frozen? ⟨blk, 3, none⟩ = false
  f4 : w.frozen? ⟨blk, 4, none⟩ = false
  f5 : w.frozen? ⟨blk, 5, none⟩ = false
  f6 : w.frozen? ⟨blk, 6, none⟩ = false
  f7 : w.frozen? ⟨blk, 7, none⟩ = false
  f8 : w.frozen? ⟨blk, 8, none⟩ = false
theorem Nine.below {w w' : World} {blk B : Nat} {a b c d e f g h i : Int} (h' : Nine w blk a b c d e f g h i) (hb : Below B w w') (hg : blk < B) : Nine w' blk a b c d e f g h i :=
  ⟨Nat.lt_of_lt_of_le h'.lt hb.size, (hb.cell (p := ⟨blk, 0, none⟩) hg).trans h'.c0, (hb.cell (p := ⟨blk, 1, none⟩) hg).trans h'.c1, (hb.cell (p := ⟨blk, 2, none⟩) hg).trans h'.c2, (hb.cell (p := ⟨blk, 3, none⟩) hg).trans h'.c3, (hb.cell (p := ⟨blk, 4, none⟩) hg).trans h'.c4, (hb.cell (p := ⟨blk, 5, none⟩) hg).trans h'.c5, (hb.cell (p := ⟨blk, 6, none⟩) hg).trans h'.c6, (hb.cell (p := ⟨blk, 7, none⟩) hg).trans h'.c7, (hb.cell (p := ⟨blk, 8, none⟩) hg).trans h'.c8, (hb.frozen (p := ⟨blk, 0, none⟩) hg).trans h'.f0, (hb.frozen (p := ⟨blk, 1, none⟩) hg).trans h'.f1, (hb.frozen (p := ⟨blk, 2, none⟩) hg).trans h'.f2, (hb.frozen (p := ⟨blk, 3, none⟩) hg).trans h'.f3, (hb.frozen (p := ⟨blk, 4, none⟩) hg).trans h'.f4, (hb.frozen (p := ⟨blk, 5, none⟩) hg).trans h'.f5, (hb.frozen (p := ⟨blk, 6, none⟩) hg).trans h'.f6, (hb.frozen (p := ⟨blk, 7, none⟩) hg).trans h'.f7, (hb.frozen (p := ⟨blk, 8, none⟩) hg).trans h'.f8⟩
theorem Nine.call {w w' : World} {blk : Nat} {a b c d e f g h i : Int} (h' : Nine w blk a b c d e f g h i) (hb : Below w.heap.size w w') : Nine w' blk a b c d e f g h i := h'.below hb h'.lt
theorem Nine.new (w : World) (a b c d e f g h i : Int) (t : TypeId) : Nine (w.alloc (.cells #[.int .i64 a, .int .i64 b, .int .i64 c, .int .i64 d, .int .i64 e, .int .i64 f, .int .i64 g, .int .i64 h, .int .i64 i] t)) w.heap.size a b c d e f g h i :=
  ⟨by simp, by simp [go_sem], by simp [go_sem], by simp [go_sem], by simp [go_sem], by simp [go_sem], by simp [go_sem], by simp [go_sem], by simp [go_sem], by simp [go_sem], by simp [go_sem], by simp [go_sem], by simp [go_sem], by simp [go_sem], by simp [go_sem], by simp [go_sem], by simp [go_sem], by simp [go_sem], by simp [go_sem]⟩
theorem Nine.alloc {w : World} {blk : Nat} {a b c d e f g h i : Int} (h' : Nine w blk a b c d e f g h i) (o : Obj) : Nine (w.alloc o) blk a b c d e f g h i := h'.call ((Below.refl _ _).alloc (Nat.le_refl _) o)
theorem Nine.drew {w : World} {blk : Nat} {a b c d e f g h i : Int} (h' : Nine w blk a b c d e f g h i) : Nine w.drew blk a b c d e f g h i := ⟨h'.lt, h'.c0, h'.c1, h'.c2, h'.c3, h'.c4, h'.c5, h'.c6, h'.c7, h'.c8, h'.f0, h'.f1, h'.f2, h'.f3, h'.f4, h'.f5, h'.f6, h'.f7, h'.f8⟩
/-- w with a matrix stored in block b. -/
abbrev putM (w : World) (blk : Nat) (a b c d e f g h i : Int) : World := (((((((((w.setCell ⟨blk, 0, none⟩ (.int .i64 a)).setCell ⟨blk, 1, none⟩ (.int .i64 b)).setCell ⟨blk, 2, none⟩ (.int .i64 c)).setCell ⟨blk, 3, none⟩ (.int .i64 d)).setCell ⟨blk, 4, none⟩ (.int .i64 e)).setCell ⟨blk, 5, none⟩ (.int .i64 f)).setCell ⟨blk, 6, none⟩ (.int .i64 g)).setCell ⟨blk, 7, none⟩ (.int .i64 h)).setCell ⟨blk, 8, none⟩ (.int .i64 i))
theorem below_putM {B : Nat} {a' w : World} (h : Below B a' w) {blk : Nat} (hb : B ≤ blk) (x0 x1 x2 x3 x4 x5 x6 x7 x8 : Int) : Below B a' (putM w blk x0 x1 x2 x3 x4 x5 x6 x7 x8) :=
  (((((((((h.setCell (p := ⟨blk, 0, none⟩) hb _).setCell (p := ⟨blk, 1, none⟩) hb _).setCell (p := ⟨blk, 2, none⟩) hb _).setCell (p := ⟨blk, 3, none⟩) hb _).setCell (p := ⟨blk, 4, none⟩) hb _).setCell (p := ⟨blk, 5, none⟩) hb _).setCell (p := ⟨blk, 6, none⟩) hb _).setCell (p := ⟨blk, 7, none⟩) hb _).setCell (p := ⟨blk, 8, none⟩) hb _)
theorem array9 {α : Type} {cs : Array α} (h : cs.size = 9) : ∃ c0 c1 c2 c3 c4 c5 c6 c7 c8, cs = #[c0, c1, c2, c3, c4, c5, c6, c7, c8] := by
  obtain ⟨l⟩ := cs
  match l, h with
  | [c0, c1, c2, c3, c4, c5, c6, c7, c8], _ => exact ⟨c0, c1, c2, c3, c4, c5, c6, c7, c8, rfl⟩

section
variable {H : Type} {enc : TypeId × Value → H} {w : World} {base : Nat} {spare : Nat → Bool} {held : Bool}
theorem open_three {n : Nat} {c0 c1 c2 : Value} {y : DataW H × List MemPlace} (h : DataW.trod enc Tryz.prog w base spare held n 24 [c0, c1, c2] = some y) :
    ∃ x0 x1 x2 : Int, (Half x0 ∧ Half x1 ∧ Half x2) ∧ c0 = .int .i64 x0 ∧ c1 = .int .i64 x1 ∧ c2 = .int .i64 x2 := by
  obtain ⟨y0, y1, y2, m, hx, h0, h1, h2⟩ := trod_array3 Tryz.underlying24 (by kernel_rfl) h
  obtain ⟨x, e0, rfl, wx⟩ := DataW.trod_int Tryz.underlying22 h0
  obtain ⟨y', e1, rfl, wy⟩ := DataW.trod_int Tryz.underlying22 h1
  obtain ⟨z, e2, rfl, wz⟩ := DataW.trod_int Tryz.underlying22 h2
  simp at e0 e1 e2
  exact ⟨x, y', z, ⟨half_of_wf wx, half_of_wf wy, half_of_wf wz⟩, e0, e1, e2⟩
theorem open_M {r : Reach} {b0 : Nat} {v : Value} {d' : DataW H} {p : List MemPlace} (hv : Value.okWide Tryz.prog w r b0 26 v) (h' : DataW.Trod enc Tryz.prog w base spare held 26 v d' p) :
    ∃ a b c d e f g h i : Int, ((Half a ∧ Half b ∧ Half c) ∧ (Half d ∧ Half e ∧ Half f) ∧ (Half g ∧ Half h ∧ Half i)) ∧ v = M9 a b c d e f g h i := by
  have hv' : ∃ cs, v = .agg cs ∧ cs.size = Tryz.prog.cellsOf 26 := by
    simp only [Value.okWide, Tryz.underlying26] at hv
    obtain ⟨cs, h1, h2, _⟩ := hv
    exact ⟨cs, h1, h2⟩
  obtain ⟨cs, rfl, hsz⟩ := hv'
  obtain ⟨c0, c1, c2, c3, c4, c5, c6, c7, c8, rfl⟩ := array9 (hsz.trans (by kernel_rfl))
  obtain ⟨fuel, hf⟩ := h'
  obtain ⟨xs, m, -, -, -, hl, hx⟩ := DataW.trod_array Tryz.underlying26 (show DataW.trod enc Tryz.prog w base spare held fuel 26 [c0, c1, c2, c3, c4, c5, c6, c7, c8] = some (d', p) from hf)
  have hc : Tryz.prog.cellsOf 24 = 3 := by kernel_rfl
  rw [hc] at hx
  have k0 := hx 0 (by decide)
  have k1 := hx 1 (by decide)
  have k2 := hx 2 (by decide)
  match xs, hl with
  | [y0, y1, y2], _ =>
    obtain ⟨a, b, c, r0, rfl, rfl, rfl⟩ := open_three (y := y0) k0
    obtain ⟨d, e, f, r1, rfl, rfl, rfl⟩ := open_three (y := y1) k1
    obtain ⟨g, h, i, r2, rfl, rfl, rfl⟩ := open_three (y := y2) k2
    exact ⟨a, b, c, d, e, f, g, h, i, ⟨r0, r1, r2⟩, rfl⟩
end

end Go.Proofs.YtodfcbpcgcgijaaGreatDoor

/- A matrix, or a vector, stored over another one. -/
namespace Go.Proofs.YtodfcbpcgcgijaaGreatDoor
set_option maxRecDepth 100000
open Go.RowKit
theorem Nine.same {w : World} {blk : Nat} {a b c d e f g h i : Int} (h' : Nine w blk a b c d e f g h i) (x0 x1 x2 x3 x4 x5 x6 x7 x8 : Int) : Nine (putM w blk x0 x1 x2 x3 x4 x5 x6 x7 x8) blk x0 x1 x2 x3 x4 x5 x6 x7 x8 := by
  obtain ⟨l, c0, c1, c2, c3, c4, c5, c6, c7, c8, f0, f1, f2, f3, f4, f5, f6, f7, f8⟩ := h'
  exact ⟨by simp [World.setCell]; exact l, by simp [go_sem, c0], by simp [go_sem, c1], by simp [go_sem, c2], by simp [go_sem, c3], by simp [go_sem, c4], by simp [go_sem, c5], by simp [go_sem, c6], by simp [go_sem, c7], by simp [go_sem, c8], by simp [go_sem, f0], by simp [go_sem, f1], by simp [go_sem, f2], by simp [go_sem, f3], by simp [go_sem, f4], by simp [go_sem, f5], by simp [go_sem, f6], by simp [go_sem, f7], by simp [go_sem, f8]⟩
theorem Tri.same {w : World} {blk : Nat} {x y z : Int} (h' : Tri w blk x y z) (x' y' z' : Int) : Tri (putV w blk x' y' z') blk x' y' z' := ((h'.set0 x').set1 y').set2 z'
theorem Nine.apartV {w : World} {blk k : Nat} {a b c d e f g h i : Int} (h' : Nine w k a b c d e f g h i) (hk : k ≠ blk) (x' y' z' : Int) : Nine (putV w blk x' y' z') k a b c d e f g h i := by
  have hh : (putV w blk x' y' z').heap[k]? = w.heap[k]? := ((Below.heap_setCell _ _ _ k (by simpa using hk)).trans (Below.heap_setCell _ _ _ k (by simpa using hk))).trans (Below.heap_setCell _ _ _ k (by simpa using hk))
  have hc : ∀ i, (putV w blk x' y' z').cell? ⟨k, i, none⟩ = w.cell? ⟨k, i, none⟩ := fun i => World.cell?_of_block (w := w) (a := ⟨k, i, none⟩) hh
  have hf : ∀ i, (putV w blk x' y' z').frozen? ⟨k, i, none⟩ = w.frozen? ⟨k, i, none⟩ := fun i => World.frozen?_of_block (w := w) (a := ⟨k, i, none⟩) hh
  exact ⟨by simp [World.setCell]; exact h'.lt, by rw [hc]; exact h'.c0, by rw [hc]; exact h'.c1, by rw [hc]; exact h'.c2, by rw [hc]; exact h'.c3, by rw [hc]; exact h'.c4, by rw [hc]; exact h'.c5, by rw [hc]; exact h'.c6, by rw [hc]; exact h'.c7, by rw [hc]; exact h'.c8, by rw [hf]; exact h'.f0, by rw [hf]; exact h'.f1, by rw [hf]; exact h'.f2, by rw [hf]; exact h'.f3, by rw [hf]; exact h'.f4, by rw [hf]; exact h'.f5, by rw [hf]; exact h'.f6, by rw [hf]; exact h'.f7, by rw [hf]; exact h'.f8⟩
theorem Nine.apartM {w : World} {blk k : Nat} {a b c d e f g h i : Int} (h' : Nine w k a b c d e f g h i) (hk : k ≠ blk) (x0 x1 x2 x3 x4 x5 x6 x7 x8 : Int) : Nine (putM w blk x0 x1 x2 x3 x4 x5 x6 x7 x8) k a b c d e f g h i := by
  have hh : (putM w blk x0 x1 x2 x3 x4 x5 x6 x7 x8).heap[k]? = w.heap[k]? :=
    (((((((((Below.heap_setCell _ _ _ k (by simpa using hk)).trans (Below.heap_setCell _ _ _ k (by simpa using hk))).trans (Below.heap_setCell _ _ _ k (by simpa using hk))).trans (Below.heap_setCell _ _ _ k (by simpa using hk))).trans (Below.heap_setCell _ _ _ k (by simpa using hk))).trans (Below.heap_setCell _ _ _ k (by simpa using hk))).trans (Below.heap_setCell _ _ _ k (by simpa using hk))).trans (Below.heap_setCell _ _ _ k (by simpa using hk))).trans (Below.heap_setCell _ _ _ k (by simpa using hk)))
  have hc : ∀ i, (putM w blk x0 x1 x2 x3 x4 x5 x6 x7 x8).cell? ⟨k, i, none⟩ = w.cell? ⟨k, i, none⟩ := fun i => World.cell?_of_block (w := w) (a := ⟨k, i, none⟩) hh
  have hf : ∀ i, (putM w blk x0 x1 x2 x3 x4 x5 x6 x7 x8).frozen? ⟨k, i, none⟩ = w.frozen? ⟨k, i, none⟩ := fun i => World.frozen?_of_block (w := w) (a := ⟨k, i, none⟩) hh
  exact ⟨by simp [World.setCell]; exact h'.lt, by rw [hc]; exact h'.c0, by rw [hc]; exact h'.c1, by rw [hc]; exact h'.c2, by rw [hc]; exact h'.c3, by rw [hc]; exact h'.c4, by rw [hc]; exact h'.c5, by rw [hc]; exact h'.c6, by rw [hc]; exact h'.c7, by rw [hc]; exact h'.c8, by rw [hf]; exact h'.f0, by rw [hf]; exact h'.f1, by rw [hf]; exact h'.f2, by rw [hf]; exact h'.f3, by rw [hf]; exact h'.f4, by rw [hf]; exact h'.f5, by rw [hf]; exact h'.f6, by rw [hf]; exact h'.f7, by rw [hf]; exact h'.f8⟩

end Go.Proofs.YtodfcbpcgcgijaaGreatDoor

/- One cell, or one row, of a matrix stored anew. -/
namespace Go.Proofs.YtodfcbpcgcgijaaGreatDoor
set_option maxRecDepth 100000
open Go.RowKit

theorem Nine.apart {w : World} {G k : Nat} {a b c d e f g h i : Int} (h' : Nine w k a b c d e f g h i) (hk : k ≠ G) (j : Nat) (v : Value) : Nine (w.setCell ⟨G, j, none⟩ v) k a b c d e f g h i := by
  have hh : (w.setCell ⟨G, j, none⟩ v).heap[k]? = w.heap[k]? := Below.heap_setCell _ _ _ k (by simpa using hk)
  have hc : ∀ i, (w.setCell ⟨G, j, none⟩ v).cell? ⟨k, i, none⟩ = w.cell? ⟨k, i, none⟩ := fun i => World.cell?_of_block (w := w) (a := ⟨k, i, none⟩) hh
  have hf : ∀ i, (w.setCell ⟨G, j, none⟩ v).frozen? ⟨k, i, none⟩ = w.frozen? ⟨k, i, none⟩ := fun i => World.frozen?_of_block (w := w) (a := ⟨k, i, none⟩) hh
  exact ⟨by simp [World.setCell]; exact h'.lt, by rw [hc]; exact h'.c0, by rw [hc]; exact h'.c1, by rw [hc]; exact h'.c2, by rw [hc]; exact h'.c3, by rw [hc]; exact h'.c4, by rw [hc]; exact h'.c5, by rw [hc]; exact h'.c6, by rw [hc]; exact h'.c7, by rw [hc]; exact h'.c8, by rw [hf]; exact h'.f0, by rw [hf]; exact h'.f1, by rw [hf]; exact h'.f2, by rw [hf]; exact h'.f3, by rw [hf]; exact h'.f4, by rw [hf]; exact h'.f5, by rw [hf]; exact h'.f6, by rw [hf]; exact h'.f7, by rw [hf]; exact h'.f8⟩
theorem Nine.apart3 {w : World} {G k : Nat} {a b c d e f g h i : Int} (h' : Nine w k a b c d e f g h i) (hk : k ≠ G) (p q r : Nat) (x y z : Value) : Nine (((w.setCell ⟨G, p, none⟩ x).setCell ⟨G, q, none⟩ y).setCell ⟨G, r, none⟩ z) k a b c d e f g h i := ((h'.apart hk p x).apart hk q y).apart hk r z
theorem Nine.set0 {w : World} {blk : Nat} {a b c d e f g h i : Int} (h' : Nine w blk a b c d e f g h i) (v : Int) : Nine (w.setCell ⟨blk, 0, none⟩ (.int .i64 v)) blk v b c d e f g h i := by
  obtain ⟨l, c0, c1, c2, c3, c4, c5, c6, c7, c8, f0, f1, f2, f3, f4, f5, f6, f7, f8⟩ := h'
  exact ⟨by simp [World.setCell]; exact l, by simp [go_sem, c0], by simp [go_sem, c1], by simp [go_sem, c2], by simp [go_sem, c3], by simp [go_sem, c4], by simp [go_sem, c5], by simp [go_sem, c6], by simp [go_sem, c7], by simp [go_sem, c8], by simp [go_sem, f0], by simp [go_sem, f1], by simp [go_sem, f2], by simp [go_sem, f3], by simp [go_sem, f4], by simp [go_sem, f5], by simp [go_sem, f6], by simp [go_sem, f7], by simp [go_sem, f8]⟩
theorem Nine.set1 {w : World} {blk : Nat} {a b c d e f g h i : Int} (h' : Nine w blk a b c d e f g h i) (v : Int) : Nine (w.setCell ⟨blk, 1, none⟩ (.int .i64 v)) blk a v c d e f g h i := by
  obtain ⟨l, c0, c1, c2, c3, c4, c5, c6, c7, c8, f0, f1, f2, f3, f4, f5, f6, f7, f8⟩ := h'
  exact ⟨by simp [World.setCell]; exact l, by simp [go_sem, c0], by simp [go_sem, c1], by simp [go_sem, c2], by simp [go_sem, c3], by simp [go_sem, c4], by simp [go_sem, c5], by simp [go_sem, c6], by simp [go_sem, c7], by simp [go_sem, c8], by simp [go_sem, f0], by simp [go_sem, f1], by simp [go_sem, f2], by simp [go_sem, f3], by simp [go_sem, f4], by simp [go_sem, f5], by simp [go_sem, f6], by simp [go_sem, f7], by simp [go_sem, f8]⟩
theorem Nine.set2 {w : World} {blk : Nat} {a b c d e f g h i : Int} (h' : Nine w blk a b c d e f g h i) (v : Int) : Nine (w.setCell ⟨blk, 2, none⟩ (.int .i64 v)) blk a b v d e f g h i := by
  obtain ⟨l, c0, c1, c2, c3, c4, c5, c6, c7, c8, f0, f1, f2, f3, f4, f5, f6, f7, f8⟩ := h'
  exact ⟨by simp [World.setCell]; exact l, by simp [go_sem, c0], by simp [go_sem, c1], by simp [go_sem, c2], by simp [go_sem, c3], by simp [go_sem, c4], by simp [go_sem, c5], by simp [go_sem, c6], by simp [go_sem, c7], by simp [go_sem, c8], by simp [go_sem, f0], by simp [go_sem, f1], by simp [go_sem, f2], by simp [go_sem, f3], by simp [go_sem, f4], by simp [go_sem, f5], by simp [go_sem, f6], by simp [go_sem, f7], by simp [go_sem, f8]⟩
theorem Nine.set3 {w : World} {blk : Nat} {a b c d e f g h i : Int} (h' : Nine w blk a b c d e f g h i) (v : Int) : Nine (w.setCell ⟨blk, 3, none⟩ (.int .i64 v)) blk a b c v e f g h i := by
  obtain ⟨l, c0, c1, c2, c3, c4, c5, c6, c7, c8, f0, f1, f2, f3, f4, f5, f6, f7, f8⟩ := h'
  exact ⟨by simp [World.setCell]; exact l, by simp [go_sem, c0], by simp [go_sem, c1], by simp [go_sem, c2], by simp [go_sem, c3], by simp [go_sem, c4], by simp [go_sem, c5], by simp [go_sem, c6], by simp [go_sem, c7], by simp [go_sem, c8], by simp [go_sem, f0], by simp [go_sem, f1], by simp [go_sem, f2], by simp [go_sem, f3], by simp [go_sem, f4], by simp [go_sem, f5], by simp [go_sem, f6], by simp [go_sem, f7], by simp [go_sem, f8]⟩
theorem Nine.set4 {w : World} {blk : Nat} {a b c d e f g h i : Int} (h' : Nine w blk a b c d e f g h i) (v : Int) : Nine (w.setCell ⟨blk, 4, none⟩ (.int .i64 v)) blk a b c d v f g h i := by
  obtain ⟨l, c0, c1, c2, c3, c4, c5, c6, c7, c8, f0, f1, f2, f3, f4, f5, f6, f7, f8⟩ := h'
  exact ⟨by simp [World.setCell]; exact l, by simp [go_sem, c0], by simp [go_sem, c1], by simp [go_sem, c2], by simp [go_sem, c3], by simp [go_sem, c4], by simp [go_sem, c5], by simp [go_sem, c6], by simp [go_sem, c7], by simp [go_sem, c8], by simp [go_sem, f0], by simp [go_sem, f1], by simp [go_sem, f2], by simp [go_sem, f3], by simp [go_sem, f4], by simp [go_sem, f5], by simp [go_sem, f6], by simp [go_sem, f7], by simp [go_sem, f8]⟩
theorem Nine.set5 {w : World} {blk : Nat} {a b c d e f g h i : Int} (h' : Nine w blk a b c d e f g h i) (v : Int) : Nine (w.setCell ⟨blk, 5, none⟩ (.int .i64 v)) blk a b c d e v g h i := by
  obtain ⟨l, c0, c1, c2, c3, c4, c5, c6, c7, c8, f0, f1, f2, f3, f4, f5, f6, f7, f8⟩ := h'
  exact ⟨by simp [World.setCell]; exact l, by simp [go_sem, c0], by simp [go_sem, c1], by simp [go_sem, c2], by simp [go_sem, c3], by simp [go_sem, c4], by simp [go_sem, c5], by simp [go_sem, c6], by simp [go_sem, c7], by simp [go_sem, c8], by simp [go_sem, f0], by simp [go_sem, f1], by simp [go_sem, f2], by simp [go_sem, f3], by simp [go_sem, f4], by simp [go_sem, f5], by simp [go_sem, f6], by simp [go_sem, f7], by simp [go_sem, f8]⟩
theorem Nine.set6 {w : World} {blk : Nat} {a b c d e f g h i : Int} (h' : Nine w blk a b c d e f g h i) (v : Int) : Nine (w.setCell ⟨blk, 6, none⟩ (.int .i64 v)) blk a b c d e f v h i := by
  obtain ⟨l, c0, c1, c2, c3, c4, c5, c6, c7, c8, f0, f1, f2, f3, f4, f5, f6, f7, f8⟩ := h'
  exact ⟨by simp [World.setCell]; exact l, by simp [go_sem, c0], by simp [go_sem, c1], by simp [go_sem, c2], by simp [go_sem, c3], by simp [go_sem, c4], by simp [go_sem, c5], by simp [go_sem, c6], by simp [go_sem, c7], by simp [go_sem, c8], by simp [go_sem, f0], by simp [go_sem, f1], by simp [go_sem, f2], by simp [go_sem, f3], by simp [go_sem, f4], by simp [go_sem, f5], by simp [go_sem, f6], by simp [go_sem, f7], by simp [go_sem, f8]⟩
theorem Nine.set7 {w : World} {blk : Nat} {a b c d e f g h i : Int} (h' : Nine w blk a b c d e f g h i) (v : Int) : Nine (w.setCell ⟨blk, 7, none⟩ (.int .i64 v)) blk a b c d e f g v i := by
  obtain ⟨l, c0, c1, c2, c3, c4, c5, c6, c7, c8, f0, f1, f2, f3, f4, f5, f6, f7, f8⟩ := h'
  exact ⟨by simp [World.setCell]; exact l, by simp [go_sem, c0], by simp [go_sem, c1], by simp [go_sem, c2], by simp [go_sem, c3], by simp [go_sem, c4], by simp [go_sem, c5], by simp [go_sem, c6], by simp [go_sem, c7], by simp [go_sem, c8], by simp [go_sem, f0], by simp [go_sem, f1], by simp [go_sem, f2], by simp [go_sem, f3], by simp [go_sem, f4], by simp [go_sem, f5], by simp [go_sem, f6], by simp [go_sem, f7], by simp [go_sem, f8]⟩
theorem Nine.set8 {w : World} {blk : Nat} {a b c d e f g h i : Int} (h' : Nine w blk a b c d e f g h i) (v : Int) : Nine (w.setCell ⟨blk, 8, none⟩ (.int .i64 v)) blk a b c d e f g h v := by
  obtain ⟨l, c0, c1, c2, c3, c4, c5, c6, c7, c8, f0, f1, f2, f3, f4, f5, f6, f7, f8⟩ := h'
  exact ⟨by simp [World.setCell]; exact l, by simp [go_sem, c0], by simp [go_sem, c1], by simp [go_sem, c2], by simp [go_sem, c3], by simp [go_sem, c4], by simp [go_sem, c5], by simp [go_sem, c6], by simp [go_sem, c7], by simp [go_sem, c8], by simp [go_sem, f0], by simp [go_sem, f1], by simp [go_sem, f2], by simp [go_sem, f3], by simp [go_sem, f4], by simp [go_sem, f5], by simp [go_sem, f6], by simp [go_sem, f7], by simp [go_sem, f8]⟩
theorem Nine.row0 {w : World} {blk : Nat} {a b c d e f g h i : Int} (h' : Nine w blk a b c d e f g h i) (x y z : Int) : Nine (((w.setCell ⟨blk, 0, none⟩ (.int .i64 x)).setCell ⟨blk, 1, none⟩ (.int .i64 y)).setCell ⟨blk, 2, none⟩ (.int .i64 z)) blk x y z d e f g h i := ((h'.set0 x).set1 y).set2 z
theorem Nine.row1 {w : World} {blk : Nat} {a b c d e f g h i : Int} (h' : Nine w blk a b c d e f g h i) (x y z : Int) : Nine (((w.setCell ⟨blk, 3, none⟩ (.int .i64 x)).setCell ⟨blk, 4, none⟩ (.int .i64 y)).setCell ⟨blk, 5, none⟩ (.int .i64 z)) blk a b c x y z g h i := ((h'.set3 x).set4 y).set5 z
theorem Nine.row2 {w : World} {blk : Nat} {a b c d e f g h i : Int} (h' : Nine w blk a b c d e f g h i) (x y z : Int) : Nine (((w.setCell ⟨blk, 6, none⟩ (.int .i64 x)).setCell ⟨blk, 7, none⟩ (.int .i64 y)).setCell ⟨blk, 8, none⟩ (.int .i64 z)) blk a b c d e f x y z := ((h'.set6 x).set7 y).set8 z
theorem below_row {B : Nat} {a' w : World} (h : Below B a' w) {blk : Nat} (hb : B ≤ blk) (i j l : Nat) (x y z : Value) : Below B a' (((w.setCell ⟨blk, i, none⟩ x).setCell ⟨blk, j, none⟩ y).setCell ⟨blk, l, none⟩ z) :=
  ((h.setCell (p := ⟨blk, i, none⟩) hb x).setCell (p := ⟨blk, j, none⟩) hb y).setCell (p := ⟨blk, l, none⟩) hb z

end Go.Proofs.YtodfcbpcgcgijaaGreatDoor

/- A vector's, a matrix's block is as it was where another one was stored anew. -/
namespace Go.Proofs.YtodfcbpcgcgijaaGreatDoor
set_option maxRecDepth 100000
open Go.RowKit

theorem Tri.apartV {w : World} {g k : Nat} {x y z : Int} (h : Tri w k x y z) (hk : k ≠ g) (p q r : Int) : Tri (putV w g p q r) k x y z := ((h.apart hk 0 _).apart hk 1 _).apart hk 2 _
theorem Tri.apartM {w : World} {g k : Nat} {x y z : Int} (h : Tri w k x y z) (hk : k ≠ g) (p0 p1 p2 p3 p4 p5 p6 p7 p8 : Int) : Tri (putM w g p0 p1 p2 p3 p4 p5 p6 p7 p8) k x y z :=
  ((((((((h.apart hk 0 _).apart hk 1 _).apart hk 2 _).apart hk 3 _).apart hk 4 _).apart hk 5 _).apart hk 6 _).apart hk 7 _).apart hk 8 _

end Go.Proofs.YtodfcbpcgcgijaaGreatDoor
