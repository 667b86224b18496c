/- An array in a variable: read and stored whole. -/
import Derived.Test.YtmhehnimgkmmaaaDoorHashF
import Derived.Test.YtmhehnimgkmmaaaDoorHasWords
import Derived.Deep.RegionHeld3
import Derived.Deep.DeepCutAuto
import Derived.Deep.MidRow
import Derived.Lib.Hide
namespace Go.Proofs.YtmhehnimgkmmaaaDoor
set_option maxRecDepth 100000
open Go.RowKit
set_option linter.unusedVariables false
attribute [local go_sem] cell_re

theorem rfl_setCells (g : Nat) : ∀ (vs : List Value) (o : Nat) (w : World), (w.setCells g o vs).os = w.os ∧ (w.setCells g o vs).tape = w.tape ∧ (w.setCells g o vs).output = w.output
  | [], _, _ => ⟨rfl, rfl, rfl⟩
  | v :: r, o, w => rfl_setCells g r (o + 1) (w.setCell ⟨g, o, none⟩ v)
theorem other_setCells (g : Nat) : ∀ (vs : List Value) (o : Nat) (w : World) (j : Nat), j ≠ g → (w.setCells g o vs).heap[j]? = w.heap[j]?
  | [], _, _, _, _ => rfl
  | v :: r, o, w, j, h => (other_setCells g r (o + 1) (w.setCell ⟨g, o, none⟩ v) j h).trans (Below.heap_setCell _ _ _ _ h)
/-- Nothing but block G changed, and nothing was made. -/
def Only' (G : Nat) (w w' : World) : Prop := (w'.os = w.os ∧ w'.tape = w.tape ∧ w'.output = w.output) ∧ ∀ j, j ≠ G → w'.heap[j]? = w.heap[j]?
theorem size_setCells (g : Nat) : ∀ (vs : List Value) (o : Nat) (w : World), (w.setCells g o vs).heap.size = w.heap.size
  | [], _, _ => rfl
  | v :: r, o, w => by rw [World.setCells, size_setCells g r]; simp [World.setCell]
section
variable {k : IntKind} {w : World} {g : Nat} {zs : List Int}
theorem Arr.range (h : Arr k w g zs) : w.rangeAt g 0 (ints k zs) := by
  intro j v hv
  rw [ints, List.getElem?_map] at hv
  cases hj : zs[j]? with
  | none => rw [hj] at hv; cases hv
  | some x =>
    rw [hj] at hv
    injection hv with hv
    have := h.c j (List.getElem?_eq_some_iff.1 hj).1
    rw [List.getD_eq_getElem?_getD, hj] at this
    rw [Nat.zero_add, this, ← hv]; rfl
theorem Arr.there (h : Arr k w g zs) : w.there g 0 zs.length := fun j hj => by
  rw [Nat.zero_add]
  exact ⟨by rw [h.c j hj]; rfl, h.f j hj⟩
/-- Stored whole. -/
theorem Arr.all (h : Arr k w g zs) (ys : List Int) (hy : ys.length = zs.length) : Arr k (w.setCells g 0 (ints k ys)) g ys := by
  have hl : (ints k ys).length = ys.length := List.length_map ..
  have hr := World.rangeAt_setCells_same w g 0 (ints k ys) (fun j hj => h.there j (by omega))
  have ht := World.there_setCells h.there g 0 (ints k ys)
  refine ⟨by rw [size_setCells]; exact h.lt, fun j hj => ?_, fun j hj => ?_⟩
  · have := hr j (.int k (ys.getD j 0)) (by rw [ints, List.getElem?_map, List.getD_eq_getElem?_getD, List.getElem?_eq_getElem hj]; rfl)
    rwa [Nat.zero_add] at this
  · have := (ht j (by omega)).2
    rwa [Nat.zero_add] at this
end
theorem ints_one (k : IntKind) (zs : List Int) : (ints k zs).toArray.all (·.oneCell') = true := all_oneCell_toArray fun v hv => by
  rw [ints] at hv
  obtain ⟨x, -, rfl⟩ := List.mem_map.mp hv
  rfl
/-- Below B all is as it was behind a store of many cells into a block from B on. -/
theorem below_setCells {B : Nat} {a w : World} (h : Below B a w) {g : Nat} (hg : B ≤ g) : ∀ (vs : List Value) (o : Nat), Below B a (w.setCells g o vs) := by
  intro vs
  induction vs generalizing w with
  | nil => intro o; exact h
  | cons v r ih => intro o; exact ih (h.setCell (p := ⟨g, o, none⟩) hg v) (o + 1)
/-- What a function hands out that lies in a variable. -/
theorem results_cell_mid {P : Program} {fn : Func} {p : Tmp} {ty : TypeId} (h : fn.results = #[.cell p ty]) (tmps : Array Value) (w : World) (g : Nat) (cs : List Value) (d : TypeDesc)
    (hp : tmps.getD p undef = .pointer (some ⟨g, 0, none⟩)) (hc : w.rangeAt g 0 cs) (hu : P.underlying ty = some d) (hd : d.isRow = true) (hi : (P.info? ty).map (·.size) = some cs.length) :
    (results fn tmps).run P w = .ok (.agg cs.toArray) w := by
  have hp' : tmps[p]?.getD undef = .pointer (some ⟨g, 0, none⟩) := by simpa using hp
  simp [results, h, hp', asAddr, run_loadVar_mid w g 0 ty cs d hc hu hd hi]
/-- An element of an array that is at hand. -/
theorem index_agg {P : Program} (T : TypeId) (E : TypeId) (k : IntKind) (zs : List Int) (n : Nat) (hu : P.underlying T = some (.array n E)) (hE : P.underlying E = some (.int k)) (h1 : (P.info? E).map (·.size) = some 1) (hn : zs.length = n) (i : Nat) (hi : i < n) (W1 : World) :
    (Instr.index T (.agg (ints k zs).toArray) (.int .i64 i)).run P W1 = .ok (.int k (zs.getD i 0)) W1 := by
  have hagg : (isAgg E).run P W1 = .ok false W1 := by
    unfold isAgg
    rw [Sem.run_bind, run_underlying hE W1]
    rfl
  have hz : zs[i]? = some (zs.getD i 0) := by rw [List.getD_eq_getElem?_getD, List.getElem?_eq_getElem (by omega)]; rfl
  generalize zs.getD i 0 = v at *
  cases hq : P.info? E with
  | none => simp [hq] at h1
  | some x =>
    have hx : x.size = 1 := by simpa [hq] using h1
    simp [Instr.index, run_underlying hu, asIntOf, go_sem, hi, sizeOf, typeInfo, hq, hx, hagg, hz]
/-- The walk at a new variable, and at a boxed value: the world behind it keeps a name of its own. -/
theorem walk_alloc {P : Program} {w : World} {ops : Array Oper} {rest : List Oper} {o : Oper} {a : Act} {Q : Exit → Act → World → Prop} (hg : o.guard = none) (T : TypeId) (ho : o.op = .alloc T) (z : Value) (hz : (P.info? T).map (·.zero) = some (some z)) (Z : Array Value) (hZ : z.cells = Z)
    (h : ∀ w', w.alloc (.cells Z T) = w' → wpList P ops Q rest (a.put o.dst (.pointer (some ⟨w.heap.size, 0, none⟩))) w') : wpList P ops Q (o :: rest) a w := by
  subst hZ
  refine wpList_plain hg fun K hK => ?_
  unfold Oper.wp
  cases hq : P.info? T with
  | none => simp [hq] at hz
  | some x =>
    have hx : x.zero = some z := by simpa [hq] using hz
    simp [execOp, ho, Instr.alloc, zeroValue, typeInfo, hq, hx, newVar, newRow, Result.andThen, go_sem]
    exact hK _ _ (h _ rfl)
theorem walk_box {P : Program} {w : World} {ops : Array Oper} {rest : List Oper} {o : Oper} {a : Act} {Q : Exit → Act → World → Prop} (hg : o.guard = none) (T : TypeId) (x : Operand) (ho : o.op = .box T x) (X : Array Value) (hx : a.eval x = .agg X)
    (h : ∀ w', w.alloc (.cells X T) = w' → wpList P ops Q rest (a.put o.dst (.pointer (some ⟨w.heap.size, 0, none⟩))) w') : wpList P ops Q (o :: rest) a w := by
  refine wpList_plain hg fun K hK => ?_
  unfold Oper.wp execOp
  simp only [ho, hx, Instr.box, newVar, newRow, Value.cells, Sem.run_bind, Sem.run_pure, Result.andThen_ok, run_newObj_alloc]
  exact hK _ _ (h _ rfl)
/-- The same for an array of integers. -/
theorem walk_arr {P : Program} {w : World} {ops : Array Oper} {rest : List Oper} {o : Oper} {a : Act} {Q : Exit → Act → World → Prop} (hg : o.guard = none) (T : TypeId) (ho : o.op = .alloc T) (k : IntKind) (zs : List Int) (hz : (P.info? T).map (·.zero) = some (some (.agg (ints k zs).toArray)))
    (h : ∀ w', Arr k w' w.heap.size zs → Below w.heap.size w w' → w'.heap.size = w.heap.size + 1 → wpList P ops Q rest (a.put o.dst (.pointer (some ⟨w.heap.size, 0, none⟩))) w') : wpList P ops Q (o :: rest) a w :=
  walk_alloc hg T ho _ hz _ rfl fun w' e => by
    subst e
    exact h _ (Arr.new w zs _ T rfl) ((Below.refl _ _).alloc (Nat.le_refl _) _) (by simp)
theorem walk_boxed {P : Program} {w : World} {ops : Array Oper} {rest : List Oper} {o : Oper} {a : Act} {Q : Exit → Act → World → Prop} (hg : o.guard = none) (T : TypeId) (x : Operand) (ho : o.op = .box T x) (k : IntKind) (zs : List Int) (X : Array Value) (hX : Hid ((ints k zs).toArray = X)) (hx : a.eval x = .agg X)
    (h : ∀ w', Arr k w' w.heap.size zs → Below w.heap.size w w' → w'.heap.size = w.heap.size + 1 → wpList P ops Q rest (a.put o.dst (.pointer (some ⟨w.heap.size, 0, none⟩))) w') : wpList P ops Q (o :: rest) a w :=
  walk_box hg T x ho X hx fun w' e => by
    subst e
    exact h _ (Arr.new w zs _ T hX.out.symm) ((Below.refl _ _).alloc (Nat.le_refl _) _) (by simp)
/-- The walk where an array is read whole; where one is stored whole. -/
theorem walk_read {P : Program} {w : World} {ops : Array Oper} {rest : List Oper} {o : Oper} {a : Act} {Q : Exit → Act → World → Prop} (hg : o.guard = none) (T : TypeId) (x : Operand) (ho : o.op = .load T x) {k : IntKind} {zs : List Int} {g : Nat} (hA : Arr k w g zs) (hx : a.eval x = .pointer (some ⟨g, 0, none⟩))
    (n : Nat) (E : TypeId) (hu : P.underlying T = some (.array n E)) (hi : (P.info? T).map (·.size) = some n) (hn : zs.length = n) (X : Array Value) (hX : Hid ((ints k zs).toArray = X))
    (h : wpList P ops Q rest (a.put o.dst (.agg X)) w) : wpList P ops Q (o :: rest) a w := by
  refine wpList_load_mid hg T x ho g 0 hx (ints k zs) _ hA.range hu rfl (by rw [hi, ints, List.length_map, hn]) ?_
  rw [hX.out]
  exact h
theorem walk_store {P : Program} {w : World} {ops : Array Oper} {rest : List Oper} {o : Oper} {a : Act} {Q : Exit → Act → World → Prop} (hg : o.guard = none) (T : TypeId) (x y : Operand) (ho : o.op = .store T x y) {k : IntKind} {zs ys : List Int} {g : Nat} (hA : Arr k w g zs) (hx : a.eval x = .pointer (some ⟨g, 0, none⟩))
    (X : Array Value) (hX : Hid ((ints k ys).toArray = X)) (hy : a.eval y = .agg X) (hi : (P.info? T).map (·.size) = some ys.length) (hn : ys.length = zs.length)
    (h : ∀ w', Arr k w' g ys → w'.heap.size = w.heap.size → Only' g w w' → wpList P ops Q rest (a.put o.dst undef) w') : wpList P ops Q (o :: rest) a w := by
  have hs : (ints k ys).toArray.size = ys.length := by simp
  have := hX.out
  subst this
  refine wpList_store_mid hg T x y ho g 0 (ints k ys).toArray hx hy (by rw [hs, hn]; exact hA.there) (by rw [hs]; exact hi) (ints_one k ys) ?_
  exact h _ (hA.all ys hn) (size_setCells _ _ _ _) ⟨rfl_setCells g (ints k ys) 0 w, fun j hj => other_setCells g (ints k ys) 0 w j hj⟩
/-- An array that is stored in is not another one. -/
theorem Arr.only {k : IntKind} {w w' : World} {g G : Nat} {zs : List Int} (h : Arr k w g zs) (ho : Only' G w w') (hg : g ≠ G) (hs : w'.heap.size = w.heap.size) : Arr k w' g zs :=
  ⟨by rw [hs]; exact h.lt, fun j hj => (World.cell?_of_block (w := w) (a := ⟨g, j, none⟩) (ho.2 g hg)).trans (h.c j hj), fun j hj => (World.frozen?_of_block (w := w) (a := ⟨g, j, none⟩) (ho.2 g hg)).trans (h.f j hj)⟩
theorem below_only {B G : Nat} {w0 w w' : World} (h : Below B w0 w) (ho : Only' G w w') (hg : B ≤ G) (hs : w'.heap.size = w.heap.size) : Below B w0 w' :=
  h.trans ⟨ho.1.1, ho.1.2.1, ho.1.2.2, by omega, fun j hj => ho.2 j (by omega)⟩

end Go.Proofs.YtmhehnimgkmmaaaDoor
