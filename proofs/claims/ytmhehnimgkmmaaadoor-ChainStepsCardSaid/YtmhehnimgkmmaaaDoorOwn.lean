/- Rows of the call's own, as lists of integers: made, appended to, kept. No function of the program is named here. -/
import Derived.Test.YtmhehnimgkmmaaaDoorApp
import Derived.Lib.SmallJoins
namespace Go.Proofs.YtmhehnimgkmmaaaDoor
set_option maxRecDepth 100000
open Go.RowKit

/-- p leads to a row of n cells of the call's own (no block of it below B) that holds these integers. -/
structure Mine (k : IntKind) (e : TypeId) (B : Nat) (w : World) (p : Option Addr) (n cap : Nat) (zs : List Int) : Prop where
  len : n = zs.length
  own : w.ownsRow B e 1 (.slice p n cap) n (ints k zs)
  hi : n ≤ cap
  top : cap ≤ maxLen
section
variable {k : IntKind} {e : TypeId} {B n cap : Nat} {w w' : World} {p : Option Addr} {zs : List Int}
theorem Mine.call (h : Mine k e B w p n cap zs) (hb : Below w.heap.size w w') : Mine k e B w' p n cap zs :=
  ⟨h.len, h.own.kept (row := none) ⟨hb.os, hb.tape, hb.output, hb.size, fun j hj _ => hb.block j hj⟩ (by cases hv : (Value.slice p n cap).ownBlock <;> simp), h.hi, h.top⟩
theorem Mine.alloc (h : Mine k e B w p n cap zs) (o : Obj) : Mine k e B (w.alloc o) p n cap zs := ⟨h.len, h.own.alloc o, h.hi, h.top⟩
theorem Mine.drew (h : Mine k e B w p n cap zs) : Mine k e B w.drew p n cap zs := ⟨h.len, h.own.drew, h.hi, h.top⟩
theorem Mine.at_ (h : Mine k e B w p n cap zs) : At k w p zs := by
  have := h.own
  have hl := h.len
  subst hl
  exact At.of_own this
theorem Mine.lower (h : Mine k e B w p n cap zs) {B' : Nat} (hb : B' ≤ B) : Mine k e B' w p n cap zs := ⟨h.len, Joins.ownsRow_le h.own hb, h.hi, h.top⟩
theorem Mine.lit (w : World) (zs : List Int) (cs : Array Value) (n : Nat) (hc : cs = (ints k zs).toArray) (hn : n = zs.length) (hb : B ≤ w.heap.size) (hm : n ≤ maxLen) : Mine k e B (w.alloc (.cells cs e)) (some ⟨w.heap.size, 0, none⟩) n n zs := by
  subst hc hn
  exact ⟨rfl, World.ownsRow_lit (base := B) (e := e) (size := 1) w (ints k zs).toArray zs.length hb hm (by simp), Nat.le_refl _, hm⟩
/-- What is handed out: a new row. -/
theorem Mine.new {w0 : World} (h : Mine k e w0.heap.size w p n cap zs) (hb : Below w0.heap.size w0 w) : NewRow k e w0 zs (.returned (.slice p n cap)) w := by
  obtain ⟨hl, ho, h1, h2⟩ := h
  subst hl
  exact ⟨p, cap, rfl, ho, h1, h2, hb⟩
theorem NewRow.mine {w0 : World} {x : Ending} (h : NewRow k e w0 zs x w) : ∃ p n cap, x = .returned (.slice p n cap) ∧ Mine k e w0.heap.size w p n cap zs ∧ Below w0.heap.size w0 w := by
  obtain ⟨p, cap, rfl, ho, h1, h2, hb⟩ := h
  exact ⟨p, zs.length, cap, rfl, ⟨rfl, ho, h1, h2⟩, hb⟩

variable {P : Program}
/-- The walk at an append of some integers to a row of the call's own. -/
theorem walk_mine {ops : Array Oper} {rest : List Oper} {o : Oper} {a : Act} {Q : Exit → Act → World → Prop} (hg : o.guard = none) (s x : Operand) (t : TypeId) (ho : o.op = .call { callee := .builtin .append, args := #[s, x], argTypes := #[t, t] })
    (i : TypeInfo) (z : Value) (by_ : Nat) (ht : P.underlying t = some (.slice e)) (hi : P.info? e = some i) (hz : i.zero = some z) (h1 : i.size = 1) (hb : i.bytes = by_) (hc : z.cells.size = 1)
    (own : Mine k e B w p n cap zs) (hs : a.eval s = .slice p n cap) {q : Option Addr} {m c : Nat} {ys : List Int} (hy : At k w q ys) (hm : m = ys.length) (hx : a.eval x = .slice q m c) (hl : (n + m) * (by_ + 1) ≤ 1000000000000)
    (hbase : B ≤ w.heap.size) {w0 : World} (hB : Below B w0 w)
    (h : ∀ q' n' cap' w', Mine k e B w' q' n' cap' (zs ++ ys) → Below B w0 w' → Hid (n' = n + m) → Hid (w.heap.size ≤ w'.heap.size) → wpList P ops Q rest (a.put o.dst (.slice q' n' cap')) w') : wpList P ops Q (o :: rest) a w := by
  refine walk_append (P := P) hg s x t ho B e i z by_ ht hi hz h1 hb hc _ n (ints k zs) hs own.own q m c ys hx hy hm hl hbase fun v' w' own' grow => ?_
  obtain ⟨q', cap', rfl, c1, c2⟩ := own_form own'
  refine h q' (n + m) cap' w' ⟨?_, ?_, c1, c2⟩ (hB.grown grow hbase fun j hj => (own.own.lt j hj).1) (Lib.hid rfl) (Lib.hid grow.size)
  · rw [own.len, hm, List.length_append]
  · rw [ints, List.map_append]; exact own'
/-- The same at the operation itself (in a region that draws its order). -/
theorem oper_mine {o : Oper} {a : Act} {K : Act → World → Prop} {Q : Exit → Act → World → Prop} (s x : Operand) (t : TypeId) (ho : o.op = .call { callee := .builtin .append, args := #[s, x], argTypes := #[t, t] })
    (i : TypeInfo) (z : Value) (by_ : Nat) (ht : P.underlying t = some (.slice e)) (hi : P.info? e = some i) (hz : i.zero = some z) (h1 : i.size = 1) (hb : i.bytes = by_) (hc : z.cells.size = 1)
    (own : Mine k e B w p n cap zs) (hs : a.eval s = .slice p n cap) {q : Option Addr} {m c : Nat} {ys : List Int} (hy : At k w q ys) (hm : m = ys.length) (hx : a.eval x = .slice q m c) (hl : (n + m) * (by_ + 1) ≤ 1000000000000)
    (hbase : B ≤ w.heap.size) {w0 : World} (hB : Below B w0 w)
    (h : ∀ q' n' cap' w', Mine k e B w' q' n' cap' (zs ++ ys) → Below B w0 w' → Hid (n' = n + m) → Hid (w.heap.size ≤ w'.heap.size) → K (a.put o.dst (.slice q' n' cap')) w') : o.wp P a w K Q := by
  obtain ⟨v', w', r1, r2, r3⟩ := append_ints (P := P) B t o.type e i z by_ ht hi hz h1 hb hc _ n (ints k zs) own.own q m c ys hy hm hl hbase
  obtain ⟨q', cap', rfl, c1, c2⟩ := own_form r2
  unfold Oper.wp execOp
  simp only [ho, resolve, invoke, builtin, Sem.run_bind, Sem.run_pure, Result.andThen_ok, List.map_toArray, List.map_cons, List.map_nil, hs, hx, r1]
  refine h q' (n + m) cap' w' ⟨?_, ?_, c1, c2⟩ (hB.grown r3 hbase fun j hj => (own.own.lt j hj).1) (Lib.hid rfl) (Lib.hid r3.size)
  · rw [own.len, hm, List.length_append]
  · rw [ints, List.map_append]; exact r2
end

end Go.Proofs.YtmhehnimgkmmaaaDoor
