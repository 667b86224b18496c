/- Integers of a slice, whatever slice, appended to a row of the call's own. No function of the program is named here. -/
import Derived.Test.YtmhehnimgkmmaaaDoorLists
import Derived.OwnWalk
import Derived.Lib.Hide
namespace Go.Proofs.YtmhehnimgkmmaaaDoor
set_option maxRecDepth 100000
open Go.RowKit

/-- Integers as cells. -/
abbrev ints (k : IntKind) (zs : List Int) : List Value := zs.map (Value.int k)
section
variable {P : Program} {w : World} {k : IntKind}
theorem append_ints (base : Nat) (t ty e : TypeId) (i : TypeInfo) (z : Value) (by_ : Nat) (ht : P.underlying t = some (.slice e)) (hi : P.info? e = some i) (hz : i.zero = some z) (h1 : i.size = 1) (hb : i.bytes = by_) (hc : z.cells.size = 1)
    (v : Value) (n : Nat) (xs : List Value) (own : w.ownsRow base e 1 v n xs) (p : Option Addr) (m c : Nat) (ys : List Int) (hy : At k w p ys) (hm : m = ys.length) (hl : (n + m) * (by_ + 1) ≤ 1000000000000) (hbase : base ≤ w.heap.size) :
    ∃ v' w', (Builtin.append_ #[t, t] ty #[v, .slice p m c]).run P w = .ok v' w' ∧ w'.ownsRow base e 1 v' (n + m) (xs ++ ints k ys) ∧ w.grownBy w' v.ownBlock := by
  subst hm
  have hl' : (n + ys.length) * by_ + (n + ys.length) ≤ 1000000000000 := by rw [Nat.mul_add, Nat.mul_one] at hl; exact hl
  have one : ∀ u ∈ ints k ys, u.oneCell' = true := fun u hu => by obtain ⟨y, _, rfl⟩ := List.mem_map.mp hu; rfl
  have len : (ints k ys).length = ys.length * 1 := by rw [List.length_map, Nat.mul_one]
  have from_ : ∀ (a : Addr) (_ : ∀ j u, (ints k ys)[j]? = some u → w.cell? (a.add j) = some u),
      ∃ v' w', (Builtin.append_ #[t, t] ty #[v, .slice (some a) ys.length c]).run P w = .ok v' w' ∧ w'.ownsRow base e 1 v' (n + ys.length) (xs ++ ints k ys) ∧ w.grownBy w' v.ownBlock := fun a ha => by
    obtain ⟨v', w', r1, r2, r3, _⟩ := run_append_own (P := P) w base t ty e i z 1 by_ ht hi hz h1 hb hc (by omega) v n xs own a ys.length c (ints k ys) len ha one (by unfold maxLen; omega) (by omega) hbase
    exact ⟨v', w', r1, r2, r3⟩
  rcases hy with rfl | ⟨b, off, rfl, hlt, hcell⟩
  · cases p with
    | some a => exact from_ a (fun j u h => by simp at h)
    | none =>
      refine ⟨v, w, ?_, by simpa using own, World.grownBy.refl w _⟩
      rcases own.2 with ⟨rfl, rfl⟩ | ⟨g, cap, cur, rfl, _, _, hle, _⟩
      · simp [Builtin.append_, run_underlying ht, sizeOf, typeInfo, hi, Builtin.lenOf, Builtin.firstCells]
      · simp [Builtin.append_, run_underlying ht, sizeOf, typeInfo, hi, Builtin.lenOf, Builtin.firstCells, hle, storeCells]
  · refine from_ _ fun j u h => ?_
    rw [List.getElem?_map] at h
    obtain ⟨y, hy, rfl⟩ := Option.map_eq_some_iff.mp h
    have hj : j < ys.length := (List.getElem?_eq_some_iff.mp hy).1
    have e2 : (⟨b, off, none⟩ : Addr).add j = ⟨b, off + j, none⟩ := by unfold Addr.add; split <;> simp_all
    rw [e2, hcell j hj, List.getD_eq_getElem?_getD, hy]
    rfl

/-- The same where the walk stands at it. -/
theorem walk_append {ops : Array Oper} {rest : List Oper} {o : Oper} {a : Act} {Q : Exit → Act → World → Prop} (hg : o.guard = none) (s x : Operand) (t : TypeId) (ho : o.op = .call { callee := .builtin .append, args := #[s, x], argTypes := #[t, t] })
    (base : Nat) (e : TypeId) (i : TypeInfo) (z : Value) (by_ : Nat) (ht : P.underlying t = some (.slice e)) (hi : P.info? e = some i) (hz : i.zero = some z) (h1 : i.size = 1) (hb : i.bytes = by_) (hc : z.cells.size = 1)
    (v : Value) (n : Nat) (xs : List Value) (hs : a.eval s = v) (own : w.ownsRow base e 1 v n xs) (p : Option Addr) (m c : Nat) (ys : List Int) (hx : a.eval x = .slice p m c) (hy : At k w p ys) (hm : m = ys.length) (hl : (n + m) * (by_ + 1) ≤ 1000000000000)
    (hbase : base ≤ w.heap.size) (h : ∀ v' w', w'.ownsRow base e 1 v' (n + m) (xs ++ ints k ys) → w.grownBy w' v.ownBlock → wpList P ops Q rest (a.put o.dst v') w') : wpList P ops Q (o :: rest) a w := by
  obtain ⟨v', w', r1, r2, r3⟩ := append_ints (P := P) base t o.type e i z by_ ht hi hz h1 hb hc v n xs own p m c ys hy hm hl hbase
  refine wpList_plain hg fun _ hK => ?_
  unfold Oper.wp execOp
  simp only [ho, resolve, invoke, builtin, Sem.run_bind, Sem.run_pure, Result.andThen_ok, List.map_toArray, List.map_cons, List.map_nil, hs, hx, r1]
  exact hK _ _ (h v' w' r2 r3)
end
/-- A row of the call's own as the slice that it is. -/
theorem own_form {w : World} {base n : Nat} {e : TypeId} {v : Value} {xs : List Value} (h : w.ownsRow base e 1 v n xs) : ∃ p cap, v = .slice p n cap ∧ n ≤ cap ∧ cap ≤ maxLen := by
  rcases h.2 with ⟨rfl, rfl⟩ | ⟨g, cap, cur, rfl, _, _, h1, h2, _⟩
  · exact ⟨none, 0, rfl, Nat.le_refl _, Nat.zero_le _⟩
  · exact ⟨_, cap, rfl, h1, h2⟩
/-- A new slice of these integers; of what was there nothing has turned. -/
def NewRow (k : IntKind) (t : TypeId) (w : World) (zs : List Int) (e : Ending) (w' : World) : Prop :=
  ∃ p cap, e = .returned (.slice p zs.length cap) ∧ w'.ownsRow w.heap.size t 1 (.slice p zs.length cap) zs.length (ints k zs) ∧ zs.length ≤ cap ∧ cap ≤ maxLen ∧ Below w.heap.size w w'

end Go.Proofs.YtmhehnimgkmmaaaDoor
