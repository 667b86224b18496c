/- Rows of the call's own, of whatever values; where an append leaves its row. No function of the program is named here. -/
import Derived.Test.YtmhehnimgkmmaaaDoorOwn
import Derived.ArgAppend
import Derived.Laws.OwnMore
namespace Go.Proofs.YtmhehnimgkmmaaaDoor
set_option maxRecDepth 100000
open Go.RowKit
set_option linter.unusedVariables false

/-- The block of what comes is the elder one, or a new one. -/
def Whence (w : World) (v v' : Value) : Prop := v'.ownBlock = v.ownBlock ∨ ∀ k, v'.ownBlock = some k → w.heap.size ≤ k
section
variable {P : Program}
theorem append_where (w : World) (base : Nat) (t ty e : TypeId) (i : TypeInfo) (z : Value) (by_ : Nat) (ht : P.underlying t = some (.slice e)) (hi : P.info? e = some i) (hz : i.zero = some z) (h1 : i.size = 1) (hb : i.bytes = by_) (hc : z.cells.size = 1)
    (v : Value) (n : Nat) (xs : List Value) (own : w.ownsRow base e 1 v n xs) (a : Addr) (m c : Nat) (news : List Value) (hl : news.length = m) (hnews : ∀ j u, news[j]? = some u → w.cell? (a.add j) = some u) (hone : ∀ u ∈ news, u.oneCell' = true)
    (hle : (n + m) * (by_ + 1) ≤ 1000000000000) (hbase : base ≤ w.heap.size) :
    ∃ v' w', (Builtin.append_ #[t, t] ty #[v, .slice (some a) m c]).run P w = .ok v' w' ∧ w'.ownsRow base e 1 v' (n + m) (xs ++ news) ∧ w.grownBy w' v.ownBlock ∧ Whence w v v' := by
  have hle' : (n + m) * by_ + (n + m) ≤ 1000000000000 := by rw [Nat.mul_add, Nat.mul_one] at hle; exact hle
  have h63 : n + m ≤ maxLen := by unfold maxLen; omega
  have hl1 : news.length = m * 1 := by omega
  rcases own.2 with ⟨rfl, rfl⟩ | ⟨g, cap, cur, rfl, hbg, hg, hnc, hcm, hcs, htk⟩
  · have hx : xs = [] := List.eq_nil_of_length_eq_zero (by have := own.1; omega)
    subst hx
    obtain ⟨v', w', r1, r2, r3, -⟩ := run_append_own (P := P) w w.heap.size t ty e i z 1 by_ ht hi hz h1 hb hc (by decide) (.slice none 0 0) 0 [] (World.ownsRow_nil w _ e 1) a m c news hl1 hnews hone h63 (by omega) (Nat.le_refl _)
    exact ⟨v', w', r1, Joins.ownsRow_le r2 hbase, r3, Or.inr fun k hk => (r2.lt k hk).1⟩
  · by_cases hroom : n + m ≤ cap
    · obtain ⟨w', r1, r2, r3⟩ := run_append_fits (P := P) w base t ty e i 1 ht hi h1 g n cap xs own a m c news hl1 hnews hone hroom
      exact ⟨_, w', r1, r2, r3, Or.inl rfl⟩
    · obtain ⟨v', w', r1, r2, r3⟩ := run_append_arg_grows (P := P) w t ty e i z 1 by_ ht hi hz h1 hb hc (by decide) ⟨g, 0, none⟩ n cap xs own.1 (own.cells (v := .slice (some ⟨g, 0, none⟩) n cap) rfl) a m c news hl1 hnews (by omega) h63 (by omega)
      exact ⟨v', w', r1, Joins.ownsRow_le r2 hbase, ⟨r3.os, r3.tape, r3.output, r3.size, fun k hk _ => r3.block k hk (by simp)⟩, Or.inr fun k hk => (r2.lt k hk).1⟩
theorem append_where_ints (w : World) {k : IntKind} (base : Nat) (t ty e : TypeId) (i : TypeInfo) (z : Value) (by_ : Nat) (ht : P.underlying t = some (.slice e)) (hi : P.info? e = some i) (hz : i.zero = some z) (h1 : i.size = 1) (hb : i.bytes = by_) (hc : z.cells.size = 1)
    (v : Value) (n : Nat) (xs : List Value) (own : w.ownsRow base e 1 v n xs) (p : Option Addr) (m c : Nat) (ys : List Int) (hy : At k w p ys) (hm : m = ys.length) (hnone : p = none → c = 0) (hle : (n + m) * (by_ + 1) ≤ 1000000000000) (hbase : base ≤ w.heap.size) :
    ∃ v' w', (Builtin.append_ #[t, t] ty #[v, .slice p m c]).run P w = .ok v' w' ∧ w'.ownsRow base e 1 v' (n + m) (xs ++ ints k ys) ∧ w.grownBy w' v.ownBlock ∧ Whence w v v' := by
  have hone : ∀ u ∈ ints k ys, u.oneCell' = true := fun u hu => by obtain ⟨y, _, rfl⟩ := List.mem_map.mp hu; rfl
  have hlen : (ints k ys).length = m := by rw [List.length_map, hm]
  cases p with
  | some a =>
    refine append_where w base t ty e i z by_ ht hi hz h1 hb hc v n xs own a m c (ints k ys) hlen (fun j u hu => ?_) hone hle hbase
    rcases hy with rfl | ⟨b, off, e', hlt, hcell⟩
    · cases hu
    · injection e' with e'
      subst e'
      have hj := (List.getElem?_eq_some_iff.1 hu).1
      rw [ints, List.length_map] at hj
      have hv : (ints k ys)[j]? = some (.int k (ys.getD j 0)) := by rw [ints, List.getElem?_map, List.getD_eq_getElem?_getD, List.getElem?_eq_getElem hj]; rfl
      rw [hv] at hu
      injection hu with hu
      subst hu
      have := hcell j hj
      have hadd : (⟨b, off, none⟩ : Addr).add j = ⟨b, off + j, none⟩ := by unfold Addr.add; split <;> simp_all
      rw [hadd]
      exact this
  | none =>
    have hy0 : ys = [] := by
      rcases hy with h | ⟨b, off, e', _⟩
      · exact h
      · cases e'
    subst hy0
    obtain rfl : c = 0 := hnone rfl
    obtain rfl : m = 0 := hm
    refine ⟨v, w, run_append_owned_none (P := P) w base t ty e i 1 ht hi v n xs own, by simpa [ints] using own, ⟨rfl, rfl, rfl, Nat.le_refl _, fun _ _ _ => rfl⟩, Or.inl rfl⟩
end

section
variable {P : Program}
/-- The walk at an append to a row of the call's own: of values that lie somewhere; of integers. -/
theorem walk_where {w : World} {ops : Array Oper} {rest : List Oper} {o : Oper} {a : Act} {Q : Exit → Act → World → Prop} (hg : o.guard = none) (s x : Operand) (t : TypeId) (ho : o.op = .call { callee := .builtin .append, args := #[s, x], argTypes := #[t, t] })
    (base : Nat) (e : TypeId) (i : TypeInfo) (z : Value) (by_ : Nat) (ht : P.underlying t = some (.slice e)) (hi : P.info? e = some i) (hz : i.zero = some z) (h1 : i.size = 1) (hb : i.bytes = by_) (hc : z.cells.size = 1)
    (v : Value) (n : Nat) (xs : List Value) (hs : a.eval s = v) (own : w.ownsRow base e 1 v n xs) (ad : Addr) (m c : Nat) (news : List Value) (hx : a.eval x = .slice (some ad) m c) (hl : news.length = m) (hnews : ∀ j u, news[j]? = some u → w.cell? (ad.add j) = some u) (hone : ∀ u ∈ news, u.oneCell' = true)
    (hle : (n + m) * (by_ + 1) ≤ 1000000000000) (hbase : base ≤ w.heap.size)
    (h : ∀ q n' cap w', w'.ownsRow base e 1 (.slice q n' cap) n' (xs ++ news) → Hid (n' = n + m) → n' ≤ cap → w.grownBy w' v.ownBlock → Whence w v (.slice q n' cap) → wpList P ops Q rest (a.put o.dst (.slice q n' cap)) w') : wpList P ops Q (o :: rest) a w := by
  obtain ⟨v', w', r1, r2, r3, r4⟩ := append_where (P := P) (ty := o.type) w base t e i z by_ ht hi hz h1 hb hc v n xs own ad m c news hl hnews hone hle hbase
  obtain ⟨q, cap, rfl, c1, c2⟩ := own_form r2
  refine wpList_plain hg fun _ hK => ?_
  unfold Oper.wp execOp
  simp only [ho, resolve, invoke, builtin, Sem.run_bind, Sem.run_pure, Result.andThen_ok, List.map_toArray, List.map_cons, List.map_nil, hs, hx, r1]
  exact hK _ _ (h q (n + m) cap w' r2 rfl c1 r3 r4)
theorem walk_where_ints {w : World} {k : IntKind} {ops : Array Oper} {rest : List Oper} {o : Oper} {a : Act} {Q : Exit → Act → World → Prop} (hg : o.guard = none) (s x : Operand) (t : TypeId) (ho : o.op = .call { callee := .builtin .append, args := #[s, x], argTypes := #[t, t] })
    (base : Nat) (e : TypeId) (i : TypeInfo) (z : Value) (by_ : Nat) (ht : P.underlying t = some (.slice e)) (hi : P.info? e = some i) (hz : i.zero = some z) (h1 : i.size = 1) (hb : i.bytes = by_) (hc : z.cells.size = 1)
    (v : Value) (n : Nat) (xs : List Value) (hs : a.eval s = v) (own : w.ownsRow base e 1 v n xs) (p : Option Addr) (m c : Nat) (ys : List Int) (hx : a.eval x = .slice p m c) (hy : At k w p ys) (hm : m = ys.length) (hnone : p = none → c = 0)
    (hle : (n + m) * (by_ + 1) ≤ 1000000000000) (hbase : base ≤ w.heap.size)
    (h : ∀ q n' cap w', w'.ownsRow base e 1 (.slice q n' cap) n' (xs ++ ints k ys) → Hid (n' = n + m) → n' ≤ cap → w.grownBy w' v.ownBlock → Whence w v (.slice q n' cap) → wpList P ops Q rest (a.put o.dst (.slice q n' cap)) w') : wpList P ops Q (o :: rest) a w := by
  obtain ⟨v', w', r1, r2, r3, r4⟩ := append_where_ints (P := P) (ty := o.type) w base t e i z by_ ht hi hz h1 hb hc v n xs own p m c ys hy hm hnone hle hbase
  obtain ⟨q, cap, rfl, c1, c2⟩ := own_form r2
  refine wpList_plain hg fun _ hK => ?_
  unfold Oper.wp execOp
  simp only [ho, resolve, invoke, builtin, Sem.run_bind, Sem.run_pure, Result.andThen_ok, List.map_toArray, List.map_cons, List.map_nil, hs, hx, r1]
  exact hK _ _ (h q (n + m) cap w' r2 rfl c1 r3 r4)
end
/-- A part that lies in a block of its own: neither in the one nor in the other of two rows. -/
def PartO (w : World) (v : Value) (xs : List Int) (o1 o2 : Option Nat) : Prop :=
  ∃ q m d, v = .slice q m d ∧ m = xs.length ∧ m ≤ d ∧ At .u8 w q xs ∧ ∀ a, q = some a → a.block < w.heap.size ∧ some a.block ≠ o1 ∧ some a.block ≠ o2
theorem PartO.call {w w' : World} {v : Value} {xs : List Int} {o1 o2 : Option Nat} (h : PartO w v xs o1 o2) (hb : Below w.heap.size w w') : PartO w' v xs o1 o2 := by
  obtain ⟨q, m, d, e, hm, hd, ha, hq⟩ := h
  exact ⟨q, m, d, e, hm, hd, ha.call hb, fun a ha => ⟨Nat.lt_of_lt_of_le (hq a ha).1 hb.size, (hq a ha).2⟩⟩
theorem PartO.grown {w w' : World} {v s s' : Value} {xs : List Int} {o : Option Nat} (h : PartO w v xs s.ownBlock o) (hg : w.grownBy w' s.ownBlock) (hw : Whence w s s') : PartO w' v xs s'.ownBlock o := by
  obtain ⟨q, m, d, e, hm, hd, ha, hq⟩ := h
  refine ⟨q, m, d, e, hm, hd, ?_, fun a ha => ?_⟩
  · rcases ha with h | ⟨b, off, e', hl, hc⟩
    · exact Or.inl h
    · have hne := (hq _ e').2.1
      exact Or.inr ⟨b, off, e', Nat.lt_of_lt_of_le hl hg.size, fun j hj => (World.cell?_of_block (w := w) (a := ⟨b, off + j, none⟩) (hg.block b hl hne)).trans (hc j hj)⟩
  · obtain ⟨h1, h2, h3⟩ := hq a ha
    refine ⟨Nat.lt_of_lt_of_le h1 hg.size, fun e2 => ?_, h3⟩
    rcases hw with hw | hw
    · exact h2 (e2.trans hw)
    · have := hw _ e2.symm; omega
theorem PartO.swap {w : World} {v : Value} {xs : List Int} {o1 o2 : Option Nat} (h : PartO w v xs o1 o2) : PartO w v xs o2 o1 := by
  obtain ⟨q, m, d, e, hm, hd, ha, hq⟩ := h
  exact ⟨q, m, d, e, hm, hd, ha, fun a ha => ⟨(hq a ha).1, (hq a ha).2.2, (hq a ha).2.1⟩⟩
/-- Two rows stay apart. -/
theorem apart_grown {w : World} {s s' r : Value} (hr : ∀ k, r.ownBlock = some k → k < w.heap.size) (h : r.ownBlock = none ∨ r.ownBlock ≠ s.ownBlock) (hw : Whence w s s') : r.ownBlock = none ∨ r.ownBlock ≠ s'.ownBlock := by
  rcases h with h | h
  · exact Or.inl h
  · rcases hw with hw | hw
    · exact Or.inr (by rw [hw]; exact h)
    · cases hk : r.ownBlock with
      | none => exact Or.inl rfl
      | some k => exact Or.inr fun e => by have h1 := hr k hk; have h2 := hw k e.symm; omega
theorem apart_symm {r s : Value} (h : r.ownBlock = none ∨ r.ownBlock ≠ s.ownBlock) : s.ownBlock = none ∨ s.ownBlock ≠ r.ownBlock := by
  rcases h with h | h
  · rw [h]
    cases hk : s.ownBlock with
    | none => exact Or.inl rfl
    | some k => exact Or.inr (fun e => by cases e)
  · exact Or.inr fun e => h e.symm
theorem own_call {w w' : World} {base n : Nat} {e : TypeId} {v : Value} {xs : List Value} (h : w.ownsRow base e 1 v n xs) (hb : Below w.heap.size w w') : w'.ownsRow base e 1 v n xs :=
  h.kept (row := none) ⟨hb.os, hb.tape, hb.output, hb.size, fun j hj _ => hb.block j hj⟩ (by cases hv : v.ownBlock <;> simp)
/-- A row made just now is a part of its own. -/
theorem Mine.part {w w' : World} {e : TypeId} {q : Option Addr} {m d : Nat} {xs : List Int} (h : Mine .u8 e w.heap.size w' q m d xs) {o1 o2 : Option Nat} (h1 : ∀ k, o1 = some k → k < w.heap.size) (h2 : ∀ k, o2 = some k → k < w.heap.size) : PartO w' (.slice q m d) xs o1 o2 := by
  refine ⟨q, m, d, rfl, h.len, h.hi, h.at_, fun a ha => ?_⟩
  subst ha
  obtain ⟨k1, k2⟩ := h.own.lt a.block rfl
  exact ⟨k2, fun e => by have := h1 _ e.symm; omega, fun e => by have := h2 _ e.symm; omega⟩
theorem Mine.none_cap {w : World} {k : IntKind} {B : Nat} {e : TypeId} {q : Option Addr} {m d : Nat} {xs : List Int} (h : Mine k e B w q m d xs) (hq : q = none) : d = 0 := by
  subst hq
  rcases h.own.2 with ⟨h1, -⟩ | ⟨g, cap, cur, h1, -⟩
  · injection h1
  · injection h1 with h1; cases h1
/-- A row of the call's own is kept behind an append to another one. -/
theorem own_other {w w' : World} {base n : Nat} {e : TypeId} {v s : Value} {xs : List Value} (h : w.ownsRow base e 1 v n xs) (hg : w.grownBy w' s.ownBlock) (hne : v.ownBlock = none ∨ v.ownBlock ≠ s.ownBlock) : w'.ownsRow base e 1 v n xs := h.kept hg hne
/-- A row of the call's own with what it says of its block. -/
theorem row_lt {w : World} {base n : Nat} {e : TypeId} {v : Value} {xs : List Value} (h : w.ownsRow base e 1 v n xs) : ∀ k, v.ownBlock = some k → k < w.heap.size := fun k hk => (h.lt k hk).2

end Go.Proofs.YtmhehnimgkmmaaaDoor
