/- Arrays that are copied into, sliced, made and stored in a region that draws its order; rows of slices that a call makes. No function of the program is named here. -/
import Derived.Test.YtmhehnimgkmmaaaDoorHasM
import Derived.Test.YtmhehnimgkmmaaaDoorOwnV
import Derived.Test.YtmhehnimgkmmaaaDoorMacMath
namespace Go.Proofs.YtmhehnimgkmmaaaDoor
set_option maxRecDepth 100000
open Go.RowKit
set_option linter.unusedVariables false
attribute [local go_sem] cell_re

section
variable {k : IntKind} {w w' : World} {g B : Nat} {zs : List Int}
theorem splice_set (l : List Int) (o : Nat) (x : Int) (xs : List Int) (h : o + (xs.length + 1) ≤ l.length) : splice (l.set o x) (o + 1) xs = splice l o (x :: xs) := by
  unfold splice
  have h1 : (l.set o x).take (o + 1) = l.take o ++ [x] := by
    rw [List.take_succ_eq_append_getElem (by simp; omega), List.take_set_of_le (Nat.le_refl _)]
    simp
  have h2 : (l.set o x).drop (o + 1 + xs.length) = l.drop (o + (xs.length + 1)) := by
    rw [List.drop_set_of_lt (by omega)]; congr 1; omega
  rw [h1, h2]
  simp
theorem Arr.splices (h : Arr k w g zs) : ∀ (xs : List Int) (o : Nat), o + xs.length ≤ zs.length → Arr k (w.setCells g o (ints k xs)) g (splice zs o xs) := by
  intro xs
  induction xs generalizing w zs with
  | nil => intro o _; have : splice zs o [] = zs := (by simp [splice]); rw [this]; exact h
  | cons x r ih =>
    intro o ho
    rw [List.length_cons] at ho
    have := ih (h.set o x (by omega)) (o + 1) (by rw [List.length_set]; omega)
    rw [splice_set _ _ _ _ ho] at this
    exact this
end
section
variable {P : Program}
/-- The walk at a copy to the head of an array that has room for it. -/
theorem walk_copy {w : World} {ops : Array Oper} {rest : List Oper} {o : Oper} {a : Act} {Q : Exit → Act → World → Prop} (hgd : o.guard = none) (d s : Operand) (dT sT : TypeId)
    (ho : o.op = .call { callee := .builtin .copy, args := #[d, s], argTypes := #[dT, sT] }) (elem : TypeId) (hu : P.underlying dT = some (.slice elem)) (hsz : (P.info? elem).map (·.size) = some 1)
    {g m c : Nat} (hd : a.eval d = .slice (some ⟨g, 0, none⟩) m c) {zs : List Int} (hA : Arr .u8 w g zs) (hm : m = zs.length)
    {p : Option Addr} {n c' : Nat} (hs : a.eval s = .slice p n c') {xs : List Int} (hx : At .u8 w p xs) (hn : n = xs.length) (hle : xs.length ≤ zs.length)
    (h : ∀ w', Arr .u8 w' g (xs ++ zs.drop xs.length) → w'.heap.size = w.heap.size → Only' g w w' → wpList P ops Q rest (a.put o.dst (goInt n)) w') : wpList P ops Q (o :: rest) a w := by
  subst hn hm
  have hmin : Nat.min xs.length zs.length = xs.length := Nat.min_eq_left hle
  refine wpList_plain hgd fun K hK => ?_
  by_cases h0 : xs.length = 0
  · have hrun := run_copy_none (P := P) w dT sT o.type elem (some ⟨g, 0, none⟩) p zs.length c xs.length c' hu hsz (by rw [hmin, h0])
    unfold Oper.wp
    simp [execOp, ho, resolve, invoke, builtin, hd, hs, hrun, Result.andThen]
    refine hK _ _ ?_
    obtain rfl : xs = [] := List.eq_nil_of_length_eq_zero h0
    have := h w (by simpa using hA) rfl ⟨⟨rfl, rfl, rfl⟩, fun _ _ => rfl⟩
    simpa using this
  · rcases hx with rfl | ⟨b, off, rfl, hbl, hcs⟩
    · exact absurd rfl h0
    have hrun := run_copy_cells (P := P) w dT sT o.type elem g 0 zs.length c ⟨b, off, none⟩ xs.length c' (ints .u8 xs) hu hsz (by rw [ints, List.length_map]; exact hmin.symm)
      (fun j v hv => by
        rw [ints, List.getElem?_map] at hv
        cases hxj : xs[j]? with
        | none => rw [hxj] at hv; cases hv
        | some y =>
          rw [hxj] at hv
          injection hv with hv
          have hj2 := (List.getElem?_eq_some_iff.1 hxj).1
          rw [Addr.add_mid, hcs j hj2, List.getD_eq_getElem?_getD, hxj, ← hv]; rfl)
      (fun j hj => by rw [ints, List.length_map] at hj; rw [Nat.zero_add, hA.c j (by omega)]; rfl)
      (fun j hj => by rw [ints, List.length_map] at hj; rw [Nat.zero_add]; exact hA.f j (by omega))
      (fun v hv => by rw [ints] at hv; obtain ⟨x, -, rfl⟩ := List.mem_map.mp hv; rfl)
    unfold Oper.wp
    simp [execOp, ho, resolve, invoke, builtin, hd, hs, hrun, Result.andThen]
    refine hK _ _ ?_
    have hF := hA.splices xs 0 (by omega)
    have e : splice zs 0 xs = xs ++ zs.drop xs.length := by simp [splice]
    rw [e] at hF
    have := h _ hF (size_setCells _ _ _ _) ⟨rfl_setCells g (ints .u8 xs) 0 w, fun j hj => other_setCells g (ints .u8 xs) 0 w j hj⟩
    simpa using this
/-- A new array, and an array stored whole, at the operation itself. -/
theorem oper_arr {w : World} {o : Oper} {a : Act} {K : Act → World → Prop} {Q : Exit → Act → World → Prop} (T : TypeId) (ho : o.op = .alloc T) (k : IntKind) (zs : List Int) (hz : (P.info? T).map (·.zero) = some (some (.agg (ints k zs).toArray)))
    (h : ∀ w', Arr k w' w.heap.size zs → Below w.heap.size w w' → w'.heap.size = w.heap.size + 1 → K (a.put o.dst (.pointer (some ⟨w.heap.size, 0, none⟩))) w') : o.wp P a w K Q := by
  have hA := Arr.new (k := k) w zs (ints k zs).toArray T rfl
  have hB := (Below.refl w.heap.size w).alloc (Nat.le_refl _) (.cells (ints k zs).toArray T)
  have hF := h _ hA hB (by simp)
  unfold Oper.wp
  cases hq : P.info? T with
  | none => simp [hq] at hz
  | some x =>
    have hx : x.zero = some (.agg (ints k zs).toArray) := by simpa [hq] using hz
    simp [execOp, ho, Instr.alloc, zeroValue, typeInfo, hq, hx, newVar, newRow, Value.cells, Result.andThen, go_sem]
    exact hF
theorem oper_store {w : World} {o : Oper} {a : Act} {K : Act → World → Prop} {Q : Exit → Act → World → Prop} (T : TypeId) (x y : Operand) (ho : o.op = .store T x y) {k : IntKind} {zs ys : List Int} {g : Nat} (hA : Arr k w g zs) (hx : a.eval x = .pointer (some ⟨g, 0, none⟩))
    (X : Array Value) (hX : Hid ((ints k ys).toArray = X)) (hy : a.eval y = .agg X) (hi : (P.info? T).map (·.size) = some ys.length) (hn : ys.length = zs.length)
    (h : ∀ w', Arr k w' g ys → w'.heap.size = w.heap.size → Only' g w w' → K (a.put o.dst undef) w') : o.wp P a w K Q := by
  have hs : (ints k ys).toArray.size = ys.length := by simp
  have := hX.out
  subst this
  refine wp_store_mid T x y ho g 0 (ints k ys).toArray hx hy (by rw [hs, hn]; exact hA.there) (by rw [hs]; exact hi) (ints_one k ys) ?_
  exact h _ (hA.all ys hn) (size_setCells _ _ _ _) ⟨rfl_setCells g (ints k ys) 0 w, fun j hj => other_setCells g (ints k ys) 0 w j hj⟩
end
/-- A row of slices that was just made. -/
theorem Parts.lit {w : World} (vs : List Value) (cs : Array Value) (t : TypeId) (hc : cs = vs.toArray) (l : List (List Int)) (h : ∀ j, j < l.length → ∃ v, vs[j]? = some v ∧ Part w v (l.getD j [])) : Parts (w.alloc (.cells cs t)) (some ⟨w.heap.size, 0, none⟩) l := by
  subst hc
  refine Or.inr ⟨w.heap.size, 0, rfl, by simp, fun j hj => ?_⟩
  obtain ⟨v, hv, hp⟩ := h j hj
  refine ⟨v, ?_, hp.call ((Below.refl _ _).alloc (Nat.le_refl _) _)⟩
  rw [Nat.zero_add]
  have := cell_of_row (w.alloc (.cells vs.toArray t)) w.heap.size j vs.toArray t (0, 0) (by show (w.heap.push _)[w.heap.size]? = _; simp)
  rw [this]
  simpa using hv
theorem joinTo_byted {l : List (List Int)} (h : ∀ x ∈ l, Byted x) (k : Nat) : Byted (joinTo l k) := fun y hy => by
  unfold joinTo at hy
  obtain ⟨x, hx, hxy⟩ := List.mem_flatten.mp hy
  exact h x (List.mem_of_mem_take hx) y hxy
theorem At.part {w : World} {q : Option Addr} {n c : Nat} {xs : List Int} (h : At .u8 w q xs) (hn : n = xs.length) (hc : n ≤ c) (hb : Byted xs) : Part w (.slice q n c) xs := ⟨q, n, c, rfl, hn, hc, h, hb⟩
theorem Arr.part {w : World} {g n : Nat} {xs : List Int} (h : Arr .u8 w g xs) (hn : n = xs.length) (hb : Byted xs) : Part w (.slice (some ⟨g, 0, none⟩) n n) xs := h.at_.part hn (Nat.le_refl _) hb
theorem Parts.nth {w : World} {p : Option Addr} {l : List (List Int)} (h : Parts w p l) : ∀ x ∈ l, Byted x := fun x hx => by
  rcases h with rfl | ⟨b, off, -, -, hc⟩
  · cases hx
  · obtain ⟨j, hj, rfl⟩ := List.mem_iff_getElem.mp hx
    obtain ⟨v, -, q, m, d, -, -, -, -, hb⟩ := hc j hj
    rw [List.getD_eq_getElem?_getD, List.getElem?_eq_getElem hj] at hb
    exact hb
/-- The values of a row of slices. -/
theorem Parts.values {w : World} {p : Option Addr} {l : List (List Int)} (h : Parts w p l) : ∃ vs : List Value, vs.length = l.length ∧ (∀ u ∈ vs, u.oneCell' = true) ∧ (∀ j, j < l.length → ∃ v, vs[j]? = some v ∧ Part w v (l.getD j [])) ∧ (l = [] ∨ ∃ b off, p = some ⟨b, off, none⟩ ∧ b < w.heap.size ∧ ∀ j u, vs[j]? = some u → w.cell? ((⟨b, off, none⟩ : Addr).add j) = some u) := by
  rcases h with rfl | ⟨b, off, rfl, hl, hc⟩
  · exact ⟨[], rfl, fun u hu => absurd hu List.not_mem_nil, fun j hj => absurd hj (Nat.not_lt_zero _), Or.inl rfl⟩
  · refine ⟨(List.range l.length).map fun j => (w.cell? ⟨b, off + j, none⟩).getD undef, by simp, fun u hu => ?_, fun j hj => ?_, Or.inr ⟨b, off, rfl, hl, fun j u hu => ?_⟩⟩
    · obtain ⟨j, hj, rfl⟩ := List.mem_map.mp hu
      obtain ⟨v, hv, q, m, d, rfl, -⟩ := hc j (List.mem_range.mp hj)
      rw [hv]; rfl
    · obtain ⟨v, hv, hp⟩ := hc j hj
      exact ⟨v, by rw [List.getElem?_map, List.getElem?_range hj]; show some ((w.cell? ⟨b, off + j, none⟩).getD undef) = _; rw [hv]; rfl, hp⟩
    · have hj := (List.getElem?_eq_some_iff.1 hu).1
      rw [List.length_map, List.length_range] at hj
      obtain ⟨v, hv, hp⟩ := hc j hj
      rw [List.getElem?_map, List.getElem?_range hj] at hu
      replace hu : some ((w.cell? ⟨b, off + j, none⟩).getD undef) = some u := hu
      rw [hv] at hu
      injection hu with hu
      rw [Addr.add_mid, hv, ← hu]; rfl
/-- A row of the call's own that holds such values. -/
theorem Parts.own {w : World} {base n cap : Nat} {e : TypeId} {q : Option Addr} {vs : List Value} {l : List (List Int)} (h : w.ownsRow base e 1 (.slice q n cap) n vs) (hl : l ≠ []) (hn : n = l.length) (hp : ∀ j, j < l.length → ∃ v, vs[j]? = some v ∧ Part w v (l.getD j [])) : Parts w q l := by
  have hpos := List.length_pos_iff.mpr hl
  rcases h.2 with ⟨h3, h4⟩ | ⟨g, cap', cur, hv, _⟩
  · exact absurd h4 (by omega)
  · injection hv with hv1 hv2 hv3
    subst hv1
    refine Or.inr ⟨g, 0, rfl, row_lt h g rfl, fun j hj => ?_⟩
    obtain ⟨v, hvs, hpo⟩ := hp j hj
    exact ⟨v, by rw [← Addr.add_mid]; exact h.cells (v := .slice (some ⟨g, 0, none⟩) n cap) rfl j v hvs, hpo⟩
/-- The walk at an append of values that lie somewhere, or of nothing at all. -/
theorem walk_values {P : Program} {w : World} {ops : Array Oper} {rest : List Oper} {o : Oper} {a : Act} {Q : Exit → Act → World → Prop} (hg : o.guard = none) (s x : Operand) (t : TypeId) (ho : o.op = .call { callee := .builtin .append, args := #[s, x], argTypes := #[t, t] })
    (base : Nat) (e : TypeId) (i : TypeInfo) (z : Value) (by_ : Nat) (ht : P.underlying t = some (.slice e)) (hi : P.info? e = some i) (hz : i.zero = some z) (h1 : i.size = 1) (hb : i.bytes = by_) (hc : z.cells.size = 1)
    (v : Value) (n : Nat) (xs : List Value) (hs : a.eval s = v) (own : w.ownsRow base e 1 v n xs) (p : Option Addr) (m c : Nat) (news : List Value) (hx : a.eval x = .slice p m c) (hl : news.length = m) (hnews : news = [] ∨ ∃ ad, p = some ad ∧ ∀ j u, news[j]? = some u → w.cell? (ad.add j) = some u) (hone : ∀ u ∈ news, u.oneCell' = true) (hnone : p = none → c = 0)
    (hle : (n + m) * (by_ + 1) ≤ 1000000000000) (hbase : base ≤ w.heap.size)
    (h : ∀ q n' cap w', w'.ownsRow base e 1 (.slice q n' cap) n' (xs ++ news) → Hid (n' = n + m) → n' ≤ cap → w.grownBy w' v.ownBlock → wpList P ops Q rest (a.put o.dst (.slice q n' cap)) w') : wpList P ops Q (o :: rest) a w := by
  cases p with
  | some ad =>
    refine walk_where hg s x t ho base e i z by_ ht hi hz h1 hb hc v n xs hs own ad m c news hx hl (fun j u hu => ?_) hone hle hbase (fun q n' cap w' a1 a2 a3 a4 _ => h q n' cap w' a1 a2 a3 a4)
    rcases hnews with h0 | ⟨ad', e', h0⟩
    · rw [h0] at hu; cases hu
    · injection e' with e'
      subst e'
      exact h0 j u hu
  | none =>
    obtain rfl : news = [] := by
      rcases hnews with h0 | ⟨ad', e', -⟩
      · exact h0
      · cases e'
    obtain rfl : c = 0 := hnone rfl
    obtain rfl : m = 0 := hl.symm
    have r1 := run_append_owned_none (P := P) (ty := o.type) w base t e i 1 ht hi v n xs own
    obtain ⟨q, cap, rfl, c1, c2⟩ := own_form own
    refine wpList_plain hg fun _ hK => ?_
    unfold Oper.wp execOp
    simp only [ho, resolve, invoke, builtin, Sem.run_bind, Sem.run_pure, Result.andThen_ok, List.map_toArray, List.map_cons, List.map_nil, hs, hx, r1]
    exact hK _ _ (h q n cap w (by simpa using own) (Lib.hid rfl) c1 ⟨rfl, rfl, rfl, Nat.le_refl _, fun _ _ _ => rfl⟩)

end Go.Proofs.YtmhehnimgkmmaaaDoor
