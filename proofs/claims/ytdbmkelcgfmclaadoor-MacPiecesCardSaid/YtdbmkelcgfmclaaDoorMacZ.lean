/- Noughts appended to a row of the call's own ('append(s, make([]T, n)...)'). No function of the program is named here. -/
import Derived.Test.YtdbmkelcgfmclaaDoorOwn
import Derived.Lib.AppendZerosOnto
import Derived.Lib.Hide
namespace Go.Proofs.YtdbmkelcgfmclaaDoor
set_option maxRecDepth 100000
open Go.RowKit
set_option linter.unusedVariables false

section
variable {P : Program} {k : IntKind} {w : World}
theorem zeroCells_ints (n : Nat) : Builtin.zeroCells #[.int k 0] n = (ints k (List.replicate n 0)).toArray := by
  apply Array.ext'
  rw [List.toList_toArray]
  apply List.ext_getElem?
  intro i
  rw [ints, List.map_replicate, List.getElem?_replicate]
  by_cases h : i < n
  · rw [if_pos h]
    simp [Builtin.zeroCells, h, Nat.mod_one]
  · rw [if_neg h, List.getElem?_eq_none (by simp [Builtin.zeroCells]; omega)]
theorem run_append_room_noughts (t tn ty e : TypeId) (i : TypeInfo) (kn kx : IntKind) (ht : P.underlying t = some (.slice e)) (htn : P.underlying tn = some (.int kn)) (hi : P.info? e = some i) (hz : i.zero = some (.int k 0)) (h1 : i.size = 1)
    (g sLen sCap : Nat) (cur : Array Value) (hg : w.heap[g]? = some (.cells cur e (0, 0))) (c : Nat) (h0 : 0 < c) (h48 : c * i.bytes ≤ 281474976710656) (hc : (c : Int) ≤ 9223372036854775807) (hroom : sLen + c ≤ sCap) (hfit : sLen + c ≤ cur.size) :
    (Builtin.append_ #[t, tn] ty #[.slice (some ⟨g, 0, none⟩) sLen sCap, .int kx c]).run P w =
      .ok (.slice (some ⟨g, 0, none⟩) (sLen + c) sCap) (w.setRow g (cur.toList.take sLen ++ ints k (List.replicate c 0) ++ cur.toList.drop (sLen + c)).toArray) := by
  have hw : IntKind.i64.wrap (c : Int) = c := by rw [IntKind.wrap_i64]; omega
  have hneg : ¬ ((c : Int) < 0) := by omega
  have hc0 : c ≠ 0 := by omega
  have h48i : ¬ (281474976710656 < (c : Int) * (i.bytes : Int)) := by
    rw [← Int.natCast_mul]
    omega
  have hst := run_storeCells_at P g sLen e (ints k (List.replicate c 0)) 0 cur w hg (by simpa [ints] using hfit) (fun u hu => by obtain ⟨y, _, rfl⟩ := List.mem_map.mp hu; rfl)
  simp only [Nat.add_zero] at hst
  have hzc : (Builtin.zeroCells (Value.int k 0).cells c).toList = ints k (List.replicate c 0) := by
    show (Builtin.zeroCells #[.int k 0] c).toList = _
    rw [zeroCells_ints]
  have hlen : (ints k (List.replicate c 0)).length = c := by simp [ints]
  rw [hlen] at hst
  generalize ints k (List.replicate c 0) = N at hst hzc ⊢
  simp [Builtin.append_, run_underlying ht, run_underlying htn, sizeOf, typeInfo, zeroValue, hi, hz, h1, asInt, asIntOf, hw, hneg, hc0, h48i, hroom, hzc, Addr.add_lit, hst]
theorem append_noughts (base : Nat) (t tn ty e : TypeId) (i : TypeInfo) (kn kx : IntKind) (by_ : Nat) (ht : P.underlying t = some (.slice e)) (htn : P.underlying tn = some (.int kn)) (hi : P.info? e = some i) (hz : i.zero = some (.int k 0)) (h1 : i.size = 1) (hb : i.bytes = by_)
    (v : Value) (n : Nat) (xs : List Value) (own : w.ownsRow base e 1 v n xs) (c : Nat) (hle : (n + c) * (by_ + 1) ≤ 1000000000000) (hbase : base ≤ w.heap.size) :
    ∃ v' w', (Builtin.append_ #[t, tn] ty #[v, .int kx c]).run P w = .ok v' w' ∧ w'.ownsRow base e 1 v' (n + c) (xs ++ ints k (List.replicate c 0)) ∧ w.grownBy w' v.ownBlock := by
  have hle' : (n + c) * by_ + (n + c) ≤ 1000000000000 := by rw [Nat.mul_add, Nat.mul_one] at hle; exact hle
  have hcb : c * by_ ≤ (n + c) * by_ := Nat.mul_le_mul_right _ (by omega)
  subst hb
  have h63 : n + c ≤ maxLen := by unfold maxLen; omega
  have hcl : (ints k (List.replicate c 0)).length = c := by simp [ints]
  have hlen : (xs ++ ints k (List.replicate c 0)).length = (n + c) * 1 := by rw [List.length_append, own.1, hcl, Nat.mul_one, Nat.mul_one]
  have grown : ∀ (old : Nat), old < n + c → ∀ (row : Option Nat),
      (w.drew.alloc (.cells (xs.toArray ++ Builtin.zeroCells (Value.int k 0).cells c ++ Builtin.zeroCells (Value.int k 0).cells (grownCap w (n + c) old e - (n + c))) e)).ownsRow base e 1
        (.slice (some ⟨w.heap.size, 0, none⟩) (n + c) (grownCap w (n + c) old e)) (n + c) (xs ++ ints k (List.replicate c 0)) ∧
      w.grownBy (w.drew.alloc (.cells (xs.toArray ++ Builtin.zeroCells (Value.int k 0).cells c ++ Builtin.zeroCells (Value.int k 0).cells (grownCap w (n + c) old e - (n + c))) e)) row := by
    intro old ho row
    have hge := grownCap_ge w (n + c) old e
    have hcm : grownCap w (n + c) old e ≤ maxLen := grownCap_le_maxLen w (n + c) old e h63
    have hx := own.1
    rw [Nat.mul_one] at hx
    refine ⟨⟨hlen, .inr ⟨w.heap.size, _, _, rfl, hbase, heap_alloc_new w.drew _, hge, hcm, ?_, ?_⟩⟩, ⟨rfl, rfl, rfl, by simp, fun j hk _ => by first | exact heap_alloc_old w.drew _ hk | exact Go.heap_alloc_old w.drew _ j hk⟩⟩
    · simp only [Array.size_append, List.size_toArray, size_zeroCells, Value.cells]
      simp
      omega
    · have hz2 : (Builtin.zeroCells (Value.int k 0).cells c) = (ints k (List.replicate c 0)).toArray := zeroCells_ints c
      rw [hz2]
      simp only [Array.toList_append]
      rw [← hlen]
      exact List.take_left
  by_cases hc0 : c = 0
  · subst hc0
    refine ⟨v, w, ?_, by simpa [ints] using own, ⟨rfl, rfl, rfl, Nat.le_refl _, fun _ _ _ => rfl⟩⟩
    have hw : IntKind.i64.wrap 0 = 0 := rfl
    rcases own.2 with ⟨rfl, rfl⟩ | ⟨g, cap, cur, rfl, _, _, hnc, _⟩
    · simp [Builtin.append_, run_underlying ht, run_underlying htn, sizeOf, typeInfo, hi, asInt, asIntOf, hw]
    · simp [Builtin.append_, run_underlying ht, run_underlying htn, sizeOf, typeInfo, hi, asInt, asIntOf, hw, hnc, storeCells]
  · rcases own.2 with ⟨rfl, rfl⟩ | ⟨g, cap, cur, rfl, hbg, hg, hnc, hcm, hcs, htake⟩
    · have hx : xs = [] := List.eq_nil_of_length_eq_zero (by simpa using own.1)
      subst hx
      have hr := Lib.run_append_nil_zeros (P := P) w t tn ty e i (.int k 0) kx kn ht htn hi hz c (by omega) (by omega) (by omega) (by omega)
      have hgr := grown 0 (by omega) (Value.ownBlock (.slice none 0 0))
      simp only [Nat.zero_add, List.nil_append, Array.empty_append] at hgr ⊢
      exact ⟨_, _, hr, hgr.1, hgr.2⟩
    · by_cases hroom : n + c ≤ cap
      · have hr := run_append_room_noughts (P := P) (k := k) (w := w) t tn ty e i kn kx ht htn hi hz h1 g n cap cur hg c (by omega) (by omega) (by omega) hroom (by rw [hcs, Nat.mul_one]; exact hroom)
        refine ⟨_, _, hr, ⟨hlen, .inr ⟨g, cap, _, rfl, hbg, setRow_heap w g cur _ e _ hg, hroom, hcm, ?_, ?_⟩⟩, ⟨rfl, rfl, rfl, by simp, fun k hk _ => setRow_other w g k _ (fun e => by simp [Value.ownBlock, e] at *)⟩⟩
        · simp only [List.size_toArray, List.length_append, List.length_take, List.length_drop, Array.length_toList, hcl]
          omega
        · have h2 : cur.toList.take n = xs := by rw [← htake, Nat.mul_one]
          rw [h2, ← hlen]
          exact List.take_left
      · have holds : ∀ j u, xs[j]? = some u → w.cell? ((⟨g, 0, none⟩ : Addr).add j) = some u := own.cells (g := g) rfl
        have hold : (Builtin.firstCells i.size n (.slice (some ⟨g, 0, none⟩) n cap)).run P w.drew = .ok xs.toArray w.drew := run_firstCells_some (P := P) w.drew i.size n ⟨g, 0, none⟩ n cap xs (by rw [own.1, h1]) holds
        have hr := Lib.run_append_grow_zeros (P := P) w t tn ty e i (.int k 0) kx kn ht htn hi hz (some ⟨g, 0, none⟩) n cap xs hold c (by omega) (by omega) (by omega) (by omega) (by omega) (by
          have := nextslicecap_le (need := n + c) (old := cap) (by omega)
          have h3 : Builtin.nextslicecap (n + c) cap * i.bytes ≤ 2 * (n + c) * i.bytes := Nat.mul_le_mul_right _ this
          rw [Nat.mul_assoc] at h3
          omega)
        have hgr := grown cap (by omega) (Value.ownBlock (.slice (some ⟨g, 0, none⟩) n cap))
        exact ⟨_, _, hr, hgr.1, hgr.2⟩
/-- The walk at it. -/
theorem walk_noughts {B n cap : Nat} {e : TypeId} {p : Option Addr} {zs : List Int} {ops : Array Oper} {rest : List Oper} {o : Oper} {a : Act} {Q : Exit → Act → World → Prop} (hg : o.guard = none) (s x : Operand) (t tn : TypeId) (ho : o.op = .call { callee := .builtin .append, args := #[s, x], argTypes := #[t, tn] })
    (i : TypeInfo) (kn kx : IntKind) (by_ : Nat) (ht : P.underlying t = some (.slice e)) (htn : P.underlying tn = some (.int kn)) (hi : P.info? e = some i) (hz : i.zero = some (.int k 0)) (h1 : i.size = 1) (hb : i.bytes = by_)
    (own : Mine k e B w p n cap zs) (hs : a.eval s = .slice p n cap) (c : Nat) (hx : a.eval x = .int kx c) (hl : (n + c) * (by_ + 1) ≤ 1000000000000)
    (hbase : B ≤ w.heap.size) {w0 : World} (hB : Below B w0 w)
    (h : ∀ q' n' cap' w', Mine k e B w' q' n' cap' (zs ++ List.replicate c 0) → Below B w0 w' → Hid (n' = n + c) → Hid (w.heap.size ≤ w'.heap.size) → wpList P ops Q rest (a.put o.dst (.slice q' n' cap')) w') : wpList P ops Q (o :: rest) a w := by
  obtain ⟨v', w', r1, r2, r3⟩ := append_noughts (P := P) (k := k) B t tn o.type e i kn kx by_ ht htn hi hz h1 hb _ n (ints k zs) own.own c hl hbase
  obtain ⟨q', cap', rfl, c1, c2⟩ := own_form r2
  refine wpList_plain hg fun _ hK => ?_
  unfold Oper.wp execOp
  simp only [ho, resolve, invoke, builtin, Sem.run_bind, Sem.run_pure, Result.andThen_ok, List.map_toArray, List.map_cons, List.map_nil, hs, hx, r1]
  refine hK _ _ (h q' (n + c) cap' w' ⟨?_, ?_, c1, c2⟩ (hB.grown r3 hbase fun j hj => (own.own.lt j hj).1) (Lib.hid rfl) (Lib.hid r3.size))
  · rw [own.len, List.length_append, List.length_replicate]
  · rw [ints, List.map_append]; exact r2
end

end Go.Proofs.YtdbmkelcgfmclaaDoor
