/- A hasher in memory: a block of 74 cells. No function of the program is named here. -/
import Derived.Test.YtmhehnimgkmmaaaDoorHasMath
import Derived.Test.YtmhehnimgkmmaaaDoorOwn
import Derived.Deep.MidRow
import Derived.Lib.Hide
namespace Go.Proofs.YtmhehnimgkmmaaaDoor
set_option maxRecDepth 100000
open Go.RowKit
set_option linter.unusedVariables false

/-- All blocks but g are as they were. -/
abbrev Only (g : Nat) (w w' : World) : Prop := w.grownBy w' (some g)
section
variable {g B : Nat} {w w1 w2 : World}
theorem Only.refl (g : Nat) (w : World) : Only g w w := ⟨rfl, rfl, rfl, Nat.le_refl _, fun _ _ _ => rfl⟩
theorem Only.of_below (h : Below w.heap.size w w1) : Only g w w1 := ⟨h.os, h.tape, h.output, h.size, fun k hk _ => h.block k hk⟩
theorem Only.trans (h : Only g w w1) (h2 : Only g w1 w2) : Only g w w2 :=
  ⟨h2.os.trans h.os, h2.tape.trans h.tape, h2.output.trans h.output, Nat.le_trans h.size h2.size, fun k hk hn => (h2.block k (Nat.lt_of_lt_of_le hk h.size) hn).trans (h.block k hk hn)⟩
theorem Only.drew (h : Only g w w1) : Only g w w1.drew := ⟨h.os, h.tape, h.output, h.size, h.block⟩
theorem Only.alloc (h : Only g w w1) (o : Obj) : Only g w (w1.alloc o) := h.trans (Only.of_below ((Below.refl _ _).alloc (Nat.le_refl _) o))
theorem Only.call (h : Only g w w1) (hb : Below w1.heap.size w1 w2) : Only g w w2 := h.trans (Only.of_below hb)
theorem Only.setCell (h : Only g w w1) (j : Nat) (v : Value) : Only g w (w1.setCell ⟨g, j, none⟩ v) :=
  h.trans ⟨rfl, rfl, rfl, by simp [World.setCell], fun k _ hn => Below.heap_setCell _ _ _ _ (fun e => hn (by rw [e]))⟩
theorem setCells_frame (g : Nat) : ∀ (vs : List Value) (o : Nat) (w : World), Only g w (w.setCells g o vs) ∧ (w.setCells g o vs).heap.size = w.heap.size
  | [], _, w => ⟨Only.refl g w, rfl⟩
  | v :: r, o, w => by
    obtain ⟨h1, h2⟩ := setCells_frame g r (o + 1) (w.setCell ⟨g, o, none⟩ v)
    rw [World.setCells]
    exact ⟨((Only.refl g w).setCell o v).trans h1, by rw [h2]; simp [World.setCell]⟩
theorem Only.setCells (h : Only g w w1) (o : Nat) (vs : List Value) : Only g w (w1.setCells g o vs) := h.trans (setCells_frame g vs o w1).1
/-- What changed lies in a block from B on: below B all is as it was. -/
theorem Only.below (h : Only g w w1) (hg : B ≤ g) (hB : B ≤ w.heap.size) : Below B w w1 := ⟨h.os, h.tape, h.output, h.size, fun k hk => h.block k (by omega) (fun e => by injection e; omega)⟩
theorem At.only {k : IntKind} {p : Option Addr} {zs : List Int} (h : At k w p zs) (ho : Only g w w1) (hp : ∀ a, p = some a → a.block ≠ g) : At k w1 p zs := by
  rcases h with h | ⟨b, off, e, hl, hc⟩
  · exact Or.inl h
  · have hne : b ≠ g := hp _ e
    exact Or.inr ⟨b, off, e, Nat.lt_of_lt_of_le hl ho.size, fun j hj => (World.cell?_of_block (w := w) (a := ⟨b, off + j, none⟩) (ho.block b hl (fun e => hne (by injection e)))).trans (hc j hj)⟩
end

/-- Block g holds a hasher: its state, the bytes of its last block, how many bytes it has. -/
structure Raw (w : World) (g : Nat) (s : S8) (L : List Int) (n : Nat) : Prop where
  lt : g < w.heap.size
  wide : L.length = 64
  made : w.cell? ⟨g, 0, none⟩ = some (.bool true)
  state : w.rangeAt g 1 (ints .u32 (wordsOf s))
  last : w.rangeAt g 9 (ints .u8 L)
  len : w.cell? ⟨g, 73, none⟩ = some (.int .i64 n)
  free : w.there g 0 74
/-- Its cells. -/
def rawCells (s : S8) (L : List Int) (n : Nat) : List Value := .bool true :: (ints .u32 (wordsOf s) ++ (ints .u8 L ++ [.int .i64 n]))
section
variable {w w' : World} {g n : Nat} {s : S8} {L : List Int}
theorem Raw.same (h : Raw w g s L n) (hb : w'.heap[g]? = w.heap[g]?) (hs : w.heap.size ≤ w'.heap.size) : Raw w' g s L n := by
  have hc : ∀ i, w'.cell? ⟨g, i, none⟩ = w.cell? ⟨g, i, none⟩ := fun i => World.cell?_of_block (w := w) (a := ⟨g, i, none⟩) hb
  have hf : ∀ i, w'.frozen? ⟨g, i, none⟩ = w.frozen? ⟨g, i, none⟩ := fun i => World.frozen?_of_block (w := w) (a := ⟨g, i, none⟩) hb
  exact ⟨Nat.lt_of_lt_of_le h.lt hs, h.wide, (hc 0).trans h.made, fun j v hv => (hc _).trans (h.state j v hv), fun j v hv => (hc _).trans (h.last j v hv), (hc 73).trans h.len,
    fun j hj => ⟨by rw [hc]; exact (h.free j hj).1, by rw [hf]; exact (h.free j hj).2⟩⟩
theorem Raw.call (h : Raw w g s L n) (hb : Below w.heap.size w w') : Raw w' g s L n := h.same (hb.block g h.lt) hb.size
theorem Raw.below {B : Nat} (h : Raw w g s L n) (hb : Below B w w') (hg : g < B) : Raw w' g s L n := h.same (hb.block g hg) hb.size
theorem Raw.alloc (h : Raw w g s L n) (o : Obj) : Raw (w.alloc o) g s L n := h.call ((Below.refl _ _).alloc (Nat.le_refl _) o)
theorem Raw.drew (h : Raw w g s L n) : Raw w.drew g s L n := ⟨h.lt, h.wide, h.made, h.state, h.last, h.len, h.free⟩
theorem Raw.other {G : Nat} (h : Raw w g s L n) (ho : Only G w w') (hg : g ≠ G) : Raw w' g s L n := h.same (ho.block g h.lt (fun e => hg (by injection e))) ho.size
theorem Raw.setLen (h : Raw w g s L n) (m : Nat) : Raw (w.setCell ⟨g, 73, none⟩ (.int .i64 m)) g s L m := by
  have hc : ∀ i, i ≠ 73 → (w.setCell ⟨g, 73, none⟩ (.int .i64 m)).cell? ⟨g, i, none⟩ = w.cell? ⟨g, i, none⟩ := fun i hi => World.cell?_setCell_other _ _ _ _ (fun e => hi (by injection e; omega))
  have w1 := h.wide
  refine ⟨by simp [World.setCell]; exact h.lt, h.wide, (hc 0 (by decide)).trans h.made, fun j v hv => (hc _ ?_).trans (h.state j v hv), fun j v hv => (hc _ ?_).trans (h.last j v hv), World.cell?_setCell_same _ _ _ h.len, fun j hj => ⟨?_, ?_⟩⟩
  · have hj := (List.getElem?_eq_some_iff.1 hv).1
    simp [wordsOf] at hj
    omega
  · have hj := (List.getElem?_eq_some_iff.1 hv).1
    simp only [List.length_map] at hj
    omega
  · by_cases e : 0 + j = 73
    · rw [e, World.cell?_setCell_same _ _ _ h.len]; rfl
    · rw [hc _ e]; exact (h.free j hj).1
  · rw [World.frozen?_setCell]; exact (h.free j hj).2
theorem Raw.setState (h : Raw w g s L n) (t : S8) : Raw (w.setCells g 1 (ints .u32 (wordsOf t))) g t L n := by
  have w1 := h.wide
  have hl : (ints .u32 (wordsOf t)).length = 8 := rfl
  refine ⟨by rw [(setCells_frame g _ _ w).2]; exact h.lt, h.wide, ?_, ?_, ?_, ?_, World.there_setCells h.free _ _ _⟩
  · rw [World.cell?_setCells_out _ _ _ _ _ (fun _ _ => Or.inl (by show 0 < 1; decide))]; exact h.made
  · exact World.rangeAt_setCells_same _ _ _ _ (fun j hj => by have := h.free (1 + j) (by omega); rwa [Nat.zero_add] at this)
  · exact World.rangeAt_setCells_apart h.last _ _ _ (Or.inr (Or.inr (by rw [hl]; decide)))
  · rw [World.cell?_setCells_out _ _ _ _ _ (fun _ _ => Or.inr (by rw [hl]; show 1 + 8 ≤ 73; decide))]; exact h.len
/-- Bytes laid over its last block. -/
theorem Raw.setLast (h : Raw w g s L n) (o : Nat) (xs : List Int) (ho : o + xs.length ≤ 64) : Raw (w.setCells g (9 + o) (ints .u8 xs)) g s (splice L o xs) n := by
  have w1 := h.wide
  have hl : (ints .u8 xs).length = xs.length := List.length_map ..
  refine ⟨by rw [(setCells_frame g _ _ w).2]; exact h.lt, by rw [length_splice _ _ _ (by omega)]; exact w1, ?_, ?_, ?_, ?_, World.there_setCells h.free _ _ _⟩
  · rw [World.cell?_setCells_out _ _ _ _ _ (fun _ _ => Or.inl (by show 0 < 9 + o; omega))]; exact h.made
  · exact World.rangeAt_setCells_apart h.state _ _ _ (Or.inr (Or.inl (by show 1 + 8 ≤ 9 + o; omega)))
  · intro j v hv
    have hsp : ints .u8 (splice L o xs) = splice (ints .u8 L) o (ints .u8 xs) := splice_map _ _ _ _
    rw [hsp, splice] at hv
    have hL : (ints .u8 L).length = 64 := by rw [ints, List.length_map]; exact w1
    by_cases h1 : j < o
    · rw [World.cell?_setCells_out _ _ _ _ _ (fun _ _ => Or.inl (by show 9 + j < 9 + o; omega))]
      refine h.last j v ?_
      rwa [List.getElem?_append_left (by rw [List.length_take]; omega), List.getElem?_take, if_pos h1] at hv
    · rw [List.getElem?_append_right (by rw [List.length_take]; omega), List.length_take, Nat.min_eq_left (by omega)] at hv
      by_cases h2 : j - o < xs.length
      · rw [List.getElem?_append_left (by omega)] at hv
        have := World.rangeAt_setCells_same w g (9 + o) (ints .u8 xs) (fun i hi => by have := h.free (9 + o + i) (by omega); rwa [Nat.zero_add] at this) (j - o) v hv
        rwa [show 9 + o + (j - o) = 9 + j by omega] at this
      · rw [List.getElem?_append_right (by omega), List.getElem?_drop, hl] at hv
        rw [World.cell?_setCells_out _ _ _ _ _ (fun _ _ => Or.inr (by show 9 + o + _ ≤ 9 + j; omega))]
        refine h.last j v ?_
        rwa [show o + xs.length + (j - o - xs.length) = j by omega] at hv
  · rw [World.cell?_setCells_out _ _ _ _ _ (fun _ _ => Or.inr (by show 9 + o + _ ≤ 73; omega))]; exact h.len
theorem splice_whole (L xs : List Int) (h1 : L.length = 64) (h2 : xs.length = 64) : splice L 0 xs = xs := by
  rw [splice, List.take_zero, List.nil_append, List.drop_of_length_le (by omega), List.append_nil]
theorem Raw.setBlock (h : Raw w g s L n) (xs : List Int) (hx : xs.length = 64) : Raw (w.setCells g 9 (ints .u8 xs)) g s xs n := by
  have := h.setLast 0 xs (by omega)
  rwa [splice_whole L xs h.wide hx] at this
/-- All its cells at once. -/
theorem Raw.whole (h : Raw w g s L n) : w.rangeAt g 0 (rawCells s L n) := by
  intro j v hv
  have hl : (ints .u32 (wordsOf s)).length = 8 := rfl
  have hL : (ints .u8 L).length = 64 := by rw [ints, List.length_map]; exact h.wide
  rw [Nat.zero_add]
  unfold rawCells at hv
  cases j with
  | zero => rw [List.getElem?_cons_zero] at hv; injection hv with hv; subst hv; exact h.made
  | succ j =>
    rw [List.getElem?_cons_succ] at hv
    by_cases h1 : j < 8
    · rw [List.getElem?_append_left (by omega)] at hv
      have := h.state j v hv
      rwa [Nat.add_comm] at this
    · rw [List.getElem?_append_right (by omega), hl] at hv
      by_cases h2 : j - 8 < 64
      · rw [List.getElem?_append_left (by omega)] at hv
        have := h.last (j - 8) v hv
        rwa [show 9 + (j - 8) = j + 1 by omega] at this
      · rw [List.getElem?_append_right (by omega), hL] at hv
        have hj := (List.getElem?_eq_some_iff.1 hv).1
        rw [List.length_singleton] at hj
        obtain rfl : j = 72 := by omega
        injection hv with hv
        subst hv
        exact h.len
theorem rawCells_length (hL : L.length = 64) : (rawCells s L n).length = 74 := by simp [rawCells, wordsOf, hL]
theorem rawCells_one : ∀ v ∈ rawCells s L n, v.oneCell' = true := by
  intro v hv
  simp only [rawCells, ints, List.mem_cons, List.mem_append, List.mem_map, List.not_mem_nil, or_false] at hv
  rcases hv with rfl | ⟨x, -, rfl⟩ | ⟨x, -, rfl⟩ | rfl <;> rfl
/-- Out of its cells. -/
theorem Raw.of_whole (hlt : g < w.heap.size) (hL : L.length = 64) (hr : w.rangeAt g 0 (rawCells s L n)) (hf : w.there g 0 74) : Raw w g s L n := by
  have hl : (ints .u32 (wordsOf s)).length = 8 := rfl
  have hLl : (ints .u8 L).length = 64 := by rw [ints, List.length_map]; exact hL
  refine ⟨hlt, hL, hr 0 _ rfl, fun j v hv => ?_, fun j v hv => ?_, ?_, hf⟩
  · have hj := (List.getElem?_eq_some_iff.1 hv).1
    have := hr (j + 1) v (by rw [rawCells, List.getElem?_cons_succ, List.getElem?_append_left hj]; exact hv)
    rwa [show 0 + (j + 1) = 1 + j by omega] at this
  · have hj := (List.getElem?_eq_some_iff.1 hv).1
    have := hr (j + 9) v (by rw [rawCells, show j + 9 = (j + 8) + 1 by omega, List.getElem?_cons_succ, List.getElem?_append_right (by omega), hl, List.getElem?_append_left (by omega), Nat.add_sub_cancel]; exact hv)
    rwa [show 0 + (j + 9) = 9 + j by omega] at this
  · exact hr 73 _ (by rw [rawCells, show (73 : Nat) = 72 + 1 by rfl, List.getElem?_cons_succ, List.getElem?_append_right (by omega), hl, List.getElem?_append_right (by omega), hLl]; rfl)
/-- A new one, all its cells at once. -/
theorem Raw.new (w : World) (cs : Array Value) (t : TypeId) (hc : cs = (rawCells s L n).toArray) (hL : L.length = 64) : Raw (w.alloc (.cells cs t)) w.heap.size s L n := by
  subst hc
  have hn := rawCells_length (s := s) (n := n) hL
  refine Raw.of_whole (by simp) hL (fun j v hv => by simpa [go_sem] using hv) (fun j hj => ⟨?_, by simp [go_sem]⟩)
  have : ((rawCells s L n)[0 + j]?).isSome = true := by rw [Nat.zero_add, List.getElem?_eq_getElem (by omega)]; rfl
  simpa [go_sem] using this
/-- A new variable, into which all cells are stored. -/
theorem Raw.stored (w : World) (cs : Array Value) (t : TypeId) (hc : cs.size = 74) (hL : L.length = 64) : Raw ((w.alloc (.cells cs t)).setCells w.heap.size 0 (rawCells s L n)) w.heap.size s L n := by
  have hn := rawCells_length (s := s) (n := n) hL
  have hf : (w.alloc (.cells cs t)).there w.heap.size 0 74 := fun j hj => by
    refine ⟨?_, by simp [go_sem]⟩
    have : (cs[0 + j]?).isSome = true := by rw [Nat.zero_add, Array.getElem?_eq_getElem (by omega)]; rfl
    simpa [go_sem] using this
  exact Raw.of_whole (by rw [(setCells_frame _ _ _ _).2]; simp) hL (World.rangeAt_setCells_same _ _ _ _ (fun j hj => hf j (by omega))) (World.there_setCells hf _ _ _)
end

/-- Block g holds a hasher that has these bytes. -/
abbrev Has (w : World) (g : Nat) (l : List Int) : Prop := Raw w g (hstate l) (hlast l) l.length

theorem take_min (xs : List Int) (k : Nat) : xs.take (Nat.min xs.length k) = xs.take k := by
  rcases Nat.le_total xs.length k with h | h
  · rw [show Nat.min xs.length k = xs.length from Nat.min_eq_left h, List.take_of_length_le (Nat.le_refl _), List.take_of_length_le h]
  · rw [show Nat.min xs.length k = k from Nat.min_eq_right h]
/-- The walk at a copy into a hasher's last block. -/
theorem walk_last {P : Program} {w : World} {ops : Array Oper} {rest : List Oper} {o : Oper} {a : Act} {Q : Exit → Act → World → Prop} (hgd : o.guard = none) (d s : Operand) (dT sT : TypeId)
    (ho : o.op = .call { callee := .builtin .copy, args := #[d, s], argTypes := #[dT, sT] }) (elem : TypeId) (hu : P.underlying dT = some (.slice elem)) (hsz : (P.info? elem).map (·.size) = some 1)
    {g at_ m c : Nat} (hd : a.eval d = .slice (some ⟨g, 9 + at_, none⟩) m c) (hm : m = 64 - at_) {S : S8} {L : List Int} {N : Nat} (hR : Raw w g S L N)
    {p : Option Addr} {n c' : Nat} (hs : a.eval s = .slice p n c') {xs : List Int} (hx : At .u8 w p xs) (hn : n = xs.length) {w0 : World} (hO : Only g w0 w) {r : Nat} (hr : Nat.min n m = r) {ys : List Int} (hys : xs.take r = ys)
    (h : ∀ w', Raw w' g S (splice L at_ ys) N → Only g w0 w' → wpList P ops Q rest (a.put o.dst (goInt r)) w') : wpList P ops Q (o :: rest) a w := by
  subst hn hm
  rw [← hr, take_min] at hys
  subst hr hys
  have hlen : (ints .u8 (xs.take (64 - at_))).length = Nat.min xs.length (64 - at_) := by rw [ints, List.length_map, List.length_take, Nat.min_comm]
  refine wpList_plain hgd fun K hK => ?_
  by_cases h0 : Nat.min xs.length (64 - at_) = 0
  · have hrun := run_copy_none (P := P) w dT sT o.type elem (some ⟨g, 9 + at_, none⟩) p (64 - at_) c xs.length c' hu hsz h0
    unfold Oper.wp
    simp [execOp, ho, resolve, invoke, builtin, hd, hs, hrun, Result.andThen]
    have e : xs.take (64 - at_) = [] := List.eq_nil_of_length_eq_zero (by rw [ints, List.length_map] at hlen; omega)
    refine hK _ _ ?_
    have := h w (by rw [e]; have e2 : splice L at_ [] = L := by simp [splice]
                    rw [e2]; exact hR) hO
    rwa [h0] at this
  · have hpos : 0 < xs.length ∧ 0 < 64 - at_ := by
      have h1 := Nat.min_le_left xs.length (64 - at_)
      have h2 := Nat.min_le_right xs.length (64 - at_)
      have h3 : 0 < Nat.min xs.length (64 - at_) := Nat.pos_of_ne_zero h0
      exact ⟨Nat.lt_of_lt_of_le h3 h1, Nat.lt_of_lt_of_le h3 h2⟩
    rcases hx with rfl | ⟨b, off, rfl, hbl, hcs⟩
    · exact absurd hpos.1 (by simp)
    have htl : (xs.take (64 - at_)).length ≤ 64 - at_ := by rw [List.length_take]; omega
    have hrun := run_copy_cells (P := P) w dT sT o.type elem g (9 + at_) (64 - at_) c ⟨b, off, none⟩ xs.length c' (ints .u8 (xs.take (64 - at_))) hu hsz hlen
      (fun j v hv => by
        rw [ints, List.getElem?_map, List.getElem?_take] at hv
        by_cases hj : j < 64 - at_
        · rw [if_pos hj] at hv
          cases hxj : xs[j]? with
          | none => rw [hxj] at hv; cases hv
          | some y =>
            rw [hxj] at hv
            injection hv with hv
            have hj2 := (List.getElem?_eq_some_iff.1 hxj).1
            rw [Addr.add_mid, hcs j hj2, List.getD_eq_getElem?_getD, hxj, ← hv]; rfl
        · rw [if_neg hj] at hv; cases hv)
      (fun j hj => by have := (hR.free (9 + at_ + j) (by rw [ints, List.length_map] at hj; omega)).1; rwa [Nat.zero_add] at this)
      (fun j hj => by have := (hR.free (9 + at_ + j) (by rw [ints, List.length_map] at hj; omega)).2; rwa [Nat.zero_add] at this)
      (fun v hv => by rw [ints] at hv; obtain ⟨x, -, rfl⟩ := List.mem_map.mp hv; rfl)
    unfold Oper.wp
    simp [execOp, ho, resolve, invoke, builtin, hd, hs, hrun, Result.andThen]
    refine hK _ _ ?_
    have := h _ (hR.setLast at_ (xs.take (64 - at_)) (by omega)) (hO.setCells _ _)
    rw [← hlen] at this
    simpa using this

end Go.Proofs.YtmhehnimgkmmaaaDoor
