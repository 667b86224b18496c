/- Keys that lead to one another, as lists of integers; rows of arrays of bytes, one behind the other; a string's bytes. No function of the program is named here. -/
import Derived.Test.YtmhehnimgkmmaaaDoorMacB
import Derived.Test.YtmhehnimgkmmaaaDoorMacMath
import Derived.Laws.CopyOwn
import Derived.Maps.AppendAt
import Derived.ArgAppend
import Derived.Lib.ConvBytes
import Derived.Lib.SlBytesConst
import Derived.Laws.MakeOwn
import Derived.Great.BuildSlice
namespace Go.Proofs.YtmhehnimgkmmaaaDoor
set_option maxRecDepth 100000
open Go.RowKit
set_option linter.unusedVariables false
attribute [local go_sem] cell_re

/-- The bytes ahead of a key. -/
def preL : List Int := [112, 101, 108, 111, 114, 117, 115, 46, 99, 104, 97, 105, 110]
theorem preL_byted : Byted preL := by unfold Byted preL; decide
/-- A key's next one. -/
def nextL (k : List Int) : List Int := sha (preL ++ k)
/-- The key so many steps on. -/
def keyAt (k : List Int) : Nat → List Int
  | 0 => k
  | n + 1 => nextL (keyAt k n)
theorem nextL_length (k : List Int) : (nextL k).length = 32 := rfl
theorem nextL_byted (k : List Int) : Byted (nextL k) := sha_byted _
theorem keyAt_length {k : List Int} (h : k.length = 32) : ∀ n, (keyAt k n).length = 32
  | 0 => h
  | n + 1 => nextL_length _
theorem keyAt_byted {k : List Int} (h : Byted k) : ∀ n, Byted (keyAt k n)
  | 0 => h
  | n + 1 => nextL_byted _
theorem keyAt_add (k : List Int) (n : Nat) : ∀ m, keyAt (keyAt k n) m = keyAt k (n + m)
  | 0 => rfl
  | m + 1 => by show nextL _ = nextL _; rw [keyAt_add k n m]; rfl
/-- The first n keys, one behind the other. -/
def chainTo (k : List Int) (n : Nat) : List (List Int) := (List.range n).map (keyAt k)
theorem chainTo_length (k : List Int) (n : Nat) : (chainTo k n).length = n := by simp [chainTo]
theorem chainTo_succ (k : List Int) (n : Nat) : chainTo k n ++ [keyAt k n] = chainTo k (n + 1) := by simp [chainTo, List.range_succ]
theorem chainTo_get (k : List Int) (n i : Nat) (h : i < n) : (chainTo k n).getD i [] = keyAt k i := by
  rw [chainTo, List.getD_eq_getElem?_getD, List.getElem?_map, List.getElem?_range h]; rfl
/-- Their bytes. -/
def keysTo (k : List Int) (n : Nat) : List Int := (chainTo k n).flatten
theorem keysTo_zero (k : List Int) : keysTo k 0 = [] := rfl
theorem keysTo_succ (k : List Int) (n : Nat) : keysTo k n ++ keyAt k n = keysTo k (n + 1) := by
  unfold keysTo; rw [← chainTo_succ, List.flatten_append]; simp
theorem keysTo_one (k : List Int) : keysTo k 1 = k := by rw [← keysTo_succ]; simp [keysTo_zero, keyAt]
theorem keysTo_length {k : List Int} (h : k.length = 32) : ∀ n, (keysTo k n).length = n * 32
  | 0 => rfl
  | n + 1 => by rw [← keysTo_succ, List.length_append, keysTo_length h n, keyAt_length h]; omega
theorem keysTo_byted {k : List Int} (h : Byted k) : ∀ n, Byted (keysTo k n)
  | 0 => fun x hx => by cases hx
  | n + 1 => by rw [← keysTo_succ]; exact (keysTo_byted h n).append (keyAt_byted h n)
/-- Each key lies where it should. -/
theorem keysTo_part {k : List Int} (h : k.length = 32) (i : Nat) : ∀ n, i < n → ((keysTo k n).drop (i * 32)).take 32 = keyAt k i
  | 0, hi => absurd hi (Nat.not_lt_zero _)
  | n + 1, hi => by
    rw [← keysTo_succ]
    by_cases hlt : i < n
    · rw [List.drop_append_of_le_length (by rw [keysTo_length h]; omega), List.take_append_of_le_length (by rw [List.length_drop, keysTo_length h]; omega)]
      exact keysTo_part h i n hlt
    · obtain rfl : i = n := by omega
      have e : i * 32 = (keysTo k i).length := (keysTo_length h i).symm
      rw [e, List.drop_left, List.take_of_length_le (by rw [keyAt_length h]; exact Nat.le_refl _)]
/-- A row that is filled key by key. -/
def filledTo (k : List Int) (n i : Nat) : List Int := keysTo k i ++ List.replicate ((n - i) * 32) 0
theorem filledTo_zero (k : List Int) (n : Nat) : filledTo k n 0 = List.replicate (n * 32) 0 := by simp [filledTo, keysTo_zero]
theorem filledTo_all (k : List Int) (n : Nat) : filledTo k n n = keysTo k n := by simp [filledTo]
theorem filledTo_length {k : List Int} (h : k.length = 32) (n i : Nat) (hi : i ≤ n) : (filledTo k n i).length = n * 32 := by
  rw [filledTo, List.length_append, keysTo_length h, List.length_replicate]; omega
theorem filledTo_succ {k : List Int} (h : k.length = 32) (n i : Nat) (hi : i < n) : splice (filledTo k n i) (i * 32) (keyAt k i) = filledTo k n (i + 1) := by
  have e : i * 32 = (keysTo k i).length := (keysTo_length h i).symm
  unfold splice filledTo
  rw [keyAt_length h, List.take_append_of_le_length (by omega), List.take_of_length_le (by omega), ← List.append_assoc, keysTo_succ]
  congr 1
  rw [List.drop_append, List.drop_eq_nil_of_le (by omega), List.nil_append, List.drop_replicate]
  congr 1
  omega
/-- The fewest steps among the first n. -/
def found (k c : List Int) (n : Nat) : Option Nat := (List.range n).find? fun i => decide (keyAt k i = c)
theorem found_none {k c : List Int} {n : Nat} (h : ∀ i, i < n → keyAt k i ≠ c) : found k c n = none := by
  unfold found
  rw [List.find?_eq_none]
  intro i hi
  simpa using h i (List.mem_range.mp hi)
theorem found_some {k c : List Int} {n i : Nat} (hi : i < n) (h : keyAt k i = c) (hb : ∀ j, j < i → keyAt k j ≠ c) : found k c n = some i := by
  unfold found
  rw [List.find?_eq_some_iff_append]
  refine ⟨by simpa using h, List.range i, (List.range (n - (i + 1))).map (fun x => x + (i + 1)), ?_, fun j hj => by simpa using hb j (List.mem_range.mp hj)⟩
  apply List.ext_getElem?
  intro q
  by_cases hq : q < n
  · rw [List.getElem?_range hq]
    by_cases h1 : q < i
    · rw [List.getElem?_append_left (by simpa using h1), List.getElem?_range h1]
    · rw [List.getElem?_append_right (by simp; omega)]
      by_cases h2 : q = i
      · subst h2; simp
      · obtain ⟨d, rfl⟩ : ∃ d, q = i + 1 + d := ⟨q - (i + 1), by omega⟩
        rw [List.length_range, show i + 1 + d - i = d + 1 by omega, List.getElem?_cons_succ, List.getElem?_map, List.getElem?_range (by omega)]
        simp; omega
  · rw [List.getElem?_eq_none (by simp; omega), List.getElem?_eq_none (by simp; omega)]
/-- What Find answers: the steps, and the error (27 stands for ErrNone's number, given). -/
def findN (k c : List Int) (n : Nat) : Int := match found k c n with | some i => i | none => 0
def findE (ko : Int) (k c : List Int) (n : Nat) : Int := match found k c n with | some _ => 0 | none => ko
theorem findN_none {k c : List Int} {n : Nat} (h : ∀ i, i < n → keyAt k i ≠ c) : findN k c n = 0 := by unfold findN; rw [found_none h]
theorem findE_none {ko : Int} {k c : List Int} {n : Nat} (h : ∀ i, i < n → keyAt k i ≠ c) : findE ko k c n = ko := by unfold findE; rw [found_none h]
theorem findN_some {k c : List Int} {n i : Nat} (hi : i < n) (h : keyAt k i = c) (hb : ∀ j, j < i → keyAt k j ≠ c) : findN k c n = i := by unfold findN; rw [found_some hi h hb]
theorem findE_some {ko : Int} {k c : List Int} {n i : Nat} (hi : i < n) (h : keyAt k i = c) (hb : ∀ j, j < i → keyAt k j ≠ c) : findE ko k c n = 0 := by unfold findE; rw [found_some hi h hb]
/-- A number in so many bytes, the highest first. -/
def bigs : Nat → Int → List Int
  | 0, _ => []
  | n + 1, x => bigs n (x / 256) ++ [x % 256]
theorem bigs_len : ∀ (n : Nat) (x : Int), (bigs n x).length = n
  | 0, _ => rfl
  | n + 1, x => by rw [bigs, List.length_append, bigs_len n]; rfl
theorem bigs_byted : ∀ (n : Nat) (x : Int), Byted (bigs n x)
  | 0, _ => fun x hx => by cases hx
  | n + 1, x => (bigs_byted n _).append fun y hy => by
    rw [List.mem_singleton] at hy
    subst hy
    omega
theorem bigs_cons : ∀ (k : Nat) (u : Int), bigs (k + 1) u = [u / 256 ^ k % 256] ++ bigs k u
  | 0, u => by simp [bigs]
  | k + 1, u => by
    rw [bigs, bigs_cons k, List.append_assoc]
    show _ = [u / 256 ^ (k + 1) % 256] ++ (bigs k (u / 256) ++ [u % 256])
    rw [Int.pow_succ, Int.mul_comm, ← Int.ediv_ediv_of_nonneg (by decide)]
theorem big_next (u : Int) (k : Nat) : u / 256 ^ (k + 1) = u / 256 ^ k / 256 := by
  rw [Int.pow_succ, Int.ediv_ediv_of_nonneg (Int.le_of_lt (Int.pow_pos (by decide)))]
theorem bigs8 (n : Int) : bigs 8 n = [n / 72057594037927936 % 256, n / 281474976710656 % 256, n / 1099511627776 % 256, n / 4294967296 % 256, n / 16777216 % 256, n / 65536 % 256, n / 256 % 256, n % 256] := by
  simp only [bigs, List.nil_append, List.cons_append, List.cons.injEq, and_true]
  omega
/-- The first bytes of a row of m, and noughts behind them. -/
def headTo (l : List Int) (m i : Nat) : List Int := l.take i ++ List.replicate (m - i) 0
theorem headTo_zero (l : List Int) (m : Nat) : headTo l m 0 = List.replicate m 0 := by simp [headTo]
theorem headTo_all {l : List Int} {m : Nat} (h : l.length = m) : headTo l m m = l := by subst h; simp [headTo]
theorem headTo_length {l : List Int} {m : Nat} (h : l.length = m) (i : Nat) (hi : i ≤ m) : (headTo l m i).length = m := by
  rw [headTo, List.length_append, List.length_take, List.length_replicate]; omega
theorem headTo_succ {l : List Int} {m : Nat} (h : l.length = m) (i : Nat) (hi : i < m) : (headTo l m i).set i (l.getD i 0) = headTo l m (i + 1) := by
  unfold headTo
  have h1 : (l.take i).length = i := by rw [List.length_take]; omega
  rw [List.set_append_right _ _ (by omega), h1, Nat.sub_self, show m - i = (m - (i + 1)) + 1 by omega, List.replicate_succ, List.set_cons_zero]
  rw [List.take_succ_eq_append_getElem (by omega), List.append_assoc, List.getD_eq_getElem?_getD, List.getElem?_eq_getElem (by omega)]
  rfl
/-- A key derived by a label and a number. -/
def derivedL (k l : List Int) (n : Int) : List Int := codeL k (l ++ [0] ++ bigs 8 n)
theorem derivedL_length (k l : List Int) (n : Int) : (derivedL k l n).length = 32 := rfl

section
variable {k : IntKind} {w w' : World} {p : Option Addr} {zs : List Int}
/-- Some of the integers, as cells from a place on. -/
theorem At.lies (h : At k w p zs) (i n : Nat) (hn : 0 < n) (hi : i + n ≤ zs.length) : ∃ b off, p = some ⟨b, off, none⟩ ∧ b < w.heap.size ∧ w.rangeAt b (off + i) (ints k ((zs.drop i).take n)) := by
  rcases h with rfl | ⟨b, off, rfl, hb, hc⟩
  · simp at hi; omega
  · refine ⟨b, off, rfl, hb, fun j v hv => ?_⟩
    rw [ints, List.getElem?_map] at hv
    cases hx : ((zs.drop i).take n)[j]? with
    | none => rw [hx] at hv; cases hv
    | some y =>
      rw [hx] at hv
      injection hv with hv
      subst hv
      have hj := (List.getElem?_eq_some_iff.1 hx).1
      rw [List.length_take, List.length_drop] at hj
      rw [List.getElem?_take, if_pos (by omega), List.getElem?_drop] at hx
      have := hc (i + j) (by omega)
      rw [List.getD_eq_getElem?_getD, hx] at this
      rw [Nat.add_assoc]
      exact this
theorem range_below {b o B : Nat} {cs : List Value} (h : w.rangeAt b o cs) (hb : Below B w w') (hlt : b < B) : w'.rangeAt b o cs := fun j v hv => (hb.cell (p := ⟨b, o + j, none⟩) hlt).trans (h j v hv)
end
section
variable {P : Program} {w : World} {ops : Array Oper} {rest : List Oper} {o : Oper} {a : Act} {Q : Exit → Act → World → Prop}
/-- The walk where an array that lies in a row is read; where one is stored in a row. -/
theorem walk_readAt (hg : o.guard = none) (T : TypeId) (x : Operand) (ho : o.op = .load T x) {k : IntKind} {zs : List Int} {g off : Nat} (hA : w.rangeAt g off (ints k zs)) (hx : a.eval x = .pointer (some ⟨g, off, none⟩))
    (n : Nat) (E : TypeId) (hu : P.underlying T = some (.array n E)) (hi : (P.info? T).map (·.size) = some n) (hn : zs.length = n) (X : Array Value) (hX : Hid ((ints k zs).toArray = X))
    (h : wpList P ops Q rest (a.put o.dst (.agg X)) w) : wpList P ops Q (o :: rest) a w := by
  refine wpList_load_mid hg T x ho g off hx (ints k zs) _ hA hu rfl (by rw [hi, ints, List.length_map, hn]) ?_
  rw [hX.out]
  exact h
theorem walk_storeAt (hg : o.guard = none) (T : TypeId) (x y : Operand) (ho : o.op = .store T x y) {k : IntKind} {zs ys : List Int} {g i : Nat} (hA : Arr k w g zs) (hx : a.eval x = .pointer (some ⟨g, i, none⟩))
    (X : Array Value) (hX : Hid ((ints k ys).toArray = X)) (hy : a.eval y = .agg X) (hi : (P.info? T).map (·.size) = some ys.length) (hfit : i + ys.length ≤ zs.length)
    (h : ∀ w', Arr k w' g (splice zs i ys) → w'.heap.size = w.heap.size → Only' g w w' → wpList P ops Q rest (a.put o.dst undef) w') : wpList P ops Q (o :: rest) a w := by
  have hs : (ints k ys).toArray.size = ys.length := by simp
  have := hX.out
  subst this
  refine wpList_store_mid hg T x y ho g i (ints k ys).toArray hx hy (by rw [hs]; exact fun j hj => ⟨by rw [hA.c (i + j) (by omega)]; rfl, hA.f (i + j) (by omega)⟩) (by rw [hs]; exact hi) (ints_one k ys) ?_
  exact h _ (hA.splices ys i hfit) (size_setCells _ _ _ _) ⟨rfl_setCells g (ints k ys) i w, fun j hj => other_setCells g (ints k ys) i w j hj⟩
theorem made_rows (k : IntKind) (m n : Nat) (hm : 0 < m) : madeCells (ints k (List.replicate m 0)).toArray n = (ints k (List.replicate n 0)).toArray := by
  apply Array.ext
  · simp [madeCells]
  · intro i h1 h2
    have : i % m < m := Nat.mod_lt _ hm
    simp [madeCells, this]
/-- The walk where a row of arrays of noughts is made. -/
theorem walk_makeN (hg : o.guard = none) (t e : TypeId) (x y : Operand) (ho : o.op = .makeSlice t x y) (k : IntKind) (i : TypeInfo) (m : Nat) (hm : 0 < m) (ht : P.underlying t = some (.slice e)) (hi : P.info? e = some i) (hz : i.zero = some (.agg (ints k (List.replicate m 0)).toArray)) (h1 : i.size = m) (hb : i.bytes ≤ 1000)
    (n : Nat) (hx : a.eval x = .int .i64 n) (hy : a.eval y = .int .i64 n) (hn : n ≤ 1000000)
    (h : ∀ w', Arr k w' w.heap.size (List.replicate (n * m) 0) → Below w.heap.size w w' → w'.heap.size = w.heap.size + 1 → wpList P ops Q rest (a.put o.dst (.slice (some ⟨w.heap.size, 0, none⟩) n n)) w') : wpList P ops Q (o :: rest) a w := by
  have hr := run_make (P := P) w t e i (.agg (ints k (List.replicate m 0)).toArray) ht hi hz .i64 .i64 n n (by omega) (Int.le_refl _) (by
    have : (i.bytes : Int) ≤ 1000 := by omega
    have h2 : (n : Int) ≤ 1000000 := by omega
    have h3 := Int.mul_le_mul this h2 (by omega) (by omega)
    omega) (by omega)
  rw [h1, Int.toNat_natCast, show (Value.agg (ints k (List.replicate m 0)).toArray).cells = (ints k (List.replicate m 0)).toArray from rfl, made_rows k m _ hm] at hr
  refine wpList_plain hg fun K hK => ?_
  unfold Oper.wp execOp
  simp only [ho, hx, hy, hr, Sem.run_bind, Sem.run_pure, Result.andThen_ok]
  exact hK _ _ (h _ (Arr.new w _ _ e rfl) ((Below.refl _ _).alloc (Nat.le_refl _) _) (by simp))
end
/-- p leads to n arrays of m cells of the call's own, one behind the other: these integers. -/
structure Block (k : IntKind) (e : TypeId) (m : Nat) (B : Nat) (w : World) (p : Option Addr) (n cap : Nat) (zs : List Int) : Prop where
  len : zs.length = n * m
  own : w.ownsRow B e m (.slice p n cap) n (ints k zs)
  hi : n ≤ cap
  top : cap ≤ maxLen
section
variable {k : IntKind} {e : TypeId} {B n cap m : Nat} {w w' : World} {p : Option Addr} {zs : List Int}
theorem Block.call (h : Block k e m B w p n cap zs) (hb : Below w.heap.size w w') : Block k e m B w' p n cap zs :=
  ⟨h.len, h.own.kept (row := none) ⟨hb.os, hb.tape, hb.output, hb.size, fun j hj _ => hb.block j hj⟩ (by cases hv : (Value.slice p n cap).ownBlock <;> simp), h.hi, h.top⟩
theorem Block.at_ (h : Block k e m B w p n cap zs) : At k w p zs := by
  rcases h.own.2 with ⟨hv, hn⟩ | ⟨g, cap', cur, hv, hb, hg, -⟩
  · have := h.len
    rw [hn, Nat.zero_mul] at this
    exact Or.inl (List.eq_nil_of_length_eq_zero this)
  · injection hv with h1 h2 h3
    subst h1
    refine Or.inr ⟨g, 0, rfl, ?_, fun j hj => ?_⟩
    · rcases Nat.lt_or_ge g w.heap.size with h' | h'
      · exact h'
      · rw [Array.getElem?_eq_none h'] at hg; cases hg
    · have := h.own.cells (g := g) rfl j (.int k (zs.getD j 0)) (by rw [ints, List.getElem?_map, List.getD_eq_getElem?_getD, List.getElem?_eq_getElem hj]; rfl)
      rw [Addr.add_mid] at this
      exact this
theorem Block.lit (w : World) (zs : List Int) (cs : Array Value) (n : Nat) (hc : cs = (ints k zs).toArray) (hn : zs.length = n * m) (hb : B ≤ w.heap.size) (hm : n ≤ maxLen) : Block k e m B (w.alloc (.cells cs e)) (some ⟨w.heap.size, 0, none⟩) n n zs := by
  subst hc
  exact ⟨hn, World.ownsRow_lit (base := B) (e := e) (size := m) w (ints k zs).toArray n hb hm (by simpa using hn), Nat.le_refl _, hm⟩
theorem block_form {w : World} {base n size : Nat} {e : TypeId} {v : Value} {xs : List Value} (h : w.ownsRow base e size v n xs) : ∃ p cap, v = .slice p n cap ∧ n ≤ cap ∧ cap ≤ maxLen := by
  rcases h.2 with ⟨h1, h2⟩ | ⟨g, cap, cur, h1, -, -, h2, h3, -⟩
  · subst h2; exact ⟨none, 0, h1, Nat.le_refl _, Nat.zero_le _⟩
  · exact ⟨_, cap, h1, h2, h3⟩
theorem block_low {w : World} {base n size : Nat} {e : TypeId} {v : Value} {xs : List Value} (h : w.ownsRow base e size v n xs) : ∀ j, v.ownBlock = some j → base ≤ j := fun j hj => by
  rcases h.2 with ⟨h1, h2⟩ | ⟨g, cap, cur, h1, hb, -⟩
  · subst h1; cases hj
  · subst h1; injection hj with hj; subst hj; exact hb
variable {P : Program}
/-- The walk at an append of one array to a row of the call's own. -/
theorem walk_block {ops : Array Oper} {rest : List Oper} {o : Oper} {a : Act} {Q : Exit → Act → World → Prop} (hg : o.guard = none) (s x : Operand) (t : TypeId) (ho : o.op = .call { callee := .builtin .append, args := #[s, x], argTypes := #[t, t] })
    (i : TypeInfo) (z : Value) (by_ : Nat) (hm0 : 0 < m) (ht : P.underlying t = some (.slice e)) (hi : P.info? e = some i) (hz : i.zero = some z) (h1 : i.size = m) (hb : i.bytes = by_) (hc : z.cells.size = m)
    (own : Block k e m B w p n cap zs) (hs : a.eval s = .slice p n cap) {q : Option Addr} {c : Nat} {ys : List Int} (hy : At k w q ys) (hm : ys.length = m) (hx : a.eval x = .slice q 1 c) (hl : (n + 1) * (by_ + 1) ≤ 1000000000)
    (hbase : B ≤ w.heap.size) {w0 : World} (hB : Below B w0 w)
    (h : ∀ q' n' cap' w', Block k e m B w' q' n' cap' (zs ++ ys) → Below B w0 w' → Hid (n' = n + 1) → Hid (w.heap.size ≤ w'.heap.size) → wpList P ops Q rest (a.put o.dst (.slice q' n' cap')) w') : wpList P ops Q (o :: rest) a w := by
  obtain ⟨b, off, rfl, hbl, hcs⟩ : ∃ b off, q = some ⟨b, off, none⟩ ∧ b < w.heap.size ∧ ∀ j, j < ys.length → w.cell? ⟨b, off + j, none⟩ = some (.int k (ys.getD j 0)) := by
    rcases hy with h0 | h0
    · rw [h0] at hm; simp at hm; omega
    · exact h0
  have hle : (n + 1) * by_ ≤ (n + 1) * (by_ + 1) := Nat.mul_le_mul_left _ (Nat.le_succ _)
  have hn1 : n + 1 ≤ (n + 1) * (by_ + 1) := Nat.le_mul_of_pos_right _ (Nat.succ_pos _)
  refine wpList_append_own_at (P := P) w hg s x t ho B e i z m by_ ht hi hz h1 hb hc hm0 _ n (ints k zs) hs own.own ⟨b, off, none⟩ 1 c (ints k ys) hx (by rw [ints, List.length_map, hm, Nat.one_mul]) (fun j u hu => ?_) (fun u hu => ?_) (by unfold maxLen; omega) (by omega) hbase fun v' w' own' grow _ _ => ?_
  · rw [ints, List.getElem?_map] at hu
    cases hxj : ys[j]? with
    | none => rw [hxj] at hu; cases hu
    | some y =>
      rw [hxj] at hu
      injection hu with hu
      have hj := (List.getElem?_eq_some_iff.1 hxj).1
      rw [Addr.add_mid, hcs j hj, List.getD_eq_getElem?_getD, hxj, ← hu]; rfl
  · rw [ints] at hu
    obtain ⟨y, -, rfl⟩ := List.mem_map.mp hu
    rfl
  obtain ⟨q', cap', rfl, c1, c2⟩ := block_form own'
  refine h q' (n + 1) cap' w' ⟨?_, ?_, c1, c2⟩ (hB.grown grow hbase (block_low own.own)) (Lib.hid rfl) (Lib.hid grow.size)
  · rw [List.length_append, own.len, hm, Nat.add_mul, Nat.one_mul]
  · rw [ints, List.map_append]; exact own'
end
theorem fold_set (l : List Value) : ∀ (o : Nat) (cs : Array Value), o + l.length ≤ cs.size → ((l.zipIdx o).foldl (fun (cs : Array Value) (x : Value × Nat) => cs.setIfInBounds (0 + x.2) x.1) cs).toList = cs.toList.take o ++ (l ++ cs.toList.drop (o + l.length)) := by
  induction l with
  | nil => intro o cs _; simp
  | cons v r ih =>
    intro o cs h
    rw [List.length_cons] at h
    rw [List.zipIdx_cons, List.foldl_cons, ih (o + 1) _ (by rw [Array.size_setIfInBounds]; omega), Array.toList_setIfInBounds, Nat.zero_add]
    have hl : o < cs.toList.length := by rw [Array.length_toList]; omega
    have h1 : (cs.toList.set o v).take (o + 1) = cs.toList.take o ++ [v] := by
      rw [List.take_succ_eq_append_getElem (by rw [List.length_set]; exact hl), List.take_set_of_le (Nat.le_refl _)]
      simp
    have h2 : (cs.toList.set o v).drop (o + 1 + r.length) = cs.toList.drop (o + (r.length + 1)) := by
      rw [List.drop_set_of_lt (by omega)]; congr 1; omega
    show (cs.toList.set o v).take (o + 1) ++ (r ++ (cs.toList.set o v).drop (o + 1 + r.length)) = _
    rw [h1, h2, List.length_cons, List.append_assoc]
    rfl
theorem fill_one (m : Nat) (X cells : Array Value) (hX : X.size = m) (hc : cells.size = m) : Instr.fill (fun i => some (i * m, m)) cells [(0, .agg X)] = some X := by
  have hv : (Value.agg X).cells = X := rfl
  have h := fold_set X.toList 0 cells (by rw [Array.length_toList]; omega)
  rw [List.take_zero, List.nil_append, Nat.zero_add, Array.length_toList, List.drop_of_length_le (by rw [Array.length_toList]; omega), List.append_nil] at h
  have e : X.zipIdx.foldl (fun (cs : Array Value) (x : Value × Nat) => cs.setIfInBounds (0 * m + x.2) x.1) cells = X := by
    rw [Nat.zero_mul, ← Array.foldl_toList, Array.toList_zipIdx]
    exact Array.toList_inj.mp h
  simp only [Instr.fill, hv]
  rw [if_neg (by simp [hX, hc])]
  exact congrArg some e
section
variable {P : Program} {w : World} {ops : Array Oper} {rest : List Oper} {o : Oper} {a : Act} {Q : Exit → Act → World → Prop}
/-- The walk where a row of one array is made. -/
theorem walk_row1 (hg : o.guard = none) (t e : TypeId) (x : Operand) (ho : o.op = .buildSlice t 1 #[(0, x)]) {k : IntKind} {m : Nat} (hm : 0 < m) (hm2 : m ≤ 1000) (i : TypeInfo) (hu : P.underlying t = some (.slice e)) (hi : P.info? e = some i) (hz : i.zero = some (.agg (ints k (List.replicate m 0)).toArray)) (h1 : i.size = m)
    {ys : List Int} (hy : ys.length = m) (X : Array Value) (hX : Hid ((ints k ys).toArray = X)) (hx : a.eval x = .agg X) {B : Nat} {w0 : World} (hB : Below B w0 w) (hBw : B ≤ w.heap.size)
    (h : ∀ w', Block k e m B w' (some ⟨w.heap.size, 0, none⟩) 1 1 ys → Arr k w' w.heap.size ys → Below w.heap.size w w' → Below B w0 w' → wpList P ops Q rest (a.put o.dst (.slice (some ⟨w.heap.size, 0, none⟩) 1 1)) w') : wpList P ops Q (o :: rest) a w := by
  have hXs : X.size = m := by rw [← hX.out]; simp [hy]
  refine wpList_buildSlice hg t e 1 #[(0, x)] ho X i _ hu hi hz (by rw [h1]; omega) (by rw [h1]; omega) ?_ ?_
  · rw [h1, Nat.one_mul]
    simp only [List.map_toArray, List.map_cons, List.map_nil, hx]
    exact fill_one m X _ hXs (by simp)
  · exact h _ (Block.lit w ys X 1 hX.out.symm (by rw [hy, Nat.one_mul]) hBw (by unfold maxLen; decide)) (Arr.new w ys X e hX.out.symm) ((Below.refl _ _).alloc (Nat.le_refl _) _) (hB.alloc hBw _)
end
/-- A string's bytes. -/
def textL (s : ByteArray) : List Int := s.data.toList.map fun b => (b.toNat : Int)
theorem textL_length (s : ByteArray) : (textL s).length = s.size := by simp [textL]
theorem textL_byted (s : ByteArray) : Byted (textL s) := fun x hx => by
  obtain ⟨b, -, rfl⟩ := List.mem_map.mp hx
  have := b.toNat_lt
  omega
theorem text_at (w : World) (e : TypeId) (s : ByteArray) : At .u8 (Lib.bytesWorld w e s) (some ⟨w.heap.size, 0, none⟩) (textL s) := by
  refine Or.inr ⟨w.heap.size, 0, rfl, by rw [Lib.bytesWorld_size]; omega, fun j hj => ?_⟩
  rw [textL_length] at hj
  rw [Nat.zero_add, Lib.bytesWorld_cell w e s j hj]
  congr 2
  rw [textL, List.getD_eq_getElem?_getD, List.getD_eq_getElem?_getD, List.getElem?_map, List.getElem?_eq_getElem (by simpa using hj)]
  rfl
theorem text_below (w : World) (e : TypeId) (s : ByteArray) : Below w.heap.size w (Lib.bytesWorld w e s) :=
  ⟨by simp [Lib.bytesWorld, World.freeze]; rfl, by simp [Lib.bytesWorld, World.freeze]; try rfl, by simp [Lib.bytesWorld, World.freeze]; rfl, by rw [Lib.bytesWorld_size]; omega, fun j hj => Lib.bytesWorld_at_old w e s j hj⟩
/-- Block g is a row of the call's own (none of its blocks below B) that begins with these bytes and may have room behind them. -/
structure Roomy (B : Nat) (w : World) (g n cap : Nat) (zs : List Int) : Prop where
  low : B ≤ g
  lt : g < w.heap.size
  len : n = zs.length
  hi : n ≤ cap
  c : ∀ j, j < zs.length → w.cell? ⟨g, j, none⟩ = some (.int .u8 (zs.getD j 0))
  f : ∀ j, j < cap → (w.cell? ⟨g, j, none⟩).isSome = true ∧ w.frozen? ⟨g, j, none⟩ = false
section
variable {B g n cap : Nat} {w w' : World} {zs : List Int}
theorem Roomy.at_ (h : Roomy B w g n cap zs) : At .u8 w (some ⟨g, 0, none⟩) zs := Or.inr ⟨g, 0, rfl, h.lt, fun j hj => by rw [Nat.zero_add]; exact h.c j hj⟩
theorem Roomy.call (h : Roomy B w g n cap zs) (hb : Below w.heap.size w w') : Roomy B w' g n cap zs :=
  ⟨h.low, Nat.lt_of_lt_of_le h.lt hb.size, h.len, h.hi, fun j hj => (hb.cell (p := ⟨g, j, none⟩) h.lt).trans (h.c j hj), fun j hj => by
    rw [hb.cell (p := ⟨g, j, none⟩) h.lt, hb.frozen (p := ⟨g, j, none⟩) h.lt]; exact h.f j hj⟩
theorem Roomy.drew (h : Roomy B w g n cap zs) : Roomy B w.drew g n cap zs := ⟨h.low, h.lt, h.len, h.hi, h.c, h.f⟩
theorem Roomy.text (w : World) (e : TypeId) (s : ByteArray) (hb : B ≤ w.heap.size) : Roomy B (Lib.bytesWorld w e s) w.heap.size s.size (grownCap w s.size 0 e) (textL s) := by
  have hge := grownCap_ge w s.size 0 e
  refine ⟨hb, by rw [Lib.bytesWorld_size]; omega, (textL_length s).symm, hge, fun j hj => ?_, fun j hj => ?_⟩
  · rcases text_at w e s with h | ⟨b, off, e1, -, hc⟩
    · rw [h] at hj; cases hj
    · injection e1 with e1
      injection e1 with e1 e2
      subst e1 e2
      have := hc j hj
      rwa [Nat.zero_add] at this
  · have hs : (Lib.bytesCells w e s).size = grownCap w s.size 0 e := by
      simp only [Lib.bytesCells, Array.size_append, Array.size_map, Array.size_replicate]
      show s.size + (grownCap w s.size 0 e - s.size) = _
      omega
    refine ⟨?_, ?_⟩
    · have h1 := Lib.bytesWorld_at_new w e s
      have : (Lib.bytesCells w e s)[j]? = some ((Lib.bytesCells w e s)[j]'(by rw [hs]; exact hj)) := Array.getElem?_eq_getElem _
      simp [World.cell?, h1, this]
    · have h1 := Lib.bytesWorld_at_new w e s
      rw [hs] at h1
      have h2 : ¬ (grownCap w s.size 0 e ≤ j) := by omega
      simp [World.frozen?, h1, h2]
theorem Roomy.of_own {e : TypeId} {n cap : Nat} {q : Option Addr} (h : w.ownsRow B e 1 (.slice q n cap) n (ints .u8 zs)) (hn : 0 < n) : ∃ g, q = some ⟨g, 0, none⟩ ∧ Roomy B w g n cap zs := by
  have hlen : n = zs.length := by have := h.1; rw [ints, List.length_map, Nat.mul_one] at this; exact this.symm
  rcases h.2 with ⟨hv, h0⟩ | ⟨g, cap', cur, hv, hb, hg, hnc, hcm, hcs, ht⟩
  · omega
  · injection hv with h1 h2 h3
    subst h1 h3
    have hlt : g < w.heap.size := by
      rcases Nat.lt_or_ge g w.heap.size with h' | h'
      · exact h'
      · rw [Array.getElem?_eq_none h'] at hg; cases hg
    refine ⟨g, rfl, hb, hlt, hlen, hnc, fun j hj => ?_, fun j hj => ⟨?_, ?_⟩⟩
    · have := h.cells (g := g) rfl j (.int .u8 (zs.getD j 0)) (by rw [ints, List.getElem?_map, List.getD_eq_getElem?_getD, List.getElem?_eq_getElem hj]; rfl)
      rw [Addr.add_mid, Nat.zero_add] at this
      exact this
    · rw [cell_of_row w g j cur e (0, 0) hg, Array.getElem?_eq_getElem (by omega)]; rfl
    · simp [World.frozen?, hg]
end
section
variable {P : Program}
/-- An append of some bytes to such a row: in its room, or in a new row. -/
theorem append_roomy {w : World} (t ty e : TypeId) (i : TypeInfo) (z : Value) (by_ : Nat) (ht : P.underlying t = some (.slice e)) (hi : P.info? e = some i) (hz : i.zero = some z) (h1 : i.size = 1) (hb : i.bytes = by_) (hc : z.cells.size = 1)
    {B g n cap : Nat} {zs : List Int} (own : Roomy B w g n cap zs) {q : Option Addr} {m c : Nat} {ys : List Int} (hy : At .u8 w q ys) (hm : m = ys.length) (hm0 : 0 < m) (hl : (n + m) * (by_ + 1) ≤ 1000000000000) :
    ∃ g' cap' w', (Builtin.append_ #[t, t] ty #[.slice (some ⟨g, 0, none⟩) n cap, .slice q m c]).run P w = .ok (.slice (some ⟨g', 0, none⟩) (n + m) cap') w' ∧ Roomy B w' g' (n + m) cap' (zs ++ ys) ∧ Below B w w' := by
  obtain ⟨b, off, rfl, hbl, hcs⟩ : ∃ b off, q = some ⟨b, off, none⟩ ∧ b < w.heap.size ∧ ∀ j, j < ys.length → w.cell? ⟨b, off + j, none⟩ = some (.int .u8 (ys.getD j 0)) := by
    rcases hy with h0 | h0
    · rw [h0] at hm; simp at hm; omega
    · exact h0
  have hnews : ∀ j u, (ints .u8 ys)[j]? = some u → w.cell? ((⟨b, off, none⟩ : Addr).add j) = some u := fun j u hu => by
    rw [ints, List.getElem?_map] at hu
    cases hxj : ys[j]? with
    | none => rw [hxj] at hu; cases hu
    | some y =>
      rw [hxj] at hu
      injection hu with hu
      have hj := (List.getElem?_eq_some_iff.1 hxj).1
      rw [Addr.add_mid, hcs j hj, List.getD_eq_getElem?_getD, hxj, ← hu]; rfl
  have hone : ∀ u ∈ ints .u8 ys, u.oneCell' = true := fun u hu => by
    rw [ints] at hu
    obtain ⟨y, -, rfl⟩ := List.mem_map.mp hu
    rfl
  have hyl : (ints .u8 ys).length = m := by rw [ints, List.length_map, hm]
  have hB : Below B w w := Below.refl _ _
  by_cases hroom : n + m ≤ cap
  · have hrun := run_append_room_cells (P := P) w t ty e i ht hi g 0 n cap ⟨b, off, none⟩ m c (ints .u8 ys) (by rw [hyl, h1, Nat.mul_one]) hnews hone hroom
      (fun j hj => by rw [h1, Nat.mul_one, Nat.zero_add]; exact (own.f (n + j) (by omega)).1) (fun j hj => by rw [h1, Nat.mul_one, Nat.zero_add]; exact (own.f (n + j) (by omega)).2)
    rw [h1, Nat.mul_one, Nat.zero_add] at hrun
    refine ⟨g, cap, _, hrun, ?_, below_setCells hB own.low _ _⟩
    have hsz := size_setCells g (ints .u8 ys) n w
    have key : ∀ (ys zs : List Int) (w : World) (n : Nat), Roomy B w g n cap zs → n + ys.length ≤ cap → Roomy B (w.setCells g n (ints .u8 ys)) g (n + ys.length) cap (zs ++ ys) := by
      intro ys
      induction ys with
      | nil => intro zs w n h _; rw [List.append_nil]; exact h
      | cons y r ih =>
        intro zs w n h hle
        rw [List.length_cons] at hle
        have hw : Roomy B (w.setCell ⟨g, n, none⟩ (.int .u8 y)) g (n + 1) cap (zs ++ [y]) := by
          have hf := h.f n (by omega)
          obtain ⟨u0, hu0⟩ := Option.isSome_iff_exists.mp hf.1
          refine ⟨h.low, by simp [World.setCell]; exact h.lt, by rw [List.length_append, ← h.len]; rfl, by omega, fun j hj => ?_, fun j hj => ⟨?_, ?_⟩⟩
          · rw [List.length_append, ← h.len] at hj
            by_cases e : n = j
            · subst e
              rw [World.cell?_setCell_same _ _ _ hu0]
              rw [List.getD_eq_getElem?_getD, List.getElem?_append_right (by rw [← h.len]; exact Nat.le_refl _), ← h.len, Nat.sub_self]
              rfl
            · have hj' : j < zs.length := by rw [← h.len]; simp at hj; omega
              rw [World.cell?_setCell_other _ _ _ _ (fun x => e (by injection x)), h.c j hj', List.getD_eq_getElem?_getD, List.getD_eq_getElem?_getD, List.getElem?_append_left hj']
          · by_cases e : n = j
            · subst e
              rw [World.cell?_setCell_same _ _ _ hu0]; rfl
            · rw [World.cell?_setCell_other _ _ _ _ (fun x => e (by injection x))]; exact (h.f j hj).1
          · rw [World.frozen?_setCell]; exact (h.f j hj).2
        have := ih (zs ++ [y]) _ (n + 1) hw (by omega)
        rw [List.append_assoc] at this
        rw [List.length_cons, show n + (r.length + 1) = n + 1 + r.length by omega]
        exact this
    rw [hm]
    exact key ys zs w n own (by omega)
  · have hle : (n + m) * by_ ≤ (n + m) * (by_ + 1) := Nat.mul_le_mul_left _ (Nat.le_succ _)
    have hn1 : n + m ≤ (n + m) * (by_ + 1) := Nat.le_mul_of_pos_right _ (Nat.succ_pos _)
    obtain ⟨v', w', hrun, r1, r2⟩ := run_append_arg_grows (P := P) w t ty e i z 1 by_ ht hi hz h1 hb hc (by decide) ⟨g, 0, none⟩ n cap (ints .u8 zs) (by rw [ints, List.length_map, ← own.len, Nat.mul_one]) (fun j u hu => by
      rw [ints, List.getElem?_map] at hu
      cases hxj : zs[j]? with
      | none => rw [hxj] at hu; cases hu
      | some y =>
        rw [hxj] at hu
        injection hu with hu
        have hj := (List.getElem?_eq_some_iff.1 hxj).1
        rw [Addr.add_mid, Nat.zero_add, own.c j hj, List.getD_eq_getElem?_getD, hxj, ← hu]; rfl) ⟨b, off, none⟩ m c (ints .u8 ys) (by rw [hyl, Nat.mul_one]) hnews (by omega) (by unfold maxLen; omega) (by omega)
    obtain ⟨q', cap', rfl, c1, c2⟩ := own_form r1
    have hBw : B ≤ w.heap.size := Nat.le_trans own.low (Nat.le_of_lt own.lt)
    rw [show ints .u8 zs ++ ints .u8 ys = ints .u8 (zs ++ ys) from (List.map_append ..).symm] at r1
    obtain ⟨g', rfl, hr⟩ := Roomy.of_own r1 (by omega)
    exact ⟨g', cap', w', hrun, ⟨Nat.le_trans hBw hr.low, hr.lt, hr.len, hr.hi, hr.c, hr.f⟩, hB.grown r2 hBw (fun _ h => by cases h)⟩
end
section
variable {P : Program} {w : World} {ops : Array Oper} {rest : List Oper} {o : Oper} {a : Act} {Q : Exit → Act → World → Prop}
/-- The same at the operation; at the walk. -/
theorem oper_roomy {K : Act → World → Prop} (s x : Operand) (t : TypeId) (ho : o.op = .call { callee := .builtin .append, args := #[s, x], argTypes := #[t, t] })
    (e : TypeId) (i : TypeInfo) (z : Value) (by_ : Nat) (ht : P.underlying t = some (.slice e)) (hi : P.info? e = some i) (hz : i.zero = some z) (h1 : i.size = 1) (hb : i.bytes = by_) (hc : z.cells.size = 1)
    {B g n cap : Nat} {zs : List Int} (own : Roomy B w g n cap zs) (hs : a.eval s = .slice (some ⟨g, 0, none⟩) n cap) {q : Option Addr} {m c : Nat} {ys : List Int} (hy : At .u8 w q ys) (hx : a.eval x = .slice q m c) (hm : m = ys.length) (hm0 : 0 < m) (hl : (n + m) * (by_ + 1) ≤ 1000000000000)
    (h : ∀ g' cap' w', Roomy B w' g' (n + m) cap' (zs ++ ys) → Below B w w' → K (a.put o.dst (.slice (some ⟨g', 0, none⟩) (n + m) cap')) w') : o.wp P a w K Q := by
  obtain ⟨g', cap', w', r1, r2, r3⟩ := append_roomy (P := P) t o.type e i z by_ ht hi hz h1 hb hc own hy hm hm0 hl (c := c)
  unfold Oper.wp execOp
  simp only [ho, resolve, invoke, builtin, Sem.run_bind, Sem.run_pure, Result.andThen_ok, List.map_toArray, List.map_cons, List.map_nil, hs, hx, r1]
  exact h g' cap' w' r2 r3
theorem walk_roomy (hg : o.guard = none) (s x : Operand) (t : TypeId) (ho : o.op = .call { callee := .builtin .append, args := #[s, x], argTypes := #[t, t] })
    (e : TypeId) (i : TypeInfo) (z : Value) (by_ : Nat) (ht : P.underlying t = some (.slice e)) (hi : P.info? e = some i) (hz : i.zero = some z) (h1 : i.size = 1) (hb : i.bytes = by_) (hc : z.cells.size = 1)
    {B g n cap : Nat} {zs : List Int} (own : Roomy B w g n cap zs) (hs : a.eval s = .slice (some ⟨g, 0, none⟩) n cap) {q : Option Addr} {m c : Nat} {ys : List Int} (hy : At .u8 w q ys) (hx : a.eval x = .slice q m c) (hm : m = ys.length) (hm0 : 0 < m) (hl : (n + m) * (by_ + 1) ≤ 1000000000000)
    (h : ∀ g' cap' w', Roomy B w' g' (n + m) cap' (zs ++ ys) → Below B w w' → wpList P ops Q rest (a.put o.dst (.slice (some ⟨g', 0, none⟩) (n + m) cap')) w') : wpList P ops Q (o :: rest) a w :=
  wpList_plain hg fun K hK => oper_roomy s x t ho e i z by_ ht hi hz h1 hb hc own hs hy hx hm hm0 hl fun g' cap' w' a1 a2 => hK _ _ (h g' cap' w' a1 a2)
/-- The walk at an append to a row that is full: the whole lies in a new row. -/
theorem walk_grows (hg : o.guard = none) (s x : Operand) (t : TypeId) (ho : o.op = .call { callee := .builtin .append, args := #[s, x], argTypes := #[t, t] })
    (e : TypeId) (i : TypeInfo) (z : Value) (by_ : Nat) (ht : P.underlying t = some (.slice e)) (hi : P.info? e = some i) (hz : i.zero = some z) (h1 : i.size = 1) (hb : i.bytes = by_) (hc : z.cells.size = 1)
    {g n cap : Nat} {zs : List Int} (own : At .u8 w (some ⟨g, 0, none⟩) zs) (hs : a.eval s = .slice (some ⟨g, 0, none⟩) n cap) (hn : n = zs.length) (hn0 : 0 < n) {q : Option Addr} {m c : Nat} {ys : List Int} (hy : At .u8 w q ys) (hx : a.eval x = .slice q m c) (hm : m = ys.length) (hm0 : 0 < m) (hl : (n + m) * (by_ + 1) ≤ 1000000000000) (hfull : cap < n + m)
    (h : ∀ g' cap' w', Roomy w.heap.size w' g' (n + m) cap' (zs ++ ys) → Below w.heap.size w w' → wpList P ops Q rest (a.put o.dst (.slice (some ⟨g', 0, none⟩) (n + m) cap')) w') : wpList P ops Q (o :: rest) a w := by
  obtain ⟨b, off, rfl, hbl, hcs⟩ : ∃ b off, q = some ⟨b, off, none⟩ ∧ b < w.heap.size ∧ ∀ j, j < ys.length → w.cell? ⟨b, off + j, none⟩ = some (.int .u8 (ys.getD j 0)) := by
    rcases hy with h0 | h0
    · rw [h0] at hm; simp at hm; omega
    · exact h0
  obtain ⟨b', off', e', hbl', hcs'⟩ : ∃ b off, (some ⟨g, 0, none⟩ : Option Addr) = some ⟨b, off, none⟩ ∧ b < w.heap.size ∧ ∀ j, j < zs.length → w.cell? ⟨b, off + j, none⟩ = some (.int .u8 (zs.getD j 0)) := by
    rcases own with h0 | h0
    · rw [h0] at hn; simp at hn; omega
    · exact h0
  injection e' with e'
  injection e' with e1 e2
  subst e1 e2
  have hle : (n + m) * by_ ≤ (n + m) * (by_ + 1) := Nat.mul_le_mul_left _ (Nat.le_succ _)
  have hn1 : n + m ≤ (n + m) * (by_ + 1) := Nat.le_mul_of_pos_right _ (Nat.succ_pos _)
  refine wpList_append_grows w hg s x t ho e i z 1 by_ ht hi hz h1 hb hc (by decide) (some ⟨g, 0, none⟩) n cap (ints .u8 zs) hs (fun h => by cases h) (by rw [ints, List.length_map, ← hn, Nat.mul_one]) (fun b0 hb0 j u hu => ?_) ⟨b, off, none⟩ m c (ints .u8 ys) hx (by rw [ints, List.length_map, ← hm, Nat.mul_one]) (fun j u hu => ?_) (fun u hu => ?_) hfull (by unfold maxLen; omega) (by omega) (fun v' w' r1 r2 => ?_)
  · injection hb0 with hb0
    subst hb0
    rw [ints, List.getElem?_map] at hu
    cases hxj : zs[j]? with
    | none => rw [hxj] at hu; cases hu
    | some y =>
      rw [hxj] at hu
      injection hu with hu
      have hj := (List.getElem?_eq_some_iff.1 hxj).1
      rw [Addr.add_mid, hcs' j hj, List.getD_eq_getElem?_getD, hxj, ← hu]; rfl
  · rw [ints, List.getElem?_map] at hu
    cases hxj : ys[j]? with
    | none => rw [hxj] at hu; cases hu
    | some y =>
      rw [hxj] at hu
      injection hu with hu
      have hj := (List.getElem?_eq_some_iff.1 hxj).1
      rw [Addr.add_mid, hcs j hj, List.getD_eq_getElem?_getD, hxj, ← hu]; rfl
  · rw [ints] at hu
    obtain ⟨y, -, rfl⟩ := List.mem_map.mp hu
    rfl
  · obtain ⟨q', cap', rfl, c1, c2⟩ := own_form r1
    rw [show ints .u8 zs ++ ints .u8 ys = ints .u8 (zs ++ ys) from (List.map_append ..).symm] at r1
    obtain ⟨g', rfl, hr⟩ := Roomy.of_own r1 (by omega)
    exact h g' cap' w' hr ((Below.refl _ _).grown r2 (Nat.le_refl _) (fun _ h => by cases h))
end
section
variable {P : Program} {w : World} {ops : Array Oper} {rest : List Oper} {o : Oper} {a : Act} {Q : Exit → Act → World → Prop}
/-- The bytes of a string in a row of their own: at the operation, and at the walk. -/
theorem oper_text {K : Act → World → Prop} (src dst e : TypeId) (x : Operand) (ho : o.op = .convert src dst x) (hs : P.underlying src = some .string) (hd : P.underlying dst = some (.slice e)) (he : P.underlying e = some (.int .u8)) (s : ByteArray) (hx : a.eval x = .string s)
    (h : ∀ w' cap, Roomy w.heap.size w' w.heap.size s.size cap (textL s) → Below w.heap.size w w' → K (a.put o.dst (.slice (some ⟨w.heap.size, 0, none⟩) s.size cap)) w') : o.wp P a w K Q := by
  have hr := Lib.run_convert_string_bytes (P := P) w src dst e s hs hd he
  unfold Oper.wp execOp
  simp only [ho, hx, hr, Sem.run_bind, Sem.run_pure, Result.andThen_ok]
  exact h _ _ (Roomy.text w e s (Nat.le_refl _)) (text_below w e s)
theorem walk_text (hg : o.guard = none) (src dst e : TypeId) (x : Operand) (ho : o.op = .convert src dst x) (hs : P.underlying src = some .string) (hd : P.underlying dst = some (.slice e)) (he : P.underlying e = some (.int .u8)) (s : ByteArray) (hx : a.eval x = .string s)
    (h : ∀ w' cap, Roomy w.heap.size w' w.heap.size s.size cap (textL s) → Below w.heap.size w w' → wpList P ops Q rest (a.put o.dst (.slice (some ⟨w.heap.size, 0, none⟩) s.size cap)) w') : wpList P ops Q (o :: rest) a w :=
  wpList_plain hg fun K hK => oper_text src dst e x ho hs hd he s hx fun w' cap h1 h2 => hK _ _ (h w' cap h1 h2)
/-- An operation behind a guard that lets it come up; an array that is read whole there. -/
theorem wpList_wanted (hw : Region.wanted o (yielded ops a.tmps) = true) (h : ∀ K : Act → World → Prop, (∀ a w, wpList P ops Q rest a w → K a w) → o.wp P a w K Q) : wpList P ops Q (o :: rest) a w :=
  wpList_step fun K hK => by simp only [hw, if_true]; exact h K hK
theorem walk_readG (hw : Region.wanted o (yielded ops a.tmps) = true) (T : TypeId) (x : Operand) (ho : o.op = .load T x) {k : IntKind} {zs : List Int} {g : Nat} (hA : Arr k w g zs) (hx : a.eval x = .pointer (some ⟨g, 0, none⟩))
    (n : Nat) (E : TypeId) (hu : P.underlying T = some (.array n E)) (hi : (P.info? T).map (·.size) = some n) (hn : zs.length = n) (X : Array Value) (hX : Hid ((ints k zs).toArray = X))
    (h : wpList P ops Q rest (a.put o.dst (.agg X)) w) : wpList P ops Q (o :: rest) a w :=
  wpList_wanted hw fun _ hK => wp_load_mid T x ho g 0 hx (ints k zs) _ hA.range hu rfl (by rw [hi, ints, List.length_map, hn]) (by rw [hX.out]; exact hK _ _ h)
end

end Go.Proofs.YtmhehnimgkmmaaaDoor
