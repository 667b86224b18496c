/- What a hasher has of its bytes: the state behind all whole blocks, the bytes that are left; what a piece makes of them. Plain mathematics: no function of the program is named here. -/
import Derived.Test.YtmhehnimgkmmaaaDoorHashMath
import Derived.Test.YtmhehnimgkmmaaaDoorLists
import Derived.Laws.CopyOwn
namespace Go.Proofs.YtmhehnimgkmmaaaDoor
set_option maxRecDepth 100000
open Go.RowKit
set_option linter.unusedVariables false

theorem getD_left (l x : List Int) {j : Nat} (h : j < l.length) : (l ++ x).getD j 0 = l.getD j 0 := by
  rw [List.getD_eq_getElem?_getD, List.getD_eq_getElem?_getD, List.getElem?_append_left h]
theorem getD_drop (l : List Int) (o j : Nat) : (l.drop o).getD j 0 = l.getD (o + j) 0 := by
  rw [List.getD_eq_getElem?_getD, List.getD_eq_getElem?_getD, List.getElem?_drop]
theorem words16_left (l x : List Int) {o : Nat} (h : o + 64 ≤ l.length) : words16 (l ++ x) o = words16 l o := by
  unfold words16
  refine List.map_congr_left fun i hi => ?_
  have hi := List.mem_range.mp hi
  unfold wordAt
  rw [getD_left _ _ (by omega), getD_left _ _ (by omega), getD_left _ _ (by omega), getD_left _ _ (by omega)]
theorem words16_drop (l : List Int) (o : Nat) : words16 (l.drop o) 0 = words16 l o := by
  unfold words16
  refine List.map_congr_left fun i hi => ?_
  unfold wordAt
  rw [getD_drop, getD_drop, getD_drop, getD_drop]
  simp only [Nat.zero_add, Nat.add_assoc]
theorem blocks8_left (l x : List Int) (s : S8) : ∀ k, 64 * k ≤ l.length → blocks8 (l ++ x) s k = blocks8 l s k
  | 0, _ => rfl
  | k + 1, h => by rw [blocks8, blocks8, blocks8_left l x s k (by omega), words16_left _ _ (by omega)]

/-- The state; the bytes of the block that is not whole yet, and noughts behind them. -/
def hstate (l : List Int) : S8 := blocks8 l first8 (l.length / 64)
def hlast (l : List Int) : List Int := l.drop (64 * (l.length / 64)) ++ List.replicate (64 - l.length % 64) 0
theorem hstate_ok (l : List Int) : (hstate l).Ok := blocks8_ok first8_ok _ _
theorem hlast_length (l : List Int) : (hlast l).length = 64 := by simp [hlast]; omega
theorem hlast_byted {l : List Int} (h : Byted l) : Byted (hlast l) := by
  refine (h.drop _).append fun x hx => ?_
  rw [List.eq_of_mem_replicate hx]; omega
theorem splice_end (A Z x : List Int) : splice (A ++ Z) A.length x = A ++ (x ++ Z.drop x.length) := by
  rw [splice, List.take_left, List.drop_append, List.drop_of_length_le (Nat.le_add_right _ _), List.nil_append, Nat.add_sub_cancel_left]
/-- A block's cells behind a piece. -/
theorem last_splice (l x : List Int) (h : l.length % 64 + x.length ≤ 64) : splice (hlast l) (l.length % 64) x = (l ++ x).drop (64 * (l.length / 64)) ++ List.replicate (64 - (l.length % 64 + x.length)) 0 := by
  have e1 : (l.drop (64 * (l.length / 64))).length = l.length % 64 := by rw [List.length_drop]; omega
  have e2 := splice_end (l.drop (64 * (l.length / 64))) (List.replicate (64 - l.length % 64) 0) x
  rw [e1] at e2
  rw [hlast, e2, List.drop_replicate, List.drop_append_of_le_length (by omega), List.append_assoc, Nat.sub_sub]
theorem piece_some (l x : List Int) (h : l.length % 64 + x.length < 64) : splice (hlast l) (l.length % 64) x = hlast (l ++ x) ∧ hstate (l ++ x) = hstate l := by
  have e : (l ++ x).length / 64 = l.length / 64 := by rw [List.length_append]; omega
  constructor
  · rw [last_splice l x (by omega), hlast, e]
    congr 2
    rw [List.length_append]; omega
  · rw [hstate, hstate, e, blocks8_left _ _ _ _ (by omega)]
theorem piece_full (l x : List Int) (h : l.length % 64 + x.length = 64) : block8 (hstate l) (words16 (splice (hlast l) (l.length % 64) x) 0) = hstate (l ++ x) ∧ hlast (l ++ x) = List.replicate 64 0 := by
  have e : (l ++ x).length / 64 = l.length / 64 + 1 := by rw [List.length_append]; omega
  constructor
  · rw [last_splice l x (by omega), show 64 - (l.length % 64 + x.length) = 0 by omega, List.replicate_zero, List.append_nil, words16_drop, hstate, hstate, e, blocks8, blocks8_left _ _ _ _ (by omega)]
  · rw [hlast, e, List.drop_of_length_le (by rw [List.length_append]; omega), List.nil_append, List.length_append, show (l.length + x.length) % 64 = 0 by omega]
theorem splice_length (l x : List Int) (h : l.length % 64 + x.length ≤ 64) : (splice (hlast l) (l.length % 64) x).length = 64 := by rw [length_splice _ _ _ (by rw [hlast_length]; exact h), hlast_length]
theorem splice_byted {l x : List Int} (hl : Byted l) (hx : Byted x) (h : l.length % 64 + x.length ≤ 64) : Byted (splice (hlast l) (l.length % 64) x) := by
  rw [last_splice l x h]
  refine ((hl.append hx).drop _).append fun x hx => ?_
  rw [List.eq_of_mem_replicate hx]; omega
theorem splice_map {α β : Type} (f : α → β) (l x : List α) (o : Nat) : (splice l o x).map f = splice (l.map f) o (x.map f) := by simp [splice]
/-- What pads so many bytes. -/
def padTail (n : Nat) : List Int := 128 :: List.replicate (noughts n) 0 ++ bytes8 (8 * n)
theorem padded_tail (l : List Int) : l ++ padTail l.length = padded l := by simp [padTail, padded]
theorem padTail_byted (n : Nat) : Byted (padTail n) := by
  unfold padTail
  refine Byted.append ?_ ?_
  · intro x hx
    rcases List.mem_cons.mp hx with rfl | hx
    · omega
    · rw [List.eq_of_mem_replicate hx]; omega
  · intro x hx
    simp only [bytes8, List.mem_cons, List.not_mem_nil, or_false] at hx
    rcases hx with rfl | rfl | rfl | rfl | rfl | rfl | rfl | rfl <;> omega
theorem padTail_length (n : Nat) : (padTail n).length = 9 + noughts n := by simp [padTail, bytes8]; omega
theorem sha_is (l : List Int) : digestOf (hstate (padded l)) = sha l := rfl
/-- So many bytes of a list, and noughts behind them. -/
def fillTo (l : List Int) (n k : Nat) : List Int := l.take k ++ List.replicate (n - k) 0
theorem fillTo_length (l : List Int) (n k : Nat) (h : k ≤ l.length) (hk : k ≤ n) : (fillTo l n k).length = n := by simp [fillTo]; omega
theorem fillTo_all (l : List Int) (n : Nat) (h : l.length = n) : fillTo l n n = l := by simp [fillTo, ← h]
theorem fillTo_get (l : List Int) (n k j : Nat) (h : k ≤ l.length) (hj : j < n) : (fillTo l n k).getD j 0 = if j < k then l.getD j 0 else 0 := by
  unfold fillTo
  rw [List.getD_eq_getElem?_getD, List.getD_eq_getElem?_getD, List.getElem?_append, List.length_take, Nat.min_eq_left h, List.getElem?_take]
  by_cases hk : j < k
  · rw [if_pos hk, if_pos hk, if_pos hk]
  · rw [if_neg hk, if_neg hk, List.getElem?_replicate, if_pos (by omega)]; rfl
theorem getD_set (l : List Int) (i j : Nat) (v : Int) (hi : i < l.length) : (l.set i v).getD j 0 = if i = j then v else l.getD j 0 := by
  rw [List.getD_eq_getElem?_getD, List.getD_eq_getElem?_getD, List.getElem?_set]
  by_cases h : i = j
  · rw [if_pos h, if_pos h, if_pos hi]; rfl
  · rw [if_neg h, if_neg h]
theorem ext_getD {l m : List Int} (h : l.length = m.length) (hj : ∀ j, j < l.length → l.getD j 0 = m.getD j 0) : l = m := by
  refine List.ext_getElem h fun j h1 h2 => ?_
  have := hj j h1
  rw [List.getD_eq_getElem?_getD, List.getD_eq_getElem?_getD, List.getElem?_eq_getElem h1, List.getElem?_eq_getElem h2] at this
  exact this
theorem fillTo_set (l : List Int) (n k : Nat) (h : k < l.length) (hk : k < n) : (fillTo l n k).set k (l.getD k 0) = fillTo l n (k + 1) := by
  have e := fillTo_length l n k (by omega) (by omega)
  refine ext_getD (by rw [List.length_set, e, fillTo_length l n (k + 1) (by omega) (by omega)]) fun j hj => ?_
  rw [List.length_set, e] at hj
  rw [getD_set _ _ _ _ (by omega), fillTo_get _ _ _ _ (by omega) hj, fillTo_get _ _ _ _ (by omega) hj]
  by_cases h1 : k = j
  · subst h1; rw [if_pos rfl, if_pos (by omega)]
  · rw [if_neg h1]
    by_cases h2 : j < k
    · rw [if_pos h2, if_pos (by omega)]
    · rw [if_neg h2, if_neg (by omega)]
/-- Four at once, the last first. -/
theorem fillTo_set4 (l : List Int) (n k : Nat) (h : k + 4 ≤ l.length) (hk : k + 4 ≤ n) :
    ((((fillTo l n k).set (k + 3) (l.getD (k + 3) 0)).set (k + 2) (l.getD (k + 2) 0)).set (k + 1) (l.getD (k + 1) 0)).set k (l.getD k 0) = fillTo l n (k + 4) := by
  have e := fillTo_length l n k (by omega) (by omega)
  refine ext_getD (by simp only [List.length_set]; rw [e, fillTo_length l n (k + 4) (by omega) (by omega)]) fun j hj => ?_
  simp only [List.length_set] at hj
  rw [e] at hj
  rw [getD_set _ _ _ _ (by simp only [List.length_set]; omega), getD_set _ _ _ _ (by simp only [List.length_set]; omega), getD_set _ _ _ _ (by simp only [List.length_set]; omega), getD_set _ _ _ _ (by omega), fillTo_get _ _ _ _ (by omega) hj, fillTo_get _ _ _ _ (by omega) hj]
  by_cases h0 : k = j
  · subst h0; rw [if_pos rfl, if_pos (by omega)]
  by_cases h1 : k + 1 = j
  · subst h1; rw [if_neg h0, if_pos rfl, if_pos (by omega)]
  by_cases h2 : k + 2 = j
  · subst h2; rw [if_neg h0, if_neg h1, if_pos rfl, if_pos (by omega)]
  by_cases h3 : k + 3 = j
  · subst h3; rw [if_neg h0, if_neg h1, if_neg h2, if_pos rfl, if_pos (by omega)]
  rw [if_neg h0, if_neg h1, if_neg h2, if_neg h3]
  by_cases h4 : j < k
  · rw [if_pos h4, if_pos (by omega)]
  · rw [if_neg h4, if_neg (by omega)]
/-- A state's words as a list; a digest's bytes out of them. -/
def wordsOf (s : S8) : List Int := [s.a, s.b, s.c, s.d, s.e, s.f, s.g, s.h]
theorem wordsOf_u32 {s : S8} (h : s.Ok) (i : Nat) : U32 ((wordsOf s).getD i 0) := by
  obtain ⟨h0, h1, h2, h3, h4, h5, h6, h7⟩ := h
  match i with
  | 0 => exact h0
  | 1 => exact h1
  | 2 => exact h2
  | 3 => exact h3
  | 4 => exact h4
  | 5 => exact h5
  | 6 => exact h6
  | 7 => exact h7
  | n + 8 => exact (show U32 0 from by decide)
theorem digest_get (s : S8) (hs : s.Ok) (i k : Nat) (hi : i < 8) (hk : k < 4) : (digestOf s).getD (4 * i + k) 0 = (wordsOf s).getD i 0 / 256 ^ (3 - k) % 256 := by
  obtain ⟨h0, h1, h2, h3, h4, h5, h6, h7⟩ := hs
  unfold U32 at *
  have hi' : i = 0 ∨ i = 1 ∨ i = 2 ∨ i = 3 ∨ i = 4 ∨ i = 5 ∨ i = 6 ∨ i = 7 := by omega
  have hk' : k = 0 ∨ k = 1 ∨ k = 2 ∨ k = 3 := by omega
  rcases hi' with rfl | rfl | rfl | rfl | rfl | rfl | rfl | rfl <;> rcases hk' with rfl | rfl | rfl | rfl <;> simp [digestOf, bytes4, wordsOf] <;> omega
theorem digestOf_length (s : S8) : (digestOf s).length = 32 := rfl

end Go.Proofs.YtmhehnimgkmmaaaDoor
