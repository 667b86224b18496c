/- Codes, tags, and in how many places bytes differ: plain mathematics. No function of the program is named here. -/
import Derived.Test.YtmhehnimgkmmaaaDoorHasMath
namespace Go.Proofs.YtmhehnimgkmmaaaDoor
set_option maxRecDepth 100000
open Go.RowKit
set_option linter.unusedVariables false

theorem wrap_u8 (n : Int) : IntKind.u8.wrap n = n % 256 := by simp [IntKind.wrap, IntKind.bits, IntKind.signed]
theorem xor_u8_nat (a b : Nat) (ha : a < 256) (hb : b < 256) : bits .xor .u8 (a : Int) (b : Int) = ((a ^^^ b : Nat) : Int) := by
  have hx : a ^^^ b < 2 ^ 8 := Nat.xor_lt_two_pow (by omega) (by omega)
  have h1 : (BitVec.ofInt 8 (a : Int)).toNat = a := by
    rw [BitVec.ofInt_natCast, BitVec.toNat_ofNat]; exact Nat.mod_eq_of_lt (by omega)
  have h2 : (BitVec.ofInt 8 (b : Int)).toNat = b := by
    rw [BitVec.ofInt_natCast, BitVec.toNat_ofNat]; exact Nat.mod_eq_of_lt (by omega)
  show IntKind.u8.wrap ((BitVec.ofInt 8 (a : Int) ^^^ BitVec.ofInt 8 (b : Int)).toNat : Int) = _
  rw [BitVec.toNat_xor, h1, h2, wrap_u8]
  omega
theorem u8_bits (op : BinOp) (x y : Int) : 0 ≤ bits op .u8 x y ∧ bits op .u8 x y ≤ 255 := by
  have h := wf_bits op .u8 x y
  simp [Lit.wf, IntKind.min, IntKind.max, IntKind.signed, IntKind.bits] at h
  omega
theorem u8_nat {x : Int} (h : 0 ≤ x ∧ x ≤ 255) : ∃ n : Nat, x = n ∧ n < 256 := ⟨x.toNat, by omega, by omega⟩
/-- Two bytes added without carry give nought of the same bytes alone; a byte is left as it is by nought alone. -/
theorem xor_nought {x y : Int} (hx : 0 ≤ x ∧ x ≤ 255) (hy : 0 ≤ y ∧ y ≤ 255) : bits .xor .u8 x y = 0 ↔ x = y := by
  obtain ⟨a, rfl, ha⟩ := u8_nat hx
  obtain ⟨b, rfl, hb⟩ := u8_nat hy
  rw [xor_u8_nat a b ha hb]
  constructor
  · intro h
    have h : a ^^^ b = 0 := by omega
    have : a = b := by
      have := congrArg (fun z => z ^^^ b) h
      simp only [Nat.xor_assoc, Nat.xor_self, Nat.xor_zero, Nat.zero_xor] at this
      exact this
    rw [this]
  · intro h
    have : a = b := by omega
    rw [this, Nat.xor_self]; rfl
theorem xor_same {x y : Int} (hx : 0 ≤ x ∧ x ≤ 255) (hy : 0 ≤ y ∧ y ≤ 255) : bits .xor .u8 x y = x ↔ y = 0 := by
  obtain ⟨a, rfl, ha⟩ := u8_nat hx
  obtain ⟨b, rfl, hb⟩ := u8_nat hy
  rw [xor_u8_nat a b ha hb]
  constructor
  · intro h
    have h : a ^^^ b = a := by omega
    have : b = 0 := by
      have := congrArg (fun z => a ^^^ z) h
      simp only [← Nat.xor_assoc, Nat.xor_self, Nat.zero_xor] at this
      exact this
    omega
  · intro h
    have : b = 0 := by omega
    rw [this, Nat.xor_zero]

theorem sha_length (l : List Int) : (sha l).length = 32 := rfl
theorem bytes4_byted {x : Int} (h : U32 x) : Byted (bytes4 x) := by
  intro y hy
  unfold U32 at h
  simp only [bytes4, List.mem_cons, List.not_mem_nil, or_false] at hy
  rcases hy with rfl | rfl | rfl | rfl <;> omega
theorem sha_byted (l : List Int) : Byted (sha l) := by
  have h := blocks8_ok first8_ok (padded l) ((padded l).length / 64)
  unfold sha digestOf
  exact (((((((bytes4_byted h.a).append (bytes4_byted h.b)).append (bytes4_byted h.c)).append (bytes4_byted h.d)).append (bytes4_byted h.e)).append (bytes4_byted h.f)).append (bytes4_byted h.g)).append (bytes4_byted h.h)
theorem replicate_byted (n : Nat) : Byted (List.replicate n 0) := fun x hx => by obtain ⟨-, rfl⟩ := List.mem_replicate.mp hx; omega

/-- A key that has room; with noughts behind it. -/
def keyOf (k : List Int) : List Int := if 64 < k.length then sha k else k
def filledL (k : List Int) : List Int := keyOf k ++ List.replicate (64 - (keyOf k).length) 0
def addedL (l : List Int) (x : Int) : List Int := l.map fun v => bits .xor .u8 v x
/-- The code; the tag. -/
def codeL (k b : List Int) : List Int := sha (addedL (filledL k) 92 ++ sha (addedL (filledL k) 54 ++ b))
def tagL (k b : List Int) : List Int := (codeL k b).take 16
theorem keyOf_length (k : List Int) : (keyOf k).length ≤ 64 := by
  unfold keyOf; split
  · rw [sha_length]; omega
  · omega
theorem keyOf_byted {k : List Int} (h : Byted k) : Byted (keyOf k) := by
  unfold keyOf; split
  · exact sha_byted k
  · exact h
theorem filledL_length (k : List Int) : (filledL k).length = 64 := by
  have := keyOf_length k
  simp [filledL]; omega
theorem filledL_byted {k : List Int} (h : Byted k) : Byted (filledL k) := (keyOf_byted h).append (replicate_byted _)
theorem addedL_length (l : List Int) (x : Int) : (addedL l x).length = l.length := by simp [addedL]
theorem addedL_byted (l : List Int) (x : Int) : Byted (addedL l x) := fun y hy => by
  obtain ⟨v, -, rfl⟩ := List.mem_map.mp hy
  exact u8_bits _ _ _
theorem codeL_length (k b : List Int) : (codeL k b).length = 32 := rfl
theorem codeL_byted (k b : List Int) : Byted (codeL k b) := sha_byted _
theorem tagL_length (k b : List Int) : (tagL k b).length = 16 := rfl
theorem tagL_byted (k b : List Int) : Byted (tagL k b) := (codeL_byted k b).take 16
theorem addedL_get (l : List Int) (x : Int) (j : Nat) (h : j < l.length) : (addedL l x).getD j 0 = bits .xor .u8 (l.getD j 0) x := by
  rw [addedL, List.getD_eq_getElem?_getD, List.getElem?_map, List.getD_eq_getElem?_getD, List.getElem?_eq_getElem h]; rfl
/-- The first of them added to already. -/
def addedTo (l : List Int) (x : Int) (k : Nat) : List Int := addedL (l.take k) x ++ l.drop k
theorem addedTo_length (l : List Int) (x : Int) (k : Nat) : (addedTo l x k).length = l.length := by simp [addedTo, addedL]; omega
theorem addedTo_zero (l : List Int) (x : Int) : addedTo l x 0 = l := by simp [addedTo, addedL]
theorem addedTo_all (l : List Int) (x : Int) (n : Nat) (h : l.length = n) : addedTo l x n = addedL l x := by subst h; simp [addedTo]
theorem addedTo_get (l : List Int) (x : Int) (k : Nat) (h : k < l.length) : (addedTo l x k).getD k 0 = l.getD k 0 := by
  have h1 : (addedL (l.take k) x).length = k := by rw [addedL_length, List.length_take]; omega
  rw [addedTo, List.getD_eq_getElem?_getD, List.getElem?_append_right (by omega), h1, Nat.sub_self, List.getElem?_drop, Nat.add_zero, List.getD_eq_getElem?_getD]
theorem addedTo_succ (l : List Int) (x : Int) (k : Nat) (h : k < l.length) : (addedTo l x k).set k (bits .xor .u8 (l.getD k 0) x) = addedTo l x (k + 1) := by
  have h1 : (addedL (l.take k) x).length = k := by rw [addedL_length, List.length_take]; omega
  have h2 : l.drop k = l.getD k 0 :: l.drop (k + 1) := by
    rw [List.getD_eq_getElem?_getD, List.getElem?_eq_getElem h]; exact List.drop_eq_getElem_cons h
  have h3 : l.take (k + 1) = l.take k ++ [l.getD k 0] := by
    rw [List.getD_eq_getElem?_getD, List.getElem?_eq_getElem h]; exact List.take_succ_eq_append_getElem h
  unfold addedTo
  rw [List.set_append_right _ _ (by omega), h1, Nat.sub_self, h2, h3]
  simp [addedL]
theorem addedTo_byted {l : List Int} (h : Byted l) (x : Int) (k : Nat) : Byted (addedTo l x k) := (addedL_byted _ _).append (h.drop k)
/-- A key with noughts behind it is the same key. -/
theorem filledL_noughts (k : List Int) (n : Nat) (h : k.length + n ≤ 64) : filledL (k ++ List.replicate n 0) = filledL k := by
  have h1 : keyOf k = k := if_neg (by omega)
  have h2 : keyOf (k ++ List.replicate n 0) = k ++ List.replicate n 0 := if_neg (by simp; omega)
  unfold filledL
  rw [h1, h2, List.append_assoc, List.length_append, List.length_replicate, List.replicate_append_replicate]
  congr 2
  omega
theorem codeL_noughts (k : List Int) (n : Nat) (h : k.length + n ≤ 64) (b : List Int) : codeL (k ++ List.replicate n 0) b = codeL k b := by
  unfold codeL
  rw [filledL_noughts k n h]

/-- In how many of the first places they differ: of those that both have; of all. -/
def bothTo (a b : List Int) : Nat → Nat
  | 0 => 0
  | k + 1 => bothTo a b k + if a.getD k 0 = b.getD k 0 then 0 else 1
def diffTo (a b : List Int) : Nat → Nat
  | 0 => 0
  | k + 1 => diffTo a b k + if a.length ≤ k ∨ b.length ≤ k ∨ a.getD k 0 ≠ b.getD k 0 then 1 else 0
def diffL (a b : List Int) : Nat := diffTo a b (max a.length b.length)
theorem bothTo_le (a b : List Int) : ∀ k, bothTo a b k ≤ k
  | 0 => Nat.le_refl _
  | k + 1 => by have := bothTo_le a b k; unfold bothTo; split <;> omega
theorem diffTo_le (a b : List Int) : ∀ k, diffTo a b k ≤ k
  | 0 => Nat.le_refl _
  | k + 1 => by have := diffTo_le a b k; unfold diffTo; split <;> omega
theorem not3 {p q : Prop} {x y : Int} (h1 : ¬ p) (h2 : ¬ q) (h : x = y) (g : p ∨ q ∨ x ≠ y) : False := by
  rcases g with g | g | g
  · exact h1 g
  · exact h2 g
  · exact g h
theorem diffTo_both (a b : List Int) : ∀ k, k ≤ a.length → k ≤ b.length → diffTo a b k = bothTo a b k
  | 0, _, _ => rfl
  | k + 1, h1, h2 => by
    unfold diffTo bothTo
    rw [diffTo_both a b k (by omega) (by omega)]
    by_cases h : a.getD k 0 = b.getD k 0
    · rw [if_pos h, if_neg (fun g => not3 (by omega) (by omega) h g)]
    · rw [if_neg h, if_pos (Or.inr (Or.inr h))]
theorem diffTo_behind (a b : List Int) (h : a.length ≤ b.length) : ∀ d, diffTo a b (a.length + d) = bothTo a b a.length + d
  | 0 => diffTo_both a b _ (Nat.le_refl _) h
  | d + 1 => by
    show diffTo a b (a.length + d) + _ = _
    rw [diffTo_behind a b h d, if_pos (Or.inl (show a.length ≤ a.length.add d from Nat.le_add_right _ _))]
    omega
theorem turn3 {p q : Prop} {x y : Int} (h : p ∨ q ∨ x ≠ y) : q ∨ p ∨ y ≠ x := by
  rcases h with h | h | h
  · exact Or.inr (Or.inl h)
  · exact Or.inl h
  · exact Or.inr (Or.inr (Ne.symm h))
theorem diffTo_comm (a b : List Int) : ∀ k, diffTo a b k = diffTo b a k
  | 0 => rfl
  | k + 1 => by
    unfold diffTo
    rw [diffTo_comm a b k]
    congr 1
    by_cases h : a.length ≤ k ∨ b.length ≤ k ∨ a.getD k 0 ≠ b.getD k 0
    · rw [if_pos h, if_pos (turn3 h)]
    · rw [if_neg h, if_neg (fun g => h (turn3 g))]
theorem diffL_comm (a b : List Int) : diffL a b = diffL b a := by unfold diffL; rw [diffTo_comm, Nat.max_comm]
theorem diffL_short (a b : List Int) (h : a.length ≤ b.length) : diffL a b = b.length - a.length + bothTo a b a.length := by
  unfold diffL
  have := diffTo_behind a b h (b.length - a.length)
  rw [show max a.length b.length = a.length + (b.length - a.length) by omega, this]
  omega
theorem diffL_le (a b : List Int) : diffL a b ≤ max a.length b.length := diffTo_le _ _ _
theorem diffTo_nought (a b : List Int) : ∀ k, diffTo a b k = 0 → ∀ j, j < k → ¬ (a.length ≤ j ∨ b.length ≤ j ∨ a.getD j 0 ≠ b.getD j 0)
  | 0, _, j, hj => by omega
  | k + 1, h, j, hj => by
    unfold diffTo at h
    by_cases e : a.length ≤ k ∨ b.length ≤ k ∨ a.getD k 0 ≠ b.getD k 0
    · rw [if_pos e] at h; omega
    · rcases Nat.lt_or_ge j k with h2 | h2
      · exact diffTo_nought a b k (by omega) j h2
      · obtain rfl : j = k := by omega
        exact e
theorem bothTo_same (a : List Int) : ∀ k, bothTo a a k = 0
  | 0 => rfl
  | k + 1 => by unfold bothTo; rw [bothTo_same a k, if_pos rfl]
theorem diffL_nought (a b : List Int) : diffL a b = 0 ↔ a = b := by
  constructor
  · intro h
    have h0 := diffTo_nought a b _ h
    have hl : a.length = b.length := by
      rcases Nat.lt_trichotomy a.length b.length with g | g | g
      · exact absurd (Or.inl (Nat.le_refl _)) (h0 a.length (by omega))
      · exact g
      · exact absurd (Or.inr (Or.inl (Nat.le_refl _))) (h0 b.length (by omega))
    refine ext_getD hl fun j hj => ?_
    have := h0 j (by omega)
    exact Classical.byContradiction fun e => this (Or.inr (Or.inr e))
  · rintro rfl
    rw [diffL_short a a (Nat.le_refl _), bothTo_same]
    omega
/-- A byte that is turned. -/
theorem turned_same (l : List Int) (hb : Byted l) (i : Nat) (hi : i < l.length) (y : Int) (hy : 0 ≤ y ∧ y ≤ 255) : l.set i (bits .xor .u8 (l.getD i 0) y) = l ↔ y = 0 := by
  have h1 := getD_set l i i (bits .xor .u8 (l.getD i 0) y) hi
  rw [if_pos rfl] at h1
  rw [← xor_same (hb.at_ i) hy]
  constructor
  · intro h
    rw [h] at h1
    exact h1.symm
  · intro h
    refine ext_getD (by simp) fun j hj => ?_
    rw [getD_set _ _ _ _ hi]
    split
    · next e => subst e; exact h
    · rfl

end Go.Proofs.YtmhehnimgkmmaaaDoor
