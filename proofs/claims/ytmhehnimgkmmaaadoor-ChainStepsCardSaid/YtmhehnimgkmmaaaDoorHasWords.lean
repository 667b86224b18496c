/- A block's words as a program makes them: byte by byte, then word by word. Plain mathematics: no function of the program is named here. -/
import Derived.Test.YtmhehnimgkmmaaaDoorHasMath
namespace Go.Proofs.YtmhehnimgkmmaaaDoor
set_option maxRecDepth 100000
open Go.RowKit
set_option linter.unusedVariables false

/-- The words behind i bytes. -/
def packed (l : List Int) : Nat → List Int
  | 0 => List.replicate 64 0
  | i + 1 => (packed l i).set (i / 4) ((packed l i).getD (i / 4) 0 * 256 % 4294967296 + l.getD i 0)
theorem packed_length (l : List Int) : ∀ i, (packed l i).length = 64
  | 0 => rfl
  | i + 1 => by rw [packed, List.length_set, packed_length l i]
theorem wordAt_u32 {l : List Int} (h : Byted l) (o : Nat) : U32 (wordAt l o) := by
  have b0 := h.at_ o
  have b1 := h.at_ (o + 1)
  have b2 := h.at_ (o + 2)
  have b3 := h.at_ (o + 3)
  unfold wordAt U32
  omega
theorem words16_get (l : List Int) (o j : Nat) (h : j < 16) : (words16 l o).getD j 0 = wordAt l (o + 4 * j) := by
  rw [words16, List.getD_eq_getElem?_getD, List.getElem?_map, List.getElem?_range h]; rfl
theorem words16_length (l : List Int) (o : Nat) : (words16 l o).length = 16 := by simp [words16]
theorem set_set_same (l : List Int) (i : Nat) (a b : Int) : (l.set i a).set i b = l.set i b := List.set_set ..
theorem packed_four {l : List Int} (hb : Byted l) (j : Nat) (hj : j < 16) (h : packed l (4 * j) = fillTo (words16 l 0) 64 j) : packed l (4 * j + 4) = fillTo (words16 l 0) 64 (j + 1) := by
  have b0 := hb.at_ (4 * j)
  have b1 := hb.at_ (4 * j + 1)
  have b2 := hb.at_ (4 * j + 2)
  have b3 := hb.at_ (4 * j + 3)
  have hl : (fillTo (words16 l 0) 64 j).length = 64 := fillTo_length _ _ _ (by rw [words16_length]; omega) (by omega)
  have g0 : (fillTo (words16 l 0) 64 j).getD j 0 = 0 := by rw [fillTo_get _ _ _ _ (by rw [words16_length]; omega) (by omega), if_neg (by omega)]
  have hs : ∀ v : Int, ((fillTo (words16 l 0) 64 j).set j v).getD j 0 = v := fun v => by rw [getD_set _ _ _ _ (by omega), if_pos rfl]
  show (packed l (4 * j + 3)).set ((4 * j + 3) / 4) ((packed l (4 * j + 3)).getD ((4 * j + 3) / 4) 0 * 256 % 4294967296 + l.getD (4 * j + 3) 0) = _
  rw [show (4 * j + 3) / 4 = j by omega, show packed l (4 * j + 3) = (packed l (4 * j + 2)).set ((4 * j + 2) / 4) ((packed l (4 * j + 2)).getD ((4 * j + 2) / 4) 0 * 256 % 4294967296 + l.getD (4 * j + 2) 0) from rfl,
    show (4 * j + 2) / 4 = j by omega, show packed l (4 * j + 2) = (packed l (4 * j + 1)).set ((4 * j + 1) / 4) ((packed l (4 * j + 1)).getD ((4 * j + 1) / 4) 0 * 256 % 4294967296 + l.getD (4 * j + 1) 0) from rfl,
    show (4 * j + 1) / 4 = j by omega, show packed l (4 * j + 1) = (packed l (4 * j)).set ((4 * j) / 4) ((packed l (4 * j)).getD ((4 * j) / 4) 0 * 256 % 4294967296 + l.getD (4 * j) 0) from rfl,
    show (4 * j) / 4 = j by omega, h, g0]
  simp only [set_set_same, hs]
  rw [← fillTo_set _ _ _ (by rw [words16_length]; omega) (by omega), words16_get _ _ _ hj, Nat.zero_add]
  congr 1
  unfold wordAt
  omega
theorem packed_is {l : List Int} (hb : Byted l) : ∀ j, j ≤ 16 → packed l (4 * j) = fillTo (words16 l 0) 64 j
  | 0, _ => rfl
  | j + 1, h => packed_four hb j (by omega) (packed_is hb j (by omega))
theorem packed_all {l : List Int} (hb : Byted l) : packed l 64 = fillTo (sched (words16 l 0) 48) 64 16 := by
  rw [show (64 : Nat) = 4 * 16 from rfl, packed_is hb 16 (by omega)]
  refine ext_getD (by rw [fillTo_length _ _ _ (by rw [words16_length]; omega) (by omega), fillTo_length _ _ _ (by rw [sched_length, words16_length]; omega) (by omega)]) fun j hj => ?_
  rw [fillTo_length _ _ _ (by rw [words16_length]; omega) (by omega)] at hj
  rw [fillTo_get _ _ _ _ (by rw [words16_length]; omega) hj, fillTo_get _ _ _ _ (by rw [sched_length, words16_length]; omega) hj]
  by_cases h : j < 16
  · rw [if_pos h, if_pos h, sched_get _ 0 j (by rw [words16_length]; omega) 48 (by omega)]; rfl
  · rw [if_neg h, if_neg h]
theorem getD_u32' {l : List Int} (h : ∀ x ∈ l, U32 x) (j : Nat) : U32 (l.getD j 0) := by
  rw [List.getD_eq_getElem?_getD]
  cases e : l[j]? with
  | none => exact (show U32 0 from by decide)
  | some x => exact h x (List.mem_of_getElem? e)
theorem packed_u32 {l : List Int} (hb : Byted l) : ∀ i, ∀ x ∈ packed l i, U32 x
  | 0, x, h => by rw [List.eq_of_mem_replicate h]; decide
  | i + 1, x, h => by
    rw [packed] at h
    rcases List.mem_or_eq_of_mem_set h with h | rfl
    · exact packed_u32 hb i x h
    · have b := hb.at_ i
      unfold U32
      omega
/-- A byte put behind three. -/
theorem put_byte {v b : Int} (hv : U32 v) (hb : 0 ≤ b ∧ b ≤ 255) : bits .or .u32 (v * 256 % 4294967296) b = v * 256 % 4294967296 + b :=
  (or_u32 8 (u32_mod _) ⟨hb.1, by omega⟩ (by show v * 256 % 4294967296 % 256 = 0; omega) (by show b < 256; omega)).1
/-- A word out of four of those before it. -/
theorem sched_next {m : List Int} (hm : m.length = 16) (i : Nat) (h0 : 16 ≤ i) (h1 : i < 64) :
    (sched m 48).getD i 0 = (lowB ((sched m 48).getD (i - 2) 0) + (sched m 48).getD (i - 7) 0 + lowA ((sched m 48).getD (i - 15) 0) + (sched m 48).getD (i - 16) 0) % 4294967296 := by
  have hl := sched_length m (i - 16)
  have g : ∀ j, j < i → (sched m 48).getD j 0 = (sched m (i - 16)).getD j 0 := fun j hj => sched_get m (i - 16) j (by omega) 48 (by omega)
  rw [sched_get m (i - 16 + 1) i (by omega) 48 (by omega), sched, List.getD_eq_getElem?_getD, List.getElem?_append_right (by omega), show i - (sched m (i - 16)).length = 0 by omega]
  rw [g (i - 2) (by omega), g (i - 7) (by omega), g (i - 15) (by omega), g (i - 16) (by omega)]
  show nextW (sched m (i - 16)) = _
  unfold nextW
  rw [show (sched m (i - 16)).length = i by omega]

end Go.Proofs.YtmhehnimgkmmaaaDoor
