/- A digest of parts, in the program. -/
import Derived.Test.YtmhehnimgkmmaaaDoorHasL
import Derived.Deep.RegionHeld3
import Derived.Deep.DeepCutAuto
import Derived.IntWalk
namespace Go.Proofs.YtmhehnimgkmmaaaDoor
set_option maxRecDepth 100000
open Go.RowKit
set_option linter.unusedVariables false
attribute [local go_sem] cell_re

/-- A slice of bytes as a value; a row of them. -/
def Part (w : World) (v : Value) (xs : List Int) : Prop := ∃ q m d, v = .slice q m d ∧ m = xs.length ∧ m ≤ d ∧ At .u8 w q xs ∧ Byted xs
def Parts (w : World) (p : Option Addr) (l : List (List Int)) : Prop := l = [] ∨ ∃ b off, p = some ⟨b, off, none⟩ ∧ b < w.heap.size ∧ ∀ j, j < l.length → ∃ v, w.cell? ⟨b, off + j, none⟩ = some v ∧ Part w v (l.getD j [])
theorem Part.call {w w' : World} {v : Value} {xs : List Int} (h : Part w v xs) (hb : Below w.heap.size w w') : Part w' v xs := by
  obtain ⟨q, m, d, e, hm, hd, ha, hx⟩ := h
  exact ⟨q, m, d, e, hm, hd, ha.call hb, hx⟩
theorem Parts.call {w w' : World} {p : Option Addr} {l : List (List Int)} (h : Parts w p l) (hb : Below w.heap.size w w') : Parts w' p l := by
  rcases h with h | ⟨b, off, e, hl, hc⟩
  · exact Or.inl h
  · refine Or.inr ⟨b, off, e, Nat.lt_of_lt_of_le hl hb.size, fun j hj => ?_⟩
    obtain ⟨v, h1, h2⟩ := hc j hj
    exact ⟨v, (hb.cell (p := ⟨b, off + j, none⟩) hl).trans h1, h2.call hb⟩
/-- The first k parts, one behind the other. -/
def joinTo (l : List (List Int)) (k : Nat) : List Int := (l.take k).flatten
theorem joinTo_succ (l : List (List Int)) (k : Nat) (h : k < l.length) : joinTo l k ++ l.getD k [] = joinTo l (k + 1) := by
  rw [joinTo, joinTo, List.take_add_one, List.getElem?_eq_getElem h, List.flatten_append, List.getD_eq_getElem?_getD, List.getElem?_eq_getElem h]
  simp
theorem joinTo_all (l : List (List Int)) : joinTo l l.length = l.flatten := by rw [joinTo, List.take_length]
theorem joinTo_le (l : List (List Int)) (k : Nat) : (joinTo l k).length ≤ l.flatten.length := by
  have h : l.flatten = joinTo l k ++ (l.drop k).flatten := by rw [joinTo, ← List.flatten_append, List.take_append_drop]
  rw [h, List.length_append]; omega
theorem At.in_block {k : IntKind} {w : World} {p : Option Addr} {zs : List Int} (h : At k w p zs) (hn : 0 < zs.length) {g : Nat} (hg : w.heap.size ≤ g) : ∀ a, p = some a → a.block ≠ g := by
  rcases h with h | ⟨b, off, e, hl, -⟩
  · rw [h] at hn; exact absurd hn (by simp)
  · intro a ha; rw [e] at ha; injection ha with ha; subst ha; show b ≠ g; omega
set_option maxRecDepth 200000 in
set_option maxHeartbeats 8000000 in
theorem hashOf (l : List (List Int)) (hb : ∀ k, Byted (joinTo l k)) (hlen : l.flatten.length ≤ 1000000000) (n c : Nat) (hn : n = l.length) (hn9 : n ≤ 1000000000) (p : Option Addr) (w : World) (hT : Steps w) (hP : Parts w p l) :
    Calls Tryd.prog 24 #[.slice p n c] w fun e w' => e = .returned (.agg (ints .u8 (sha l.flatten)).toArray) ∧ Below w.heap.size w w' := by
  have hHb := Lib.hid hb
  have hLen := Lib.hid hlen
  have hN := Lib.hid hn
  have hT0 := Lib.hid hT
  have hP0 := Lib.hid hP
  obtain ⟨D, hD⟩ : ∃ D, Hid (sha l.flatten = D) := ⟨_, rfl⟩
  have hDl : Hid (D.length = 32) := by show _ = _; rw [← hD.out]; rfl
  rw [hD.out]
  obtain ⟨Y, hY⟩ : ∃ Y, Hid ((ints .u8 D).toArray = Y) := ⟨_, rfl⟩
  rw [hY.out]
  have hw0 := hT.lt
  clear hb hlen hn hT hP
  go_enter Tryd.func24, Tryd.ntmps24
  go_upto_region 2 with (first
    | (refine walk_arr (o := ⟨some 2, _, _, _, _, _⟩) rfl 46 rfl .u8 (List.replicate 32 0) (by kernel_rfl) ?_; intro w1 hA1 hB1 hs1)
    | (go_at_call 29; refine (hashNew w1).mono ?_; rintro e' w2 ⟨g, rfl, hg, hR2, hB2⟩; have hA2 := hA1.call hB2; have hBw2 := below_then hB1 hB2; have hgw : w.heap.size ≤ g := (by have := hB1.size; omega); have hgne : w.heap.size ≠ g := (by omega); have hg0 : 0 < g := (by omega)))
  clear hA1 hB1 hB2 hs1 hg
  go_wp2
  go_loopw [9] (fun v9 wr => ∃ (i : Nat), i ≤ n ∧ v9 = .int .i64 i ∧ Has wr g (joinTo l i) ∧ Arr .u8 wr w.heap.size (List.replicate 32 0) ∧ Below w.heap.size w wr) (fun v9 _ => n - (intOf v9).toNat)
  case atStart => exact ⟨0, Nat.zero_le _, rfl, hR2, hA2, hBw2⟩
  case round =>
    clear hR2 hA2 hBw2
    obtain ⟨i, hi, rfl, hR, hA, hB⟩ := hrel
    by_cases hlt : i < n
    · have hNN := hN.out
      have hPr := hP0.out.call hB
      have hTr := hT0.out.call hB
      rcases hP0.out with h | ⟨b, off, rfl, hbl, hc⟩
      · exact absurd hNN (by rw [h]; simp; omega)
      obtain ⟨v, hv, q, m, d, rfl, hm, hmd, hat, hxb⟩ := hc i (by omega)
      have cv : wr.cell? ⟨b, off + i, none⟩ = some (.slice q m d) := (hB.cell (p := ⟨b, off + i, none⟩) hbl).trans hv
      have hnx := joinTo_succ l i (by omega)
      have hle := joinTo_le l (i + 1)
      rw [← hnx, List.length_append] at hle
      have d1 := Lib.hid (hashWrite (joinTo l i) (l.getD i []) (hHb.out i) hxb (by have := hLen.out; omega) g hg0 q m d (fun h => hat.in_block (by omega) hgw) hm hmd wr (hat.call hB) hTr hR)
      rw [hnx] at d1
      have gb : b < wr.heap.size := Nat.lt_of_lt_of_le hbl hB.size
      have j1 : (i : Int) < (n : Int) := by omega
      have jb : (i : Int) ≤ 1000000000 := by omega
      clear hnx hle hc hPr hv hat hxb hR hNN hmd hm
      go_wp2_with (go_at_call 30; refine d1.out.mono ?_; rintro e' w3 ⟨rfl, hR3, hO3⟩)
      go_roundw
      case rel => exact ⟨i + 1, by omega, by go_num, hR3, hA.grown hO3 hgne, hB.trans (hO3.below hgw hB.size)⟩
      case measure => simp [intOf]; omega
    · obtain rfl : i = n := by omega
      have hNN := hN.out
      subst hNN
      rw [joinTo_all] at hR
      have hall : Byted l.flatten := by rw [← joinTo_all]; exact hHb.out _
      have d2 := Lib.hid (hashSum l.flatten hall hLen.out g wr (hT0.out.call hB) hR)
      rw [hD.out, hY.out] at d2
      clear hall hR hlt hi
      go_wp2_with (first
        | (go_at_call 31; refine d2.out.mono ?_; rintro e' w4 ⟨rfl, hB4⟩; have hA4 := hA.call hB4; have hBw4 := below_then hB hB4)
        | (refine walk_store rfl 46 _ _ rfl hA4 rfl Y hY rfl (by rw [hDl.out]; kernel_rfl) (by rw [hDl.out]; rfl) ?_; intro w5 hA5 hs5 ho5))
      refine bodyPost_ret (results_cell_mid rfl _ _ w.heap.size (ints .u8 D) _ rfl hA5.range Tryd.underlying46 rfl (by rw [ints, List.length_map, hDl.out]; kernel_rfl)) rfl ?_
      exact ⟨by rw [hY.out], below_only hBw4 ho5 (Nat.le_refl _) hs5⟩

end Go.Proofs.YtmhehnimgkmmaaaDoor
