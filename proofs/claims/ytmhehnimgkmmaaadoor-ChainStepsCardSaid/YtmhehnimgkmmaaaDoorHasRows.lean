/- A slice of slices of bytes that comes in. No function of the program is named here. -/
import Derived.Test.YtmhehnimgkmmaaaDoorHasM
import Derived.Test.YtmhehnimgkmmaaaDoorLawK
import Derived.Deep.Matrix
namespace Go.Proofs.YtmhehnimgkmmaaaDoor
set_option maxRecDepth 100000
open Go.RowKit Go.ChangeShapes Go.WideShapes Go.ChangeAt Go.Deep
set_option linter.unusedVariables false

def RowsAt (w : World) (v : Value) (l : List (List Int)) : Prop := ∃ p cap, v = .slice p l.length cap ∧ l.length ≤ cap ∧ cap ≤ maxLen ∧ Parts w p l
theorem wf_byted {xs : List Int} (h : ∀ z ∈ xs, (Lit.int .u8 z).wf = true) : Byted xs := fun z hz => by
  have := h z hz
  simp [Lit.wf, IntKind.min, IntKind.max, IntKind.signed, IntKind.bits] at this
  exact ⟨by omega, by omega⟩
theorem plain_at {w : World} {a : Addr} {v : Value} (h : w.cell? a = some v) : ∃ b off, a = ⟨b, off, none⟩ := by
  obtain ⟨b, off, spot⟩ := a
  have hs : spot = none := by simpa using World.cell?_spot h
  subst hs
  exact ⟨b, off, rfl⟩
section
variable {H : Type} {enc : TypeId × Value → H} {P : Program} {w : World} {base b0 : Nat} {held : Bool} {r : Reach}
theorem open_rows {t e q : TypeId} {v : Value} {d : DataW H} {ps : List MemPlace} (ht : P.underlying t = some (.slice e)) (he : P.underlying e = some (.slice q)) (hq : P.underlying q = some (.int .u8)) (ce : P.cellsOf e = 1) (cq : P.cellsOf q = 1)
    (hv : Value.okWide P w r b0 t v) (h : DataW.Trod enc P w base (fun _ => true) held t v d ps) : ∃ l, RowsAt w v l := by
  obtain ⟨a0, len, cap, rfl⟩ := okWide_slice ht hv
  obtain ⟨fuel, hf⟩ := h
  rcases open_int_rows ht he hq ce cq hf with ⟨hcs, _⟩ | ⟨a, len', cap', A, L, C, Z, hcs, _, hle, hmax, _, hall⟩
  · simp [Value.cells] at hcs
    obtain ⟨rfl, rfl, rfl⟩ := hcs
    exact ⟨[], none, 0, rfl, Nat.le_refl _, Nat.zero_le _, Or.inl rfl⟩
  · simp [Value.cells] at hcs
    obtain ⟨rfl, rfl, rfl⟩ := hcs
    refine ⟨(List.range len).map fun r => (Z r).take (L r), some a, cap, by simp, by simpa using hle, hmax, ?_⟩
    by_cases h0 : len = 0
    · subst h0; exact Or.inl rfl
    · obtain ⟨b, off, rfl⟩ := plain_at (a := a) (by have := (hall 0 (by omega)).1; simpa [Addr.add] using this)
      refine Or.inr ⟨b, off, rfl, World.block_lt_of_cell? w _ (by have := (hall 0 (by omega)).1; simpa [Addr.add] using this), fun j hj => ?_⟩
      simp only [List.length_map, List.length_range] at hj
      obtain ⟨hc, hL, hC, hZ, hwf, hnone, hcell⟩ := hall j (by omega)
      refine ⟨.slice (A j) (L j) (C j), by rw [← Addr.add_mid]; exact hc, ?_⟩
      have hget : ((List.range len).map fun r => (Z r).take (L r)).getD j [] = (Z j).take (L j) := by
        rw [List.getD_eq_getElem?_getD, List.getElem?_map, List.getElem?_range hj]; rfl
      rw [hget]
      have hlen : ((Z j).take (L j)).length = L j := by rw [List.length_take]; omega
      refine ⟨A j, L j, C j, rfl, hlen.symm, hL, ?_, wf_byted fun z hz => hwf z (List.mem_of_mem_take hz)⟩
      by_cases hl0 : L j = 0
      · exact Or.inl (List.eq_nil_of_length_eq_zero (by omega))
      · cases hA : A j with
        | none => have := hnone hA; omega
        | some a' =>
          obtain ⟨hb', hc'⟩ := hcell a' hA
          obtain ⟨b', off', rfl⟩ := plain_at (a := a') (by have := hc' 0 (by omega); simpa [Addr.add] using this)
          refine Or.inr ⟨b', off', rfl, World.block_lt_of_cell? w _ (by have := hc' 0 (by omega); simpa [Addr.add] using this), fun i hi => ?_⟩
          have hi' : i < L j := by omega
          rw [← Addr.add_mid, hc' i (by omega), List.getD_eq_getElem?_getD, List.getD_eq_getElem?_getD, List.getElem?_take, if_pos hi']
end

end Go.Proofs.YtmhehnimgkmmaaaDoor
