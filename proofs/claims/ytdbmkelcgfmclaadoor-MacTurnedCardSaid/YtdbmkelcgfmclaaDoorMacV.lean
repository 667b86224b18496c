/- An array of bytes that a row hands over by value. No function of the program is named here. -/
import Derived.Test.YtdbmkelcgfmclaaDoorHasRows
import Derived.Test.YtdbmkelcgfmclaaDoorMacMath
import Derived.OpenShut
namespace Go.Proofs.YtdbmkelcgfmclaaDoor
set_option maxRecDepth 100000
open Go.RowKit
set_option linter.unusedVariables false

section
variable {H : Type} {enc : TypeId × Value → H} {P : Program} {w : World} {base b0 : Nat} {held : Bool} {spare : Nat → Bool} {r : Reach}
theorem open_bytes {T E : TypeId} {n : Nat} {v : Value} {d : DataW H} {ps : List MemPlace} (hu : P.underlying T = some (.array n E)) (hE : P.underlying E = some (.int .u8)) (cE : P.cellsOf E = 1) (cT : P.cellsOf T = n)
    (hv : Value.okWide P w r b0 T v) (h : DataW.Trod enc P w base spare held T v d ps) : ∃ zs : List Int, zs.length = n ∧ Byted zs ∧ v = .agg (ints .u8 zs).toArray := by
  have hv' : ∃ cs, v = .agg cs ∧ cs.size = P.cellsOf T := by
    simp only [Value.okWide, hu] at hv
    obtain ⟨cs, h1, h2, _⟩ := hv
    exact ⟨cs, h1, h2⟩
  obtain ⟨cs, rfl, hsz⟩ := hv'
  rw [cT] at hsz
  obtain ⟨fuel, hf⟩ := h
  obtain ⟨xs, m, -, -, -, hl, hx⟩ := DataW.trod_array hu (show DataW.trod enc P w base spare held fuel T cs.toList = some (d, ps) from hf)
  have cell : ∀ i, i < n → ∃ z, (0 ≤ z ∧ z ≤ 255) ∧ cs.toList[i]? = some (.int .u8 z) := fun i hi => by
    have h1 := hx i hi
    rw [cE, Nat.mul_one, List.getElem?_eq_getElem (by omega)] at h1
    obtain ⟨z, e0, -, wz⟩ := DataW.trod_int hE h1
    have h2 : ((cs.toList.drop i).take 1)[0]? = some (.int .u8 z) := by rw [e0]; rfl
    rw [List.getElem?_take, if_pos (by decide), List.getElem?_drop, Nat.add_zero] at h2
    simp [Lit.wf, IntKind.min, IntKind.max, IntKind.signed, IntKind.bits] at wz
    exact ⟨z, by omega, h2⟩
  refine ⟨(List.range n).map fun i => intOf ((cs.toList[i]?).getD undef), by simp, fun y hy => ?_, ?_⟩
  · obtain ⟨i, hi, rfl⟩ := List.mem_map.mp hy
    obtain ⟨z, hz, e⟩ := cell i (List.mem_range.mp hi)
    rw [e]
    exact hz
  · congr 1
    apply Array.ext'
    apply List.ext_getElem?
    intro i
    by_cases hi : i < n
    · obtain ⟨z, hz, e⟩ := cell i hi
      rw [e, List.toList_toArray, ints, List.getElem?_map, List.getElem?_map, List.getElem?_range hi]
      show _ = some (Value.int .u8 (intOf ((cs.toList[i]?).getD undef)))
      rw [e]; rfl
    · rw [List.getElem?_eq_none (by simp; omega), List.getElem?_eq_none (by simp [ints]; omega)]
end

end Go.Proofs.YtdbmkelcgfmclaaDoor
