/- An array of bytes that a row hands over by value. No function of the program is named here. -/
import Derived.Test.YtmhehnimgkmmaaaDoorHasRows
import Derived.Test.YtmhehnimgkmmaaaDoorMacMath
import Derived.Test.YtmhehnimgkmmaaaDoorHasEq
import Derived.OpenShut
namespace Go.Proofs.YtmhehnimgkmmaaaDoor
set_option maxRecDepth 100000
open Go.RowKit
set_option linter.unusedVariables false

section
variable {H : Type} {enc : TypeId × Value → H} {P : Program} {w : World} {base b0 : Nat} {held : Bool} {spare : Nat → Bool} {r : Reach}
theorem open_bytes {T E : TypeId} {n : Nat} {v : Value} {d : DataW H} {ps : List MemPlace} (hu : P.underlying T = some (.array n E)) (hE : P.underlying E = some (.int .u8)) (cE : P.cellsOf E = 1) (cT : P.cellsOf T = n)
    (hv : Value.okWide P w r b0 T v) (h : DataW.Trod enc P w base spare held T v d ps) : ∃ zs : List Int, zs.length = n ∧ Byted zs ∧ v = .agg (ints .u8 zs).toArray := by
  have hv' : ∃ cs, v = .agg cs ∧ cs.size = P.cellsOf T := by
    simp only [Value.okWide, hu] at hv
    obtain ⟨cs, h1, h2, _⟩ := hv
    exact ⟨cs, h1, h2⟩
  obtain ⟨cs, rfl, hsz⟩ := hv'
  rw [cT] at hsz
  obtain ⟨fuel, hf⟩ := h
  obtain ⟨xs, m, -, -, -, hl, hx⟩ := DataW.trod_array hu (show DataW.trod enc P w base spare held fuel T cs.toList = some (d, ps) from hf)
  have cell : ∀ i, i < n → ∃ z, (0 ≤ z ∧ z ≤ 255) ∧ cs.toList[i]? = some (.int .u8 z) := fun i hi => by
    have h1 := hx i hi
    rw [cE, Nat.mul_one, List.getElem?_eq_getElem (by omega)] at h1
    obtain ⟨z, e0, -, wz⟩ := DataW.trod_int hE h1
    have h2 : ((cs.toList.drop i).take 1)[0]? = some (.int .u8 z) := by rw [e0]; rfl
    rw [List.getElem?_take, if_pos (by decide), List.getElem?_drop, Nat.add_zero] at h2
    simp [Lit.wf, IntKind.min, IntKind.max, IntKind.signed, IntKind.bits] at wz
    exact ⟨z, by omega, h2⟩
  refine ⟨(List.range n).map fun i => intOf ((cs.toList[i]?).getD undef), by simp, fun y hy => ?_, ?_⟩
  · obtain ⟨i, hi, rfl⟩ := List.mem_map.mp hy
    obtain ⟨z, hz, e⟩ := cell i (List.mem_range.mp hi)
    rw [e]
    exact hz
  · congr 1
    apply Array.ext'
    apply List.ext_getElem?
    intro i
    by_cases hi : i < n
    · obtain ⟨z, hz, e⟩ := cell i hi
      rw [e, List.toList_toArray, ints, List.getElem?_map, List.getElem?_map, List.getElem?_range hi]
      show _ = some (Value.int .u8 (intOf ((cs.toList[i]?).getD undef)))
      rw [e]; rfl
    · rw [List.getElem?_eq_none (by simp; omega), List.getElem?_eq_none (by simp [ints]; omega)]
end
/- Two arrays of integers compared. -/
section
variable {P : Program} {t e : TypeId} {n : Nat} {k : IntKind} {i : TypeInfo}
theorem eqItems_ints (hc : P.cellsOf e = 1) (hp : P.plainKey e = true) (he : P.underlying e = some (.int k)) (l m : List Int) (hm : m.length = l.length) (d : Nat) (w : World) :
    ∀ is : List Nat, (∀ j ∈ is, j < l.length) → (Op.eqItems (d + 1) e (P.cellsOf e) (ints k l).toArray (ints k m).toArray is).run P w = .ok (is.all fun j => l.getD j 0 == m.getD j 0) w
  | [], _ => by simp [Op.eqItems]
  | j :: is, h => by
    have hj := h j (by simp)
    have hx : (ints k l).toArray[j * P.cellsOf e]? = some (.int k (l.getD j 0)) := by
      rw [hc, Nat.mul_one, List.getElem?_toArray, ints, List.getElem?_map, List.getD_eq_getElem?_getD, List.getElem?_eq_getElem hj]; rfl
    have hy : (ints k m).toArray[j * P.cellsOf e]? = some (.int k (m.getD j 0)) := by
      rw [hc, Nat.mul_one, List.getElem?_toArray, ints, List.getElem?_map, List.getD_eq_getElem?_getD, List.getElem?_eq_getElem (by omega)]; rfl
    have ih := eqItems_ints hc hp he l m hm d w is (fun q hq => h q (by simp [hq]))
    simp only [Op.eqItems, Sem.run_bind, run_part_plain w hp hx, run_part_plain w hp hy, Result.andThen_ok, run_equalIn_int w d e k k _ _ he]
    by_cases e2 : l.getD j 0 = m.getD j 0
    · have e3 : (l.getD j 0 == m.getD j 0) = true := by simpa using e2
      simp only [e3, Bool.not_true, Bool.false_eq_true, if_false, List.all_cons, Bool.true_and]
      exact ih
    · have e3 : (l.getD j 0 == m.getD j 0) = false := by simpa using e2
      simp only [e3, Bool.not_false, if_true, List.all_cons, Bool.false_and, Sem.run_pure]
theorem equal_two (hu : P.underlying t = some (.array n e)) (hi : P.info? e = some i) (hc : P.cellsOf e = 1) (hp : P.plainKey e = true) (he : P.underlying e = some (.int k)) (l m : List Int) (hl : l.length = n) (hm : m.length = n) (w : World) :
    (Op.equalIn 10000 t (.agg (ints k l).toArray) (.agg (ints k m).toArray)).run P w = .ok (decide (l = m)) w := by
  rw [show (10000 : Nat) = (9998 + 1) + 1 from rfl, run_equalIn_array w (9998 + 1) _ _ hu hi]
  rw [eqItems_ints hc hp he l m (by omega) 9998 w _ (fun j hj => by have := List.mem_range.mp hj; omega)]
  congr 1
  by_cases h : l = m
  · subst h; simp
  · rw [decide_eq_false h]
    rw [Bool.eq_false_iff]
    intro ha
    rw [List.all_eq_true] at ha
    exact h (ext_getD (by omega) fun j hj => by have := ha j (List.mem_range.mpr (by omega)); simpa using this)
end

end Go.Proofs.YtmhehnimgkmmaaaDoor
