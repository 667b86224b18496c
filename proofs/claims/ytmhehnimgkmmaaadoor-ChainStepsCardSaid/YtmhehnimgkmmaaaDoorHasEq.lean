/- Two arrays of the same integers are equal. No function of the program is named here. -/
import Derived.Test.YtmhehnimgkmmaaaDoorHasC
import Derived.ChangeKeysEq
import Derived.Laws.StructEq
namespace Go.Proofs.YtmhehnimgkmmaaaDoor
set_option maxRecDepth 100000
open Go.RowKit
set_option linter.unusedVariables false
section
variable {P : Program} {t e : TypeId} {n : Nat} {k : IntKind} {i : TypeInfo}
theorem eqItems_same (hc : P.cellsOf e = 1) (hp : P.plainKey e = true) (he : P.underlying e = some (.int k)) (l : List Int) (d : Nat) (w : World) :
    ∀ is : List Nat, (∀ j ∈ is, j < l.length) → (Op.eqItems (d + 1) e (P.cellsOf e) (ints k l).toArray (ints k l).toArray is).run P w = .ok true w
  | [], _ => by simp [Op.eqItems]
  | j :: is, h => by
    have hj := h j (by simp)
    have hx : (ints k l).toArray[j * P.cellsOf e]? = some (.int k (l.getD j 0)) := by
      rw [hc, Nat.mul_one, List.getElem?_toArray, ints, List.getElem?_map, List.getD_eq_getElem?_getD, List.getElem?_eq_getElem hj]; rfl
    have ih := eqItems_same hc hp he l d w is (fun q hq => h q (by simp [hq]))
    simp only [Op.eqItems, Sem.run_bind, run_part_plain w hp hx, Result.andThen_ok, run_equalIn_int w d e k k _ _ he, beq_self_eq_true, Bool.not_true, Bool.false_eq_true, if_false]
    exact ih
theorem equal_ints (hu : P.underlying t = some (.array n e)) (hi : P.info? e = some i) (hc : P.cellsOf e = 1) (hp : P.plainKey e = true) (he : P.underlying e = some (.int k)) (l : List Int) (hl : l.length = n) (w : World) :
    (Op.equalIn 10000 t (.agg (ints k l).toArray) (.agg (ints k l).toArray)).run P w = .ok true w := by
  rw [show (10000 : Nat) = (9998 + 1) + 1 from rfl, run_equalIn_array w (9998 + 1) _ _ hu hi]
  exact eqItems_same hc hp he l 9998 w _ (fun j hj => by have := List.mem_range.mp hj; omega)
end

end Go.Proofs.YtmhehnimgkmmaaaDoor
