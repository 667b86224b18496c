/- Numbers drawn, in the laws' base. -/
import Derived.Test.YtmhehnimgkmmaaaDoorLists
import Derived.Test.YtmhehnimgkmmaaaDoorApp
import Derived.Deep.RegionHeld3
import Derived.Deep.DeepCutAuto
import Derived.IntWalk
namespace Go.Proofs.YtmhehnimgkmmaaaDoor
set_option maxRecDepth 100000
open Go.RowKit
set_option linter.unusedVariables false
attribute [local go_sem] cell_re

set_option maxRecDepth 200000 in
set_option maxHeartbeats 8000000 in
theorem baseAmongN (n : Int) (hn : -9223372036854775808 ≤ n ∧ n ≤ 9223372036854775807) (m : Nat) (h0 : 1 ≤ m) (h1 : m ≤ 1000000) (w : World) :
    ∃ k : Nat, k < m ∧ Calls Tryd.prog 15 #[.int .i64 n, .int .i64 m] w fun e' w' => e' = .returned (.int .i64 k) ∧ Below w.heap.size w w' := by
  refine ⟨(n % 18446744073709551616 % m).toNat, by have h2 := Int.emod_lt_of_pos (n % 18446744073709551616) (show (0 : Int) < (m : Int) by omega); have h3 := Int.emod_nonneg (n % 18446744073709551616) (show (m : Int) ≠ 0 by omega); omega, ?_⟩
  have hk : (((n % 18446744073709551616 % m).toNat : Nat) : Int) = n % 18446744073709551616 % m := Int.toNat_of_nonneg (Int.emod_nonneg _ (by omega))
  have hb1 := Int.emod_lt_of_pos (n % 18446744073709551616) (show (0 : Int) < (m : Int) by omega)
  have hb0 := Int.emod_nonneg (n % 18446744073709551616) (show (m : Int) ≠ 0 by omega)
  have hb1' := Lib.hid hb1
  have hb0' := Lib.hid hb0
  rw [hk]
  have hk' := Lib.hid hk
  have j1 : ¬ (m : Int) < 1 := by omega
  have j2 : (1 : Int) ≤ (m : Int) := by omega
  have j3 : (m : Int) ≤ 1000000 := by omega
  have j4 : ¬ (m : Int) = 0 := by omega
  have u1 : IntKind.u64.wrap n = n % 18446744073709551616 := by rw [IntKind.wrap_u64]
  have u2 : IntKind.u64.wrap (m : Int) = m := by rw [IntKind.wrap_u64]; omega
  have u3 : (0 : Int) ≤ n % 18446744073709551616 := Int.emod_nonneg _ (by decide)
  clear hk hb0 hb1 h0 h1 hn
  go_enter Tryd.func15, Tryd.ntmps15
  go_wp2
  go_returns
  refine ⟨retI ?_, by go_grown⟩
  have h5 := hb0'.out
  have h6 := hb1'.out
  unfold wrap64
  omega
/-- Some truth value. -/
def SomeBool (w : World) (e : Ending) (w' : World) : Prop := ∃ b, e = .returned (.bool b) ∧ Below w.heap.size w w'
end Go.Proofs.YtmhehnimgkmmaaaDoor
