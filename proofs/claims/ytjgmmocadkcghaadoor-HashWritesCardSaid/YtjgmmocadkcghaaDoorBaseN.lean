/- Numbers drawn, in the laws' base. -/
import Derived.Test.YtjgmmocadkcghaaDoorLists
import Derived.Test.YtjgmmocadkcghaaDoorApp
import Derived.Deep.RegionHeld3
import Derived.Deep.DeepCutAuto
import Derived.IntWalk
namespace Go.Proofs.YtjgmmocadkcghaaDoor
set_option maxRecDepth 100000
open Go.RowKit
set_option linter.unusedVariables false
attribute [local go_sem] cell_re

set_option maxRecDepth 200000 in
set_option maxHeartbeats 8000000 in
theorem baseAmongN (n : Int) (hn : -9223372036854775808 ≤ n ∧ n ≤ 9223372036854775807) (m : Nat) (h0 : 1 ≤ m) (h1 : m ≤ 1000000) (w : World) :
    ∃ k : Nat, k < m ∧ Calls Tryd.prog 18 #[.int .i64 n, .int .i64 m] w fun e' w' => e' = .returned (.int .i64 k) ∧ Below w.heap.size w w' := by
  refine ⟨(n % 18446744073709551616 % m).toNat, by have h2 := Int.emod_lt_of_pos (n % 18446744073709551616) (show (0 : Int) < (m : Int) by omega); have h3 := Int.emod_nonneg (n % 18446744073709551616) (show (m : Int) ≠ 0 by omega); omega, ?_⟩
  have hk : (((n % 18446744073709551616 % m).toNat : Nat) : Int) = n % 18446744073709551616 % m := Int.toNat_of_nonneg (Int.emod_nonneg _ (by omega))
  have hb1 := Int.emod_lt_of_pos (n % 18446744073709551616) (show (0 : Int) < (m : Int) by omega)
  have hb0 := Int.emod_nonneg (n % 18446744073709551616) (show (m : Int) ≠ 0 by omega)
  have hb1' := Lib.hid hb1
  have hb0' := Lib.hid hb0
  rw [hk]
  have hk' := Lib.hid hk
  have j1 : ¬ (m : Int) < 1 := by omega
  have j2 : (1 : Int) ≤ (m : Int) := by omega
  have j3 : (m : Int) ≤ 1000000 := by omega
  have j4 : ¬ (m : Int) = 0 := by omega
  have u1 : IntKind.u64.wrap n = n % 18446744073709551616 := by rw [IntKind.wrap_u64]
  have u2 : IntKind.u64.wrap (m : Int) = m := by rw [IntKind.wrap_u64]; omega
  have u3 : (0 : Int) ≤ n % 18446744073709551616 := Int.emod_nonneg _ (by decide)
  clear hk hb0 hb1 h0 h1 hn
  go_enter Tryd.func18, Tryd.ntmps18
  go_wp2
  go_returns
  refine ⟨retI ?_, by go_grown⟩
  have h5 := hb0'.out
  have h6 := hb1'.out
  unfold wrap64
  omega
/-- Some truth value. -/
def SomeBool (w : World) (e : Ending) (w' : World) : Prop := ∃ b, e = .returned (.bool b) ∧ Below w.heap.size w w'
set_option maxRecDepth 200000 in
set_option maxHeartbeats 8000000 in
theorem baseHasInt (zs : List Int) (v : Int) (n c : Nat) (hn : n = zs.length) (hc : n ≤ 9223372036854775807) (p : Option Addr) (w : World) (hx : At .i64 w p zs) : Calls Tryd.prog 12 #[.slice p n c, .int .i64 v] w (SomeBool w) := by
  have hN := Lib.hid hn
  have hX := Lib.hid hx
  have hO : Below w.heap.size w w := Below.refl _ _
  have jn : (n : Int) ≤ 9223372036854775807 := by omega
  clear hn hx hc
  go_enter Tryd.func12, Tryd.ntmps12
  go_wp2
  go_loopw [5] (fun v5 wr => ∃ (i : Nat), i ≤ n ∧ v5 = .int .i64 i ∧ Below w.heap.size w wr) (fun v5 _ => n - (intOf v5).toNat)
  case atStart => exact ⟨0, Nat.zero_le _, rfl, hO⟩
  case round =>
    clear hO
    obtain ⟨i, hi, rfl, hB⟩ := hrel
    by_cases hlt : i < n
    · have hNN := hN.out
      rcases hX.out with h | ⟨b, off, rfl, hbl, hcs⟩
      · exact absurd hNN (by rw [h]; simp; omega)
      have cv := (hB.cell (p := ⟨b, off + i, none⟩) hbl).trans (hcs i (by omega))
      have lb : b < wr.heap.size := Nat.lt_of_lt_of_le hbl hB.size
      generalize zs.getD i 0 = z at cv
      have j1 : (i : Int) < (n : Int) := by omega
      have hfin := Lib.hid (show SomeBool w (.returned (.bool true)) wr from ⟨true, rfl, hB⟩)
      clear hcs hNN
      by_cases hz : z = v
      · subst hz
        go_wp2
        go_ret
        exact hfin.out
      · go_wp2
        go_roundw
        case rel => exact ⟨i + 1, by omega, by go_num, hB⟩
        case measure => simp [intOf]; omega
    · obtain rfl : i = n := by omega
      have hfin := Lib.hid (show SomeBool w (.returned (.bool false)) wr from ⟨false, rfl, hB⟩)
      go_wp2
      go_ret
      exact hfin.out

end Go.Proofs.YtjgmmocadkcghaaDoor
