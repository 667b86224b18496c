/- A hasher that no call made. -/
import Derived.Test.YtjgmmocadkcghaaDoorHasK
import Derived.Deep.RegionHeld3
import Derived.Deep.DeepCutAuto
import Derived.IntWalk
namespace Go.Proofs.YtjgmmocadkcghaaDoor
set_option maxRecDepth 100000
open Go.RowKit
set_option linter.unusedVariables false
attribute [local go_sem] cell_re

set_option maxRecDepth 200000 in
set_option maxHeartbeats 8000000 in
theorem voidWrite (v : Value) (w : World) (hd : ∀ W1 : World, Below w.heap.size w W1 → Calls Tryd.prog 22 #[v] W1 fun e w' => e = .returned (.bool true) ∧ W1 = w') (q : Option Addr) (n c : Nat) : Calls Tryd.prog 14 #[v, .slice q n c] w fun e w' => e = .returned (.int .i64 1) ∧ w = w' := by
  have d1 := Lib.hid (hd w (Below.refl _ _))
  clear hd
  go_enter Tryd.func14, Tryd.ntmps14
  go_wp2_with (go_at_call 22; refine d1.out.mono ?_; rintro e' w' ⟨rfl, rfl⟩)
  go_ret
  exact ⟨rfl, rfl⟩
set_option maxRecDepth 200000 in
set_option maxHeartbeats 8000000 in
theorem voidLen (v : Value) (w : World) (hd : ∀ W1 : World, Below w.heap.size w W1 → Calls Tryd.prog 22 #[v] W1 fun e w' => e = .returned (.bool true) ∧ W1 = w') : Calls Tryd.prog 17 #[v] w fun e w' => e = .returned (.int .i64 0) ∧ w = w' := by
  have d1 := Lib.hid (hd w (Below.refl _ _))
  clear hd
  go_enter Tryd.func17, Tryd.ntmps17
  go_wp2_with (go_at_call 22; refine d1.out.mono ?_; rintro e' w' ⟨rfl, rfl⟩)
  go_ret
  exact ⟨rfl, rfl⟩
set_option maxRecDepth 200000 in
set_option maxHeartbeats 8000000 in
theorem voidFork (v : Value) (w : World) (hd : ∀ W1 : World, Below w.heap.size w W1 → Calls Tryd.prog 22 #[v] W1 fun e w' => e = .returned (.bool true) ∧ W1 = w') : Calls Tryd.prog 13 #[v] w fun e w' => e = .returned (.pointer none) ∧ w = w' := by
  have d1 := Lib.hid (hd w (Below.refl _ _))
  clear hd
  go_enter Tryd.func13, Tryd.ntmps13
  go_wp2_with (go_at_call 22; refine d1.out.mono ?_; rintro e' w' ⟨rfl, rfl⟩)
  go_ret
  exact ⟨rfl, rfl⟩
set_option maxRecDepth 200000 in
set_option maxHeartbeats 8000000 in
theorem voidSum (v : Value) (w : World) (hd : ∀ W1 : World, Below w.heap.size w W1 → Calls Tryd.prog 22 #[v] W1 fun e w' => e = .returned (.bool true) ∧ W1 = w') : Calls Tryd.prog 15 #[v] w fun e w' => e = .returned (.agg (ints .u8 (List.replicate 32 0)).toArray) ∧ Below w.heap.size w w' := by
  have d1 := Lib.hid hd
  clear hd
  go_enter Tryd.func15, Tryd.ntmps15
  go_wp2_with (first
    | (refine walk_arr (o := ⟨some 2, _, _, _, _, _⟩) rfl 27 rfl .u8 (List.replicate 32 0) (by kernel_rfl) ?_; intro w1 hA1 hB1 hs1)
    | (go_at_call 22; refine (d1.out w1 hB1).mono ?_; rintro e' w' ⟨rfl, rfl⟩)
    | (refine walk_store rfl 27 _ _ rfl hA1 rfl (ints .u8 (List.replicate 32 0)).toArray rfl rfl (by kernel_rfl) rfl ?_; intro w5 hA5 hs5 ho5))
  refine bodyPost_ret (results_cell_mid rfl _ _ w.heap.size (ints .u8 (List.replicate 32 0)) _ rfl hA5.range Tryd.underlying27 rfl (by kernel_rfl)) rfl ?_
  exact ⟨rfl, below_only hB1 ho5 (Nat.le_refl _) hs5⟩
theorem voidSumZ (v : Value) (w : World) (hd : ∀ W1 : World, Below w.heap.size w W1 → Calls Tryd.prog 22 #[v] W1 fun e w' => e = .returned (.bool true) ∧ W1 = w') : Calls Tryd.prog 15 #[v] w fun e w' => e = .returned (.agg #[.int .u8 0, .int .u8 0, .int .u8 0, .int .u8 0, .int .u8 0, .int .u8 0, .int .u8 0, .int .u8 0, .int .u8 0, .int .u8 0, .int .u8 0, .int .u8 0, .int .u8 0, .int .u8 0, .int .u8 0, .int .u8 0, .int .u8 0, .int .u8 0, .int .u8 0, .int .u8 0, .int .u8 0, .int .u8 0, .int .u8 0, .int .u8 0, .int .u8 0, .int .u8 0, .int .u8 0, .int .u8 0, .int .u8 0, .int .u8 0, .int .u8 0, .int .u8 0]) ∧ Below w.heap.size w w' := voidSum v w hd

end Go.Proofs.YtjgmmocadkcghaaDoor
