/- The greatest axis, and the vector of length One, in the document's answers. -/
import Derived.Test.YtmedemniopgpeaaRefK
import Derived.Test.YtmedemniopgpeaaRefP
import Derived.Test.YtmedemniopgpeaaVecN
import Derived.Test.YtmedemniopgpeaaVecS
import Derived.Test.YtmedemniopgpeaaRefR
import Derived.Test.YtmedemniopgpeaaVecT
import Derived.Deep.RegionHeld3
namespace Go.Proofs.Ytmedemniopgpeaa
open Go.RowKit
set_option linter.unusedVariables false
attribute [local go_sem] cell_re eqW_self eqV_self
attribute [local go_sem ↓] run_eqlW run_neqW run_eqlV

set_option maxRecDepth 100000 in
set_option maxHeartbeats 2000000 in
theorem ref6Greatest (a b c : Int) (ha : Half a) (hb : Half b) (hc : Half c) (w : World) :
    Calls Try.prog 20 #[V a b c] w fun e w' => e = .returned (.int .i64 (greatest a b c)) ∧ Below w.heap.size w w' := by
  have d1 := Lib.hid (fun W1 : World => ref6Bare a ha W1)
  have d2 := Lib.hid (fun W1 : World => ref6Bare b hb W1)
  have d3 := Lib.hid (fun W1 : World => ref6Bare c hc W1)
  have b1 := bare_bd ha
  have b2 := bare_bd hb
  have b3 := bare_bd hc
  unfold greatest
  obtain ⟨p, hp⟩ : ∃ x, Hid (bare a = x) := ⟨_, rfl⟩
  obtain ⟨q, hq⟩ : ∃ y, Hid (bare b = y) := ⟨_, rfl⟩
  obtain ⟨r, hr⟩ : ∃ z, Hid (bare c = z) := ⟨_, rfl⟩
  rw [hp.out] at d1 b1 ⊢
  rw [hq.out] at d2 b2 ⊢
  rw [hr.out] at d3 b3 ⊢
  clear hp hq hr ha hb hc
  have hO : Below w.heap.size w (w.alloc (.cells #[.int .i64 a, .int .i64 b, .int .i64 c] 24)) := by go_grown
  go_enter Try.func20, Try.ntmps20
  go_wp2_with fail
  refine wp_region_quiet_below (by kernel_rfl) (by kernel_rfl) ?_
  repeat (go_big_quiet_step (first | (go_at_call 34; first | with_reducible exact Calls.regrown_of (d1.out _) | with_reducible exact Calls.regrown_of (d2.out _) | with_reducible exact Calls.regrown_of (d3.out _))))
  refine wpQuiet_nil ?_
  intro wq hwq
  have hbq := below_of_re hwq
  clear hwq
  go_wp2
  all_goals
    go_returns
    refine ⟨retI ?_, below_then hO hbq⟩
    omega


end Go.Proofs.Ytmedemniopgpeaa
