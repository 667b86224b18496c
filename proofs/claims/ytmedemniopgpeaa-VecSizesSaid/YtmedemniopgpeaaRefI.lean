/- What Clip and Div of the document's answers give. -/
import Derived.Test.YtmedemniopgpeaaRefH
import Derived.Laws.MakeOwn
namespace Go.Proofs.Ytmedemniopgpeaa
open Go.RowKit
attribute [local go_sem] cell_re eqW_self
attribute [local go_sem ↓] run_eqlW run_neqW

theorem refLess_v (a b : Int) (ha : Fits a) (hb : Fits b) (c : Bool) (h : decide (a < b) = c) (w : World) : Calls Try.prog 57 #[W a, W b] w fun e w' => e = .returned (.bool c) ∧ Below w.heap.size w w' := by
  subst h
  exact refLess a b ha hb w

set_option maxHeartbeats 1000000 in
theorem refClip_lo (a : Int) (ha : Fits a) (h : a < -9223372036854775808) (w : World) :
    Calls Try.prog 45 #[W a] w fun e w' => e = .returned (.tuple #[.int .i64 (clipped a), .bool (cut a)]) ∧ Below w.heap.size w w' := by
  have hha := hi_lo a
  have hga := hi_hi a
  have hla := lo_lo a
  have hka := lo_hi a
  have c1 := Lib.hid (show decide (a < -9223372036854775808) = true by simp; omega)
  have c2 := Lib.hid (show decide (9223372036854775807 < a) = false by simp; omega)
  have f1 := Lib.hid (show Fits (-9223372036854775808) by unfold Fits; omega)
  have f2 := Lib.hid (show Fits 9223372036854775807 by unfold Fits; omega)
  go_enter Try.func45, Try.ntmps45
  go_wp2_with fail
  refine wp_region_quiet_below (by kernel_rfl) (by kernel_rfl) ?_
  repeat (go_big_quiet_step ((first | (go_at_call 69; first | (with_reducible exact Calls.regrown_of (refOf (-9223372036854775808) (by unfold Half; omega) _))) | (go_at_call 57; first | (with_reducible exact Calls.regrown_of (refLess_v a (-9223372036854775808) ha f1.out true c1.out _))))))
  refine wpQuiet_nil ?_
  intro w1 hw1
  have hb1 := below_of_re hw1
  clear hw1
  obtain ⟨hc1, hf1⟩ := bcell hb1
  have hz1 := hb1.size
  have ht1 : Below w.heap.size w w1 := Below.trans (by go_grown) (hb1.mono (by simp <;> omega))
  go_wp2
  go_returns
  refine ⟨retIB ?_ ?_, by assumption⟩
  · unfold clipped; omega
  · unfold cut; first | (symm; exact decide_eq_true (by omega)) | (symm; exact decide_eq_false (by omega))

set_option maxHeartbeats 1000000 in
theorem refClip_hi (a : Int) (ha : Fits a) (h : 9223372036854775807 < a) (w : World) :
    Calls Try.prog 45 #[W a] w fun e w' => e = .returned (.tuple #[.int .i64 (clipped a), .bool (cut a)]) ∧ Below w.heap.size w w' := by
  have hha := hi_lo a
  have hga := hi_hi a
  have hla := lo_lo a
  have hka := lo_hi a
  have c1 := Lib.hid (show decide (a < -9223372036854775808) = false by simp; omega)
  have c2 := Lib.hid (show decide (9223372036854775807 < a) = true by simp; omega)
  have f1 := Lib.hid (show Fits (-9223372036854775808) by unfold Fits; omega)
  have f2 := Lib.hid (show Fits 9223372036854775807 by unfold Fits; omega)
  go_enter Try.func45, Try.ntmps45
  go_wp2_with fail
  refine wp_region_quiet_below (by kernel_rfl) (by kernel_rfl) ?_
  repeat (go_big_quiet_step ((first | (go_at_call 69; first | (with_reducible exact Calls.regrown_of (refOf (-9223372036854775808) (by unfold Half; omega) _))) | (go_at_call 57; first | (with_reducible exact Calls.regrown_of (refLess_v a (-9223372036854775808) ha f1.out false c1.out _))))))
  refine wpQuiet_nil ?_
  intro w1 hw1
  have hb1 := below_of_re hw1
  clear hw1
  obtain ⟨hc1, hf1⟩ := bcell hb1
  have hz1 := hb1.size
  have ht1 : Below w.heap.size w w1 := Below.trans (by go_grown) (hb1.mono (by simp <;> omega))
  have d0 : w1.cell? ⟨w.heap.size, 0, none⟩ = some (.int .i64 (hi a)) := (hc1 _ _ (by simp)).trans (by simp [go_sem])
  have d1 : w1.cell? ⟨w.heap.size, 1, none⟩ = some (.int .u64 (lo a)) := (hc1 _ _ (by simp)).trans (by simp [go_sem])
  have e0 := cell_regrown d0
  have e1 := cell_regrown d1
  clear hc1 hf1 hz1 hb1
  go_wp2_with fail
  refine wp_region_quiet_below (by kernel_rfl) (by kernel_rfl) ?_
  repeat (go_big_quiet_step ((first | (go_at_call 69; first | (with_reducible exact Calls.regrown_of (refOf 9223372036854775807 (by unfold Half; omega) _))) | (go_at_call 57; first | (with_reducible exact Calls.regrown_of (refLess_v 9223372036854775807 a f2.out ha true c2.out _))))))
  refine wpQuiet_nil ?_
  intro w2 hw2
  have hb2 := below_of_re hw2
  clear hw2
  obtain ⟨hc2, hf2⟩ := bcell hb2
  have hz2 := hb2.size
  have ht2 : Below w.heap.size w w2 := Below.trans ht1 (hb2.mono ht1.size)
  go_wp2
  go_returns
  refine ⟨retIB ?_ ?_, by assumption⟩
  · unfold clipped; omega
  · unfold cut; first | (symm; exact decide_eq_true (by omega)) | (symm; exact decide_eq_false (by omega))

set_option maxHeartbeats 1000000 in
theorem refClip_in (a : Int) (ha : Fits a) (h : -9223372036854775808 ≤ a ∧ a ≤ 9223372036854775807) (w : World) :
    Calls Try.prog 45 #[W a] w fun e w' => e = .returned (.tuple #[.int .i64 (clipped a), .bool (cut a)]) ∧ Below w.heap.size w w' := by
  have hha := hi_lo a
  have hga := hi_hi a
  have hla := lo_lo a
  have hka := lo_hi a
  have c1 := Lib.hid (show decide (a < -9223372036854775808) = false by simp; omega)
  have c2 := Lib.hid (show decide (9223372036854775807 < a) = false by simp; omega)
  have f1 := Lib.hid (show Fits (-9223372036854775808) by unfold Fits; omega)
  have f2 := Lib.hid (show Fits 9223372036854775807 by unfold Fits; omega)
  go_enter Try.func45, Try.ntmps45
  go_wp2_with fail
  refine wp_region_quiet_below (by kernel_rfl) (by kernel_rfl) ?_
  repeat (go_big_quiet_step ((first | (go_at_call 69; first | (with_reducible exact Calls.regrown_of (refOf (-9223372036854775808) (by unfold Half; omega) _))) | (go_at_call 57; first | (with_reducible exact Calls.regrown_of (refLess_v a (-9223372036854775808) ha f1.out false c1.out _))))))
  refine wpQuiet_nil ?_
  intro w1 hw1
  have hb1 := below_of_re hw1
  clear hw1
  obtain ⟨hc1, hf1⟩ := bcell hb1
  have hz1 := hb1.size
  have ht1 : Below w.heap.size w w1 := Below.trans (by go_grown) (hb1.mono (by simp <;> omega))
  have d0 : w1.cell? ⟨w.heap.size, 0, none⟩ = some (.int .i64 (hi a)) := (hc1 _ _ (by simp)).trans (by simp [go_sem])
  have d1 : w1.cell? ⟨w.heap.size, 1, none⟩ = some (.int .u64 (lo a)) := (hc1 _ _ (by simp)).trans (by simp [go_sem])
  have e0 := cell_regrown d0
  have e1 := cell_regrown d1
  clear hc1 hf1 hz1 hb1
  go_wp2_with fail
  refine wp_region_quiet_below (by kernel_rfl) (by kernel_rfl) ?_
  repeat (go_big_quiet_step ((first | (go_at_call 69; first | (with_reducible exact Calls.regrown_of (refOf 9223372036854775807 (by unfold Half; omega) _))) | (go_at_call 57; first | (with_reducible exact Calls.regrown_of (refLess_v 9223372036854775807 a f2.out ha false c2.out _))))))
  refine wpQuiet_nil ?_
  intro w2 hw2
  have hb2 := below_of_re hw2
  clear hw2
  obtain ⟨hc2, hf2⟩ := bcell hb2
  have hz2 := hb2.size
  have ht2 : Below w.heap.size w w2 := Below.trans ht1 (hb2.mono ht1.size)
  have g1 : w2.cell? ⟨w.heap.size, 1, none⟩ = some (.int .u64 (lo a)) := (hb2.cell (p := ⟨w.heap.size, 1, none⟩) (World.block_lt_of_cell? w1 _ d1)).trans d1
  go_wp2
  go_returns
  refine ⟨retIB ?_ ?_, by assumption⟩
  · unfold clipped; (unfold wrap64 lo; omega)
  · unfold cut; first | (symm; exact decide_eq_true (by omega)) | (symm; exact decide_eq_false (by omega))

theorem refClip (a : Int) (ha : Fits a) (w : World) : Calls Try.prog 45 #[W a] w fun e w' => e = .returned (.tuple #[.int .i64 (clipped a), .bool (cut a)]) ∧ Below w.heap.size w w' := by
  by_cases h : a < -9223372036854775808
  · exact refClip_lo a ha h w
  · by_cases h2 : 9223372036854775807 < a
    · exact refClip_hi a ha h2 w
    · exact refClip_in a ha (by omega) w

end Go.Proofs.Ytmedemniopgpeaa
