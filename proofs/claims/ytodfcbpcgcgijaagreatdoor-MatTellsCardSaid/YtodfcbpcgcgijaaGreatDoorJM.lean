import Derived.Test.YtodfcbpcgcgijaaGreatDoorJG
import Derived.Test.YtodfcbpcgcgijaaGreatDoorJI
import Derived.Test.YtodfcbpcgcgijaaGreatDoorJL
import Derived.Deep.RegionHeld3
/- What is done axis by axis, by functions that are handed on. -/
namespace Go.Proofs.YtodfcbpcgcgijaaGreatDoor
set_option maxRecDepth 100000
open Go.RowKit
set_option linter.unusedVariables false
attribute [local go_sem] cell_re eqW_self eqV_self
attribute [local go_sem ↓] run_eqlW run_neqW run_eqlV

set_option maxRecDepth 100000 in
set_option maxHeartbeats 2000000 in
theorem vecAxesCross (ga gb : Nat) (f0 f1 f2 : Int) (c0 c1 c2 : Bool) (w : World)
    (d0 : ∀ W1 : World, Below w.heap.size w W1 → Calls Tryz.prog 38 #[.int .i64 0, .pointer (some ⟨ga, 0, none⟩), .pointer (some ⟨gb, 0, none⟩)] W1 fun e w' => e = .returned (.tuple #[.int .i64 f0, .bool c0]) ∧ Below W1.heap.size W1 w')
    (d1 : ∀ W1 : World, Below w.heap.size w W1 → Calls Tryz.prog 38 #[.int .i64 1, .pointer (some ⟨ga, 0, none⟩), .pointer (some ⟨gb, 0, none⟩)] W1 fun e w' => e = .returned (.tuple #[.int .i64 f1, .bool c1]) ∧ Below W1.heap.size W1 w')
    (d2 : ∀ W1 : World, Below w.heap.size w W1 → Calls Tryz.prog 38 #[.int .i64 2, .pointer (some ⟨ga, 0, none⟩), .pointer (some ⟨gb, 0, none⟩)] W1 fun e w' => e = .returned (.tuple #[.int .i64 f2, .bool c2]) ∧ Below W1.heap.size W1 w') :
    Calls Tryz.prog 33 #[.func (.func 38) #[] #[.pointer (some ⟨ga, 0, none⟩), .pointer (some ⟨gb, 0, none⟩)]] w fun e w' => e = .returned (.tuple #[V f0 f1 f2, .bool (c0 || c1 || c2)]) ∧ Below w.heap.size w w' := by
  replace d0 := Lib.hid d0
  replace d1 := Lib.hid d1
  replace d2 := Lib.hid d2
  have hR := (Tri.new w 0 0 0 24).alloc (.cells #[.int .i64 0, .int .i64 0, .int .i64 0] 24)
  have hT := Tri.new (w.alloc (.cells #[.int .i64 0, .int .i64 0, .int .i64 0] 24)) 0 0 0 24
  rw [World.size_alloc] at hT
  have hO : Below w.heap.size w ((w.alloc (.cells #[.int .i64 0, .int .i64 0, .int .i64 0] 24)).alloc (.cells #[.int .i64 0, .int .i64 0, .int .i64 0] 24)) := by go_grown
  have gR : w.heap.size ≠ w.heap.size + 1 := by omega
  have gO : w.heap.size ≤ w.heap.size + 1 := by omega
  cases c0
  all_goals
    cases c1
    all_goals
      go_enter Tryz.func33, Tryz.ntmps33
      go_wp2
      refine wp_loop_rounds 4 ?_
      rw [rounds_succ]
      go_wp2_with fail
      refine (d0.out _ hO).mono ?_
      rintro e w0 ⟨rfl, hb⟩
      replace hR := (hR.call hb).apart gR 0 (.int .i64 f0)
      replace hT := hT.call hb
      replace hO := (below_then hO hb).setCell (p := ⟨w.heap.size + 1, 0, none⟩) gO (.int .i64 f0)
      clear hb
      obtain ⟨tl, t0, t1, t2, t3, t4, t5⟩ := (id hT : Tri w0 (w.heap.size + 1) 0 0 0)
      replace hT := hT.set0 f0
      go_wp2
      clear t0 t1 t2 t3 t4 t5 tl
      rw [rounds_succ]
      go_wp2_with fail
      refine (d1.out _ hO).mono ?_
      rintro e w1 ⟨rfl, hb⟩
      replace hR := (hR.call hb).apart gR 1 (.int .i64 f1)
      replace hT := hT.call hb
      replace hO := (below_then hO hb).setCell (p := ⟨w.heap.size + 1, 1, none⟩) gO (.int .i64 f1)
      clear hb
      obtain ⟨tl, t0, t1, t2, t3, t4, t5⟩ := (id hT : Tri w1 (w.heap.size + 1) f0 0 0)
      replace hT := hT.set1 f1
      go_wp2
      clear t0 t1 t2 t3 t4 t5 tl
      rw [rounds_succ]
      go_wp2_with fail
      refine (d2.out _ hO).mono ?_
      rintro e w2 ⟨rfl, hb⟩
      replace hR := (hR.call hb).apart gR 2 (.int .i64 f2)
      replace hT := hT.call hb
      replace hO := (below_then hO hb).setCell (p := ⟨w.heap.size + 1, 2, none⟩) gO (.int .i64 f2)
      clear hb
      obtain ⟨tl, t0, t1, t2, t3, t4, t5⟩ := (id hT : Tri w2 (w.heap.size + 1) f0 f1 0)
      replace hT := hT.set2 f2
      go_wp2
      clear t0 t1 t2 t3 t4 t5 tl
      rw [rounds_succ]
      obtain ⟨tl, t0, t1, t2, t3, t4, t5⟩ := hT
      obtain ⟨rl, r0, r1, r2, r3, r4, r5⟩ := hR
      go_wp2
      refine bodyPost_ret (by simp [results, Tryz.results33, go_sem, r0, r1, r2]; try rfl) rfl ?_
      exact ⟨rfl, below_putV hO (Nat.le_refl _) _ _ _⟩
set_option maxRecDepth 100000 in
set_option maxHeartbeats 2000000 in
theorem vecCross0 (a b c x y z : Int) (ha : Half a) (hb : Half b) (hc : Half c) (hx : Half x) (hy : Half y) (hz : Half z) (ga gb : Nat) (w : World) (hA : Tri w ga a b c) (hB : Tri w gb x y z) : Calls Tryz.prog 38 #[.int .i64 0, .pointer (some ⟨ga, 0, none⟩), .pointer (some ⟨gb, 0, none⟩)] w fun e w' => e = .returned (sat (prod b z + -prod c y)) ∧ Below w.heap.size w w' := by
  have d1 := Lib.hid (fun W1 : World => vecProduct b z hb hz W1)
  have d2 := Lib.hid (fun W1 : World => vecProduct c y hc hy W1)
  have d5 := Lib.hid (fun W1 : World => vecSat _ (area_fits hb hz hc hy) W1)
  obtain ⟨p, hp⟩ : ∃ p, Hid (prod b z = p) := ⟨_, rfl⟩
  obtain ⟨q, hq⟩ : ∃ q, Hid (prod c y = q) := ⟨_, rfl⟩
  rw [hp.out] at d1
  rw [hq.out] at d2
  rw [hp.out, hq.out] at d5 ⊢
  clear ha hb hc hx hy hz hp hq
  have d3 := Lib.hid (fun W1 : World => wideNeg q W1)
  have d4 := Lib.hid (fun W1 : World => wideAdd p (-q) W1)
  obtain ⟨al, a0, a1, a2, -, -, -⟩ := hA
  obtain ⟨bl, b0, b1, b2, -, -, -⟩ := hB
  go_enter Tryz.func38, Tryz.ntmps38
  go_wp2_with fail
  refine wp_region_quiet_below (by kernel_rfl) (by kernel_rfl) ?_
  repeat (go_big_quiet_step (first | (go_at_call 41; first | with_reducible exact Calls.regrown_of (d1.out _) | with_reducible exact Calls.regrown_of (d2.out _)) | (go_at_call 42; first | with_reducible exact Calls.regrown_of (d3.out _)) | (go_at_call 40; first | with_reducible exact Calls.regrown_of (d4.out _)) | (go_at_call 39; first | with_reducible exact Calls.regrown_of (d5.out _))))
  refine wpQuiet_nil ?_
  intro wq hwq
  have hbq := below_of_re hwq
  clear hwq
  go_wp2
  go_ret2
  exact ⟨rfl, hbq⟩
set_option maxRecDepth 100000 in
set_option maxHeartbeats 2000000 in
theorem vecCross1 (a b c x y z : Int) (ha : Half a) (hb : Half b) (hc : Half c) (hx : Half x) (hy : Half y) (hz : Half z) (ga gb : Nat) (w : World) (hA : Tri w ga a b c) (hB : Tri w gb x y z) : Calls Tryz.prog 38 #[.int .i64 1, .pointer (some ⟨ga, 0, none⟩), .pointer (some ⟨gb, 0, none⟩)] w fun e w' => e = .returned (sat (prod c x + -prod a z)) ∧ Below w.heap.size w w' := by
  have d1 := Lib.hid (fun W1 : World => vecProduct c x hc hx W1)
  have d2 := Lib.hid (fun W1 : World => vecProduct a z ha hz W1)
  have d5 := Lib.hid (fun W1 : World => vecSat _ (area_fits hc hx ha hz) W1)
  obtain ⟨p, hp⟩ : ∃ p, Hid (prod c x = p) := ⟨_, rfl⟩
  obtain ⟨q, hq⟩ : ∃ q, Hid (prod a z = q) := ⟨_, rfl⟩
  rw [hp.out] at d1
  rw [hq.out] at d2
  rw [hp.out, hq.out] at d5 ⊢
  clear ha hb hc hx hy hz hp hq
  have d3 := Lib.hid (fun W1 : World => wideNeg q W1)
  have d4 := Lib.hid (fun W1 : World => wideAdd p (-q) W1)
  obtain ⟨al, a0, a1, a2, -, -, -⟩ := hA
  obtain ⟨bl, b0, b1, b2, -, -, -⟩ := hB
  go_enter Tryz.func38, Tryz.ntmps38
  go_wp2_with fail
  refine wp_region_quiet_below (by kernel_rfl) (by kernel_rfl) ?_
  repeat (go_big_quiet_step (first | (go_at_call 41; first | with_reducible exact Calls.regrown_of (d1.out _) | with_reducible exact Calls.regrown_of (d2.out _)) | (go_at_call 42; first | with_reducible exact Calls.regrown_of (d3.out _)) | (go_at_call 40; first | with_reducible exact Calls.regrown_of (d4.out _)) | (go_at_call 39; first | with_reducible exact Calls.regrown_of (d5.out _))))
  refine wpQuiet_nil ?_
  intro wq hwq
  have hbq := below_of_re hwq
  clear hwq
  go_wp2
  go_ret2
  exact ⟨rfl, hbq⟩
set_option maxRecDepth 100000 in
set_option maxHeartbeats 2000000 in
theorem vecCross2 (a b c x y z : Int) (ha : Half a) (hb : Half b) (hc : Half c) (hx : Half x) (hy : Half y) (hz : Half z) (ga gb : Nat) (w : World) (hA : Tri w ga a b c) (hB : Tri w gb x y z) : Calls Tryz.prog 38 #[.int .i64 2, .pointer (some ⟨ga, 0, none⟩), .pointer (some ⟨gb, 0, none⟩)] w fun e w' => e = .returned (sat (prod a y + -prod b x)) ∧ Below w.heap.size w w' := by
  have d1 := Lib.hid (fun W1 : World => vecProduct a y ha hy W1)
  have d2 := Lib.hid (fun W1 : World => vecProduct b x hb hx W1)
  have d5 := Lib.hid (fun W1 : World => vecSat _ (area_fits ha hy hb hx) W1)
  obtain ⟨p, hp⟩ : ∃ p, Hid (prod a y = p) := ⟨_, rfl⟩
  obtain ⟨q, hq⟩ : ∃ q, Hid (prod b x = q) := ⟨_, rfl⟩
  rw [hp.out] at d1
  rw [hq.out] at d2
  rw [hp.out, hq.out] at d5 ⊢
  clear ha hb hc hx hy hz hp hq
  have d3 := Lib.hid (fun W1 : World => wideNeg q W1)
  have d4 := Lib.hid (fun W1 : World => wideAdd p (-q) W1)
  obtain ⟨al, a0, a1, a2, -, -, -⟩ := hA
  obtain ⟨bl, b0, b1, b2, -, -, -⟩ := hB
  go_enter Tryz.func38, Tryz.ntmps38
  go_wp2_with fail
  refine wp_region_quiet_below (by kernel_rfl) (by kernel_rfl) ?_
  repeat (go_big_quiet_step (first | (go_at_call 41; first | with_reducible exact Calls.regrown_of (d1.out _) | with_reducible exact Calls.regrown_of (d2.out _)) | (go_at_call 42; first | with_reducible exact Calls.regrown_of (d3.out _)) | (go_at_call 40; first | with_reducible exact Calls.regrown_of (d4.out _)) | (go_at_call 39; first | with_reducible exact Calls.regrown_of (d5.out _))))
  refine wpQuiet_nil ?_
  intro wq hwq
  have hbq := below_of_re hwq
  clear hwq
  go_wp2
  go_ret2
  exact ⟨rfl, hbq⟩
set_option maxRecDepth 100000 in
set_option maxHeartbeats 2000000 in
theorem vecCross (a b c x y z : Int) (ha : Half a) (hb : Half b) (hc : Half c) (hx : Half x) (hy : Half y) (hz : Half z) (w : World) :
    Calls Tryz.prog 14 #[V a b c, V x y z] w fun e w' => e = .returned (.tuple #[V (clipped (prod b z + -prod c y)) (clipped (prod c x + -prod a z)) (clipped (prod a y + -prod b x)), .bool (cut (prod b z + -prod c y) || cut (prod c x + -prod a z) || cut (prod a y + -prod b x))]) ∧ Below w.heap.size w w' := by
  have hA := ((Tri.new w a b c 24).alloc (.cells #[.int .i64 x, .int .i64 y, .int .i64 z] 24)).alloc (.cells #[.int .i64 0, .int .i64 0, .int .i64 0] 24)
  have hB := (Tri.new (w.alloc (.cells #[.int .i64 a, .int .i64 b, .int .i64 c] 24)) x y z 24).alloc (.cells #[.int .i64 0, .int .i64 0, .int .i64 0] 24)
  have hR := Tri.new ((w.alloc (.cells #[.int .i64 a, .int .i64 b, .int .i64 c] 24)).alloc (.cells #[.int .i64 x, .int .i64 y, .int .i64 z] 24)) 0 0 0 24
  rw [World.size_alloc] at hB hR
  rw [World.size_alloc] at hR
  have hO : Below w.heap.size w (((w.alloc (.cells #[.int .i64 a, .int .i64 b, .int .i64 c] 24)).alloc (.cells #[.int .i64 x, .int .i64 y, .int .i64 z] 24)).alloc (.cells #[.int .i64 0, .int .i64 0, .int .i64 0] 24)) := by go_grown
  have gO : w.heap.size ≤ w.heap.size + 1 + 1 := by omega
  have ca := Lib.hid (vecAxesCross w.heap.size (w.heap.size + 1) (clipped (prod b z + -prod c y)) (clipped (prod c x + -prod a z)) (clipped (prod a y + -prod b x)) (cut (prod b z + -prod c y)) (cut (prod c x + -prod a z)) (cut (prod a y + -prod b x)) _
    (fun W1 hb1 => vecCross0 a b c x y z ha hb hc hx hy hz _ _ W1 (hA.call hb1) (hB.call hb1))
    (fun W1 hb1 => vecCross1 a b c x y z ha hb hc hx hy hz _ _ W1 (hA.call hb1) (hB.call hb1))
    (fun W1 hb1 => vecCross2 a b c x y z ha hb hc hx hy hz _ _ W1 (hA.call hb1) (hB.call hb1)))
  clear ha hb hc hx hy hz hA hB
  go_enter Tryz.func14, Tryz.ntmps14
  go_wp2_with fail
  refine ca.out.mono ?_
  rintro e w1 ⟨rfl, hb1⟩
  replace hR := hR.call hb1
  replace hO := below_then hO hb1
  clear hb1
  obtain ⟨rl, r0, r1, r2, r3, r4, r5⟩ := hR
  go_wp2
  refine bodyPost_ret (by simp [results, Tryz.results14, go_sem, r0, r1, r2]; try rfl) rfl ?_
  exact ⟨rfl, below_putV hO gO _ _ _⟩


end Go.Proofs.YtodfcbpcgcgijaaGreatDoor
