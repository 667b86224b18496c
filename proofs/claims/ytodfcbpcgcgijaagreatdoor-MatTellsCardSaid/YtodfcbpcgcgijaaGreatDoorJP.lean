import Derived.Test.YtodfcbpcgcgijaaGreatDoorJG
import Derived.Test.YtodfcbpcgcgijaaGreatDoorJI
import Derived.Test.YtodfcbpcgcgijaaGreatDoorJL
import Derived.Test.YtodfcbpcgcgijaaGreatDoorJK
import Derived.Test.YtodfcbpcgcgijaaGreatDoorJN
import Derived.Deep.RegionHeld3
/- Sums, differences, and scaled vectors. -/
namespace Go.Proofs.YtodfcbpcgcgijaaGreatDoor
set_option maxRecDepth 100000
open Go.RowKit
set_option linter.unusedVariables false
attribute [local go_sem] cell_re eqW_self eqV_self
attribute [local go_sem ↓] run_eqlW run_neqW run_eqlV

set_option maxRecDepth 100000 in
set_option maxHeartbeats 2000000 in
theorem vecAxesSub (ga gb : Nat) (f0 f1 f2 : Int) (c0 c1 c2 : Bool) (w : World)
    (d0 : ∀ W1 : World, Below w.heap.size w W1 → Calls Tryz.prog 51 #[.int .i64 0, .pointer (some ⟨ga, 0, none⟩), .pointer (some ⟨gb, 0, none⟩)] W1 fun e w' => e = .returned (.tuple #[.int .i64 f0, .bool c0]) ∧ Below W1.heap.size W1 w')
    (d1 : ∀ W1 : World, Below w.heap.size w W1 → Calls Tryz.prog 51 #[.int .i64 1, .pointer (some ⟨ga, 0, none⟩), .pointer (some ⟨gb, 0, none⟩)] W1 fun e w' => e = .returned (.tuple #[.int .i64 f1, .bool c1]) ∧ Below W1.heap.size W1 w')
    (d2 : ∀ W1 : World, Below w.heap.size w W1 → Calls Tryz.prog 51 #[.int .i64 2, .pointer (some ⟨ga, 0, none⟩), .pointer (some ⟨gb, 0, none⟩)] W1 fun e w' => e = .returned (.tuple #[.int .i64 f2, .bool c2]) ∧ Below W1.heap.size W1 w') :
    Calls Tryz.prog 33 #[.func (.func 51) #[] #[.pointer (some ⟨ga, 0, none⟩), .pointer (some ⟨gb, 0, none⟩)]] w fun e w' => e = .returned (.tuple #[V f0 f1 f2, .bool (c0 || c1 || c2)]) ∧ Below w.heap.size w w' := by
  replace d0 := Lib.hid d0
  replace d1 := Lib.hid d1
  replace d2 := Lib.hid d2
  have hR := (Tri.new w 0 0 0 24).alloc (.cells #[.int .i64 0, .int .i64 0, .int .i64 0] 24)
  have hT := Tri.new (w.alloc (.cells #[.int .i64 0, .int .i64 0, .int .i64 0] 24)) 0 0 0 24
  rw [World.size_alloc] at hT
  have hO : Below w.heap.size w ((w.alloc (.cells #[.int .i64 0, .int .i64 0, .int .i64 0] 24)).alloc (.cells #[.int .i64 0, .int .i64 0, .int .i64 0] 24)) := by go_grown
  have gR : w.heap.size ≠ w.heap.size + 1 := by omega
  have gO : w.heap.size ≤ w.heap.size + 1 := by omega
  cases c0
  all_goals
    cases c1
    all_goals
      go_enter Tryz.func33, Tryz.ntmps33
      go_wp2
      refine wp_loop_rounds 4 ?_
      rw [rounds_succ]
      go_wp2_with fail
      refine (d0.out _ hO).mono ?_
      rintro e w0 ⟨rfl, hb⟩
      replace hR := (hR.call hb).apart gR 0 (.int .i64 f0)
      replace hT := hT.call hb
      replace hO := (below_then hO hb).setCell (p := ⟨w.heap.size + 1, 0, none⟩) gO (.int .i64 f0)
      clear hb
      obtain ⟨tl, t0, t1, t2, t3, t4, t5⟩ := (id hT : Tri w0 (w.heap.size + 1) 0 0 0)
      replace hT := hT.set0 f0
      go_wp2
      clear t0 t1 t2 t3 t4 t5 tl
      rw [rounds_succ]
      go_wp2_with fail
      refine (d1.out _ hO).mono ?_
      rintro e w1 ⟨rfl, hb⟩
      replace hR := (hR.call hb).apart gR 1 (.int .i64 f1)
      replace hT := hT.call hb
      replace hO := (below_then hO hb).setCell (p := ⟨w.heap.size + 1, 1, none⟩) gO (.int .i64 f1)
      clear hb
      obtain ⟨tl, t0, t1, t2, t3, t4, t5⟩ := (id hT : Tri w1 (w.heap.size + 1) f0 0 0)
      replace hT := hT.set1 f1
      go_wp2
      clear t0 t1 t2 t3 t4 t5 tl
      rw [rounds_succ]
      go_wp2_with fail
      refine (d2.out _ hO).mono ?_
      rintro e w2 ⟨rfl, hb⟩
      replace hR := (hR.call hb).apart gR 2 (.int .i64 f2)
      replace hT := hT.call hb
      replace hO := (below_then hO hb).setCell (p := ⟨w.heap.size + 1, 2, none⟩) gO (.int .i64 f2)
      clear hb
      obtain ⟨tl, t0, t1, t2, t3, t4, t5⟩ := (id hT : Tri w2 (w.heap.size + 1) f0 f1 0)
      replace hT := hT.set2 f2
      go_wp2
      clear t0 t1 t2 t3 t4 t5 tl
      rw [rounds_succ]
      obtain ⟨tl, t0, t1, t2, t3, t4, t5⟩ := hT
      obtain ⟨rl, r0, r1, r2, r3, r4, r5⟩ := hR
      go_wp2
      refine bodyPost_ret (by simp [results, Tryz.results33, go_sem, r0, r1, r2]; try rfl) rfl ?_
      exact ⟨rfl, below_putV hO (Nat.le_refl _) _ _ _⟩
set_option maxRecDepth 100000 in
set_option maxHeartbeats 2000000 in
theorem vecSub0 (a b c x y z : Int) (ha : Half a) (hb : Half b) (hc : Half c) (hx : Half x) (hy : Half y) (hz : Half z) (ga gb : Nat) (w : World) (hA : Tri w ga a b c) (hB : Tri w gb x y z) : Calls Tryz.prog 51 #[.int .i64 0, .pointer (some ⟨ga, 0, none⟩), .pointer (some ⟨gb, 0, none⟩)] w fun e w' => e = .returned (sat (a + -x)) ∧ Below w.heap.size w w' := by
  have d1 : Hid (∀ W1 : World, Calls Tryz.prog 52 #[.int .i64 a, .int .i64 x] W1 fun e w' => e = .returned (sat (a + -x)) ∧ Below W1.heap.size W1 w') := fun W1 => fixSub a x ha hx W1
  unfold sat at d1 ⊢
  obtain ⟨r, hr⟩ : ∃ r, Hid (clipped (a + -x) = r) := ⟨_, rfl⟩
  obtain ⟨k, hk⟩ : ∃ k, Hid (cut (a + -x) = k) := ⟨_, rfl⟩
  rw [hr.out, hk.out] at d1 ⊢
  clear ha hb hc hx hy hz hr hk
  obtain ⟨al, a0, a1, a2, -, -, -⟩ := hA
  obtain ⟨bl, b0, b1, b2, -, -, -⟩ := hB
  go_enter Tryz.func51, Tryz.ntmps51
  go_wp2_with fail
  refine wp_region_quiet_below (by kernel_rfl) (by kernel_rfl) ?_
  repeat (go_big_quiet_step (first | (go_at_call 52; first | with_reducible exact Calls.regrown_of (d1.out _))))
  refine wpQuiet_nil ?_
  intro wq hwq
  have hbq := below_of_re hwq
  clear hwq
  go_wp2
  go_ret2
  exact ⟨rfl, hbq⟩
set_option maxRecDepth 100000 in
set_option maxHeartbeats 2000000 in
theorem vecSub1 (a b c x y z : Int) (ha : Half a) (hb : Half b) (hc : Half c) (hx : Half x) (hy : Half y) (hz : Half z) (ga gb : Nat) (w : World) (hA : Tri w ga a b c) (hB : Tri w gb x y z) : Calls Tryz.prog 51 #[.int .i64 1, .pointer (some ⟨ga, 0, none⟩), .pointer (some ⟨gb, 0, none⟩)] w fun e w' => e = .returned (sat (b + -y)) ∧ Below w.heap.size w w' := by
  have d1 : Hid (∀ W1 : World, Calls Tryz.prog 52 #[.int .i64 b, .int .i64 y] W1 fun e w' => e = .returned (sat (b + -y)) ∧ Below W1.heap.size W1 w') := fun W1 => fixSub b y hb hy W1
  unfold sat at d1 ⊢
  obtain ⟨r, hr⟩ : ∃ r, Hid (clipped (b + -y) = r) := ⟨_, rfl⟩
  obtain ⟨k, hk⟩ : ∃ k, Hid (cut (b + -y) = k) := ⟨_, rfl⟩
  rw [hr.out, hk.out] at d1 ⊢
  clear ha hb hc hx hy hz hr hk
  obtain ⟨al, a0, a1, a2, -, -, -⟩ := hA
  obtain ⟨bl, b0, b1, b2, -, -, -⟩ := hB
  go_enter Tryz.func51, Tryz.ntmps51
  go_wp2_with fail
  refine wp_region_quiet_below (by kernel_rfl) (by kernel_rfl) ?_
  repeat (go_big_quiet_step (first | (go_at_call 52; first | with_reducible exact Calls.regrown_of (d1.out _))))
  refine wpQuiet_nil ?_
  intro wq hwq
  have hbq := below_of_re hwq
  clear hwq
  go_wp2
  go_ret2
  exact ⟨rfl, hbq⟩
set_option maxRecDepth 100000 in
set_option maxHeartbeats 2000000 in
theorem vecSub2 (a b c x y z : Int) (ha : Half a) (hb : Half b) (hc : Half c) (hx : Half x) (hy : Half y) (hz : Half z) (ga gb : Nat) (w : World) (hA : Tri w ga a b c) (hB : Tri w gb x y z) : Calls Tryz.prog 51 #[.int .i64 2, .pointer (some ⟨ga, 0, none⟩), .pointer (some ⟨gb, 0, none⟩)] w fun e w' => e = .returned (sat (c + -z)) ∧ Below w.heap.size w w' := by
  have d1 : Hid (∀ W1 : World, Calls Tryz.prog 52 #[.int .i64 c, .int .i64 z] W1 fun e w' => e = .returned (sat (c + -z)) ∧ Below W1.heap.size W1 w') := fun W1 => fixSub c z hc hz W1
  unfold sat at d1 ⊢
  obtain ⟨r, hr⟩ : ∃ r, Hid (clipped (c + -z) = r) := ⟨_, rfl⟩
  obtain ⟨k, hk⟩ : ∃ k, Hid (cut (c + -z) = k) := ⟨_, rfl⟩
  rw [hr.out, hk.out] at d1 ⊢
  clear ha hb hc hx hy hz hr hk
  obtain ⟨al, a0, a1, a2, -, -, -⟩ := hA
  obtain ⟨bl, b0, b1, b2, -, -, -⟩ := hB
  go_enter Tryz.func51, Tryz.ntmps51
  go_wp2_with fail
  refine wp_region_quiet_below (by kernel_rfl) (by kernel_rfl) ?_
  repeat (go_big_quiet_step (first | (go_at_call 52; first | with_reducible exact Calls.regrown_of (d1.out _))))
  refine wpQuiet_nil ?_
  intro wq hwq
  have hbq := below_of_re hwq
  clear hwq
  go_wp2
  go_ret2
  exact ⟨rfl, hbq⟩
set_option maxRecDepth 100000 in
set_option maxHeartbeats 2000000 in
theorem vecSub (a b c x y z : Int) (ha : Half a) (hb : Half b) (hc : Half c) (hx : Half x) (hy : Half y) (hz : Half z) (w : World) :
    Calls Tryz.prog 23 #[V a b c, V x y z] w fun e w' => e = .returned (.tuple #[V (clipped (a + -x)) (clipped (b + -y)) (clipped (c + -z)), .bool (cut (a + -x) || cut (b + -y) || cut (c + -z))]) ∧ Below w.heap.size w w' := by
  have hA := ((Tri.new w a b c 24).alloc (.cells #[.int .i64 x, .int .i64 y, .int .i64 z] 24)).alloc (.cells #[.int .i64 0, .int .i64 0, .int .i64 0] 24)
  have hB := (Tri.new (w.alloc (.cells #[.int .i64 a, .int .i64 b, .int .i64 c] 24)) x y z 24).alloc (.cells #[.int .i64 0, .int .i64 0, .int .i64 0] 24)
  have hR := Tri.new ((w.alloc (.cells #[.int .i64 a, .int .i64 b, .int .i64 c] 24)).alloc (.cells #[.int .i64 x, .int .i64 y, .int .i64 z] 24)) 0 0 0 24
  rw [World.size_alloc] at hB hR
  rw [World.size_alloc] at hR
  have hO : Below w.heap.size w (((w.alloc (.cells #[.int .i64 a, .int .i64 b, .int .i64 c] 24)).alloc (.cells #[.int .i64 x, .int .i64 y, .int .i64 z] 24)).alloc (.cells #[.int .i64 0, .int .i64 0, .int .i64 0] 24)) := by go_grown
  have gO : w.heap.size ≤ w.heap.size + 1 + 1 := by omega
  have ca := Lib.hid (vecAxesSub w.heap.size (w.heap.size + 1) (clipped (a + -x)) (clipped (b + -y)) (clipped (c + -z)) (cut (a + -x)) (cut (b + -y)) (cut (c + -z)) _
    (fun W1 hb1 => vecSub0 a b c x y z ha hb hc hx hy hz _ _ W1 (hA.call hb1) (hB.call hb1))
    (fun W1 hb1 => vecSub1 a b c x y z ha hb hc hx hy hz _ _ W1 (hA.call hb1) (hB.call hb1))
    (fun W1 hb1 => vecSub2 a b c x y z ha hb hc hx hy hz _ _ W1 (hA.call hb1) (hB.call hb1)))
  clear ha hb hc hx hy hz hA hB
  go_enter Tryz.func23, Tryz.ntmps23
  go_wp2_with fail
  refine ca.out.mono ?_
  rintro e w1 ⟨rfl, hb1⟩
  replace hR := hR.call hb1
  replace hO := below_then hO hb1
  clear hb1
  obtain ⟨rl, r0, r1, r2, r3, r4, r5⟩ := hR
  go_wp2
  refine bodyPost_ret (by simp [results, Tryz.results23, go_sem, r0, r1, r2]; try rfl) rfl ?_
  exact ⟨rfl, below_putV hO gO _ _ _⟩

set_option maxRecDepth 100000 in
set_option maxHeartbeats 2000000 in
theorem vecAxesScale (ga gb : Nat) (f0 f1 f2 : Int) (c0 c1 c2 : Bool) (w : World)
    (d0 : ∀ W1 : World, Below w.heap.size w W1 → Calls Tryz.prog 72 #[.int .i64 0, .pointer (some ⟨ga, 0, none⟩), .pointer (some ⟨gb, 0, none⟩)] W1 fun e w' => e = .returned (.tuple #[.int .i64 f0, .bool c0]) ∧ Below W1.heap.size W1 w')
    (d1 : ∀ W1 : World, Below w.heap.size w W1 → Calls Tryz.prog 72 #[.int .i64 1, .pointer (some ⟨ga, 0, none⟩), .pointer (some ⟨gb, 0, none⟩)] W1 fun e w' => e = .returned (.tuple #[.int .i64 f1, .bool c1]) ∧ Below W1.heap.size W1 w')
    (d2 : ∀ W1 : World, Below w.heap.size w W1 → Calls Tryz.prog 72 #[.int .i64 2, .pointer (some ⟨ga, 0, none⟩), .pointer (some ⟨gb, 0, none⟩)] W1 fun e w' => e = .returned (.tuple #[.int .i64 f2, .bool c2]) ∧ Below W1.heap.size W1 w') :
    Calls Tryz.prog 33 #[.func (.func 72) #[] #[.pointer (some ⟨ga, 0, none⟩), .pointer (some ⟨gb, 0, none⟩)]] w fun e w' => e = .returned (.tuple #[V f0 f1 f2, .bool (c0 || c1 || c2)]) ∧ Below w.heap.size w w' := by
  replace d0 := Lib.hid d0
  replace d1 := Lib.hid d1
  replace d2 := Lib.hid d2
  have hR := (Tri.new w 0 0 0 24).alloc (.cells #[.int .i64 0, .int .i64 0, .int .i64 0] 24)
  have hT := Tri.new (w.alloc (.cells #[.int .i64 0, .int .i64 0, .int .i64 0] 24)) 0 0 0 24
  rw [World.size_alloc] at hT
  have hO : Below w.heap.size w ((w.alloc (.cells #[.int .i64 0, .int .i64 0, .int .i64 0] 24)).alloc (.cells #[.int .i64 0, .int .i64 0, .int .i64 0] 24)) := by go_grown
  have gR : w.heap.size ≠ w.heap.size + 1 := by omega
  have gO : w.heap.size ≤ w.heap.size + 1 := by omega
  cases c0
  all_goals
    cases c1
    all_goals
      go_enter Tryz.func33, Tryz.ntmps33
      go_wp2
      refine wp_loop_rounds 4 ?_
      rw [rounds_succ]
      go_wp2_with fail
      refine (d0.out _ hO).mono ?_
      rintro e w0 ⟨rfl, hb⟩
      replace hR := (hR.call hb).apart gR 0 (.int .i64 f0)
      replace hT := hT.call hb
      replace hO := (below_then hO hb).setCell (p := ⟨w.heap.size + 1, 0, none⟩) gO (.int .i64 f0)
      clear hb
      obtain ⟨tl, t0, t1, t2, t3, t4, t5⟩ := (id hT : Tri w0 (w.heap.size + 1) 0 0 0)
      replace hT := hT.set0 f0
      go_wp2
      clear t0 t1 t2 t3 t4 t5 tl
      rw [rounds_succ]
      go_wp2_with fail
      refine (d1.out _ hO).mono ?_
      rintro e w1 ⟨rfl, hb⟩
      replace hR := (hR.call hb).apart gR 1 (.int .i64 f1)
      replace hT := hT.call hb
      replace hO := (below_then hO hb).setCell (p := ⟨w.heap.size + 1, 1, none⟩) gO (.int .i64 f1)
      clear hb
      obtain ⟨tl, t0, t1, t2, t3, t4, t5⟩ := (id hT : Tri w1 (w.heap.size + 1) f0 0 0)
      replace hT := hT.set1 f1
      go_wp2
      clear t0 t1 t2 t3 t4 t5 tl
      rw [rounds_succ]
      go_wp2_with fail
      refine (d2.out _ hO).mono ?_
      rintro e w2 ⟨rfl, hb⟩
      replace hR := (hR.call hb).apart gR 2 (.int .i64 f2)
      replace hT := hT.call hb
      replace hO := (below_then hO hb).setCell (p := ⟨w.heap.size + 1, 2, none⟩) gO (.int .i64 f2)
      clear hb
      obtain ⟨tl, t0, t1, t2, t3, t4, t5⟩ := (id hT : Tri w2 (w.heap.size + 1) f0 f1 0)
      replace hT := hT.set2 f2
      go_wp2
      clear t0 t1 t2 t3 t4 t5 tl
      rw [rounds_succ]
      obtain ⟨tl, t0, t1, t2, t3, t4, t5⟩ := hT
      obtain ⟨rl, r0, r1, r2, r3, r4, r5⟩ := hR
      go_wp2
      refine bodyPost_ret (by simp [results, Tryz.results33, go_sem, r0, r1, r2]; try rfl) rfl ?_
      exact ⟨rfl, below_putV hO (Nat.le_refl _) _ _ _⟩
set_option maxRecDepth 100000 in
set_option maxHeartbeats 2000000 in
theorem vecScale0 (a b c f : Int) (ha : Half a) (hb : Half b) (hc : Half c) (hf : Half f) (ga gb : Nat) (w : World) (hA : Tri w ga a b c) (hF : Num w gb f) : Calls Tryz.prog 72 #[.int .i64 0, .pointer (some ⟨ga, 0, none⟩), .pointer (some ⟨gb, 0, none⟩)] w fun e w' => e = .returned (sat (prod a f)) ∧ Below w.heap.size w w' := by
  have d1 : Hid (∀ W1 : World, Calls Tryz.prog 73 #[.int .i64 a, .int .i64 f] W1 fun e w' => e = .returned (sat (prod a f)) ∧ Below W1.heap.size W1 w') := fun W1 => fixMul a f ha hf W1
  unfold sat at d1 ⊢
  obtain ⟨r, hr⟩ : ∃ r, Hid (clipped (prod a f) = r) := ⟨_, rfl⟩
  obtain ⟨k, hk⟩ : ∃ k, Hid (cut (prod a f) = k) := ⟨_, rfl⟩
  rw [hr.out, hk.out] at d1 ⊢
  clear ha hb hc hf hr hk
  obtain ⟨al, a0, a1, a2, -, -, -⟩ := hA
  obtain ⟨fl, f0, -⟩ := hF
  go_enter Tryz.func72, Tryz.ntmps72
  go_wp2_with fail
  refine wp_region_quiet_below (by kernel_rfl) (by kernel_rfl) ?_
  repeat (go_big_quiet_step (first | (go_at_call 73; first | with_reducible exact Calls.regrown_of (d1.out _))))
  refine wpQuiet_nil ?_
  intro wq hwq
  have hbq := below_of_re hwq
  clear hwq
  go_wp2
  go_ret2
  exact ⟨rfl, hbq⟩
set_option maxRecDepth 100000 in
set_option maxHeartbeats 2000000 in
theorem vecScale1 (a b c f : Int) (ha : Half a) (hb : Half b) (hc : Half c) (hf : Half f) (ga gb : Nat) (w : World) (hA : Tri w ga a b c) (hF : Num w gb f) : Calls Tryz.prog 72 #[.int .i64 1, .pointer (some ⟨ga, 0, none⟩), .pointer (some ⟨gb, 0, none⟩)] w fun e w' => e = .returned (sat (prod b f)) ∧ Below w.heap.size w w' := by
  have d1 : Hid (∀ W1 : World, Calls Tryz.prog 73 #[.int .i64 b, .int .i64 f] W1 fun e w' => e = .returned (sat (prod b f)) ∧ Below W1.heap.size W1 w') := fun W1 => fixMul b f hb hf W1
  unfold sat at d1 ⊢
  obtain ⟨r, hr⟩ : ∃ r, Hid (clipped (prod b f) = r) := ⟨_, rfl⟩
  obtain ⟨k, hk⟩ : ∃ k, Hid (cut (prod b f) = k) := ⟨_, rfl⟩
  rw [hr.out, hk.out] at d1 ⊢
  clear ha hb hc hf hr hk
  obtain ⟨al, a0, a1, a2, -, -, -⟩ := hA
  obtain ⟨fl, f0, -⟩ := hF
  go_enter Tryz.func72, Tryz.ntmps72
  go_wp2_with fail
  refine wp_region_quiet_below (by kernel_rfl) (by kernel_rfl) ?_
  repeat (go_big_quiet_step (first | (go_at_call 73; first | with_reducible exact Calls.regrown_of (d1.out _))))
  refine wpQuiet_nil ?_
  intro wq hwq
  have hbq := below_of_re hwq
  clear hwq
  go_wp2
  go_ret2
  exact ⟨rfl, hbq⟩
set_option maxRecDepth 100000 in
set_option maxHeartbeats 2000000 in
theorem vecScale2 (a b c f : Int) (ha : Half a) (hb : Half b) (hc : Half c) (hf : Half f) (ga gb : Nat) (w : World) (hA : Tri w ga a b c) (hF : Num w gb f) : Calls Tryz.prog 72 #[.int .i64 2, .pointer (some ⟨ga, 0, none⟩), .pointer (some ⟨gb, 0, none⟩)] w fun e w' => e = .returned (sat (prod c f)) ∧ Below w.heap.size w w' := by
  have d1 : Hid (∀ W1 : World, Calls Tryz.prog 73 #[.int .i64 c, .int .i64 f] W1 fun e w' => e = .returned (sat (prod c f)) ∧ Below W1.heap.size W1 w') := fun W1 => fixMul c f hc hf W1
  unfold sat at d1 ⊢
  obtain ⟨r, hr⟩ : ∃ r, Hid (clipped (prod c f) = r) := ⟨_, rfl⟩
  obtain ⟨k, hk⟩ : ∃ k, Hid (cut (prod c f) = k) := ⟨_, rfl⟩
  rw [hr.out, hk.out] at d1 ⊢
  clear ha hb hc hf hr hk
  obtain ⟨al, a0, a1, a2, -, -, -⟩ := hA
  obtain ⟨fl, f0, -⟩ := hF
  go_enter Tryz.func72, Tryz.ntmps72
  go_wp2_with fail
  refine wp_region_quiet_below (by kernel_rfl) (by kernel_rfl) ?_
  repeat (go_big_quiet_step (first | (go_at_call 73; first | with_reducible exact Calls.regrown_of (d1.out _))))
  refine wpQuiet_nil ?_
  intro wq hwq
  have hbq := below_of_re hwq
  clear hwq
  go_wp2
  go_ret2
  exact ⟨rfl, hbq⟩
set_option maxRecDepth 100000 in
set_option maxHeartbeats 2000000 in
theorem vecScale (a b c f : Int) (ha : Half a) (hb : Half b) (hc : Half c) (hf : Half f) (w : World) :
    Calls Tryz.prog 37 #[V a b c, .int .i64 f] w fun e w' => e = .returned (.tuple #[V (clipped (prod a f)) (clipped (prod b f)) (clipped (prod c f)), .bool (cut (prod a f) || cut (prod b f) || cut (prod c f))]) ∧ Below w.heap.size w w' := by
  have hA := ((Tri.new w a b c 24).alloc (.cells #[.int .i64 (f)] 22)).alloc (.cells #[.int .i64 0, .int .i64 0, .int .i64 0] 24)
  have hB := (Num.new (w.alloc (.cells #[.int .i64 a, .int .i64 b, .int .i64 c] 24)) f 22).alloc (.cells #[.int .i64 0, .int .i64 0, .int .i64 0] 24)
  have hR := Tri.new ((w.alloc (.cells #[.int .i64 a, .int .i64 b, .int .i64 c] 24)).alloc (.cells #[.int .i64 (f)] 22)) 0 0 0 24
  rw [World.size_alloc] at hB hR
  rw [World.size_alloc] at hR
  have hO : Below w.heap.size w (((w.alloc (.cells #[.int .i64 a, .int .i64 b, .int .i64 c] 24)).alloc (.cells #[.int .i64 (f)] 22)).alloc (.cells #[.int .i64 0, .int .i64 0, .int .i64 0] 24)) := by go_grown
  have gO : w.heap.size ≤ w.heap.size + 1 + 1 := by omega
  have ca := Lib.hid (vecAxesScale w.heap.size (w.heap.size + 1) (clipped (prod a f)) (clipped (prod b f)) (clipped (prod c f)) (cut (prod a f)) (cut (prod b f)) (cut (prod c f)) _
    (fun W1 hb1 => vecScale0 a b c f ha hb hc hf _ _ W1 (hA.call hb1) (hB.call hb1))
    (fun W1 hb1 => vecScale1 a b c f ha hb hc hf _ _ W1 (hA.call hb1) (hB.call hb1))
    (fun W1 hb1 => vecScale2 a b c f ha hb hc hf _ _ W1 (hA.call hb1) (hB.call hb1)))
  clear ha hb hc hf hA hB
  go_enter Tryz.func37, Tryz.ntmps37
  go_wp2_with fail
  refine ca.out.mono ?_
  rintro e w1 ⟨rfl, hb1⟩
  replace hR := hR.call hb1
  replace hO := below_then hO hb1
  clear hb1
  obtain ⟨rl, r0, r1, r2, r3, r4, r5⟩ := hR
  go_wp2
  refine bodyPost_ret (by simp [results, Tryz.results37, go_sem, r0, r1, r2]; try rfl) rfl ?_
  exact ⟨rfl, below_putV hO gO _ _ _⟩

end Go.Proofs.YtodfcbpcgcgijaaGreatDoor
