/- What the calls of package vec answer, each for every number that its parameters can hold. -/
import Derived.Test.YtmedemniopgpeaaFixP
import Derived.Test.YtmedemniopgpeaaRootP
import Derived.Test.YtmedemniopgpeaaVecP
import Derived.Test.YtmedemniopgpeaaVecN
import Derived.Deep.RegionHeld3
namespace Go.Proofs.Ytmedemniopgpeaa
open Go.RowKit
set_option linter.unusedVariables false
attribute [local go_sem] cell_re eqW_self eqV_self
attribute [local go_sem ↓] run_eqlW run_neqW run_eqlV

set_option maxRecDepth 100000 in
set_option maxHeartbeats 2000000 in
theorem vecAxesClamp (ga gb : Nat) (f0 f1 f2 : Int) (c0 c1 c2 : Bool) (w : World)
    (d0 : ∀ W1 : World, Below w.heap.size w W1 → Calls Try.prog 36 #[.int .i64 0, .pointer (some ⟨ga, 0, none⟩), .pointer (some ⟨gb, 0, none⟩)] W1 fun e w' => e = .returned (.tuple #[.int .i64 f0, .bool c0]) ∧ Below W1.heap.size W1 w')
    (d1 : ∀ W1 : World, Below w.heap.size w W1 → Calls Try.prog 36 #[.int .i64 1, .pointer (some ⟨ga, 0, none⟩), .pointer (some ⟨gb, 0, none⟩)] W1 fun e w' => e = .returned (.tuple #[.int .i64 f1, .bool c1]) ∧ Below W1.heap.size W1 w')
    (d2 : ∀ W1 : World, Below w.heap.size w W1 → Calls Try.prog 36 #[.int .i64 2, .pointer (some ⟨ga, 0, none⟩), .pointer (some ⟨gb, 0, none⟩)] W1 fun e w' => e = .returned (.tuple #[.int .i64 f2, .bool c2]) ∧ Below W1.heap.size W1 w') :
    Calls Try.prog 27 #[.func (.func 36) #[] #[.pointer (some ⟨ga, 0, none⟩), .pointer (some ⟨gb, 0, none⟩)]] w fun e w' => e = .returned (.tuple #[V f0 f1 f2, .bool (c0 || c1 || c2)]) ∧ Below w.heap.size w w' := by
  replace d0 := Lib.hid d0
  replace d1 := Lib.hid d1
  replace d2 := Lib.hid d2
  have hR := (Tri.new w 0 0 0 24).alloc (.cells #[.int .i64 0, .int .i64 0, .int .i64 0] 24)
  have hT := Tri.new (w.alloc (.cells #[.int .i64 0, .int .i64 0, .int .i64 0] 24)) 0 0 0 24
  rw [World.size_alloc] at hT
  have hO : Below w.heap.size w ((w.alloc (.cells #[.int .i64 0, .int .i64 0, .int .i64 0] 24)).alloc (.cells #[.int .i64 0, .int .i64 0, .int .i64 0] 24)) := by go_grown
  have gR : w.heap.size ≠ w.heap.size + 1 := by omega
  have gO : w.heap.size ≤ w.heap.size + 1 := by omega
  cases c0
  all_goals
    cases c1
    all_goals
      go_enter Try.func27, Try.ntmps27
      go_wp2
      refine wp_loop_rounds 4 ?_
      rw [rounds_succ]
      go_wp2_with fail
      refine (d0.out _ hO).mono ?_
      rintro e w0 ⟨rfl, hb⟩
      replace hR := (hR.call hb).apart gR 0 (.int .i64 f0)
      replace hT := hT.call hb
      replace hO := (below_then hO hb).setCell (p := ⟨w.heap.size + 1, 0, none⟩) gO (.int .i64 f0)
      clear hb
      obtain ⟨tl, t0, t1, t2, t3, t4, t5⟩ := (id hT : Tri w0 (w.heap.size + 1) 0 0 0)
      replace hT := hT.set0 f0
      go_wp2
      clear t0 t1 t2 t3 t4 t5 tl
      rw [rounds_succ]
      go_wp2_with fail
      refine (d1.out _ hO).mono ?_
      rintro e w1 ⟨rfl, hb⟩
      replace hR := (hR.call hb).apart gR 1 (.int .i64 f1)
      replace hT := hT.call hb
      replace hO := (below_then hO hb).setCell (p := ⟨w.heap.size + 1, 1, none⟩) gO (.int .i64 f1)
      clear hb
      obtain ⟨tl, t0, t1, t2, t3, t4, t5⟩ := (id hT : Tri w1 (w.heap.size + 1) f0 0 0)
      replace hT := hT.set1 f1
      go_wp2
      clear t0 t1 t2 t3 t4 t5 tl
      rw [rounds_succ]
      go_wp2_with fail
      refine (d2.out _ hO).mono ?_
      rintro e w2 ⟨rfl, hb⟩
      replace hR := (hR.call hb).apart gR 2 (.int .i64 f2)
      replace hT := hT.call hb
      replace hO := (below_then hO hb).setCell (p := ⟨w.heap.size + 1, 2, none⟩) gO (.int .i64 f2)
      clear hb
      obtain ⟨tl, t0, t1, t2, t3, t4, t5⟩ := (id hT : Tri w2 (w.heap.size + 1) f0 f1 0)
      replace hT := hT.set2 f2
      go_wp2
      clear t0 t1 t2 t3 t4 t5 tl
      rw [rounds_succ]
      obtain ⟨tl, t0, t1, t2, t3, t4, t5⟩ := hT
      obtain ⟨rl, r0, r1, r2, r3, r4, r5⟩ := hR
      go_wp2
      refine bodyPost_ret (by simp [results, Try.results27, go_sem, r0, r1, r2]; try rfl) rfl ?_
      exact ⟨rfl, below_putV hO (Nat.le_refl _) _ _ _⟩
set_option maxRecDepth 100000 in
set_option maxHeartbeats 2000000 in
theorem vecClamp0 (a b c m : Int) (ha : Half a) (hb : Half b) (hc : Half c) (h0 : 0 ≤ m) (h1 : m ≤ 9223372036854775807) (ga gb : Nat) (w : World) (hA : Tri w ga a b c) (hM : Num w gb m) : Calls Try.prog 36 #[.int .i64 0, .pointer (some ⟨ga, 0, none⟩), .pointer (some ⟨gb, 0, none⟩)] w fun e w' => e = .returned (.tuple #[.int .i64 (clamp a (-m) m), .bool (clamped a (-m) m)]) ∧ Below w.heap.size w w' := by
  have d1 := Lib.hid (fun W1 : World => fixClamp a (-m) m ha (by unfold Half; omega) (by unfold Half; omega) W1)
  obtain ⟨r, hr⟩ : ∃ r, Hid (clamp a (-m) m = r) := ⟨_, rfl⟩
  obtain ⟨k, hk⟩ : ∃ k, Hid (clamped a (-m) m = k) := ⟨_, rfl⟩
  rw [hr.out, hk.out] at d1 ⊢
  clear ha hb hc hr hk
  obtain ⟨al, a0, a1, a2, -, -, -⟩ := hA
  obtain ⟨ml, m0, -⟩ := hM
  go_enter Try.func36, Try.ntmps36
  go_wp2_with fail
  refine wp_region_quiet_below (by kernel_rfl) (by kernel_rfl) ?_
  repeat (go_big_quiet_step (first | (go_at_call 37; first | with_reducible exact Calls.regrown_of (d1.out _))))
  refine wpQuiet_nil ?_
  intro wq hwq
  have hbq := below_of_re hwq
  clear hwq
  go_wp2
  go_ret2
  exact ⟨rfl, hbq⟩
set_option maxRecDepth 100000 in
set_option maxHeartbeats 2000000 in
theorem vecClamp1 (a b c m : Int) (ha : Half a) (hb : Half b) (hc : Half c) (h0 : 0 ≤ m) (h1 : m ≤ 9223372036854775807) (ga gb : Nat) (w : World) (hA : Tri w ga a b c) (hM : Num w gb m) : Calls Try.prog 36 #[.int .i64 1, .pointer (some ⟨ga, 0, none⟩), .pointer (some ⟨gb, 0, none⟩)] w fun e w' => e = .returned (.tuple #[.int .i64 (clamp b (-m) m), .bool (clamped b (-m) m)]) ∧ Below w.heap.size w w' := by
  have d1 := Lib.hid (fun W1 : World => fixClamp b (-m) m hb (by unfold Half; omega) (by unfold Half; omega) W1)
  obtain ⟨r, hr⟩ : ∃ r, Hid (clamp b (-m) m = r) := ⟨_, rfl⟩
  obtain ⟨k, hk⟩ : ∃ k, Hid (clamped b (-m) m = k) := ⟨_, rfl⟩
  rw [hr.out, hk.out] at d1 ⊢
  clear ha hb hc hr hk
  obtain ⟨al, a0, a1, a2, -, -, -⟩ := hA
  obtain ⟨ml, m0, -⟩ := hM
  go_enter Try.func36, Try.ntmps36
  go_wp2_with fail
  refine wp_region_quiet_below (by kernel_rfl) (by kernel_rfl) ?_
  repeat (go_big_quiet_step (first | (go_at_call 37; first | with_reducible exact Calls.regrown_of (d1.out _))))
  refine wpQuiet_nil ?_
  intro wq hwq
  have hbq := below_of_re hwq
  clear hwq
  go_wp2
  go_ret2
  exact ⟨rfl, hbq⟩
set_option maxRecDepth 100000 in
set_option maxHeartbeats 2000000 in
theorem vecClamp2 (a b c m : Int) (ha : Half a) (hb : Half b) (hc : Half c) (h0 : 0 ≤ m) (h1 : m ≤ 9223372036854775807) (ga gb : Nat) (w : World) (hA : Tri w ga a b c) (hM : Num w gb m) : Calls Try.prog 36 #[.int .i64 2, .pointer (some ⟨ga, 0, none⟩), .pointer (some ⟨gb, 0, none⟩)] w fun e w' => e = .returned (.tuple #[.int .i64 (clamp c (-m) m), .bool (clamped c (-m) m)]) ∧ Below w.heap.size w w' := by
  have d1 := Lib.hid (fun W1 : World => fixClamp c (-m) m hc (by unfold Half; omega) (by unfold Half; omega) W1)
  obtain ⟨r, hr⟩ : ∃ r, Hid (clamp c (-m) m = r) := ⟨_, rfl⟩
  obtain ⟨k, hk⟩ : ∃ k, Hid (clamped c (-m) m = k) := ⟨_, rfl⟩
  rw [hr.out, hk.out] at d1 ⊢
  clear ha hb hc hr hk
  obtain ⟨al, a0, a1, a2, -, -, -⟩ := hA
  obtain ⟨ml, m0, -⟩ := hM
  go_enter Try.func36, Try.ntmps36
  go_wp2_with fail
  refine wp_region_quiet_below (by kernel_rfl) (by kernel_rfl) ?_
  repeat (go_big_quiet_step (first | (go_at_call 37; first | with_reducible exact Calls.regrown_of (d1.out _))))
  refine wpQuiet_nil ?_
  intro wq hwq
  have hbq := below_of_re hwq
  clear hwq
  go_wp2
  go_ret2
  exact ⟨rfl, hbq⟩
/-- What is clamped, and whether one axis was. -/
def clampV (a b c m : Int) : Value := .tuple #[V (clamp a (-m) m) (clamp b (-m) m) (clamp c (-m) m), .bool (clamped a (-m) m || clamped b (-m) m || clamped c (-m) m)]
set_option maxRecDepth 100000 in
set_option maxHeartbeats 2000000 in
theorem vecClamp (a b c m : Int) (ha : Half a) (hb : Half b) (hc : Half c) (hm : Half m) (w : World) :
    Calls Try.prog 15 #[V a b c, .int .i64 m] w fun e w' => e = .returned (clampV a b c (bound m)) ∧ Below w.heap.size w w' := by
  have gA : w.heap.size ≠ w.heap.size + 1 := by omega
  have gR : w.heap.size + 1 + 1 ≠ w.heap.size + 1 := by omega
  have gO : w.heap.size ≤ w.heap.size + 1 + 1 := by omega
  obtain ⟨hm0, hm1⟩ := hm
  unfold clampV
  rcases Int.lt_trichotomy m 0 with h | h | h
  · rw [show bound m = 0 by unfold bound; omega]
    have hA := ((Tri.new w a b c 24).alloc (.cells #[.int .i64 (0)] 22)).alloc (.cells #[.int .i64 0, .int .i64 0, .int .i64 0] 24)
    have hM := ((Num.new (w.alloc (.cells #[.int .i64 a, .int .i64 b, .int .i64 c] 24)) (0) 22).alloc (.cells #[.int .i64 0, .int .i64 0, .int .i64 0] 24))
    have hR := Tri.new ((w.alloc (.cells #[.int .i64 a, .int .i64 b, .int .i64 c] 24)).alloc (.cells #[.int .i64 (0)] 22)) 0 0 0 24
    rw [World.size_alloc] at hM hR
    rw [World.size_alloc] at hR
    have hO : Below w.heap.size w (((w.alloc (.cells #[.int .i64 a, .int .i64 b, .int .i64 c] 24)).alloc (.cells #[.int .i64 (0)] 22)).alloc (.cells #[.int .i64 0, .int .i64 0, .int .i64 0] 24)) := by go_grown
    have ca := Lib.hid (vecAxesClamp w.heap.size (w.heap.size + 1) (clamp a (-(0)) (0)) (clamp b (-(0)) (0)) (clamp c (-(0)) (0)) (clamped a (-(0)) (0)) (clamped b (-(0)) (0)) (clamped c (-(0)) (0)) _
      (fun W1 hb1 => vecClamp0 a b c (0) ha hb hc (by omega) (by omega) _ _ W1 (hA.call hb1) (hM.call hb1))
      (fun W1 hb1 => vecClamp1 a b c (0) ha hb hc (by omega) (by omega) _ _ W1 (hA.call hb1) (hM.call hb1))
      (fun W1 hb1 => vecClamp2 a b c (0) ha hb hc (by omega) (by omega) _ _ W1 (hA.call hb1) (hM.call hb1)))
    clear ha hb hc hA hM
    go_enter Try.func15, Try.ntmps15
    go_wp2_with fail
    refine ca.out.mono ?_
    rintro e w1 ⟨rfl, hb1⟩
    replace hR := hR.call hb1
    replace hO := below_then hO hb1
    clear hb1
    obtain ⟨rl, r0, r1, r2, r3, r4, r5⟩ := hR
    go_wp2
    refine bodyPost_ret (by simp [results, Try.results15, go_sem, r0, r1, r2]; try rfl) rfl ?_
    exact ⟨rfl, below_putV hO gO _ _ _⟩
  · subst h
    rw [show bound 0 = 0 by decide]
    have hA := ((Tri.new w a b c 24).alloc (.cells #[.int .i64 (0)] 22)).alloc (.cells #[.int .i64 0, .int .i64 0, .int .i64 0] 24)
    have hM := ((Num.new (w.alloc (.cells #[.int .i64 a, .int .i64 b, .int .i64 c] 24)) (0) 22).alloc (.cells #[.int .i64 0, .int .i64 0, .int .i64 0] 24))
    have hR := Tri.new ((w.alloc (.cells #[.int .i64 a, .int .i64 b, .int .i64 c] 24)).alloc (.cells #[.int .i64 (0)] 22)) 0 0 0 24
    rw [World.size_alloc] at hM hR
    rw [World.size_alloc] at hR
    have hO : Below w.heap.size w (((w.alloc (.cells #[.int .i64 a, .int .i64 b, .int .i64 c] 24)).alloc (.cells #[.int .i64 (0)] 22)).alloc (.cells #[.int .i64 0, .int .i64 0, .int .i64 0] 24)) := by go_grown
    have ca := Lib.hid (vecAxesClamp w.heap.size (w.heap.size + 1) (clamp a (-(0)) (0)) (clamp b (-(0)) (0)) (clamp c (-(0)) (0)) (clamped a (-(0)) (0)) (clamped b (-(0)) (0)) (clamped c (-(0)) (0)) _
      (fun W1 hb1 => vecClamp0 a b c (0) ha hb hc (by omega) (by omega) _ _ W1 (hA.call hb1) (hM.call hb1))
      (fun W1 hb1 => vecClamp1 a b c (0) ha hb hc (by omega) (by omega) _ _ W1 (hA.call hb1) (hM.call hb1))
      (fun W1 hb1 => vecClamp2 a b c (0) ha hb hc (by omega) (by omega) _ _ W1 (hA.call hb1) (hM.call hb1)))
    clear ha hb hc hA hM
    go_enter Try.func15, Try.ntmps15
    go_wp2_with fail
    refine ca.out.mono ?_
    rintro e w1 ⟨rfl, hb1⟩
    replace hR := hR.call hb1
    replace hO := below_then hO hb1
    clear hb1
    obtain ⟨rl, r0, r1, r2, r3, r4, r5⟩ := hR
    go_wp2
    refine bodyPost_ret (by simp [results, Try.results15, go_sem, r0, r1, r2]; try rfl) rfl ?_
    exact ⟨rfl, below_putV hO gO _ _ _⟩
  · rw [show bound m = m by unfold bound; omega]
    have hA := ((Tri.new w a b c 24).alloc (.cells #[.int .i64 (m)] 22)).alloc (.cells #[.int .i64 0, .int .i64 0, .int .i64 0] 24)
    have hM := ((Num.new (w.alloc (.cells #[.int .i64 a, .int .i64 b, .int .i64 c] 24)) (m) 22).alloc (.cells #[.int .i64 0, .int .i64 0, .int .i64 0] 24))
    have hR := Tri.new ((w.alloc (.cells #[.int .i64 a, .int .i64 b, .int .i64 c] 24)).alloc (.cells #[.int .i64 (m)] 22)) 0 0 0 24
    rw [World.size_alloc] at hM hR
    rw [World.size_alloc] at hR
    have hO : Below w.heap.size w (((w.alloc (.cells #[.int .i64 a, .int .i64 b, .int .i64 c] 24)).alloc (.cells #[.int .i64 (m)] 22)).alloc (.cells #[.int .i64 0, .int .i64 0, .int .i64 0] 24)) := by go_grown
    have ca := Lib.hid (vecAxesClamp w.heap.size (w.heap.size + 1) (clamp a (-(m)) (m)) (clamp b (-(m)) (m)) (clamp c (-(m)) (m)) (clamped a (-(m)) (m)) (clamped b (-(m)) (m)) (clamped c (-(m)) (m)) _
      (fun W1 hb1 => vecClamp0 a b c (m) ha hb hc (by omega) (by omega) _ _ W1 (hA.call hb1) (hM.call hb1))
      (fun W1 hb1 => vecClamp1 a b c (m) ha hb hc (by omega) (by omega) _ _ W1 (hA.call hb1) (hM.call hb1))
      (fun W1 hb1 => vecClamp2 a b c (m) ha hb hc (by omega) (by omega) _ _ W1 (hA.call hb1) (hM.call hb1)))
    clear ha hb hc hA hM
    go_enter Try.func15, Try.ntmps15
    go_wp2_with fail
    refine ca.out.mono ?_
    rintro e w1 ⟨rfl, hb1⟩
    replace hR := hR.call hb1
    replace hO := below_then hO hb1
    clear hb1
    obtain ⟨rl, r0, r1, r2, r3, r4, r5⟩ := hR
    go_wp2
    refine bodyPost_ret (by simp [results, Try.results15, go_sem, r0, r1, r2]; try rfl) rfl ?_
    exact ⟨rfl, below_putV hO gO _ _ _⟩


end Go.Proofs.Ytmedemniopgpeaa
