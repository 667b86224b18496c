import Derived.Test.YtodfcbpcgcgijaaGreatDoorJG
import Derived.Test.YtodfcbpcgcgijaaGreatDoorJI
import Derived.Test.YtodfcbpcgcgijaaGreatDoorJL
import Derived.Test.YtodfcbpcgcgijaaGreatDoorJK
import Derived.Test.YtodfcbpcgcgijaaGreatDoorJN
import Derived.Deep.RegionHeld3
/- The vector of length One. -/
namespace Go.Proofs.YtodfcbpcgcgijaaGreatDoor
set_option maxRecDepth 100000
open Go.RowKit
set_option linter.unusedVariables false
attribute [local go_sem] cell_re eqW_self eqV_self
attribute [local go_sem ↓] run_eqlW run_neqW run_eqlV

set_option maxRecDepth 100000 in
set_option maxHeartbeats 2000000 in
theorem vecAxesUnit (ga gb : Nat) (f0 f1 f2 : Int) (c0 c1 c2 : Bool) (w : World)
    (d0 : ∀ W1 : World, Below w.heap.size w W1 → Calls Tryz.prog 34 #[.int .i64 0, .pointer (some ⟨ga, 0, none⟩), .pointer (some ⟨gb, 0, none⟩)] W1 fun e w' => e = .returned (.tuple #[.int .i64 f0, .bool c0]) ∧ Below W1.heap.size W1 w')
    (d1 : ∀ W1 : World, Below w.heap.size w W1 → Calls Tryz.prog 34 #[.int .i64 1, .pointer (some ⟨ga, 0, none⟩), .pointer (some ⟨gb, 0, none⟩)] W1 fun e w' => e = .returned (.tuple #[.int .i64 f1, .bool c1]) ∧ Below W1.heap.size W1 w')
    (d2 : ∀ W1 : World, Below w.heap.size w W1 → Calls Tryz.prog 34 #[.int .i64 2, .pointer (some ⟨ga, 0, none⟩), .pointer (some ⟨gb, 0, none⟩)] W1 fun e w' => e = .returned (.tuple #[.int .i64 f2, .bool c2]) ∧ Below W1.heap.size W1 w') :
    Calls Tryz.prog 33 #[.func (.func 34) #[] #[.pointer (some ⟨ga, 0, none⟩), .pointer (some ⟨gb, 0, none⟩)]] w fun e w' => e = .returned (.tuple #[V f0 f1 f2, .bool (c0 || c1 || c2)]) ∧ Below w.heap.size w w' := by
  replace d0 := Lib.hid d0
  replace d1 := Lib.hid d1
  replace d2 := Lib.hid d2
  have hR := (Tri.new w 0 0 0 24).alloc (.cells #[.int .i64 0, .int .i64 0, .int .i64 0] 24)
  have hT := Tri.new (w.alloc (.cells #[.int .i64 0, .int .i64 0, .int .i64 0] 24)) 0 0 0 24
  rw [World.size_alloc] at hT
  have hO : Below w.heap.size w ((w.alloc (.cells #[.int .i64 0, .int .i64 0, .int .i64 0] 24)).alloc (.cells #[.int .i64 0, .int .i64 0, .int .i64 0] 24)) := by go_grown
  have gR : w.heap.size ≠ w.heap.size + 1 := by omega
  have gO : w.heap.size ≤ w.heap.size + 1 := by omega
  cases c0
  all_goals
    cases c1
    all_goals
      go_enter Tryz.func33, Tryz.ntmps33
      go_wp2
      refine wp_loop_rounds 4 ?_
      rw [rounds_succ]
      go_wp2_with fail
      refine (d0.out _ hO).mono ?_
      rintro e w0 ⟨rfl, hb⟩
      replace hR := (hR.call hb).apart gR 0 (.int .i64 f0)
      replace hT := hT.call hb
      replace hO := (below_then hO hb).setCell (p := ⟨w.heap.size + 1, 0, none⟩) gO (.int .i64 f0)
      clear hb
      obtain ⟨tl, t0, t1, t2, t3, t4, t5⟩ := (id hT : Tri w0 (w.heap.size + 1) 0 0 0)
      replace hT := hT.set0 f0
      go_wp2
      clear t0 t1 t2 t3 t4 t5 tl
      rw [rounds_succ]
      go_wp2_with fail
      refine (d1.out _ hO).mono ?_
      rintro e w1 ⟨rfl, hb⟩
      replace hR := (hR.call hb).apart gR 1 (.int .i64 f1)
      replace hT := hT.call hb
      replace hO := (below_then hO hb).setCell (p := ⟨w.heap.size + 1, 1, none⟩) gO (.int .i64 f1)
      clear hb
      obtain ⟨tl, t0, t1, t2, t3, t4, t5⟩ := (id hT : Tri w1 (w.heap.size + 1) f0 0 0)
      replace hT := hT.set1 f1
      go_wp2
      clear t0 t1 t2 t3 t4 t5 tl
      rw [rounds_succ]
      go_wp2_with fail
      refine (d2.out _ hO).mono ?_
      rintro e w2 ⟨rfl, hb⟩
      replace hR := (hR.call hb).apart gR 2 (.int .i64 f2)
      replace hT := hT.call hb
      replace hO := (below_then hO hb).setCell (p := ⟨w.heap.size + 1, 2, none⟩) gO (.int .i64 f2)
      clear hb
      obtain ⟨tl, t0, t1, t2, t3, t4, t5⟩ := (id hT : Tri w2 (w.heap.size + 1) f0 f1 0)
      replace hT := hT.set2 f2
      go_wp2
      clear t0 t1 t2 t3 t4 t5 tl
      rw [rounds_succ]
      obtain ⟨tl, t0, t1, t2, t3, t4, t5⟩ := hT
      obtain ⟨rl, r0, r1, r2, r3, r4, r5⟩ := hR
      go_wp2
      refine bodyPost_ret (by simp [results, Tryz.results33, go_sem, r0, r1, r2]; try rfl) rfl ?_
      exact ⟨rfl, below_putV hO (Nat.le_refl _) _ _ _⟩
set_option maxRecDepth 100000 in
set_option maxHeartbeats 2000000 in
theorem vecUnit0 (a b c m : Int) (ha : Half a) (hb : Half b) (hc : Half c) (hm : Half m) (h0 : m ≠ 0) (ga gb : Nat) (w : World) (hA : Tri w ga a b c) (hM : Num w gb m) : Calls Tryz.prog 34 #[.int .i64 0, .pointer (some ⟨ga, 0, none⟩), .pointer (some ⟨gb, 0, none⟩)] w fun e w' => e = .returned (sat ((a * 4294967296).tdiv m)) ∧ Below w.heap.size w w' := by
  have d1 : Hid (∀ W1 : World, Calls Tryz.prog 35 #[.int .i64 a, .int .i64 m] W1 fun e w' => e = .returned (sat ((a * 4294967296).tdiv m)) ∧ Below W1.heap.size W1 w') := fun W1 => by
    have := fixDiv a m ha hm W1
    rw [quo, if_neg h0] at this
    exact this
  unfold sat at d1 ⊢
  obtain ⟨r, hr⟩ : ∃ r, Hid (clipped ((a * 4294967296).tdiv m) = r) := ⟨_, rfl⟩
  obtain ⟨k, hk⟩ : ∃ k, Hid (cut ((a * 4294967296).tdiv m) = k) := ⟨_, rfl⟩
  rw [hr.out, hk.out] at d1 ⊢
  clear ha hb hc hr hk
  obtain ⟨al, a0, a1, a2, -, -, -⟩ := hA
  obtain ⟨ml, m0, -⟩ := hM
  go_enter Tryz.func34, Tryz.ntmps34
  go_wp2_with fail
  refine wp_region_quiet_below (by kernel_rfl) (by kernel_rfl) ?_
  repeat (go_big_quiet_step (first | (go_at_call 35; first | with_reducible exact Calls.regrown_of (d1.out _))))
  refine wpQuiet_nil ?_
  intro wq hwq
  have hbq := below_of_re hwq
  clear hwq
  go_wp2
  go_ret2
  exact ⟨rfl, hbq⟩
set_option maxRecDepth 100000 in
set_option maxHeartbeats 2000000 in
theorem vecUnit1 (a b c m : Int) (ha : Half a) (hb : Half b) (hc : Half c) (hm : Half m) (h0 : m ≠ 0) (ga gb : Nat) (w : World) (hA : Tri w ga a b c) (hM : Num w gb m) : Calls Tryz.prog 34 #[.int .i64 1, .pointer (some ⟨ga, 0, none⟩), .pointer (some ⟨gb, 0, none⟩)] w fun e w' => e = .returned (sat ((b * 4294967296).tdiv m)) ∧ Below w.heap.size w w' := by
  have d1 : Hid (∀ W1 : World, Calls Tryz.prog 35 #[.int .i64 b, .int .i64 m] W1 fun e w' => e = .returned (sat ((b * 4294967296).tdiv m)) ∧ Below W1.heap.size W1 w') := fun W1 => by
    have := fixDiv b m hb hm W1
    rw [quo, if_neg h0] at this
    exact this
  unfold sat at d1 ⊢
  obtain ⟨r, hr⟩ : ∃ r, Hid (clipped ((b * 4294967296).tdiv m) = r) := ⟨_, rfl⟩
  obtain ⟨k, hk⟩ : ∃ k, Hid (cut ((b * 4294967296).tdiv m) = k) := ⟨_, rfl⟩
  rw [hr.out, hk.out] at d1 ⊢
  clear ha hb hc hr hk
  obtain ⟨al, a0, a1, a2, -, -, -⟩ := hA
  obtain ⟨ml, m0, -⟩ := hM
  go_enter Tryz.func34, Tryz.ntmps34
  go_wp2_with fail
  refine wp_region_quiet_below (by kernel_rfl) (by kernel_rfl) ?_
  repeat (go_big_quiet_step (first | (go_at_call 35; first | with_reducible exact Calls.regrown_of (d1.out _))))
  refine wpQuiet_nil ?_
  intro wq hwq
  have hbq := below_of_re hwq
  clear hwq
  go_wp2
  go_ret2
  exact ⟨rfl, hbq⟩
set_option maxRecDepth 100000 in
set_option maxHeartbeats 2000000 in
theorem vecUnit2 (a b c m : Int) (ha : Half a) (hb : Half b) (hc : Half c) (hm : Half m) (h0 : m ≠ 0) (ga gb : Nat) (w : World) (hA : Tri w ga a b c) (hM : Num w gb m) : Calls Tryz.prog 34 #[.int .i64 2, .pointer (some ⟨ga, 0, none⟩), .pointer (some ⟨gb, 0, none⟩)] w fun e w' => e = .returned (sat ((c * 4294967296).tdiv m)) ∧ Below w.heap.size w w' := by
  have d1 : Hid (∀ W1 : World, Calls Tryz.prog 35 #[.int .i64 c, .int .i64 m] W1 fun e w' => e = .returned (sat ((c * 4294967296).tdiv m)) ∧ Below W1.heap.size W1 w') := fun W1 => by
    have := fixDiv c m hc hm W1
    rw [quo, if_neg h0] at this
    exact this
  unfold sat at d1 ⊢
  obtain ⟨r, hr⟩ : ∃ r, Hid (clipped ((c * 4294967296).tdiv m) = r) := ⟨_, rfl⟩
  obtain ⟨k, hk⟩ : ∃ k, Hid (cut ((c * 4294967296).tdiv m) = k) := ⟨_, rfl⟩
  rw [hr.out, hk.out] at d1 ⊢
  clear ha hb hc hr hk
  obtain ⟨al, a0, a1, a2, -, -, -⟩ := hA
  obtain ⟨ml, m0, -⟩ := hM
  go_enter Tryz.func34, Tryz.ntmps34
  go_wp2_with fail
  refine wp_region_quiet_below (by kernel_rfl) (by kernel_rfl) ?_
  repeat (go_big_quiet_step (first | (go_at_call 35; first | with_reducible exact Calls.regrown_of (d1.out _))))
  refine wpQuiet_nil ?_
  intro wq hwq
  have hbq := below_of_re hwq
  clear hwq
  go_wp2
  go_ret2
  exact ⟨rfl, hbq⟩
/-- A vector over its length, where that is neither nought nor saturated. -/
def unitOf (a b c : Int) : Value := if 9223372036854775807 < len a b c ∨ len a b c = 0 then .tuple #[V 0 0 0, .bool false] else
  .tuple #[V (clipped ((a * 4294967296).tdiv (len a b c))) (clipped ((b * 4294967296).tdiv (len a b c))) (clipped ((c * 4294967296).tdiv (len a b c))), .bool true]
set_option maxRecDepth 100000 in
set_option maxHeartbeats 2000000 in
theorem vecUnit (a b c : Int) (ha : Half a) (hb : Half b) (hc : Half c) (w : World) :
    Calls Tryz.prog 11 #[V a b c] w fun e w' => e = .returned (unitOf a b c) ∧ Below w.heap.size w w' := by
  have d1 := Lib.hid (fun W1 : World => vecLength a b c ha hb hc W1)
  have l0 := len_lo ha hb hc
  have gR : w.heap.size ≤ w.heap.size + 1 := by omega
  unfold unitOf
  obtain ⟨L, hL⟩ : ∃ L, len a b c = L := ⟨_, rfl⟩
  rw [hL] at d1 l0 ⊢
  clear hL
  by_cases h : 9223372036854775807 < L
  · rw [if_pos (Or.inl h)]
    rw [clip_over h] at d1
    clear ha hb hc h l0
    have hA := (Tri.new w a b c 24).alloc (.cells #[.int .i64 0, .int .i64 0, .int .i64 0] 24)
    have hR := Tri.new (w.alloc (.cells #[.int .i64 a, .int .i64 b, .int .i64 c] 24)) 0 0 0 24
    rw [World.size_alloc] at hR
    have hO : Below w.heap.size w ((w.alloc (.cells #[.int .i64 a, .int .i64 b, .int .i64 c] 24)).alloc (.cells #[.int .i64 0, .int .i64 0, .int .i64 0] 24)) := by go_grown
    go_enter Tryz.func11, Tryz.ntmps11
    go_wp2_with fail
    refine (d1.out _).mono ?_
    rintro e w1 ⟨rfl, hb1⟩
    replace hR := hR.call hb1
    replace hO := below_then hO hb1
    clear hb1 hA
    obtain ⟨rl, r0, r1, r2, r3, r4, r5⟩ := hR
    go_wp2
    refine bodyPost_ret (by simp [results, Tryz.results11, go_sem, rl, r0, r1, r2]; try rfl) rfl ?_
    exact ⟨rfl, by go_grown⟩
  by_cases hz : L = 0
  · rw [if_pos (Or.inr hz)]
    subst hz
    rw [sat_in 0 (by unfold Half; omega)] at d1
    clear ha hb hc h l0
    have hA := (Tri.new w a b c 24).alloc (.cells #[.int .i64 0, .int .i64 0, .int .i64 0] 24)
    have hR := Tri.new (w.alloc (.cells #[.int .i64 a, .int .i64 b, .int .i64 c] 24)) 0 0 0 24
    rw [World.size_alloc] at hR
    have hO : Below w.heap.size w ((w.alloc (.cells #[.int .i64 a, .int .i64 b, .int .i64 c] 24)).alloc (.cells #[.int .i64 0, .int .i64 0, .int .i64 0] 24)) := by go_grown
    go_enter Tryz.func11, Tryz.ntmps11
    go_wp2_with fail
    refine (d1.out _).mono ?_
    rintro e w1 ⟨rfl, hb1⟩
    replace hR := hR.call hb1
    replace hO := below_then hO hb1
    clear hb1 hA
    obtain ⟨rl, r0, r1, r2, r3, r4, r5⟩ := hR
    go_wp2
    refine bodyPost_ret (by simp [results, Tryz.results11, go_sem, rl, r0, r1, r2]; try rfl) rfl ?_
    exact ⟨rfl, by go_grown⟩
  · have l1 : Half L := by unfold Half; omega
    rw [if_neg (by omega)]
    rw [sat_in L l1] at d1
    obtain ⟨p, hp⟩ : ∃ r, Hid ((a * 4294967296).tdiv L = r) := ⟨_, rfl⟩
    obtain ⟨q, hq⟩ : ∃ r, Hid ((b * 4294967296).tdiv L = r) := ⟨_, rfl⟩
    obtain ⟨r, hr⟩ : ∃ r, Hid ((c * 4294967296).tdiv L = r) := ⟨_, rfl⟩
    rw [hp.out, hq.out, hr.out]
    have hA := (Tri.new w a b c 24).alloc (.cells #[.int .i64 0, .int .i64 0, .int .i64 0] 24)
    have hR := Tri.new (w.alloc (.cells #[.int .i64 a, .int .i64 b, .int .i64 c] 24)) 0 0 0 24
    rw [World.size_alloc] at hR
    have hO : Below w.heap.size w ((w.alloc (.cells #[.int .i64 a, .int .i64 b, .int .i64 c] 24)).alloc (.cells #[.int .i64 0, .int .i64 0, .int .i64 0] 24)) := by go_grown
    go_enter Tryz.func11, Tryz.ntmps11
    go_wp2_with fail
    refine (d1.out _).mono ?_
    rintro e w1 ⟨rfl, hb1⟩
    replace hR := hR.call hb1
    replace hO := below_then hO hb1
    replace hA := (hA.call hb1).alloc (.cells #[.int .i64 (L)] 22)
    replace hR := hR.alloc (.cells #[.int .i64 (L)] 22)
    have hN := Num.new w1 L 22
    replace hO := hO.alloc hO.size (.cells #[.int .i64 (L)] 22)
    clear hb1
    have ca := Lib.hid (vecAxesUnit w.heap.size w1.heap.size (clipped p) (clipped q) (clipped r) (cut p) (cut q) (cut r) _
      (fun W1 hb1 => (by rw [← hp.out]; exact vecUnit0 a b c L ha hb hc l1 hz _ _ W1 (hA.call hb1) (hN.call hb1)))
      (fun W1 hb1 => (by rw [← hq.out]; exact vecUnit1 a b c L ha hb hc l1 hz _ _ W1 (hA.call hb1) (hN.call hb1)))
      (fun W1 hb1 => (by rw [← hr.out]; exact vecUnit2 a b c L ha hb hc l1 hz _ _ W1 (hA.call hb1) (hN.call hb1))))
    clear ha hb hc hA hN hp hq hr
    go_wp2_with fail
    refine ca.out.mono ?_
    rintro e w2 ⟨rfl, hb2⟩
    replace hR := hR.call hb2
    replace hO := below_then hO hb2
    clear hb2
    replace hR := hR.alloc (.cells #[.int .i64 (clipped p), .int .i64 (clipped q), .int .i64 (clipped r)] 24)
    replace hO := hO.alloc hO.size (.cells #[.int .i64 (clipped p), .int .i64 (clipped q), .int .i64 (clipped r)] 24)
    obtain ⟨rl, r0, r1, r2, r3, r4, r5⟩ := hR
    go_wp2
    refine bodyPost_ret (by simp [results, Tryz.results11, go_sem, r0, r1, r2]; try rfl) rfl ?_
    exact ⟨rfl, below_putV hO gR _ _ _⟩


end Go.Proofs.YtodfcbpcgcgijaaGreatDoor
