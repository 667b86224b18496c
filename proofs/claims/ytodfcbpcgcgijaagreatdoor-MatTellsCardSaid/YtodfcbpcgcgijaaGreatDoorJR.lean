import Derived.Test.YtodfcbpcgcgijaaGreatDoorJF
import Derived.Test.YtodfcbpcgcgijaaGreatDoorJK
import Derived.Test.YtodfcbpcgcgijaaGreatDoorJN
import Derived.Test.YtodfcbpcgcgijaaGreatDoorJQ
import Derived.Test.YtodfcbpcgcgijaaGreatDoorJO
import Derived.Deep.RegionHeld3
/- The greatest axis, and the vector of length One, in the document's answers. -/
namespace Go.Proofs.YtodfcbpcgcgijaaGreatDoor
set_option maxRecDepth 100000
open Go.RowKit
set_option linter.unusedVariables false
attribute [local go_sem] cell_re eqW_self eqV_self
attribute [local go_sem ↓] run_eqlW run_neqW run_eqlV

set_option maxRecDepth 100000 in
set_option maxHeartbeats 2000000 in
theorem ref6Greatest (a b c : Int) (ha : Half a) (hb : Half b) (hc : Half c) (w : World) :
    Calls Tryz.prog 27 #[V a b c] w fun e w' => e = .returned (.int .i64 (greatest a b c)) ∧ Below w.heap.size w w' := by
  have d1 := Lib.hid (fun W1 : World => ref6Bare a ha W1)
  have d2 := Lib.hid (fun W1 : World => ref6Bare b hb W1)
  have d3 := Lib.hid (fun W1 : World => ref6Bare c hc W1)
  have b1 := bare_bd ha
  have b2 := bare_bd hb
  have b3 := bare_bd hc
  unfold greatest
  obtain ⟨p, hp⟩ : ∃ x, Hid (bare a = x) := ⟨_, rfl⟩
  obtain ⟨q, hq⟩ : ∃ y, Hid (bare b = y) := ⟨_, rfl⟩
  obtain ⟨r, hr⟩ : ∃ z, Hid (bare c = z) := ⟨_, rfl⟩
  rw [hp.out] at d1 b1 ⊢
  rw [hq.out] at d2 b2 ⊢
  rw [hr.out] at d3 b3 ⊢
  clear hp hq hr ha hb hc
  have hO : Below w.heap.size w (w.alloc (.cells #[.int .i64 a, .int .i64 b, .int .i64 c] 24)) := by go_grown
  go_enter Tryz.func27, Tryz.ntmps27
  go_wp2_with fail
  refine wp_region_quiet_below (by kernel_rfl) (by kernel_rfl) ?_
  repeat (go_big_quiet_step (first | (go_at_call 55; first | with_reducible exact Calls.regrown_of (d1.out _) | with_reducible exact Calls.regrown_of (d2.out _) | with_reducible exact Calls.regrown_of (d3.out _))))
  refine wpQuiet_nil ?_
  intro wq hwq
  have hbq := below_of_re hwq
  clear hwq
  go_wp2
  all_goals
    go_returns
    refine ⟨retI ?_, below_then hO hbq⟩
    omega


end Go.Proofs.YtodfcbpcgcgijaaGreatDoor

/- The greatest axis, and the vector of length One, in the document's answers. -/
namespace Go.Proofs.YtodfcbpcgcgijaaGreatDoor
set_option maxRecDepth 100000
open Go.RowKit
set_option linter.unusedVariables false
attribute [local go_sem] cell_re eqW_self eqV_self
attribute [local go_sem ↓] run_eqlW run_neqW run_eqlV

set_option maxRecDepth 100000 in
set_option maxHeartbeats 2000000 in
theorem ref6Unit (a b c : Int) (ha : Half a) (hb : Half b) (hc : Half c) (w : World) :
    Calls Tryz.prog 15 #[V a b c] w fun e w' => e = .returned (unitOf a b c) ∧ Below w.heap.size w w' := by
  have d0 := Lib.hid (fun W1 : World => ref6Length a b c ha hb hc W1)
  have l0 := len_lo ha hb hc
  have gR : w.heap.size ≤ w.heap.size + 1 := by omega
  unfold unitOf
  obtain ⟨L, hL⟩ : ∃ L, len a b c = L := ⟨_, rfl⟩
  rw [hL] at d0 l0 ⊢
  clear hL
  by_cases h : 9223372036854775807 < L
  · rw [if_pos (Or.inl h)]
    rw [clip_over h] at d0
    clear ha hb hc h l0
    have hA := (Tri.new w a b c 24).alloc (.cells #[.int .i64 0, .int .i64 0, .int .i64 0] 24)
    have hR := Tri.new (w.alloc (.cells #[.int .i64 a, .int .i64 b, .int .i64 c] 24)) 0 0 0 24
    rw [World.size_alloc] at hR
    have hO : Below w.heap.size w ((w.alloc (.cells #[.int .i64 a, .int .i64 b, .int .i64 c] 24)).alloc (.cells #[.int .i64 0, .int .i64 0, .int .i64 0] 24)) := by go_grown
    go_enter Tryz.func15, Tryz.ntmps15
    go_wp2_with fail
    refine (d0.out _).mono ?_
    rintro e w1 ⟨rfl, hb1⟩
    replace hA := hA.call hb1
    replace hR := hR.call hb1
    replace hO := below_then hO hb1
    clear hb1
    obtain ⟨al, a0, a1, a2, -, -, -⟩ := (id hA : Tri _ _ a b c)
    clear a0 a1 a2 al hA
    obtain ⟨rl, r0, r1, r2, r3, r4, r5⟩ := hR
    go_wp2
    refine bodyPost_ret (by simp [results, Tryz.results15, go_sem, r0, r1, r2]; try rfl) rfl ?_
    exact ⟨rfl, below_putV hO gR _ _ _⟩
  by_cases hz : L = 0
  · rw [if_pos (Or.inr hz)]
    subst hz
    rw [sat_in 0 (by unfold Half; omega)] at d0
    clear ha hb hc h l0
    have hA := (Tri.new w a b c 24).alloc (.cells #[.int .i64 0, .int .i64 0, .int .i64 0] 24)
    have hR := Tri.new (w.alloc (.cells #[.int .i64 a, .int .i64 b, .int .i64 c] 24)) 0 0 0 24
    rw [World.size_alloc] at hR
    have hO : Below w.heap.size w ((w.alloc (.cells #[.int .i64 a, .int .i64 b, .int .i64 c] 24)).alloc (.cells #[.int .i64 0, .int .i64 0, .int .i64 0] 24)) := by go_grown
    go_enter Tryz.func15, Tryz.ntmps15
    go_wp2_with fail
    refine (d0.out _).mono ?_
    rintro e w1 ⟨rfl, hb1⟩
    replace hA := hA.call hb1
    replace hR := hR.call hb1
    replace hO := below_then hO hb1
    clear hb1
    obtain ⟨al, a0, a1, a2, -, -, -⟩ := (id hA : Tri _ _ a b c)
    clear a0 a1 a2 al hA
    obtain ⟨rl, r0, r1, r2, r3, r4, r5⟩ := hR
    go_wp2
    refine bodyPost_ret (by simp [results, Tryz.results15, go_sem, r0, r1, r2]; try rfl) rfl ?_
    exact ⟨rfl, below_putV hO gR _ _ _⟩
  · have l1 : Half L := by unfold Half; omega
    rw [if_neg (by omega)]
    rw [sat_in L l1] at d0
    have d1 : Hid (∀ W1 : World, Calls Tryz.prog 44 #[.int .i64 a, .int .i64 L] W1 fun e w' => e = .returned (sat ((a * 4294967296).tdiv L)) ∧ Below W1.heap.size W1 w') := fun W1 => by
      have := ref2Div a L ha l1 W1
      rw [quo, if_neg hz] at this
      exact this
    have d2 : Hid (∀ W1 : World, Calls Tryz.prog 44 #[.int .i64 b, .int .i64 L] W1 fun e w' => e = .returned (sat ((b * 4294967296).tdiv L)) ∧ Below W1.heap.size W1 w') := fun W1 => by
      have := ref2Div b L hb l1 W1
      rw [quo, if_neg hz] at this
      exact this
    have d3 : Hid (∀ W1 : World, Calls Tryz.prog 44 #[.int .i64 c, .int .i64 L] W1 fun e w' => e = .returned (sat ((c * 4294967296).tdiv L)) ∧ Below W1.heap.size W1 w') := fun W1 => by
      have := ref2Div c L hc l1 W1
      rw [quo, if_neg hz] at this
      exact this
    unfold sat at d1 d2 d3
    obtain ⟨p, hp⟩ : ∃ r, Hid ((a * 4294967296).tdiv L = r) := ⟨_, rfl⟩
    obtain ⟨q, hq⟩ : ∃ r, Hid ((b * 4294967296).tdiv L = r) := ⟨_, rfl⟩
    obtain ⟨r, hr⟩ : ∃ r, Hid ((c * 4294967296).tdiv L = r) := ⟨_, rfl⟩
    rw [hp.out] at d1 ⊢
    rw [hq.out] at d2 ⊢
    rw [hr.out] at d3 ⊢
    clear hp hq hr ha hb hc
    have hA := (Tri.new w a b c 24).alloc (.cells #[.int .i64 0, .int .i64 0, .int .i64 0] 24)
    have hR := Tri.new (w.alloc (.cells #[.int .i64 a, .int .i64 b, .int .i64 c] 24)) 0 0 0 24
    rw [World.size_alloc] at hR
    have hO : Below w.heap.size w ((w.alloc (.cells #[.int .i64 a, .int .i64 b, .int .i64 c] 24)).alloc (.cells #[.int .i64 0, .int .i64 0, .int .i64 0] 24)) := by go_grown
    go_enter Tryz.func15, Tryz.ntmps15
    go_wp2_with fail
    refine (d0.out _).mono ?_
    rintro e w1 ⟨rfl, hb1⟩
    replace hA := hA.call hb1
    replace hR := hR.call hb1
    replace hO := below_then hO hb1
    clear hb1
    obtain ⟨al, a0, a1, a2, -, -, -⟩ := (id hA : Tri _ _ a b c)
    go_wp2_with fail
    refine (d1.out _).mono ?_
    rintro e w1 ⟨rfl, hb1⟩
    replace hA := hA.call hb1
    replace hR := hR.call hb1
    replace hO := below_then hO hb1
    clear hb1
    obtain ⟨al, a0, a1, a2, -, -, -⟩ := (id hA : Tri _ _ a b c)
    go_wp2_with fail
    refine (d2.out _).mono ?_
    rintro e w1 ⟨rfl, hb1⟩
    replace hA := hA.call hb1
    replace hR := hR.call hb1
    replace hO := below_then hO hb1
    clear hb1
    obtain ⟨al, a0, a1, a2, -, -, -⟩ := (id hA : Tri _ _ a b c)
    go_wp2_with fail
    refine (d3.out _).mono ?_
    rintro e w1 ⟨rfl, hb1⟩
    replace hA := hA.call hb1
    replace hR := hR.call hb1
    replace hO := below_then hO hb1
    clear hb1
    obtain ⟨al, a0, a1, a2, -, -, -⟩ := (id hA : Tri _ _ a b c)
    clear a0 a1 a2 al hA
    obtain ⟨rl, r0, r1, r2, r3, r4, r5⟩ := hR
    go_wp2
    refine bodyPost_ret (by simp [results, Tryz.results15, go_sem, r0, r1, r2]; try rfl) rfl ?_
    exact ⟨rfl, below_putV hO gR _ _ _⟩


end Go.Proofs.YtodfcbpcgcgijaaGreatDoor
