/- The greatest axis, and the vector of length One, in the document's answers. -/
import Derived.Test.YtmedemniopgpeaaRefK
import Derived.Test.YtmedemniopgpeaaRefP
import Derived.Test.YtmedemniopgpeaaVecN
import Derived.Test.YtmedemniopgpeaaVecS
import Derived.Test.YtmedemniopgpeaaRefU
import Derived.Test.YtmedemniopgpeaaVecT
import Derived.Deep.RegionHeld3
namespace Go.Proofs.Ytmedemniopgpeaa
open Go.RowKit
set_option linter.unusedVariables false
attribute [local go_sem] cell_re eqW_self eqV_self
attribute [local go_sem ↓] run_eqlW run_neqW run_eqlV

set_option maxRecDepth 100000 in
set_option maxHeartbeats 2000000 in
theorem ref6Unit (a b c : Int) (ha : Half a) (hb : Half b) (hc : Half c) (w : World) :
    Calls Try.prog 18 #[V a b c] w fun e w' => e = .returned (unitOf a b c) ∧ Below w.heap.size w w' := by
  have d0 := Lib.hid (fun W1 : World => ref6Length a b c ha hb hc W1)
  have l0 := len_lo ha hb hc
  have gR : w.heap.size ≤ w.heap.size + 1 := by omega
  unfold unitOf
  obtain ⟨L, hL⟩ : ∃ L, len a b c = L := ⟨_, rfl⟩
  rw [hL] at d0 l0 ⊢
  clear hL
  by_cases h : 9223372036854775807 < L
  · rw [if_pos (Or.inl h)]
    rw [clip_over h] at d0
    clear ha hb hc h l0
    have hA := (Tri.new w a b c 24).alloc (.cells #[.int .i64 0, .int .i64 0, .int .i64 0] 24)
    have hR := Tri.new (w.alloc (.cells #[.int .i64 a, .int .i64 b, .int .i64 c] 24)) 0 0 0 24
    rw [World.size_alloc] at hR
    have hO : Below w.heap.size w ((w.alloc (.cells #[.int .i64 a, .int .i64 b, .int .i64 c] 24)).alloc (.cells #[.int .i64 0, .int .i64 0, .int .i64 0] 24)) := by go_grown
    go_enter Try.func18, Try.ntmps18
    go_wp2_with fail
    refine (d0.out _).mono ?_
    rintro e w1 ⟨rfl, hb1⟩
    replace hA := hA.call hb1
    replace hR := hR.call hb1
    replace hO := below_then hO hb1
    clear hb1
    obtain ⟨al, a0, a1, a2, -, -, -⟩ := (id hA : Tri _ _ a b c)
    clear a0 a1 a2 al hA
    obtain ⟨rl, r0, r1, r2, r3, r4, r5⟩ := hR
    go_wp2
    refine bodyPost_ret (by simp [results, Try.results18, go_sem, r0, r1, r2]; try rfl) rfl ?_
    exact ⟨rfl, below_putV hO gR _ _ _⟩
  by_cases hz : L = 0
  · rw [if_pos (Or.inr hz)]
    subst hz
    rw [sat_in 0 (by unfold Half; omega)] at d0
    clear ha hb hc h l0
    have hA := (Tri.new w a b c 24).alloc (.cells #[.int .i64 0, .int .i64 0, .int .i64 0] 24)
    have hR := Tri.new (w.alloc (.cells #[.int .i64 a, .int .i64 b, .int .i64 c] 24)) 0 0 0 24
    rw [World.size_alloc] at hR
    have hO : Below w.heap.size w ((w.alloc (.cells #[.int .i64 a, .int .i64 b, .int .i64 c] 24)).alloc (.cells #[.int .i64 0, .int .i64 0, .int .i64 0] 24)) := by go_grown
    go_enter Try.func18, Try.ntmps18
    go_wp2_with fail
    refine (d0.out _).mono ?_
    rintro e w1 ⟨rfl, hb1⟩
    replace hA := hA.call hb1
    replace hR := hR.call hb1
    replace hO := below_then hO hb1
    clear hb1
    obtain ⟨al, a0, a1, a2, -, -, -⟩ := (id hA : Tri _ _ a b c)
    clear a0 a1 a2 al hA
    obtain ⟨rl, r0, r1, r2, r3, r4, r5⟩ := hR
    go_wp2
    refine bodyPost_ret (by simp [results, Try.results18, go_sem, r0, r1, r2]; try rfl) rfl ?_
    exact ⟨rfl, below_putV hO gR _ _ _⟩
  · have l1 : Half L := by unfold Half; omega
    rw [if_neg (by omega)]
    rw [sat_in L l1] at d0
    have d1 : Hid (∀ W1 : World, Calls Try.prog 41 #[.int .i64 a, .int .i64 L] W1 fun e w' => e = .returned (sat ((a * 4294967296).tdiv L)) ∧ Below W1.heap.size W1 w') := fun W1 => by
      have := ref2Div a L ha l1 W1
      rw [quo, if_neg hz] at this
      exact this
    have d2 : Hid (∀ W1 : World, Calls Try.prog 41 #[.int .i64 b, .int .i64 L] W1 fun e w' => e = .returned (sat ((b * 4294967296).tdiv L)) ∧ Below W1.heap.size W1 w') := fun W1 => by
      have := ref2Div b L hb l1 W1
      rw [quo, if_neg hz] at this
      exact this
    have d3 : Hid (∀ W1 : World, Calls Try.prog 41 #[.int .i64 c, .int .i64 L] W1 fun e w' => e = .returned (sat ((c * 4294967296).tdiv L)) ∧ Below W1.heap.size W1 w') := fun W1 => by
      have := ref2Div c L hc l1 W1
      rw [quo, if_neg hz] at this
      exact this
    unfold sat at d1 d2 d3
    obtain ⟨p, hp⟩ : ∃ r, Hid ((a * 4294967296).tdiv L = r) := ⟨_, rfl⟩
    obtain ⟨q, hq⟩ : ∃ r, Hid ((b * 4294967296).tdiv L = r) := ⟨_, rfl⟩
    obtain ⟨r, hr⟩ : ∃ r, Hid ((c * 4294967296).tdiv L = r) := ⟨_, rfl⟩
    rw [hp.out] at d1 ⊢
    rw [hq.out] at d2 ⊢
    rw [hr.out] at d3 ⊢
    clear hp hq hr ha hb hc
    have hA := (Tri.new w a b c 24).alloc (.cells #[.int .i64 0, .int .i64 0, .int .i64 0] 24)
    have hR := Tri.new (w.alloc (.cells #[.int .i64 a, .int .i64 b, .int .i64 c] 24)) 0 0 0 24
    rw [World.size_alloc] at hR
    have hO : Below w.heap.size w ((w.alloc (.cells #[.int .i64 a, .int .i64 b, .int .i64 c] 24)).alloc (.cells #[.int .i64 0, .int .i64 0, .int .i64 0] 24)) := by go_grown
    go_enter Try.func18, Try.ntmps18
    go_wp2_with fail
    refine (d0.out _).mono ?_
    rintro e w1 ⟨rfl, hb1⟩
    replace hA := hA.call hb1
    replace hR := hR.call hb1
    replace hO := below_then hO hb1
    clear hb1
    obtain ⟨al, a0, a1, a2, -, -, -⟩ := (id hA : Tri _ _ a b c)
    go_wp2_with fail
    refine (d1.out _).mono ?_
    rintro e w1 ⟨rfl, hb1⟩
    replace hA := hA.call hb1
    replace hR := hR.call hb1
    replace hO := below_then hO hb1
    clear hb1
    obtain ⟨al, a0, a1, a2, -, -, -⟩ := (id hA : Tri _ _ a b c)
    go_wp2_with fail
    refine (d2.out _).mono ?_
    rintro e w1 ⟨rfl, hb1⟩
    replace hA := hA.call hb1
    replace hR := hR.call hb1
    replace hO := below_then hO hb1
    clear hb1
    obtain ⟨al, a0, a1, a2, -, -, -⟩ := (id hA : Tri _ _ a b c)
    go_wp2_with fail
    refine (d3.out _).mono ?_
    rintro e w1 ⟨rfl, hb1⟩
    replace hA := hA.call hb1
    replace hR := hR.call hb1
    replace hO := below_then hO hb1
    clear hb1
    obtain ⟨al, a0, a1, a2, -, -, -⟩ := (id hA : Tri _ _ a b c)
    clear a0 a1 a2 al hA
    obtain ⟨rl, r0, r1, r2, r3, r4, r5⟩ := hR
    go_wp2
    refine bodyPost_ret (by simp [results, Try.results18, go_sem, r0, r1, r2]; try rfl) rfl ?_
    exact ⟨rfl, below_putV hO gR _ _ _⟩


end Go.Proofs.Ytmedemniopgpeaa
