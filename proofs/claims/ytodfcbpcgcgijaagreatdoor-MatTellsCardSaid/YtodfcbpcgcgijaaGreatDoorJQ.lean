import Derived.Test.YtodfcbpcgcgijaaGreatDoorJF
import Derived.Test.YtodfcbpcgcgijaaGreatDoorJK
import Derived.Test.YtodfcbpcgcgijaaGreatDoorJN
import Derived.Deep.RegionHeld3
/- Vectors, in the document's answers. -/
namespace Go.Proofs.YtodfcbpcgcgijaaGreatDoor
set_option maxRecDepth 100000
open Go.RowKit
set_option linter.unusedVariables false
attribute [local go_sem] cell_re eqW_self eqV_self
attribute [local go_sem ↓] run_eqlW run_neqW run_eqlV

set_option maxRecDepth 100000 in
set_option maxHeartbeats 2000000 in
theorem ref6Product (a b : Int) (ha : Half a) (hb : Half b) (w : World) :
    Calls Tryz.prog 47 #[.int .i64 a, .int .i64 b] w fun e w' => e = .returned (W (prod a b)) ∧ Below w.heap.size w w' := by
  have d1 := Lib.hid (fun W1 : World => refMul a b ha hb W1)
  have d2 := Lib.hid (fun W1 : World => refNear (a * b) 32 (fits_mul ha hb) (by unfold Half; omega) W1)
  show Calls _ _ _ w fun e w' => e = .returned (W (near (a * b) 32)) ∧ Below w.heap.size w w'
  obtain ⟨p, hp⟩ : ∃ p, Hid (a * b = p) := ⟨_, rfl⟩
  rw [hp.out] at d1 d2 ⊢
  obtain ⟨q, hq⟩ : ∃ q, Hid (near p 32 = q) := ⟨_, rfl⟩
  rw [hq.out] at d2 ⊢
  have hR : Holds (w.alloc (.cells #[.int .i64 0, .int .u64 0] 56)) w.heap.size 0 := by
    have := Holds.new w 0 56
    rw [show hi 0 = 0 by decide, show lo 0 = 0 by decide] at this
    exact this
  have hB : Below w.heap.size w (w.alloc (.cells #[.int .i64 0, .int .u64 0] 56)) := by go_grown
  clear ha hb
  go_enter Tryz.func47, Tryz.ntmps47
  go_wp2_with fail
  refine (d1.out _).mono ?_
  rintro e w1 ⟨rfl, hb1⟩
  replace hR := hR.call hb1
  replace hB := below_then hB hb1
  clear hb1
  go_wp2_with fail
  refine (d2.out _).mono ?_
  rintro e w2 ⟨rfl, hb2⟩
  replace hR := hR.call hb2
  replace hB := below_then hB hb2
  clear hb2
  obtain ⟨yl, y0, y1, y2, y3⟩ := hR
  go_wp2
  refine bodyPost_ret (by simp [results, Tryz.results47, go_sem, y0, y1]; try rfl) rfl ?_
  exact ⟨rfl, below_put hB (Nat.le_refl _) _⟩

set_option maxRecDepth 100000 in
set_option maxHeartbeats 2000000 in
theorem ref6Clip (a : Int) (ha : Fits a) (w : World) :
    Calls Tryz.prog 45 #[W a] w fun e w' => e = .returned (sat a) ∧ Below w.heap.size w w' := by
  go_enter Tryz.func45, Tryz.ntmps45
  go_wp2_with (first | (go_at_call 81; refine (chain (w0 := w) (by go_grown) (by first | with_reducible exact refClip a ha _)).mono ?_; rintro e w' ⟨rfl, ht⟩; have hs := ht.size))
  go_ret2
  exact ⟨rfl, by go_grown⟩

set_option maxRecDepth 100000 in
set_option maxHeartbeats 2000000 in
theorem ref6Dot (a b c x y z : Int) (ha : Half a) (hb : Half b) (hc : Half c) (hx : Half x) (hy : Half y) (hz : Half z) (w : World) :
    Calls Tryz.prog 17 #[V a b c, V x y z] w fun e w' => e = .returned (sat (dot a b c x y z)) ∧ Below w.heap.size w w' := by
  have d1 := Lib.hid (fun W1 : World => ref6Product a x ha hx W1)
  have d2 := Lib.hid (fun W1 : World => ref6Product b y hb hy W1)
  have d3 := Lib.hid (fun W1 : World => ref6Product c z hc hz W1)
  have d7 := Lib.hid (fun W1 : World => ref6Clip (dot a b c x y z) (dot_fits ha hb hc hx hy hz) W1)
  unfold dot at d7 ⊢
  obtain ⟨p, hp⟩ : ∃ p, Hid (prod a x = p) := ⟨_, rfl⟩
  obtain ⟨q, hq⟩ : ∃ q, Hid (prod b y = q) := ⟨_, rfl⟩
  obtain ⟨r, hr⟩ : ∃ r, Hid (prod c z = r) := ⟨_, rfl⟩
  rw [hp.out] at d1
  rw [hq.out] at d2
  rw [hr.out] at d3
  rw [hp.out, hq.out, hr.out] at d7 ⊢
  clear ha hb hc hx hy hz hp hq hr
  have d5 := Lib.hid (fun W1 : World => refAdd p q W1)
  have d6 := Lib.hid (fun W1 : World => refAdd (p + q) r W1)
  have hO : Below w.heap.size w ((w.alloc (.cells #[.int .i64 a, .int .i64 b, .int .i64 c] 24)).alloc (.cells #[.int .i64 x, .int .i64 y, .int .i64 z] 24)) := by go_grown
  go_enter Tryz.func17, Tryz.ntmps17
  go_wp2_with fail
  refine wp_region_quiet_below (by kernel_rfl) (by kernel_rfl) ?_
  repeat (go_big_quiet_step (first | (go_at_call 47; first | with_reducible exact Calls.regrown_of (d1.out _) | with_reducible exact Calls.regrown_of (d2.out _) | with_reducible exact Calls.regrown_of (d3.out _)) | (go_at_call 46; first | with_reducible exact Calls.regrown_of (d5.out _) | with_reducible exact Calls.regrown_of (d6.out _)) | (go_at_call 45; first | with_reducible exact Calls.regrown_of (d7.out _))))
  refine wpQuiet_nil ?_
  intro wq hwq
  have hbq := below_of_re hwq
  clear hwq
  go_wp2
  go_ret2
  exact ⟨rfl, below_then hO hbq⟩

set_option maxRecDepth 100000 in
set_option maxHeartbeats 2000000 in
theorem ref6Area (a b c d : Int) (ha : Half a) (hb : Half b) (hc : Half c) (hd : Half d) (w : World) :
    Calls Tryz.prog 50 #[.int .i64 a, .int .i64 b, .int .i64 c, .int .i64 d] w fun e w' => e = .returned (sat (prod a b + -prod c d)) ∧ Below w.heap.size w w' := by
  have d1 := Lib.hid (fun W1 : World => ref6Product a b ha hb W1)
  have d2 := Lib.hid (fun W1 : World => ref6Product c d hc hd W1)
  have d5 := Lib.hid (fun W1 : World => ref6Clip _ (area_fits ha hb hc hd) W1)
  obtain ⟨p, hp⟩ : ∃ p, Hid (prod a b = p) := ⟨_, rfl⟩
  obtain ⟨q, hq⟩ : ∃ q, Hid (prod c d = q) := ⟨_, rfl⟩
  rw [hp.out] at d1
  rw [hq.out] at d2
  rw [hp.out, hq.out] at d5 ⊢
  clear ha hb hc hd hp hq
  have d3 := Lib.hid (fun W1 : World => refNeg q W1)
  have d4 := Lib.hid (fun W1 : World => refAdd p (-q) W1)
  go_enter Tryz.func50, Tryz.ntmps50
  go_wp2_with (first | (go_at_call 47; refine (chain (w0 := w) (by go_grown) (by first | with_reducible exact d1.out _ | with_reducible exact d2.out _)).mono ?_; rintro e w' ⟨rfl, ht⟩; have hs := ht.size) | (go_at_call 86; refine (chain (w0 := w) (by go_grown) (by first | with_reducible exact d3.out _)).mono ?_; rintro e w' ⟨rfl, ht⟩; have hs := ht.size) | (go_at_call 46; refine (chain (w0 := w) (by go_grown) (by first | with_reducible exact d4.out _)).mono ?_; rintro e w' ⟨rfl, ht⟩; have hs := ht.size) | (go_at_call 45; refine (chain (w0 := w) (by go_grown) (by first | with_reducible exact d5.out _)).mono ?_; rintro e w' ⟨rfl, ht⟩; have hs := ht.size))
  go_ret2
  exact ⟨rfl, by go_grown⟩

set_option maxRecDepth 100000 in
set_option maxHeartbeats 2000000 in
theorem ref6Cross (a b c x y z : Int) (ha : Half a) (hb : Half b) (hc : Half c) (hx : Half x) (hy : Half y) (hz : Half z) (w : World) :
    Calls Tryz.prog 20 #[V a b c, V x y z] w fun e w' => e = .returned (.tuple #[V (clipped (prod b z + -prod c y)) (clipped (prod c x + -prod a z)) (clipped (prod a y + -prod b x)), .bool (cut (prod b z + -prod c y) || cut (prod c x + -prod a z) || cut (prod a y + -prod b x))]) ∧ Below w.heap.size w w' := by
  have hA := ((Tri.new w a b c 24).alloc (.cells #[.int .i64 x, .int .i64 y, .int .i64 z] 24)).alloc (.cells #[.int .i64 0, .int .i64 0, .int .i64 0] 24)
  have hB := (Tri.new (w.alloc (.cells #[.int .i64 a, .int .i64 b, .int .i64 c] 24)) x y z 24).alloc (.cells #[.int .i64 0, .int .i64 0, .int .i64 0] 24)
  have hR := Tri.new ((w.alloc (.cells #[.int .i64 a, .int .i64 b, .int .i64 c] 24)).alloc (.cells #[.int .i64 x, .int .i64 y, .int .i64 z] 24)) 0 0 0 24
  rw [World.size_alloc] at hB hR
  rw [World.size_alloc] at hR
  have hO : Below w.heap.size w (((w.alloc (.cells #[.int .i64 a, .int .i64 b, .int .i64 c] 24)).alloc (.cells #[.int .i64 x, .int .i64 y, .int .i64 z] 24)).alloc (.cells #[.int .i64 0, .int .i64 0, .int .i64 0] 24)) := by go_grown
  have gO : w.heap.size ≤ w.heap.size + 1 + 1 := by omega
  have d1 := Lib.hid (fun W1 : World => ref6Area b z c y hb hz hc hy W1)
  have d2 := Lib.hid (fun W1 : World => ref6Area c x a z hc hx ha hz W1)
  have d3 := Lib.hid (fun W1 : World => ref6Area a y b x ha hy hb hx W1)
  obtain ⟨p, hp⟩ : ∃ p, Hid (prod b z + -prod c y = p) := ⟨_, rfl⟩
  obtain ⟨q, hq⟩ : ∃ q, Hid (prod c x + -prod a z = q) := ⟨_, rfl⟩
  obtain ⟨r, hr⟩ : ∃ r, Hid (prod a y + -prod b x = r) := ⟨_, rfl⟩
  rw [hp.out] at d1 ⊢
  rw [hq.out] at d2 ⊢
  rw [hr.out] at d3 ⊢
  unfold sat at d1 d2 d3
  obtain ⟨u, hu⟩ : ∃ u, Hid (cut p = u) := ⟨_, rfl⟩
  obtain ⟨v, hv⟩ : ∃ v, Hid (cut q = v) := ⟨_, rfl⟩
  obtain ⟨t, ht⟩ : ∃ t, Hid (cut r = t) := ⟨_, rfl⟩
  rw [hu.out] at d1 ⊢
  rw [hv.out] at d2 ⊢
  rw [ht.out] at d3 ⊢
  clear hp hq hr hu hv ht ha hb hc hx hy hz
  cases u
  all_goals
    cases v
    all_goals
      go_enter Tryz.func20, Tryz.ntmps20
      go_wp2_with fail
      refine (d1.out _).mono ?_
      rintro e w1 ⟨rfl, hb1⟩
      replace hA := hA.call hb1
      replace hB := hB.call hb1
      replace hR := hR.call hb1
      replace hO := below_then hO hb1
      clear hb1
      obtain ⟨al, a0, a1, a2, -, -, -⟩ := (id hA : Tri _ _ a b c)
      obtain ⟨bl, b0, b1, b2, -, -, -⟩ := (id hB : Tri _ _ x y z)
      go_wp2_with fail
      refine (d2.out _).mono ?_
      rintro e w1 ⟨rfl, hb1⟩
      replace hA := hA.call hb1
      replace hB := hB.call hb1
      replace hR := hR.call hb1
      replace hO := below_then hO hb1
      clear hb1
      obtain ⟨al, a0, a1, a2, -, -, -⟩ := (id hA : Tri _ _ a b c)
      obtain ⟨bl, b0, b1, b2, -, -, -⟩ := (id hB : Tri _ _ x y z)
      go_wp2_with fail
      refine (d3.out _).mono ?_
      rintro e w1 ⟨rfl, hb1⟩
      replace hA := hA.call hb1
      replace hB := hB.call hb1
      replace hR := hR.call hb1
      replace hO := below_then hO hb1
      clear hb1
      obtain ⟨al, a0, a1, a2, -, -, -⟩ := (id hA : Tri _ _ a b c)
      obtain ⟨bl, b0, b1, b2, -, -, -⟩ := (id hB : Tri _ _ x y z)
      clear a0 a1 a2 b0 b1 b2 al bl hA hB
      obtain ⟨rl, r0, r1, r2, r3, r4, r5⟩ := hR
      go_wp2
      refine bodyPost_ret (by simp [results, Tryz.results20, go_sem, r0, r1, r2]; try rfl) rfl ?_
      exact ⟨rfl, below_putV hO gO _ _ _⟩


end Go.Proofs.YtodfcbpcgcgijaaGreatDoor

/- The length, the greatest axis, and the vector of length One, in the document's answers. -/
namespace Go.Proofs.YtodfcbpcgcgijaaGreatDoor
set_option maxRecDepth 100000
open Go.RowKit
set_option linter.unusedVariables false
attribute [local go_sem] cell_re eqW_self eqV_self
attribute [local go_sem ↓] run_eqlW run_neqW run_eqlV


theorem ref6Bare (a : Int) (ha : Half a) (w : World) : Calls Tryz.prog 55 #[.int .i64 a] w fun e w' => e = .returned (.int .u64 (bare a)) ∧ Below w.heap.size w w' := by
  obtain ⟨a0, a1⟩ := ha
  unfold bare
  by_cases h : a < 0
  · rw [if_pos h]
    go_enter Tryz.func55, Tryz.ntmps55
    go_wp2
    go_returns
    refine ⟨retI ?_, by go_grown⟩
    omega
  · rw [if_neg h]
    go_enter Tryz.func55, Tryz.ntmps55
    go_wp2
    go_returns
    refine ⟨retI ?_, by go_grown⟩
    omega
theorem hi_big {v : Int} (h0 : 170141183460469231731687303715884105728 ≤ v) (h1 : v < 340282366920938463463374607431768211456) : hi v < 0 := by unfold hi; omega
theorem hi_small {v : Int} (h0 : 0 ≤ v) (h1 : v < 170141183460469231731687303715884105728) : 0 ≤ hi v := by unfold hi; omega
theorem ref6Square (a : Int) (ha : Half a) (w : World) : Calls Tryz.prog 76 #[.int .u64 (bare a)] w fun e w' => e = .returned (W (a * a)) ∧ Below w.heap.size w w' := by
  have h := bare_bd ha
  rw [← bare_sq]
  exact ref4Square (bare a) h.1 (by omega) w

end Go.Proofs.YtodfcbpcgcgijaaGreatDoor

/- Sums, differences and scaled vectors, in the document's answers. -/
namespace Go.Proofs.YtodfcbpcgcgijaaGreatDoor
set_option maxRecDepth 100000
open Go.RowKit
set_option linter.unusedVariables false
attribute [local go_sem] cell_re eqW_self eqV_self
attribute [local go_sem ↓] run_eqlW run_neqW run_eqlV

set_option maxRecDepth 100000 in
set_option maxHeartbeats 2000000 in
theorem ref6Sub (a b c x y z : Int) (ha : Half a) (hb : Half b) (hc : Half c) (hx : Half x) (hy : Half y) (hz : Half z) (w : World) :
    Calls Tryz.prog 19 #[V a b c, V x y z] w fun e w' => e = .returned (.tuple #[V (clipped (a + -x)) (clipped (b + -y)) (clipped (c + -z)), .bool (cut (a + -x) || cut (b + -y) || cut (c + -z))]) ∧ Below w.heap.size w w' := by
  have hA := ((Tri.new w a b c 24).alloc (.cells #[.int .i64 x, .int .i64 y, .int .i64 z] 24)).alloc (.cells #[.int .i64 0, .int .i64 0, .int .i64 0] 24)
  have hB := (Tri.new (w.alloc (.cells #[.int .i64 a, .int .i64 b, .int .i64 c] 24)) x y z 24).alloc (.cells #[.int .i64 0, .int .i64 0, .int .i64 0] 24)
  have hR := Tri.new ((w.alloc (.cells #[.int .i64 a, .int .i64 b, .int .i64 c] 24)).alloc (.cells #[.int .i64 x, .int .i64 y, .int .i64 z] 24)) 0 0 0 24
  rw [World.size_alloc] at hB hR
  rw [World.size_alloc] at hR
  have hO : Below w.heap.size w (((w.alloc (.cells #[.int .i64 a, .int .i64 b, .int .i64 c] 24)).alloc (.cells #[.int .i64 x, .int .i64 y, .int .i64 z] 24)).alloc (.cells #[.int .i64 0, .int .i64 0, .int .i64 0] 24)) := by go_grown
  have gO : w.heap.size ≤ w.heap.size + 1 + 1 := by omega
  have d1 : Hid (∀ W1 : World, Calls Tryz.prog 49 #[.int .i64 a, .int .i64 x] W1 fun e w' => e = .returned (.tuple #[.int .i64 (clipped (a + -x)), .bool (cut (a + -x))]) ∧ Below W1.heap.size W1 w') := fun W1 => ref2Sub a x ha hx W1
  have d2 : Hid (∀ W1 : World, Calls Tryz.prog 49 #[.int .i64 b, .int .i64 y] W1 fun e w' => e = .returned (.tuple #[.int .i64 (clipped (b + -y)), .bool (cut (b + -y))]) ∧ Below W1.heap.size W1 w') := fun W1 => ref2Sub b y hb hy W1
  have d3 : Hid (∀ W1 : World, Calls Tryz.prog 49 #[.int .i64 c, .int .i64 z] W1 fun e w' => e = .returned (.tuple #[.int .i64 (clipped (c + -z)), .bool (cut (c + -z))]) ∧ Below W1.heap.size W1 w') := fun W1 => ref2Sub c z hc hz W1
  obtain ⟨p, hp⟩ : ∃ p, Hid ((clipped (a + -x)) = p) := ⟨_, rfl⟩
  obtain ⟨q, hq⟩ : ∃ q, Hid ((clipped (b + -y)) = q) := ⟨_, rfl⟩
  obtain ⟨r, hr⟩ : ∃ r, Hid ((clipped (c + -z)) = r) := ⟨_, rfl⟩
  obtain ⟨u, hu⟩ : ∃ u, Hid ((cut (a + -x)) = u) := ⟨_, rfl⟩
  obtain ⟨v, hv⟩ : ∃ v, Hid ((cut (b + -y)) = v) := ⟨_, rfl⟩
  obtain ⟨t, ht⟩ : ∃ t, Hid ((cut (c + -z)) = t) := ⟨_, rfl⟩
  rw [hp.out, hu.out] at d1 ⊢
  rw [hq.out, hv.out] at d2 ⊢
  rw [hr.out, ht.out] at d3 ⊢
  clear hp hq hr hu hv ht ha hb hc hx hy hz
  cases u
  all_goals
    cases v
    all_goals
      go_enter Tryz.func19, Tryz.ntmps19
      go_wp2_with fail
      refine (d1.out _).mono ?_
      rintro e w1 ⟨rfl, hb1⟩
      replace hA := hA.call hb1
      replace hB := hB.call hb1
      replace hR := hR.call hb1
      replace hO := below_then hO hb1
      clear hb1
      obtain ⟨al, a0, a1, a2, -, -, -⟩ := (id hA : Tri _ _ a b c)
      obtain ⟨bl, b0, b1, b2, -, -, -⟩ := (id hB : Tri _ _ x y z)
      go_wp2_with fail
      refine (d2.out _).mono ?_
      rintro e w1 ⟨rfl, hb1⟩
      replace hA := hA.call hb1
      replace hB := hB.call hb1
      replace hR := hR.call hb1
      replace hO := below_then hO hb1
      clear hb1
      obtain ⟨al, a0, a1, a2, -, -, -⟩ := (id hA : Tri _ _ a b c)
      obtain ⟨bl, b0, b1, b2, -, -, -⟩ := (id hB : Tri _ _ x y z)
      go_wp2_with fail
      refine (d3.out _).mono ?_
      rintro e w1 ⟨rfl, hb1⟩
      replace hA := hA.call hb1
      replace hB := hB.call hb1
      replace hR := hR.call hb1
      replace hO := below_then hO hb1
      clear hb1
      obtain ⟨al, a0, a1, a2, -, -, -⟩ := (id hA : Tri _ _ a b c)
      obtain ⟨bl, b0, b1, b2, -, -, -⟩ := (id hB : Tri _ _ x y z)
      clear a0 a1 a2 b0 b1 b2 bl hB al hA
      obtain ⟨rl, r0, r1, r2, r3, r4, r5⟩ := hR
      go_wp2
      refine bodyPost_ret (by simp [results, Tryz.results19, go_sem, r0, r1, r2]; try rfl) rfl ?_
      exact ⟨rfl, below_putV hO gO _ _ _⟩

set_option maxRecDepth 100000 in
set_option maxHeartbeats 2000000 in
theorem ref6Scale (a b c f : Int) (ha : Half a) (hb : Half b) (hc : Half c) (hf : Half f) (w : World) :
    Calls Tryz.prog 18 #[V a b c, .int .i64 f] w fun e w' => e = .returned (.tuple #[V (clipped (prod a f)) (clipped (prod b f)) (clipped (prod c f)), .bool (cut (prod a f) || cut (prod b f) || cut (prod c f))]) ∧ Below w.heap.size w w' := by
  have hA := (Tri.new w a b c 24).alloc (.cells #[.int .i64 0, .int .i64 0, .int .i64 0] 24)
  have hR := Tri.new (w.alloc (.cells #[.int .i64 a, .int .i64 b, .int .i64 c] 24)) 0 0 0 24
  rw [World.size_alloc] at hR
  have hO : Below w.heap.size w ((w.alloc (.cells #[.int .i64 a, .int .i64 b, .int .i64 c] 24)).alloc (.cells #[.int .i64 0, .int .i64 0, .int .i64 0] 24)) := by go_grown
  have gO : w.heap.size ≤ w.heap.size + 1 := by omega
  have d1 : Hid (∀ W1 : World, Calls Tryz.prog 48 #[.int .i64 a, .int .i64 f] W1 fun e w' => e = .returned (.tuple #[.int .i64 (clipped (prod a f)), .bool (cut (prod a f))]) ∧ Below W1.heap.size W1 w') := fun W1 => ref2Mul a f ha hf W1
  have d2 : Hid (∀ W1 : World, Calls Tryz.prog 48 #[.int .i64 b, .int .i64 f] W1 fun e w' => e = .returned (.tuple #[.int .i64 (clipped (prod b f)), .bool (cut (prod b f))]) ∧ Below W1.heap.size W1 w') := fun W1 => ref2Mul b f hb hf W1
  have d3 : Hid (∀ W1 : World, Calls Tryz.prog 48 #[.int .i64 c, .int .i64 f] W1 fun e w' => e = .returned (.tuple #[.int .i64 (clipped (prod c f)), .bool (cut (prod c f))]) ∧ Below W1.heap.size W1 w') := fun W1 => ref2Mul c f hc hf W1
  obtain ⟨p, hp⟩ : ∃ p, Hid ((clipped (prod a f)) = p) := ⟨_, rfl⟩
  obtain ⟨q, hq⟩ : ∃ q, Hid ((clipped (prod b f)) = q) := ⟨_, rfl⟩
  obtain ⟨r, hr⟩ : ∃ r, Hid ((clipped (prod c f)) = r) := ⟨_, rfl⟩
  obtain ⟨u, hu⟩ : ∃ u, Hid ((cut (prod a f)) = u) := ⟨_, rfl⟩
  obtain ⟨v, hv⟩ : ∃ v, Hid ((cut (prod b f)) = v) := ⟨_, rfl⟩
  obtain ⟨t, ht⟩ : ∃ t, Hid ((cut (prod c f)) = t) := ⟨_, rfl⟩
  rw [hp.out, hu.out] at d1 ⊢
  rw [hq.out, hv.out] at d2 ⊢
  rw [hr.out, ht.out] at d3 ⊢
  clear hp hq hr hu hv ht ha hb hc hf
  cases u
  all_goals
    cases v
    all_goals
      go_enter Tryz.func18, Tryz.ntmps18
      go_wp2_with fail
      refine (d1.out _).mono ?_
      rintro e w1 ⟨rfl, hb1⟩
      replace hA := hA.call hb1
      skip
      replace hR := hR.call hb1
      replace hO := below_then hO hb1
      clear hb1
      obtain ⟨al, a0, a1, a2, -, -, -⟩ := (id hA : Tri _ _ a b c)
      skip
      go_wp2_with fail
      refine (d2.out _).mono ?_
      rintro e w1 ⟨rfl, hb1⟩
      replace hA := hA.call hb1
      skip
      replace hR := hR.call hb1
      replace hO := below_then hO hb1
      clear hb1
      obtain ⟨al, a0, a1, a2, -, -, -⟩ := (id hA : Tri _ _ a b c)
      skip
      go_wp2_with fail
      refine (d3.out _).mono ?_
      rintro e w1 ⟨rfl, hb1⟩
      replace hA := hA.call hb1
      skip
      replace hR := hR.call hb1
      replace hO := below_then hO hb1
      clear hb1
      obtain ⟨al, a0, a1, a2, -, -, -⟩ := (id hA : Tri _ _ a b c)
      skip
      clear a0 a1 a2  al hA
      obtain ⟨rl, r0, r1, r2, r3, r4, r5⟩ := hR
      go_wp2
      refine bodyPost_ret (by simp [results, Tryz.results18, go_sem, r0, r1, r2]; try rfl) rfl ?_
      exact ⟨rfl, below_putV hO gO _ _ _⟩

end Go.Proofs.YtodfcbpcgcgijaaGreatDoor

/- The length, the greatest axis, and the vector of length One, in the document's answers. -/
namespace Go.Proofs.YtodfcbpcgcgijaaGreatDoor
set_option maxRecDepth 100000
open Go.RowKit
set_option linter.unusedVariables false
attribute [local go_sem] cell_re eqW_self eqV_self
attribute [local go_sem ↓] run_eqlW run_neqW run_eqlV

set_option maxRecDepth 100000 in
set_option maxHeartbeats 16000000 in
theorem ref6Length (a b c : Int) (ha : Half a) (hb : Half b) (hc : Half c) (w : World) :
    Calls Tryz.prog 43 #[V a b c] w fun e w' => e = .returned (sat (len a b c)) ∧ Below w.heap.size w w' := by
  have e1 := Lib.hid (fun W1 : World => ref6Bare a ha W1)
  have e2 := Lib.hid (fun W1 : World => ref6Bare b hb W1)
  have e3 := Lib.hid (fun W1 : World => ref6Bare c hc W1)
  have d1 := Lib.hid (fun W1 : World => ref6Square a ha W1)
  have d2 := Lib.hid (fun W1 : World => ref6Square b hb W1)
  have d3 := Lib.hid (fun W1 : World => ref6Square c hc W1)
  have l0 := len_lo ha hb hc
  have l1 := len_hi ha hb hc
  have d7 : Hid (squares a b c < 170141183460469231731687303715884105728 → ∀ W1 : World, Calls Tryz.prog 77 #[W (squares a b c)] W1 fun e w' => e = .returned (.tuple #[.int .u64 (len a b c), .bool true]) ∧ Below W1.heap.size W1 w') :=
    fun h W1 => ref4Wide_pos _ (by have := (squares_bd ha hb hc).1; unfold Fits; omega) (squares_bd ha hb hc).1 W1
  have ov := Lib.hid (fun h => clip_over (len_over ha hb hc h))
  have qa := sq_half ha
  have qb := sq_half hb
  have qc := sq_half hc
  unfold squares at d7 ov
  obtain ⟨R, hR⟩ : ∃ R, Hid (sat (len a b c) = R) := ⟨_, rfl⟩
  have rin : Hid (len a b c ≤ 9223372036854775807 → R = .tuple #[.int .i64 (len a b c), .bool false]) := fun h => by rw [← hR.out]; exact sat_in _ (by unfold Half; omega)
  have rout : Hid (9223372036854775807 < len a b c → R = .tuple #[.int .i64 9223372036854775807, .bool true]) := fun h => by rw [← hR.out]; exact clip_over h
  rw [hR.out] at ov ⊢
  clear hR ha hb hc
  obtain ⟨L, hL⟩ : ∃ L, Hid (len a b c = L) := ⟨_, rfl⟩
  rw [hL.out] at d7 rin rout l0 l1
  clear hL
  obtain ⟨p, hp⟩ : ∃ p, Hid (a * a = p) := ⟨_, rfl⟩
  obtain ⟨q, hq⟩ : ∃ q, Hid (b * b = q) := ⟨_, rfl⟩
  obtain ⟨r, hr⟩ : ∃ r, Hid (c * c = r) := ⟨_, rfl⟩
  rw [hp.out] at d1 qa
  rw [hq.out] at d2 qb
  rw [hr.out] at d3 qc
  rw [hp.out, hq.out, hr.out] at d7 ov
  have bds : Hid ((0 ≤ p ∧ p < 340282366920938463463374607431768211456) ∧ (0 ≤ p + q ∧ p + q < 340282366920938463463374607431768211456) ∧ (0 ≤ p + q + r ∧ p + q + r < 340282366920938463463374607431768211456)) := ⟨⟨by omega, by omega⟩, ⟨by omega, by omega⟩, ⟨by omega, by omega⟩⟩
  have over1 : Hid (170141183460469231731687303715884105728 ≤ p → R = .tuple #[.int .i64 9223372036854775807, .bool true]) := fun h => ov.out (by omega)
  have over2 : Hid (170141183460469231731687303715884105728 ≤ p + q → R = .tuple #[.int .i64 9223372036854775807, .bool true]) := fun h => ov.out (by omega)
  have over3 := ov
  clear ov qa qb qc hp hq hr
  obtain ⟨x, hx⟩ : ∃ x, Hid (bare a = x) := ⟨_, rfl⟩
  obtain ⟨y, hy⟩ : ∃ y, Hid (bare b = y) := ⟨_, rfl⟩
  obtain ⟨z, hz⟩ : ∃ z, Hid (bare c = z) := ⟨_, rfl⟩
  rw [hx.out] at e1 d1
  rw [hy.out] at e2 d2
  rw [hz.out] at e3 d3
  clear hx hy hz
  have d4 : Hid (∀ W1 : World, Calls Tryz.prog 46 #[W 0, W p] W1 fun e w' => e = .returned (W p) ∧ Below W1.heap.size W1 w') := fun W1 => by
    have := refAdd 0 p W1
    rw [Int.zero_add] at this
    exact this
  have d5 := Lib.hid (fun W1 : World => refAdd p q W1)
  have d6 := Lib.hid (fun W1 : World => refAdd (p + q) r W1)
  have z0 : hi 0 = 0 := by decide
  have z1 : lo 0 = 0 := by decide
  have hA := (Tri.new w a b c 24).alloc (.cells #[.int .i64 0, .int .u64 0] 56)
  have hS := Holds.new (w.alloc (.cells #[.int .i64 a, .int .i64 b, .int .i64 c] 24)) 0 56
  rw [z0, z1] at hS
  rw [World.size_alloc] at hS
  have hO : Below w.heap.size w ((w.alloc (.cells #[.int .i64 a, .int .i64 b, .int .i64 c] 24)).alloc (.cells #[.int .i64 0, .int .u64 0] 56)) := by go_grown
  have gO : w.heap.size ≤ w.heap.size + 1 := by omega
  have gA : w.heap.size ≠ w.heap.size + 1 := by omega
  clear z0 z1
  go_enter Tryz.func43, Tryz.ntmps43
  go_wp2
  go_loopw [5] (fun v5 wr => ∃ i s : Int, v5 = .int .i64 i ∧ Step p q r i s ∧ Hid (0 ≤ s ∧ s < 170141183460469231731687303715884105728) ∧ Tri wr w.heap.size a b c ∧ Holds wr (w.heap.size + 1) s ∧ Below w.heap.size w wr) (fun v5 _ => 3 - (intOf v5).toNat)
  case atStart => exact ⟨0, 0, rfl, Or.inl ⟨rfl, rfl⟩, (by decide : (0 : Int) ≤ 0 ∧ (0 : Int) < 170141183460469231731687303715884105728), hA, hS, hO⟩
  case round =>
    clear hS hO hA
    obtain ⟨i, s, rfl, hst, hs, hA, hS, hO⟩ := hrel
    rcases hst with ⟨rfl, rfl⟩ | ⟨rfl, rfl⟩ | ⟨rfl, rfl⟩ | ⟨rfl, rfl⟩
    · obtain ⟨al, a0, a1, a2, -, -, -⟩ := (id hA : Tri wr w.heap.size a b c)
      obtain ⟨sl, s0, s1, s2, s3⟩ := (id hS : Holds wr (w.heap.size + 1) (0))
      have bd : 0 ≤ p ∧ p < 340282366920938463463374607431768211456 := bds.out.1
      have bd' := Lib.hid bd
      clear bd
      go_wp2_with fail
      go_region_with (first
          | (go_at_call 55; refine (e1.out _).mono ?_; rintro e w3 ⟨rfl, hb3⟩; have hS3 := hS.drew.call hb3; have hA3 := hA.drew.call hb3; have hO3 := below_then hO.drew hb3; obtain ⟨tl, t0, t1, t2, t3⟩ := (id hS3 : Holds w3 (w.heap.size + 1) (0)))
          | (go_at_call 76; refine (d1.out _).mono ?_; rintro e w4 ⟨rfl, hb4⟩; have hS4 := hS3.call hb4; have hA4 := hA3.call hb4; have hO4 := below_then hO3 hb4; obtain ⟨vl, v0, v1, v2, v3⟩ := (id hS4 : Holds w4 (w.heap.size + 1) (0)))
          | (go_at_call 46; refine (d4.out _).mono ?_; rintro e w5 ⟨rfl, hb5⟩; have hS5 := hS4.call hb5; have hA5 := (hA4.call hb5).other gA (p); have hS6 := hS5.same (p); have hO5 := below_put (below_then hO4 hb5) gO (p); obtain ⟨ul, u0, u1, u2, u3⟩ := hS5))
      all_goals
        clear hS hO hA hA3 hA4 hS3 hO3 hb3 hS4 hO4 hb4 hb5
        obtain ⟨zl, z0, z1, z2, z3⟩ := (id hS6 : Holds _ (w.heap.size + 1) (p))
        rcases Int.lt_or_le (p) 170141183460469231731687303715884105728 with hn | hn
        · have hh := hi_small bd'.out.1 hn
          have hn' := Lib.hid (And.intro bd'.out.1 hn)
          clear bd' hn
          go_wp2
          go_roundw
          case rel => exact ⟨1, p, by go_num, Or.inr (Or.inl ⟨rfl, rfl⟩), hn', hA5, hS6, hO5⟩
          case measure => simp [intOf]
        · have hh := hi_big hn bd'.out.2
          have hR' := Lib.hid (over1.out hn)
          clear bd' hn
          go_wp2
          go_ret2
          exact ⟨by rw [hR'.out]; rfl, hO5⟩
    · obtain ⟨al, a0, a1, a2, -, -, -⟩ := (id hA : Tri wr w.heap.size a b c)
      obtain ⟨sl, s0, s1, s2, s3⟩ := (id hS : Holds wr (w.heap.size + 1) (p))
      have bd : 0 ≤ p + q ∧ p + q < 340282366920938463463374607431768211456 := bds.out.2.1
      have bd' := Lib.hid bd
      clear bd
      go_wp2_with fail
      go_region_with (first
          | (go_at_call 55; refine (e2.out _).mono ?_; rintro e w3 ⟨rfl, hb3⟩; have hS3 := hS.drew.call hb3; have hA3 := hA.drew.call hb3; have hO3 := below_then hO.drew hb3; obtain ⟨tl, t0, t1, t2, t3⟩ := (id hS3 : Holds w3 (w.heap.size + 1) (p)))
          | (go_at_call 76; refine (d2.out _).mono ?_; rintro e w4 ⟨rfl, hb4⟩; have hS4 := hS3.call hb4; have hA4 := hA3.call hb4; have hO4 := below_then hO3 hb4; obtain ⟨vl, v0, v1, v2, v3⟩ := (id hS4 : Holds w4 (w.heap.size + 1) (p)))
          | (go_at_call 46; refine (d5.out _).mono ?_; rintro e w5 ⟨rfl, hb5⟩; have hS5 := hS4.call hb5; have hA5 := (hA4.call hb5).other gA (p + q); have hS6 := hS5.same (p + q); have hO5 := below_put (below_then hO4 hb5) gO (p + q); obtain ⟨ul, u0, u1, u2, u3⟩ := hS5))
      all_goals
        clear hS hO hA hA3 hA4 hS3 hO3 hb3 hS4 hO4 hb4 hb5
        obtain ⟨zl, z0, z1, z2, z3⟩ := (id hS6 : Holds _ (w.heap.size + 1) (p + q))
        rcases Int.lt_or_le (p + q) 170141183460469231731687303715884105728 with hn | hn
        · have hh := hi_small bd'.out.1 hn
          have hn' := Lib.hid (And.intro bd'.out.1 hn)
          clear bd' hn
          go_wp2
          go_roundw
          case rel => exact ⟨2, p + q, by go_num, Or.inr (Or.inr (Or.inl ⟨rfl, rfl⟩)), hn', hA5, hS6, hO5⟩
          case measure => simp [intOf]
        · have hh := hi_big hn bd'.out.2
          have hR' := Lib.hid (over2.out hn)
          clear bd' hn
          go_wp2
          go_ret2
          exact ⟨by rw [hR'.out]; rfl, hO5⟩
    · obtain ⟨al, a0, a1, a2, -, -, -⟩ := (id hA : Tri wr w.heap.size a b c)
      obtain ⟨sl, s0, s1, s2, s3⟩ := (id hS : Holds wr (w.heap.size + 1) (p + q))
      have bd : 0 ≤ p + q + r ∧ p + q + r < 340282366920938463463374607431768211456 := bds.out.2.2
      have bd' := Lib.hid bd
      clear bd
      go_wp2_with fail
      go_region_with (first
          | (go_at_call 55; refine (e3.out _).mono ?_; rintro e w3 ⟨rfl, hb3⟩; have hS3 := hS.drew.call hb3; have hA3 := hA.drew.call hb3; have hO3 := below_then hO.drew hb3; obtain ⟨tl, t0, t1, t2, t3⟩ := (id hS3 : Holds w3 (w.heap.size + 1) (p + q)))
          | (go_at_call 76; refine (d3.out _).mono ?_; rintro e w4 ⟨rfl, hb4⟩; have hS4 := hS3.call hb4; have hA4 := hA3.call hb4; have hO4 := below_then hO3 hb4; obtain ⟨vl, v0, v1, v2, v3⟩ := (id hS4 : Holds w4 (w.heap.size + 1) (p + q)))
          | (go_at_call 46; refine (d6.out _).mono ?_; rintro e w5 ⟨rfl, hb5⟩; have hS5 := hS4.call hb5; have hA5 := (hA4.call hb5).other gA (p + q + r); have hS6 := hS5.same (p + q + r); have hO5 := below_put (below_then hO4 hb5) gO (p + q + r); obtain ⟨ul, u0, u1, u2, u3⟩ := hS5))
      all_goals
        clear hS hO hA hA3 hA4 hS3 hO3 hb3 hS4 hO4 hb4 hb5
        obtain ⟨zl, z0, z1, z2, z3⟩ := (id hS6 : Holds _ (w.heap.size + 1) (p + q + r))
        rcases Int.lt_or_le (p + q + r) 170141183460469231731687303715884105728 with hn | hn
        · have hh := hi_small bd'.out.1 hn
          have hn' := Lib.hid (And.intro bd'.out.1 hn)
          clear bd' hn
          go_wp2
          go_roundw
          case rel => exact ⟨3, p + q + r, by go_num, Or.inr (Or.inr (Or.inr ⟨rfl, rfl⟩)), hn', hA5, hS6, hO5⟩
          case measure => simp [intOf]
        · have hh := hi_big hn bd'.out.2
          have hR' := Lib.hid (over3.out hn)
          clear bd' hn
          go_wp2
          go_ret2
          exact ⟨by rw [hR'.out]; rfl, hO5⟩
    · obtain ⟨sl, s0, s1, s2, s3⟩ := hS
      replace d7 := Lib.hid (d7.out hs.out.2)
      rcases Int.lt_or_le 9223372036854775807 L with hn | hn
      · have hR' := Lib.hid (rout.out hn)
        go_wp2_with fail
        refine (d7.out _).mono ?_
        rintro e w1 ⟨rfl, hb1⟩
        replace hO := below_then hO hb1
        go_wp2
        go_ret2
        exact ⟨by rw [hR'.out]; rfl, hO⟩
      · have hR' := Lib.hid (rin.out hn)
        go_wp2_with fail
        refine (d7.out _).mono ?_
        rintro e w1 ⟨rfl, hb1⟩
        replace hO := below_then hO hb1
        go_wp2
        go_ret2
        exact ⟨by rw [hR'.out]; rfl, hO⟩


end Go.Proofs.YtodfcbpcgcgijaaGreatDoor
