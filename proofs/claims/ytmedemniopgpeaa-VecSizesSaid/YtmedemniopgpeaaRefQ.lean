/- Vectors, in the document's answers. -/
import Derived.Test.YtmedemniopgpeaaRefK
import Derived.Test.YtmedemniopgpeaaRefP
import Derived.Test.YtmedemniopgpeaaVecN
import Derived.Test.YtmedemniopgpeaaVecS
import Derived.Test.YtmedemniopgpeaaVecR
import Derived.Deep.RegionHeld3
namespace Go.Proofs.Ytmedemniopgpeaa
open Go.RowKit
set_option linter.unusedVariables false
attribute [local go_sem] cell_re eqW_self eqV_self
attribute [local go_sem ↓] run_eqlW run_neqW run_eqlV

set_option maxRecDepth 100000 in
set_option maxHeartbeats 2000000 in
theorem ref6Product (a b : Int) (ha : Half a) (hb : Half b) (w : World) :
    Calls Try.prog 26 #[.int .i64 a, .int .i64 b] w fun e w' => e = .returned (W (prod a b)) ∧ Below w.heap.size w w' := by
  have d1 := Lib.hid (fun W1 : World => refMul a b ha hb W1)
  have d2 := Lib.hid (fun W1 : World => refNear (a * b) 32 (fits_mul ha hb) (by unfold Half; omega) W1)
  show Calls _ _ _ w fun e w' => e = .returned (W (near (a * b) 32)) ∧ Below w.heap.size w w'
  obtain ⟨p, hp⟩ : ∃ p, Hid (a * b = p) := ⟨_, rfl⟩
  rw [hp.out] at d1 d2 ⊢
  obtain ⟨q, hq⟩ : ∃ q, Hid (near p 32 = q) := ⟨_, rfl⟩
  rw [hq.out] at d2 ⊢
  have hR : Holds (w.alloc (.cells #[.int .i64 0, .int .u64 0] 39)) w.heap.size 0 := by
    have := Holds.new w 0 39
    rw [show hi 0 = 0 by decide, show lo 0 = 0 by decide] at this
    exact this
  have hB : Below w.heap.size w (w.alloc (.cells #[.int .i64 0, .int .u64 0] 39)) := by go_grown
  clear ha hb
  go_enter Try.func26, Try.ntmps26
  go_wp2_with fail
  refine (d1.out _).mono ?_
  rintro e w1 ⟨rfl, hb1⟩
  replace hR := hR.call hb1
  replace hB := below_then hB hb1
  clear hb1
  go_wp2_with fail
  refine (d2.out _).mono ?_
  rintro e w2 ⟨rfl, hb2⟩
  replace hR := hR.call hb2
  replace hB := below_then hB hb2
  clear hb2
  obtain ⟨yl, y0, y1, y2, y3⟩ := hR
  go_wp2
  refine bodyPost_ret (by simp [results, Try.results26, go_sem, y0, y1]; try rfl) rfl ?_
  exact ⟨rfl, below_put hB (Nat.le_refl _) _⟩

set_option maxRecDepth 100000 in
set_option maxHeartbeats 2000000 in
theorem ref6Clip (a : Int) (ha : Fits a) (w : World) :
    Calls Try.prog 24 #[W a] w fun e w' => e = .returned (sat a) ∧ Below w.heap.size w w' := by
  go_enter Try.func24, Try.ntmps24
  go_wp2_with (first | (go_at_call 45; refine (chain (w0 := w) (by go_grown) (by first | with_reducible exact refClip a ha _)).mono ?_; rintro e w' ⟨rfl, ht⟩; have hs := ht.size))
  go_ret2
  exact ⟨rfl, by go_grown⟩

set_option maxRecDepth 100000 in
set_option maxHeartbeats 2000000 in
theorem ref6Dot (a b c x y z : Int) (ha : Half a) (hb : Half b) (hc : Half c) (hx : Half x) (hy : Half y) (hz : Half z) (w : World) :
    Calls Try.prog 9 #[V a b c, V x y z] w fun e w' => e = .returned (sat (dot a b c x y z)) ∧ Below w.heap.size w w' := by
  have d1 := Lib.hid (fun W1 : World => ref6Product a x ha hx W1)
  have d2 := Lib.hid (fun W1 : World => ref6Product b y hb hy W1)
  have d3 := Lib.hid (fun W1 : World => ref6Product c z hc hz W1)
  have d7 := Lib.hid (fun W1 : World => ref6Clip (dot a b c x y z) (dot_fits ha hb hc hx hy hz) W1)
  unfold dot at d7 ⊢
  obtain ⟨p, hp⟩ : ∃ p, Hid (prod a x = p) := ⟨_, rfl⟩
  obtain ⟨q, hq⟩ : ∃ q, Hid (prod b y = q) := ⟨_, rfl⟩
  obtain ⟨r, hr⟩ : ∃ r, Hid (prod c z = r) := ⟨_, rfl⟩
  rw [hp.out] at d1
  rw [hq.out] at d2
  rw [hr.out] at d3
  rw [hp.out, hq.out, hr.out] at d7 ⊢
  clear ha hb hc hx hy hz hp hq hr
  have d5 := Lib.hid (fun W1 : World => refAdd p q W1)
  have d6 := Lib.hid (fun W1 : World => refAdd (p + q) r W1)
  have hO : Below w.heap.size w ((w.alloc (.cells #[.int .i64 a, .int .i64 b, .int .i64 c] 24)).alloc (.cells #[.int .i64 x, .int .i64 y, .int .i64 z] 24)) := by go_grown
  go_enter Try.func9, Try.ntmps9
  go_wp2_with fail
  refine wp_region_quiet_below (by kernel_rfl) (by kernel_rfl) ?_
  repeat (go_big_quiet_step (first | (go_at_call 26; first | with_reducible exact Calls.regrown_of (d1.out _) | with_reducible exact Calls.regrown_of (d2.out _) | with_reducible exact Calls.regrown_of (d3.out _)) | (go_at_call 25; first | with_reducible exact Calls.regrown_of (d5.out _) | with_reducible exact Calls.regrown_of (d6.out _)) | (go_at_call 24; first | with_reducible exact Calls.regrown_of (d7.out _))))
  refine wpQuiet_nil ?_
  intro wq hwq
  have hbq := below_of_re hwq
  clear hwq
  go_wp2
  go_ret2
  exact ⟨rfl, below_then hO hbq⟩

set_option maxRecDepth 100000 in
set_option maxHeartbeats 2000000 in
theorem ref6Area (a b c d : Int) (ha : Half a) (hb : Half b) (hc : Half c) (hd : Half d) (w : World) :
    Calls Try.prog 30 #[.int .i64 a, .int .i64 b, .int .i64 c, .int .i64 d] w fun e w' => e = .returned (sat (prod a b + -prod c d)) ∧ Below w.heap.size w w' := by
  have d1 := Lib.hid (fun W1 : World => ref6Product a b ha hb W1)
  have d2 := Lib.hid (fun W1 : World => ref6Product c d hc hd W1)
  have d5 := Lib.hid (fun W1 : World => ref6Clip _ (area_fits ha hb hc hd) W1)
  obtain ⟨p, hp⟩ : ∃ p, Hid (prod a b = p) := ⟨_, rfl⟩
  obtain ⟨q, hq⟩ : ∃ q, Hid (prod c d = q) := ⟨_, rfl⟩
  rw [hp.out] at d1
  rw [hq.out] at d2
  rw [hp.out, hq.out] at d5 ⊢
  clear ha hb hc hd hp hq
  have d3 := Lib.hid (fun W1 : World => refNeg q W1)
  have d4 := Lib.hid (fun W1 : World => refAdd p (-q) W1)
  go_enter Try.func30, Try.ntmps30
  go_wp2_with (first | (go_at_call 26; refine (chain (w0 := w) (by go_grown) (by first | with_reducible exact d1.out _ | with_reducible exact d2.out _)).mono ?_; rintro e w' ⟨rfl, ht⟩; have hs := ht.size) | (go_at_call 50; refine (chain (w0 := w) (by go_grown) (by first | with_reducible exact d3.out _)).mono ?_; rintro e w' ⟨rfl, ht⟩; have hs := ht.size) | (go_at_call 25; refine (chain (w0 := w) (by go_grown) (by first | with_reducible exact d4.out _)).mono ?_; rintro e w' ⟨rfl, ht⟩; have hs := ht.size) | (go_at_call 24; refine (chain (w0 := w) (by go_grown) (by first | with_reducible exact d5.out _)).mono ?_; rintro e w' ⟨rfl, ht⟩; have hs := ht.size))
  go_ret2
  exact ⟨rfl, by go_grown⟩

set_option maxRecDepth 100000 in
set_option maxHeartbeats 2000000 in
theorem ref6Cross (a b c x y z : Int) (ha : Half a) (hb : Half b) (hc : Half c) (hx : Half x) (hy : Half y) (hz : Half z) (w : World) :
    Calls Try.prog 11 #[V a b c, V x y z] w fun e w' => e = .returned (.tuple #[V (clipped (prod b z + -prod c y)) (clipped (prod c x + -prod a z)) (clipped (prod a y + -prod b x)), .bool (cut (prod b z + -prod c y) || cut (prod c x + -prod a z) || cut (prod a y + -prod b x))]) ∧ Below w.heap.size w w' := by
  have hA := ((Tri.new w a b c 24).alloc (.cells #[.int .i64 x, .int .i64 y, .int .i64 z] 24)).alloc (.cells #[.int .i64 0, .int .i64 0, .int .i64 0] 24)
  have hB := (Tri.new (w.alloc (.cells #[.int .i64 a, .int .i64 b, .int .i64 c] 24)) x y z 24).alloc (.cells #[.int .i64 0, .int .i64 0, .int .i64 0] 24)
  have hR := Tri.new ((w.alloc (.cells #[.int .i64 a, .int .i64 b, .int .i64 c] 24)).alloc (.cells #[.int .i64 x, .int .i64 y, .int .i64 z] 24)) 0 0 0 24
  rw [World.size_alloc] at hB hR
  rw [World.size_alloc] at hR
  have hO : Below w.heap.size w (((w.alloc (.cells #[.int .i64 a, .int .i64 b, .int .i64 c] 24)).alloc (.cells #[.int .i64 x, .int .i64 y, .int .i64 z] 24)).alloc (.cells #[.int .i64 0, .int .i64 0, .int .i64 0] 24)) := by go_grown
  have gO : w.heap.size ≤ w.heap.size + 1 + 1 := by omega
  have d1 := Lib.hid (fun W1 : World => ref6Area b z c y hb hz hc hy W1)
  have d2 := Lib.hid (fun W1 : World => ref6Area c x a z hc hx ha hz W1)
  have d3 := Lib.hid (fun W1 : World => ref6Area a y b x ha hy hb hx W1)
  obtain ⟨p, hp⟩ : ∃ p, Hid (prod b z + -prod c y = p) := ⟨_, rfl⟩
  obtain ⟨q, hq⟩ : ∃ q, Hid (prod c x + -prod a z = q) := ⟨_, rfl⟩
  obtain ⟨r, hr⟩ : ∃ r, Hid (prod a y + -prod b x = r) := ⟨_, rfl⟩
  rw [hp.out] at d1 ⊢
  rw [hq.out] at d2 ⊢
  rw [hr.out] at d3 ⊢
  unfold sat at d1 d2 d3
  obtain ⟨u, hu⟩ : ∃ u, Hid (cut p = u) := ⟨_, rfl⟩
  obtain ⟨v, hv⟩ : ∃ v, Hid (cut q = v) := ⟨_, rfl⟩
  obtain ⟨t, ht⟩ : ∃ t, Hid (cut r = t) := ⟨_, rfl⟩
  rw [hu.out] at d1 ⊢
  rw [hv.out] at d2 ⊢
  rw [ht.out] at d3 ⊢
  clear hp hq hr hu hv ht ha hb hc hx hy hz
  cases u
  all_goals
    cases v
    all_goals
      go_enter Try.func11, Try.ntmps11
      go_wp2_with fail
      refine (d1.out _).mono ?_
      rintro e w1 ⟨rfl, hb1⟩
      replace hA := hA.call hb1
      replace hB := hB.call hb1
      replace hR := hR.call hb1
      replace hO := below_then hO hb1
      clear hb1
      obtain ⟨al, a0, a1, a2, -, -, -⟩ := (id hA : Tri _ _ a b c)
      obtain ⟨bl, b0, b1, b2, -, -, -⟩ := (id hB : Tri _ _ x y z)
      go_wp2_with fail
      refine (d2.out _).mono ?_
      rintro e w1 ⟨rfl, hb1⟩
      replace hA := hA.call hb1
      replace hB := hB.call hb1
      replace hR := hR.call hb1
      replace hO := below_then hO hb1
      clear hb1
      obtain ⟨al, a0, a1, a2, -, -, -⟩ := (id hA : Tri _ _ a b c)
      obtain ⟨bl, b0, b1, b2, -, -, -⟩ := (id hB : Tri _ _ x y z)
      go_wp2_with fail
      refine (d3.out _).mono ?_
      rintro e w1 ⟨rfl, hb1⟩
      replace hA := hA.call hb1
      replace hB := hB.call hb1
      replace hR := hR.call hb1
      replace hO := below_then hO hb1
      clear hb1
      obtain ⟨al, a0, a1, a2, -, -, -⟩ := (id hA : Tri _ _ a b c)
      obtain ⟨bl, b0, b1, b2, -, -, -⟩ := (id hB : Tri _ _ x y z)
      clear a0 a1 a2 b0 b1 b2 al bl hA hB
      obtain ⟨rl, r0, r1, r2, r3, r4, r5⟩ := hR
      go_wp2
      refine bodyPost_ret (by simp [results, Try.results11, go_sem, r0, r1, r2]; try rfl) rfl ?_
      exact ⟨rfl, below_putV hO gO _ _ _⟩


theorem ref2Clamp (a lo hi : Int) (_ha : Half a) (_hl : Half lo) (_hh : Half hi) (w : World) : Calls Try.prog 38 #[.int .i64 a, .int .i64 lo, .int .i64 hi] w fun e w' => e = .returned (.tuple #[.int .i64 (clamp a lo hi), .bool (clamped a lo hi)]) ∧ Below w.heap.size w w' := by
  by_cases h1 : hi < lo
  · have c1 : clamp a lo hi = lo := by unfold clamp; rw [if_pos h1]
    have c2 : clamped a lo hi = true := by unfold clamped; rw [decide_eq_true h1]; rfl
    rw [c1, c2]
    go_enter Try.func38, Try.ntmps38
    go_wp2
    all_goals
      go_returns
      refine ⟨retIB ?_ ?_, by go_grown⟩ <;> first | rfl | omega
  · have h1' := decide_eq_false h1
    rcases Int.lt_trichotomy a lo with h2 | h2 | h2
    all_goals
      rcases Int.lt_trichotomy hi a with h3 | h3 | h3
      all_goals
        obtain ⟨x, hx⟩ : ∃ x, Hid (clamp a lo hi = x) := ⟨_, rfl⟩
        obtain ⟨k, hk⟩ : ∃ k, Hid (clamped a lo hi = k) := ⟨_, rfl⟩
        rw [hx.out, hk.out]
        go_enter Try.func38, Try.ntmps38
        go_wp2
        all_goals
          go_returns
          refine ⟨retIB ?_ ?_, by go_grown⟩
          · rw [← hx.out]; unfold clamp; split <;> (try split) <;> (try split) <;> omega
          · rw [← hk.out]; unfold clamped; first | (simp <;> omega) | (rw [h1', Bool.false_or, Bool.eq_iff_iff, bne_iff_ne, Bool.or_eq_true, decide_eq_true_eq, decide_eq_true_eq]; omega)

set_option maxRecDepth 100000 in
set_option maxHeartbeats 2000000 in
theorem ref6Clamp (a b c m : Int) (ha : Half a) (hb : Half b) (hc : Half c) (hm : Half m) (w : World) :
    Calls Try.prog 16 #[V a b c, .int .i64 m] w fun e w' => e = .returned (clampV a b c (bound m)) ∧ Below w.heap.size w w' := by
  have hA := (Tri.new w a b c 24).alloc (.cells #[.int .i64 0, .int .i64 0, .int .i64 0] 24)
  have hR := Tri.new (w.alloc (.cells #[.int .i64 a, .int .i64 b, .int .i64 c] 24)) 0 0 0 24
  rw [World.size_alloc] at hR
  have hO : Below w.heap.size w ((w.alloc (.cells #[.int .i64 a, .int .i64 b, .int .i64 c] 24)).alloc (.cells #[.int .i64 0, .int .i64 0, .int .i64 0] 24)) := by go_grown
  have gO : w.heap.size ≤ w.heap.size + 1 := by omega
  obtain ⟨hm0, hm1⟩ := hm
  unfold clampV
  rcases Int.lt_trichotomy m 0 with h | h | h
  · rw [show bound m = 0 by unfold bound; omega]
    rw [Int.neg_zero]
    have d1 := Lib.hid (fun W1 : World => ref2Clamp a (0) (0) ha (by unfold Half; omega) (by unfold Half; omega) W1)
    have d2 := Lib.hid (fun W1 : World => ref2Clamp b (0) (0) hb (by unfold Half; omega) (by unfold Half; omega) W1)
    have d3 := Lib.hid (fun W1 : World => ref2Clamp c (0) (0) hc (by unfold Half; omega) (by unfold Half; omega) W1)
    obtain ⟨p, hp⟩ : ∃ p, Hid (clamp a (0) (0) = p) := ⟨_, rfl⟩
    obtain ⟨q, hq⟩ : ∃ q, Hid (clamp b (0) (0) = q) := ⟨_, rfl⟩
    obtain ⟨r, hr⟩ : ∃ r, Hid (clamp c (0) (0) = r) := ⟨_, rfl⟩
    obtain ⟨u, hu⟩ : ∃ u, Hid (clamped a (0) (0) = u) := ⟨_, rfl⟩
    obtain ⟨v, hv⟩ : ∃ v, Hid (clamped b (0) (0) = v) := ⟨_, rfl⟩
    obtain ⟨t, ht⟩ : ∃ t, Hid (clamped c (0) (0) = t) := ⟨_, rfl⟩
    rw [hp.out, hu.out] at d1 ⊢
    rw [hq.out, hv.out] at d2 ⊢
    rw [hr.out, ht.out] at d3 ⊢
    clear hp hq hr hu hv ht ha hb hc
    cases u
    all_goals
      cases v
      all_goals
        go_enter Try.func16, Try.ntmps16
        go_wp2_with fail
        refine (d1.out _).mono ?_
        rintro e w1 ⟨rfl, hb1⟩
        replace hA := hA.call hb1
        skip
        replace hR := hR.call hb1
        replace hO := below_then hO hb1
        clear hb1
        obtain ⟨al, a0, a1, a2, -, -, -⟩ := (id hA : Tri _ _ a b c)
        skip
        go_wp2_with fail
        refine (d2.out _).mono ?_
        rintro e w1 ⟨rfl, hb1⟩
        replace hA := hA.call hb1
        skip
        replace hR := hR.call hb1
        replace hO := below_then hO hb1
        clear hb1
        obtain ⟨al, a0, a1, a2, -, -, -⟩ := (id hA : Tri _ _ a b c)
        skip
        go_wp2_with fail
        refine (d3.out _).mono ?_
        rintro e w1 ⟨rfl, hb1⟩
        replace hA := hA.call hb1
        skip
        replace hR := hR.call hb1
        replace hO := below_then hO hb1
        clear hb1
        obtain ⟨al, a0, a1, a2, -, -, -⟩ := (id hA : Tri _ _ a b c)
        skip
        clear a0 a1 a2 al hA
        obtain ⟨rl, r0, r1, r2, r3, r4, r5⟩ := hR
        go_wp2
        refine bodyPost_ret (by simp [results, Try.results16, go_sem, r0, r1, r2]; try rfl) rfl ?_
        exact ⟨rfl, below_putV hO gO _ _ _⟩
  · subst h
    rw [show bound 0 = 0 by decide]
    rw [Int.neg_zero]
    have d1 := Lib.hid (fun W1 : World => ref2Clamp a (0) (0) ha (by unfold Half; omega) (by unfold Half; omega) W1)
    have d2 := Lib.hid (fun W1 : World => ref2Clamp b (0) (0) hb (by unfold Half; omega) (by unfold Half; omega) W1)
    have d3 := Lib.hid (fun W1 : World => ref2Clamp c (0) (0) hc (by unfold Half; omega) (by unfold Half; omega) W1)
    obtain ⟨p, hp⟩ : ∃ p, Hid (clamp a (0) (0) = p) := ⟨_, rfl⟩
    obtain ⟨q, hq⟩ : ∃ q, Hid (clamp b (0) (0) = q) := ⟨_, rfl⟩
    obtain ⟨r, hr⟩ : ∃ r, Hid (clamp c (0) (0) = r) := ⟨_, rfl⟩
    obtain ⟨u, hu⟩ : ∃ u, Hid (clamped a (0) (0) = u) := ⟨_, rfl⟩
    obtain ⟨v, hv⟩ : ∃ v, Hid (clamped b (0) (0) = v) := ⟨_, rfl⟩
    obtain ⟨t, ht⟩ : ∃ t, Hid (clamped c (0) (0) = t) := ⟨_, rfl⟩
    rw [hp.out, hu.out] at d1 ⊢
    rw [hq.out, hv.out] at d2 ⊢
    rw [hr.out, ht.out] at d3 ⊢
    clear hp hq hr hu hv ht ha hb hc
    cases u
    all_goals
      cases v
      all_goals
        go_enter Try.func16, Try.ntmps16
        go_wp2_with fail
        refine (d1.out _).mono ?_
        rintro e w1 ⟨rfl, hb1⟩
        replace hA := hA.call hb1
        skip
        replace hR := hR.call hb1
        replace hO := below_then hO hb1
        clear hb1
        obtain ⟨al, a0, a1, a2, -, -, -⟩ := (id hA : Tri _ _ a b c)
        skip
        go_wp2_with fail
        refine (d2.out _).mono ?_
        rintro e w1 ⟨rfl, hb1⟩
        replace hA := hA.call hb1
        skip
        replace hR := hR.call hb1
        replace hO := below_then hO hb1
        clear hb1
        obtain ⟨al, a0, a1, a2, -, -, -⟩ := (id hA : Tri _ _ a b c)
        skip
        go_wp2_with fail
        refine (d3.out _).mono ?_
        rintro e w1 ⟨rfl, hb1⟩
        replace hA := hA.call hb1
        skip
        replace hR := hR.call hb1
        replace hO := below_then hO hb1
        clear hb1
        obtain ⟨al, a0, a1, a2, -, -, -⟩ := (id hA : Tri _ _ a b c)
        skip
        clear a0 a1 a2 al hA
        obtain ⟨rl, r0, r1, r2, r3, r4, r5⟩ := hR
        go_wp2
        refine bodyPost_ret (by simp [results, Try.results16, go_sem, r0, r1, r2]; try rfl) rfl ?_
        exact ⟨rfl, below_putV hO gO _ _ _⟩
  · rw [show bound m = m by unfold bound; omega]
    skip
    have d1 := Lib.hid (fun W1 : World => ref2Clamp a (-m) (m) ha (by unfold Half; omega) (by unfold Half; omega) W1)
    have d2 := Lib.hid (fun W1 : World => ref2Clamp b (-m) (m) hb (by unfold Half; omega) (by unfold Half; omega) W1)
    have d3 := Lib.hid (fun W1 : World => ref2Clamp c (-m) (m) hc (by unfold Half; omega) (by unfold Half; omega) W1)
    obtain ⟨p, hp⟩ : ∃ p, Hid (clamp a (-m) (m) = p) := ⟨_, rfl⟩
    obtain ⟨q, hq⟩ : ∃ q, Hid (clamp b (-m) (m) = q) := ⟨_, rfl⟩
    obtain ⟨r, hr⟩ : ∃ r, Hid (clamp c (-m) (m) = r) := ⟨_, rfl⟩
    obtain ⟨u, hu⟩ : ∃ u, Hid (clamped a (-m) (m) = u) := ⟨_, rfl⟩
    obtain ⟨v, hv⟩ : ∃ v, Hid (clamped b (-m) (m) = v) := ⟨_, rfl⟩
    obtain ⟨t, ht⟩ : ∃ t, Hid (clamped c (-m) (m) = t) := ⟨_, rfl⟩
    rw [hp.out, hu.out] at d1 ⊢
    rw [hq.out, hv.out] at d2 ⊢
    rw [hr.out, ht.out] at d3 ⊢
    clear hp hq hr hu hv ht ha hb hc
    cases u
    all_goals
      cases v
      all_goals
        go_enter Try.func16, Try.ntmps16
        go_wp2_with fail
        refine (d1.out _).mono ?_
        rintro e w1 ⟨rfl, hb1⟩
        replace hA := hA.call hb1
        skip
        replace hR := hR.call hb1
        replace hO := below_then hO hb1
        clear hb1
        obtain ⟨al, a0, a1, a2, -, -, -⟩ := (id hA : Tri _ _ a b c)
        skip
        go_wp2_with fail
        refine (d2.out _).mono ?_
        rintro e w1 ⟨rfl, hb1⟩
        replace hA := hA.call hb1
        skip
        replace hR := hR.call hb1
        replace hO := below_then hO hb1
        clear hb1
        obtain ⟨al, a0, a1, a2, -, -, -⟩ := (id hA : Tri _ _ a b c)
        skip
        go_wp2_with fail
        refine (d3.out _).mono ?_
        rintro e w1 ⟨rfl, hb1⟩
        replace hA := hA.call hb1
        skip
        replace hR := hR.call hb1
        replace hO := below_then hO hb1
        clear hb1
        obtain ⟨al, a0, a1, a2, -, -, -⟩ := (id hA : Tri _ _ a b c)
        skip
        clear a0 a1 a2 al hA
        obtain ⟨rl, r0, r1, r2, r3, r4, r5⟩ := hR
        go_wp2
        refine bodyPost_ret (by simp [results, Try.results16, go_sem, r0, r1, r2]; try rfl) rfl ?_
        exact ⟨rfl, below_putV hO gO _ _ _⟩


end Go.Proofs.Ytmedemniopgpeaa
