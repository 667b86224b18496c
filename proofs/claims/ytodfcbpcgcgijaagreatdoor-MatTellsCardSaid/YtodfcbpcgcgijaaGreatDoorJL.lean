import Derived.Test.YtodfcbpcgcgijaaGreatDoorJG
import Derived.Test.YtodfcbpcgcgijaaGreatDoorJI
import Derived.Test.YtodfcbpcgcgijaaGreatDoorJK
import Derived.Deep.RegionHeld3
/- What the calls of package vec answer, each for every number that its parameters can hold. -/
namespace Go.Proofs.YtodfcbpcgcgijaaGreatDoor
set_option maxRecDepth 100000
open Go.RowKit
set_option linter.unusedVariables false
attribute [local go_sem] cell_re eqW_self eqV_self
attribute [local go_sem ↓] run_eqlW run_neqW run_eqlV

set_option maxRecDepth 100000 in
set_option maxHeartbeats 2000000 in
theorem vecProduct (a b : Int) (ha : Half a) (hb : Half b) (w : World) :
    Calls Tryz.prog 41 #[.int .i64 a, .int .i64 b] w fun e w' => e = .returned (W (prod a b)) ∧ Below w.heap.size w w' := by
  have d1 := Lib.hid (fun W1 : World => wideMul a b ha hb W1)
  have d2 := Lib.hid (fun W1 : World => wideNear (a * b) 32 (fits_mul ha hb) (by unfold Half; omega) W1)
  show Calls _ _ _ w fun e w' => e = .returned (W (near (a * b) 32)) ∧ Below w.heap.size w w'
  obtain ⟨p, hp⟩ : ∃ p, Hid (a * b = p) := ⟨_, rfl⟩
  rw [hp.out] at d1 d2 ⊢
  obtain ⟨q, hq⟩ : ∃ q, Hid (near p 32 = q) := ⟨_, rfl⟩
  rw [hq.out] at d2 ⊢
  have hR : Holds (w.alloc (.cells #[.int .i64 0, .int .u64 0] 56)) w.heap.size 0 := by
    have := Holds.new w 0 56
    rw [show hi 0 = 0 by decide, show lo 0 = 0 by decide] at this
    exact this
  have hB : Below w.heap.size w (w.alloc (.cells #[.int .i64 0, .int .u64 0] 56)) := by go_grown
  clear ha hb
  go_enter Tryz.func41, Tryz.ntmps41
  go_wp2_with fail
  refine (d1.out _).mono ?_
  rintro e w1 ⟨rfl, hb1⟩
  replace hR := hR.call hb1
  replace hB := below_then hB hb1
  clear hb1
  go_wp2_with fail
  refine (d2.out _).mono ?_
  rintro e w2 ⟨rfl, hb2⟩
  replace hR := hR.call hb2
  replace hB := below_then hB hb2
  clear hb2
  obtain ⟨yl, y0, y1, y2, y3⟩ := hR
  go_wp2
  refine bodyPost_ret (by simp [results, Tryz.results41, go_sem, y0, y1]; try rfl) rfl ?_
  exact ⟨rfl, below_put hB (Nat.le_refl _) _⟩

set_option maxRecDepth 100000 in
set_option maxHeartbeats 2000000 in
theorem vecSat (a : Int) (ha : Fits a) (w : World) :
    Calls Tryz.prog 39 #[W a] w fun e w' => e = .returned (sat a) ∧ Below w.heap.size w w' := by
  go_enter Tryz.func39, Tryz.ntmps39
  go_wp2_with (first | (go_at_call 74; refine (chain (w0 := w) (by go_grown) (by first | with_reducible exact wideClip a ha _)).mono ?_; rintro e w' ⟨rfl, ht⟩; have hs := ht.size))
  go_ret2
  exact ⟨rfl, by go_grown⟩


/-- What has been added up by round i. -/
def Step (p q r i s : Int) : Prop := (i = 0 ∧ 0 = s) ∨ (i = 1 ∧ p = s) ∨ (i = 2 ∧ p + q = s) ∨ (i = 3 ∧ p + q + r = s)
set_option maxRecDepth 100000 in
set_option maxHeartbeats 2000000 in
theorem vecDot (a b c x y z : Int) (ha : Half a) (hb : Half b) (hc : Half c) (hx : Half x) (hy : Half y) (hz : Half z) (w : World) :
    Calls Tryz.prog 36 #[V a b c, V x y z] w fun e w' => e = .returned (sat (dot a b c x y z)) ∧ Below w.heap.size w w' := by
  have d1 := Lib.hid (fun W1 : World => vecProduct a x ha hx W1)
  have d2 := Lib.hid (fun W1 : World => vecProduct b y hb hy W1)
  have d3 := Lib.hid (fun W1 : World => vecProduct c z hc hz W1)
  have d7 := Lib.hid (fun W1 : World => vecSat (dot a b c x y z) (dot_fits ha hb hc hx hy hz) W1)
  unfold dot at d7 ⊢
  obtain ⟨p, hp⟩ : ∃ p, Hid (prod a x = p) := ⟨_, rfl⟩
  obtain ⟨q, hq⟩ : ∃ q, Hid (prod b y = q) := ⟨_, rfl⟩
  obtain ⟨r, hr⟩ : ∃ r, Hid (prod c z = r) := ⟨_, rfl⟩
  rw [hp.out] at d1
  rw [hq.out] at d2
  rw [hr.out] at d3
  rw [hp.out, hq.out, hr.out] at d7 ⊢
  clear ha hb hc hx hy hz hp hq hr
  have d4 : Hid (∀ W1 : World, Calls Tryz.prog 40 #[W 0, W p] W1 fun e w' => e = .returned (W p) ∧ Below W1.heap.size W1 w') := fun W1 => by
    have := wideAdd 0 p W1
    rw [Int.zero_add] at this
    exact this
  have d5 := Lib.hid (fun W1 : World => wideAdd p q W1)
  have d6 := Lib.hid (fun W1 : World => wideAdd (p + q) r W1)
  have z0 : hi 0 = 0 := by decide
  have z1 : lo 0 = 0 := by decide
  have hA := ((Tri.new w a b c 24).alloc (.cells #[.int .i64 x, .int .i64 y, .int .i64 z] 24)).alloc (.cells #[.int .i64 0, .int .u64 0] 56)
  have hB := (Tri.new (w.alloc (.cells #[.int .i64 a, .int .i64 b, .int .i64 c] 24)) x y z 24).alloc (.cells #[.int .i64 0, .int .u64 0] 56)
  have hS := Holds.new ((w.alloc (.cells #[.int .i64 a, .int .i64 b, .int .i64 c] 24)).alloc (.cells #[.int .i64 x, .int .i64 y, .int .i64 z] 24)) 0 56
  rw [z0, z1] at hS
  rw [World.size_alloc] at hB hS
  rw [World.size_alloc] at hS
  have hO : Below w.heap.size w (((w.alloc (.cells #[.int .i64 a, .int .i64 b, .int .i64 c] 24)).alloc (.cells #[.int .i64 x, .int .i64 y, .int .i64 z] 24)).alloc (.cells #[.int .i64 0, .int .u64 0] 56)) := by go_grown
  have gA : w.heap.size ≠ w.heap.size + 1 + 1 := by omega
  have gB : w.heap.size + 1 ≠ w.heap.size + 1 + 1 := by omega
  have gO : w.heap.size ≤ w.heap.size + 1 + 1 := by omega
  clear z0 z1
  go_enter Tryz.func36, Tryz.ntmps36
  go_wp2
  go_loopw [8] (fun v8 wr => ∃ i s : Int, v8 = .int .i64 i ∧ Step p q r i s ∧ Tri wr w.heap.size a b c ∧ Tri wr (w.heap.size + 1) x y z ∧ Holds wr (w.heap.size + 1 + 1) s ∧ Below w.heap.size w wr) (fun v8 _ => 3 - (intOf v8).toNat)
  case atStart => exact ⟨0, 0, rfl, Or.inl ⟨rfl, rfl⟩, hA, hB, hS, hO⟩
  case round =>
    clear hA hB hS hO
    obtain ⟨i, s, rfl, hst, hA, hB, hS, hO⟩ := hrel
    rcases hst with ⟨rfl, rfl⟩ | ⟨rfl, rfl⟩ | ⟨rfl, rfl⟩ | ⟨rfl, rfl⟩
    · obtain ⟨al, a0, a1, a2, -, -, -⟩ := (id hA : Tri wr w.heap.size a b c)
      obtain ⟨bl, b0, b1, b2, -, -, -⟩ := (id hB : Tri wr (w.heap.size + 1) x y z)
      obtain ⟨sl, s0, s1, s2, s3⟩ := (id hS : Holds wr (w.heap.size + 1 + 1) (0))
      go_wp2_with fail
      go_region_with (first
        | (go_at_call 41; refine (d1.out _).mono ?_; rintro e w4 ⟨rfl, hb4⟩; have hS4 := hS.drew.call hb4; have hA4 := hA.drew.call hb4; have hB4 := hB.drew.call hb4; have hO4 := below_then hO.drew hb4; obtain ⟨tl, t0, t1, t2, t3⟩ := (id hS4 : Holds w4 (w.heap.size + 1 + 1) (0)))
        | (go_at_call 40; refine (d4.out _).mono ?_; rintro e w5 ⟨rfl, hb5⟩; have hS5 := hS4.call hb5; have hA5 := (hA4.call hb5).other gA (p); have hB5 := (hB4.call hb5).other gB (p); have hS6 := hS5.same (p); have hO5 := below_put (below_then hO4 hb5) gO (p); obtain ⟨ul, u0, u1, u2, u3⟩ := hS5))
      all_goals
        clear hA hB hS hO hA4 hB4 hS4 hO4 hb4 hb5
        go_wp2
        go_roundw
        case rel => exact ⟨1, p, by go_num, Or.inr (Or.inl ⟨rfl, rfl⟩), hA5, hB5, hS6, hO5⟩
        case measure => simp [intOf]
    · obtain ⟨al, a0, a1, a2, -, -, -⟩ := (id hA : Tri wr w.heap.size a b c)
      obtain ⟨bl, b0, b1, b2, -, -, -⟩ := (id hB : Tri wr (w.heap.size + 1) x y z)
      obtain ⟨sl, s0, s1, s2, s3⟩ := (id hS : Holds wr (w.heap.size + 1 + 1) (p))
      go_wp2_with fail
      go_region_with (first
        | (go_at_call 41; refine (d2.out _).mono ?_; rintro e w4 ⟨rfl, hb4⟩; have hS4 := hS.drew.call hb4; have hA4 := hA.drew.call hb4; have hB4 := hB.drew.call hb4; have hO4 := below_then hO.drew hb4; obtain ⟨tl, t0, t1, t2, t3⟩ := (id hS4 : Holds w4 (w.heap.size + 1 + 1) (p)))
        | (go_at_call 40; refine (d5.out _).mono ?_; rintro e w5 ⟨rfl, hb5⟩; have hS5 := hS4.call hb5; have hA5 := (hA4.call hb5).other gA (p + q); have hB5 := (hB4.call hb5).other gB (p + q); have hS6 := hS5.same (p + q); have hO5 := below_put (below_then hO4 hb5) gO (p + q); obtain ⟨ul, u0, u1, u2, u3⟩ := hS5))
      all_goals
        clear hA hB hS hO hA4 hB4 hS4 hO4 hb4 hb5
        go_wp2
        go_roundw
        case rel => exact ⟨2, p + q, by go_num, Or.inr (Or.inr (Or.inl ⟨rfl, rfl⟩)), hA5, hB5, hS6, hO5⟩
        case measure => simp [intOf]
    · obtain ⟨al, a0, a1, a2, -, -, -⟩ := (id hA : Tri wr w.heap.size a b c)
      obtain ⟨bl, b0, b1, b2, -, -, -⟩ := (id hB : Tri wr (w.heap.size + 1) x y z)
      obtain ⟨sl, s0, s1, s2, s3⟩ := (id hS : Holds wr (w.heap.size + 1 + 1) (p + q))
      go_wp2_with fail
      go_region_with (first
        | (go_at_call 41; refine (d3.out _).mono ?_; rintro e w4 ⟨rfl, hb4⟩; have hS4 := hS.drew.call hb4; have hA4 := hA.drew.call hb4; have hB4 := hB.drew.call hb4; have hO4 := below_then hO.drew hb4; obtain ⟨tl, t0, t1, t2, t3⟩ := (id hS4 : Holds w4 (w.heap.size + 1 + 1) (p + q)))
        | (go_at_call 40; refine (d6.out _).mono ?_; rintro e w5 ⟨rfl, hb5⟩; have hS5 := hS4.call hb5; have hA5 := (hA4.call hb5).other gA (p + q + r); have hB5 := (hB4.call hb5).other gB (p + q + r); have hS6 := hS5.same (p + q + r); have hO5 := below_put (below_then hO4 hb5) gO (p + q + r); obtain ⟨ul, u0, u1, u2, u3⟩ := hS5))
      all_goals
        clear hA hB hS hO hA4 hB4 hS4 hO4 hb4 hb5
        go_wp2
        go_roundw
        case rel => exact ⟨3, p + q + r, by go_num, Or.inr (Or.inr (Or.inr ⟨rfl, rfl⟩)), hA5, hB5, hS6, hO5⟩
        case measure => simp [intOf]
    · obtain ⟨sl, s0, s1, s2, s3⟩ := hS
      go_wp2_with fail
      refine (d7.out _).mono ?_
      rintro e w1 ⟨rfl, hb1⟩
      replace hO := below_then hO hb1
      go_wp2
      go_ret2
      exact ⟨rfl, hO⟩


end Go.Proofs.YtodfcbpcgcgijaaGreatDoor
