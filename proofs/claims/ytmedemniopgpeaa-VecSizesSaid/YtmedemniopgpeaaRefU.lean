/- The length, the greatest axis, and the vector of length One, in the document's answers. -/
import Derived.Test.YtmedemniopgpeaaRefK
import Derived.Test.YtmedemniopgpeaaRefP
import Derived.Test.YtmedemniopgpeaaVecN
import Derived.Test.YtmedemniopgpeaaVecS
import Derived.Test.YtmedemniopgpeaaRefR
import Derived.Deep.RegionHeld3
namespace Go.Proofs.Ytmedemniopgpeaa
open Go.RowKit
set_option linter.unusedVariables false
attribute [local go_sem] cell_re eqW_self eqV_self
attribute [local go_sem ↓] run_eqlW run_neqW run_eqlV

set_option maxRecDepth 100000 in
set_option maxHeartbeats 16000000 in
theorem ref6Length (a b c : Int) (ha : Half a) (hb : Half b) (hc : Half c) (w : World) :
    Calls Try.prog 14 #[V a b c] w fun e w' => e = .returned (sat (len a b c)) ∧ Below w.heap.size w w' := by
  have e1 := Lib.hid (fun W1 : World => ref6Bare a ha W1)
  have e2 := Lib.hid (fun W1 : World => ref6Bare b hb W1)
  have e3 := Lib.hid (fun W1 : World => ref6Bare c hc W1)
  have d1 := Lib.hid (fun W1 : World => ref6Square a ha W1)
  have d2 := Lib.hid (fun W1 : World => ref6Square b hb W1)
  have d3 := Lib.hid (fun W1 : World => ref6Square c hc W1)
  have l0 := len_lo ha hb hc
  have l1 := len_hi ha hb hc
  have d7 : Hid (squares a b c < 170141183460469231731687303715884105728 → ∀ W1 : World, Calls Try.prog 35 #[W (squares a b c)] W1 fun e w' => e = .returned (.tuple #[.int .u64 (len a b c), .bool true]) ∧ Below W1.heap.size W1 w') :=
    fun h W1 => ref4Wide_pos _ (by have := (squares_bd ha hb hc).1; unfold Fits; omega) (squares_bd ha hb hc).1 W1
  have ov := Lib.hid (fun h => clip_over (len_over ha hb hc h))
  have qa := sq_half ha
  have qb := sq_half hb
  have qc := sq_half hc
  unfold squares at d7 ov
  obtain ⟨R, hR⟩ : ∃ R, Hid (sat (len a b c) = R) := ⟨_, rfl⟩
  have rin : Hid (len a b c ≤ 9223372036854775807 → R = .tuple #[.int .i64 (len a b c), .bool false]) := fun h => by rw [← hR.out]; exact sat_in _ (by unfold Half; omega)
  have rout : Hid (9223372036854775807 < len a b c → R = .tuple #[.int .i64 9223372036854775807, .bool true]) := fun h => by rw [← hR.out]; exact clip_over h
  rw [hR.out] at ov ⊢
  clear hR ha hb hc
  obtain ⟨L, hL⟩ : ∃ L, Hid (len a b c = L) := ⟨_, rfl⟩
  rw [hL.out] at d7 rin rout l0 l1
  clear hL
  obtain ⟨p, hp⟩ : ∃ p, Hid (a * a = p) := ⟨_, rfl⟩
  obtain ⟨q, hq⟩ : ∃ q, Hid (b * b = q) := ⟨_, rfl⟩
  obtain ⟨r, hr⟩ : ∃ r, Hid (c * c = r) := ⟨_, rfl⟩
  rw [hp.out] at d1 qa
  rw [hq.out] at d2 qb
  rw [hr.out] at d3 qc
  rw [hp.out, hq.out, hr.out] at d7 ov
  have bds : Hid ((0 ≤ p ∧ p < 340282366920938463463374607431768211456) ∧ (0 ≤ p + q ∧ p + q < 340282366920938463463374607431768211456) ∧ (0 ≤ p + q + r ∧ p + q + r < 340282366920938463463374607431768211456)) := ⟨⟨by omega, by omega⟩, ⟨by omega, by omega⟩, ⟨by omega, by omega⟩⟩
  have over1 : Hid (170141183460469231731687303715884105728 ≤ p → R = .tuple #[.int .i64 9223372036854775807, .bool true]) := fun h => ov.out (by omega)
  have over2 : Hid (170141183460469231731687303715884105728 ≤ p + q → R = .tuple #[.int .i64 9223372036854775807, .bool true]) := fun h => ov.out (by omega)
  have over3 := ov
  clear ov qa qb qc hp hq hr
  obtain ⟨x, hx⟩ : ∃ x, Hid (bare a = x) := ⟨_, rfl⟩
  obtain ⟨y, hy⟩ : ∃ y, Hid (bare b = y) := ⟨_, rfl⟩
  obtain ⟨z, hz⟩ : ∃ z, Hid (bare c = z) := ⟨_, rfl⟩
  rw [hx.out] at e1 d1
  rw [hy.out] at e2 d2
  rw [hz.out] at e3 d3
  clear hx hy hz
  have d4 : Hid (∀ W1 : World, Calls Try.prog 25 #[W 0, W p] W1 fun e w' => e = .returned (W p) ∧ Below W1.heap.size W1 w') := fun W1 => by
    have := refAdd 0 p W1
    rw [Int.zero_add] at this
    exact this
  have d5 := Lib.hid (fun W1 : World => refAdd p q W1)
  have d6 := Lib.hid (fun W1 : World => refAdd (p + q) r W1)
  have z0 : hi 0 = 0 := by decide
  have z1 : lo 0 = 0 := by decide
  have hA := (Tri.new w a b c 24).alloc (.cells #[.int .i64 0, .int .u64 0] 39)
  have hS := Holds.new (w.alloc (.cells #[.int .i64 a, .int .i64 b, .int .i64 c] 24)) 0 39
  rw [z0, z1] at hS
  rw [World.size_alloc] at hS
  have hO : Below w.heap.size w ((w.alloc (.cells #[.int .i64 a, .int .i64 b, .int .i64 c] 24)).alloc (.cells #[.int .i64 0, .int .u64 0] 39)) := by go_grown
  have gO : w.heap.size ≤ w.heap.size + 1 := by omega
  have gA : w.heap.size ≠ w.heap.size + 1 := by omega
  clear z0 z1
  go_enter Try.func14, Try.ntmps14
  go_wp2
  go_loopw [5] (fun v5 wr => ∃ i s : Int, v5 = .int .i64 i ∧ Step p q r i s ∧ Hid (0 ≤ s ∧ s < 170141183460469231731687303715884105728) ∧ Tri wr w.heap.size a b c ∧ Holds wr (w.heap.size + 1) s ∧ Below w.heap.size w wr) (fun v5 _ => 3 - (intOf v5).toNat)
  case atStart => exact ⟨0, 0, rfl, Or.inl ⟨rfl, rfl⟩, (by decide : (0 : Int) ≤ 0 ∧ (0 : Int) < 170141183460469231731687303715884105728), hA, hS, hO⟩
  case round =>
    clear hS hO hA
    obtain ⟨i, s, rfl, hst, hs, hA, hS, hO⟩ := hrel
    rcases hst with ⟨rfl, rfl⟩ | ⟨rfl, rfl⟩ | ⟨rfl, rfl⟩ | ⟨rfl, rfl⟩
    · obtain ⟨al, a0, a1, a2, -, -, -⟩ := (id hA : Tri wr w.heap.size a b c)
      obtain ⟨sl, s0, s1, s2, s3⟩ := (id hS : Holds wr (w.heap.size + 1) (0))
      have bd : 0 ≤ p ∧ p < 340282366920938463463374607431768211456 := bds.out.1
      have bd' := Lib.hid bd
      clear bd
      go_wp2_with fail
      go_region_with (first
          | (go_at_call 34; refine (e1.out _).mono ?_; rintro e w3 ⟨rfl, hb3⟩; have hS3 := hS.drew.call hb3; have hA3 := hA.drew.call hb3; have hO3 := below_then hO.drew hb3; obtain ⟨tl, t0, t1, t2, t3⟩ := (id hS3 : Holds w3 (w.heap.size + 1) (0)))
          | (go_at_call 33; refine (d1.out _).mono ?_; rintro e w4 ⟨rfl, hb4⟩; have hS4 := hS3.call hb4; have hA4 := hA3.call hb4; have hO4 := below_then hO3 hb4; obtain ⟨vl, v0, v1, v2, v3⟩ := (id hS4 : Holds w4 (w.heap.size + 1) (0)))
          | (go_at_call 25; refine (d4.out _).mono ?_; rintro e w5 ⟨rfl, hb5⟩; have hS5 := hS4.call hb5; have hA5 := (hA4.call hb5).other gA (p); have hS6 := hS5.same (p); have hO5 := below_put (below_then hO4 hb5) gO (p); obtain ⟨ul, u0, u1, u2, u3⟩ := hS5))
      all_goals
        clear hS hO hA hA3 hA4 hS3 hO3 hb3 hS4 hO4 hb4 hb5
        obtain ⟨zl, z0, z1, z2, z3⟩ := (id hS6 : Holds _ (w.heap.size + 1) (p))
        rcases Int.lt_or_le (p) 170141183460469231731687303715884105728 with hn | hn
        · have hh := hi_small bd'.out.1 hn
          have hn' := Lib.hid (And.intro bd'.out.1 hn)
          clear bd' hn
          go_wp2
          go_roundw
          case rel => exact ⟨1, p, by go_num, Or.inr (Or.inl ⟨rfl, rfl⟩), hn', hA5, hS6, hO5⟩
          case measure => simp [intOf]
        · have hh := hi_big hn bd'.out.2
          have hR' := Lib.hid (over1.out hn)
          clear bd' hn
          go_wp2
          go_ret2
          exact ⟨by rw [hR'.out]; rfl, hO5⟩
    · obtain ⟨al, a0, a1, a2, -, -, -⟩ := (id hA : Tri wr w.heap.size a b c)
      obtain ⟨sl, s0, s1, s2, s3⟩ := (id hS : Holds wr (w.heap.size + 1) (p))
      have bd : 0 ≤ p + q ∧ p + q < 340282366920938463463374607431768211456 := bds.out.2.1
      have bd' := Lib.hid bd
      clear bd
      go_wp2_with fail
      go_region_with (first
          | (go_at_call 34; refine (e2.out _).mono ?_; rintro e w3 ⟨rfl, hb3⟩; have hS3 := hS.drew.call hb3; have hA3 := hA.drew.call hb3; have hO3 := below_then hO.drew hb3; obtain ⟨tl, t0, t1, t2, t3⟩ := (id hS3 : Holds w3 (w.heap.size + 1) (p)))
          | (go_at_call 33; refine (d2.out _).mono ?_; rintro e w4 ⟨rfl, hb4⟩; have hS4 := hS3.call hb4; have hA4 := hA3.call hb4; have hO4 := below_then hO3 hb4; obtain ⟨vl, v0, v1, v2, v3⟩ := (id hS4 : Holds w4 (w.heap.size + 1) (p)))
          | (go_at_call 25; refine (d5.out _).mono ?_; rintro e w5 ⟨rfl, hb5⟩; have hS5 := hS4.call hb5; have hA5 := (hA4.call hb5).other gA (p + q); have hS6 := hS5.same (p + q); have hO5 := below_put (below_then hO4 hb5) gO (p + q); obtain ⟨ul, u0, u1, u2, u3⟩ := hS5))
      all_goals
        clear hS hO hA hA3 hA4 hS3 hO3 hb3 hS4 hO4 hb4 hb5
        obtain ⟨zl, z0, z1, z2, z3⟩ := (id hS6 : Holds _ (w.heap.size + 1) (p + q))
        rcases Int.lt_or_le (p + q) 170141183460469231731687303715884105728 with hn | hn
        · have hh := hi_small bd'.out.1 hn
          have hn' := Lib.hid (And.intro bd'.out.1 hn)
          clear bd' hn
          go_wp2
          go_roundw
          case rel => exact ⟨2, p + q, by go_num, Or.inr (Or.inr (Or.inl ⟨rfl, rfl⟩)), hn', hA5, hS6, hO5⟩
          case measure => simp [intOf]
        · have hh := hi_big hn bd'.out.2
          have hR' := Lib.hid (over2.out hn)
          clear bd' hn
          go_wp2
          go_ret2
          exact ⟨by rw [hR'.out]; rfl, hO5⟩
    · obtain ⟨al, a0, a1, a2, -, -, -⟩ := (id hA : Tri wr w.heap.size a b c)
      obtain ⟨sl, s0, s1, s2, s3⟩ := (id hS : Holds wr (w.heap.size + 1) (p + q))
      have bd : 0 ≤ p + q + r ∧ p + q + r < 340282366920938463463374607431768211456 := bds.out.2.2
      have bd' := Lib.hid bd
      clear bd
      go_wp2_with fail
      go_region_with (first
          | (go_at_call 34; refine (e3.out _).mono ?_; rintro e w3 ⟨rfl, hb3⟩; have hS3 := hS.drew.call hb3; have hA3 := hA.drew.call hb3; have hO3 := below_then hO.drew hb3; obtain ⟨tl, t0, t1, t2, t3⟩ := (id hS3 : Holds w3 (w.heap.size + 1) (p + q)))
          | (go_at_call 33; refine (d3.out _).mono ?_; rintro e w4 ⟨rfl, hb4⟩; have hS4 := hS3.call hb4; have hA4 := hA3.call hb4; have hO4 := below_then hO3 hb4; obtain ⟨vl, v0, v1, v2, v3⟩ := (id hS4 : Holds w4 (w.heap.size + 1) (p + q)))
          | (go_at_call 25; refine (d6.out _).mono ?_; rintro e w5 ⟨rfl, hb5⟩; have hS5 := hS4.call hb5; have hA5 := (hA4.call hb5).other gA (p + q + r); have hS6 := hS5.same (p + q + r); have hO5 := below_put (below_then hO4 hb5) gO (p + q + r); obtain ⟨ul, u0, u1, u2, u3⟩ := hS5))
      all_goals
        clear hS hO hA hA3 hA4 hS3 hO3 hb3 hS4 hO4 hb4 hb5
        obtain ⟨zl, z0, z1, z2, z3⟩ := (id hS6 : Holds _ (w.heap.size + 1) (p + q + r))
        rcases Int.lt_or_le (p + q + r) 170141183460469231731687303715884105728 with hn | hn
        · have hh := hi_small bd'.out.1 hn
          have hn' := Lib.hid (And.intro bd'.out.1 hn)
          clear bd' hn
          go_wp2
          go_roundw
          case rel => exact ⟨3, p + q + r, by go_num, Or.inr (Or.inr (Or.inr ⟨rfl, rfl⟩)), hn', hA5, hS6, hO5⟩
          case measure => simp [intOf]
        · have hh := hi_big hn bd'.out.2
          have hR' := Lib.hid (over3.out hn)
          clear bd' hn
          go_wp2
          go_ret2
          exact ⟨by rw [hR'.out]; rfl, hO5⟩
    · obtain ⟨sl, s0, s1, s2, s3⟩ := hS
      replace d7 := Lib.hid (d7.out hs.out.2)
      rcases Int.lt_or_le 9223372036854775807 L with hn | hn
      · have hR' := Lib.hid (rout.out hn)
        go_wp2_with fail
        refine (d7.out _).mono ?_
        rintro e w1 ⟨rfl, hb1⟩
        replace hO := below_then hO hb1
        go_wp2
        go_ret2
        exact ⟨by rw [hR'.out]; rfl, hO⟩
      · have hR' := Lib.hid (rin.out hn)
        go_wp2_with fail
        refine (d7.out _).mono ?_
        rintro e w1 ⟨rfl, hb1⟩
        replace hO := below_then hO hb1
        go_wp2
        go_ret2
        exact ⟨by rw [hR'.out]; rfl, hO⟩


end Go.Proofs.Ytmedemniopgpeaa
