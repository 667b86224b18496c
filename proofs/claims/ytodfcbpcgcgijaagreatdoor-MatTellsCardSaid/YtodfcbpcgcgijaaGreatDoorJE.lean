import Derived.Test.YtodfcbpcgcgijaaGreatDoorJD
/- What Mul of the document's answers gives: the product. -/
namespace Go.Proofs.YtodfcbpcgcgijaaGreatDoor
set_option maxRecDepth 100000
open Go.RowKit
attribute [local go_sem] cell_re eqW_self
attribute [local go_sem ↓] run_eqlW run_neqW

theorem mul_step (x y : Int) (k : Nat) : x * (y % 2 ^ (k + 1)) = x * (y % 2 ^ k) + bit y k * (x * 2 ^ k) := by
  rw [mod_succ, Int.mul_add, Int.add_comm, Int.mul_left_comm]
theorem mul_end (x y : Int) (hy : Half y) : x * (y % 2 ^ 127) + -(bit y 127 * (x * 2 ^ 127)) = x * y := by
  have e : y = y % 2 ^ 127 - bit y 127 * 2 ^ 127 := by
    unfold Half at hy
    unfold bit
    rw [show (2 : Int) ^ 127 = 170141183460469231731687303715884105728 from rfl]
    omega
  have e2 : x * y = x * (y % 2 ^ 127 - bit y 127 * 2 ^ 127) := by rw [← e]
  rw [e2, Int.mul_sub, Int.mul_left_comm x]
  omega
theorem dbl (x : Int) (k : Nat) : x * 2 ^ k + x * 2 ^ k = x * 2 ^ (k + 1) := by
  rw [Int.pow_succ, ← Int.mul_assoc]; omega

theorem zero_halves : hi 0 = 0 ∧ lo 0 = 0 := by decide
/-- What holds at a round's head. -/
structure MulAt (x y : Int) (w : World) (X g : Nat) (k : Nat) (wr : World) : Prop where
  sum : Holds wr (w.heap.size + 1) (x * (y % 2 ^ k))
  fac : Holds wr X (x * 2 ^ k)
  res : Holds wr w.heap.size 0
  ys : Ints wr g 0 (bit y)
  old : Below w.heap.size w wr

set_option maxRecDepth 100000 in
set_option maxHeartbeats 1000000 in
theorem refMul (x y : Int) (hx : Half x) (hy : Half y) (w : World) : Calls Tryz.prog 79 #[.int .i64 x, .int .i64 y] w fun e w' => e = .returned (W (x * y)) ∧ Below w.heap.size w w' := by
  obtain ⟨z1, z2⟩ := zero_halves
  have hz : ((w.alloc (.cells #[.int .i64 0, .int .u64 0] 56)).alloc (.cells #[.int .i64 0, .int .u64 0] 56)) = (w.alloc (.cells #[.int .i64 (hi 0), .int .u64 (lo 0)] 56)).alloc (.cells #[.int .i64 (hi 0), .int .u64 (lo 0)] 56) := by rw [z1, z2]
  have hR : Holds ((w.alloc (.cells #[.int .i64 0, .int .u64 0] 56)).alloc (.cells #[.int .i64 0, .int .u64 0] 56)) w.heap.size 0 := by rw [hz]; exact (Holds.new w 0 56).alloc _
  have hS : Holds ((w.alloc (.cells #[.int .i64 0, .int .u64 0] 56)).alloc (.cells #[.int .i64 0, .int .u64 0] 56)) (w.heap.size + 1) 0 := by
    rw [hz]
    have := Holds.new (w.alloc (.cells #[.int .i64 (hi 0), .int .u64 (lo 0)] 56)) 0 56
    rw [World.size_alloc] at this
    exact this
  have hB : Below w.heap.size w ((w.alloc (.cells #[.int .i64 0, .int .u64 0] 56)).alloc (.cells #[.int .i64 0, .int .u64 0] 56)) := by go_grown
  go_enter Tryz.func79, Tryz.ntmps79
  go_wp2_with fail
  refine (refOf x hx _).mono ?_
  rintro e w1 ⟨rfl, hb1⟩
  replace hR := hR.call hb1
  replace hS := hS.call hb1
  replace hB := below_then hB hb1
  clear hb1
  go_wp2_with fail
  refine (refOf y hy _).mono ?_
  rintro e w2 ⟨rfl, hb2⟩
  replace hR := hR.call hb2
  replace hS := hS.call hb2
  replace hB := below_then hB hb2
  clear hb2
  go_wp2_with fail
  refine (refDigits y _).mono ?_
  rintro e w3 ⟨g, cap, rfl, hown, hb3⟩
  have hS2 : w.heap.size + 1 < w3.heap.size := (hS.call hb3).lt
  have hS1 : w.heap.size + 1 < w2.heap.size := hS.lt
  replace hR := (hR.call hb3).alloc (.cells #[.int .i64 (hi x), .int .u64 (lo x)] 56)
  replace hS := (hS.call hb3).alloc (.cells #[.int .i64 (hi x), .int .u64 (lo x)] 56)
  have hg3 : w2.heap.size ≤ g := (hown.lt g rfl).1
  have hY := (Ints.of_row hown).alloc (.cells #[.int .i64 (hi x), .int .u64 (lo x)] 56)
  have hgX : g < w3.heap.size := (hown.lt g rfl).2
  replace hB := (below_then hB hb3).alloc (by have := (below_then hB hb3).size; omega) (.cells #[.int .i64 (hi x), .int .u64 (lo x)] 56)
  have hX := Holds.new w3 x 56
  clear hb3 hown hz z1 z2
  have hM0 : MulAt x y w w3.heap.size g 0 (w3.alloc (.cells #[.int .i64 (hi x), .int .u64 (lo x)] 56)) :=
    ⟨by rw [show x * (y % 2 ^ 0) = 0 by simp]; exact hS, by rw [show x * 2 ^ 0 = x by simp]; exact hX, hR, hY, hB⟩
  have gR : g ≠ w.heap.size := by omega
  have gS : g ≠ w.heap.size + 1 := by omega
  have gX : g ≠ w3.heap.size := by omega
  have rS : w.heap.size ≠ w.heap.size + 1 := by omega
  have rX : w.heap.size ≠ w3.heap.size := by omega
  have sX : w.heap.size + 1 ≠ w3.heap.size := by omega
  have hRX : w.heap.size ≤ w3.heap.size := by omega
  clear hS hX hR hY hB hg3 hS1 hS2 hgX
  go_wp2
  go_loopw [8] (fun v8 wr => ∃ k : Nat, k ≤ 127 ∧ v8 = .int .i64 k ∧ MulAt x y w w3.heap.size g k wr) (fun v8 _ => 127 - (intOf v8).toNat)
  case atStart => exact ⟨0, by omega, rfl, hM0⟩
  case round =>
    clear hM0
    obtain ⟨k, hk, rfl, hM⟩ := hrel
    have hS := hM.sum
    have hX := hM.fac
    have hR := hM.res
    have hY := hM.ys
    have hB := hM.old
    clear hM
    by_cases hlt : k < 127
    · have j0 : (0 : Int) ≤ (k : Int) := by omega
      have j1 : (k : Int) < 127 := by omega
      have hcy := hY.at_ k (by omega)
      rw [Nat.zero_add] at hcy
      obtain ⟨d, hd, d01⟩ : ∃ d, Hid (bit y k = d) ∧ (d = 0 ∨ d = 1) := ⟨_, rfl, by have := bit_lo y k; have := bit_hi y k; omega⟩
      rw [hd.out] at hcy
      obtain ⟨s, hs⟩ : ∃ s, Hid (x * (y % 2 ^ k) = s) := ⟨_, rfl⟩
      obtain ⟨f, hf⟩ : ∃ f, Hid (x * 2 ^ k = f) := ⟨_, rfl⟩
      have hff : f + f = x * 2 ^ (k + 1) := by rw [← hf.out]; exact dbl x k
      have hff' := Lib.hid hff
      clear hff
      have hst : Hid (x * (y % 2 ^ (k + 1)) = s + d * f) := by show _ = s + d * f; rw [mul_step, hs.out, hd.out, hf.out]
      rw [hs.out] at hS
      rw [hf.out] at hX
      rcases d01 with rfl | rfl
      · have hxx := hX
        obtain ⟨xl, x0, x1, x2, x3⟩ := hxx
        go_wp2_with fail
        refine (refAdd f f _).mono ?_
        rintro e w6 ⟨rfl, hb6⟩
        have hX6 := hX.call hb6
        have hM6 : MulAt x y w w3.heap.size g (k + 1) (put w6 w3.heap.size (f + f)) :=
          ⟨by rw [hst.out, Int.zero_mul, Int.add_zero]; exact (hS.call hb6).other sX _, by rw [← hff'.out]; exact hX6.same _, (hR.call hb6).other rX _, (hY.call hb6).other gX _, below_put (below_then hB hb6) hRX _⟩
        obtain ⟨xl, x0, x1, x2, x3⟩ := hX6
        clear hb6 hS hX hR hY hB
        go_wp2
        go_roundw
        case rel => exact ⟨k + 1, by omega, by go_num, hM6⟩
        case measure => simp [intOf]; omega
      · have hss := hS
        have hxx := hX
        obtain ⟨sl, s0, s1, s2, s3⟩ := hss
        obtain ⟨xl, x0, x1, x2, x3⟩ := hxx
        go_wp2_with fail
        refine (refAdd s f _).mono ?_
        rintro e w4 ⟨rfl, hb4⟩
        replace hS := hS.call hb4
        replace hX := (hX.call hb4).other sX.symm (s + f)
        replace hR := (hR.call hb4).other rS (s + f)
        replace hY := (hY.call hb4).other gS (s + f)
        replace hB := below_put (below_then hB hb4) (show w.heap.size ≤ w.heap.size + 1 by omega) (s + f)
        have hS5 := hS.same (s + f)
        obtain ⟨sl, s0, s1, s2, s3⟩ := hS
        have hxx := hX
        obtain ⟨xl, x0, x1, x2, x3⟩ := hxx
        clear hb4
        go_wp2_with fail
        refine (refAdd f f _).mono ?_
        rintro e w6 ⟨rfl, hb6⟩
        have hX6 := hX.call hb6
        have hM6 : MulAt x y w w3.heap.size g (k + 1) (put w6 w3.heap.size (f + f)) :=
          ⟨by rw [hst.out, Int.one_mul]; exact (hS5.call hb6).other sX _, by rw [← hff'.out]; exact hX6.same _, (hR.call hb6).other rX _, (hY.call hb6).other gX _, below_put (below_then hB hb6) hRX _⟩
        obtain ⟨xl, x0, x1, x2, x3⟩ := hX6
        clear hb6 hS5 hX hR hY hB
        go_wp2
        go_roundw
        case rel => exact ⟨k + 1, by omega, by go_num, hM6⟩
        case measure => simp [intOf]; omega
    · have hk7 : Hid (k = 127) := by show k = 127; omega
      have j1 : ¬ (k : Int) < 127 := by omega
      have hcy := hY.at_ 127 (by omega)
      rw [show 0 + 127 = 127 from rfl] at hcy
      obtain ⟨d, hd, d01⟩ : ∃ d, Hid (bit y 127 = d) ∧ (d = 0 ∨ d = 1) := ⟨_, rfl, by have := bit_lo y 127; have := bit_hi y 127; omega⟩
      rw [hd.out] at hcy
      rw [hk7.out] at hS hX
      obtain ⟨s, hs⟩ : ∃ s, Hid (x * (y % 2 ^ 127) = s) := ⟨x * (y % 2 ^ 127), by show _ = _; rfl⟩
      obtain ⟨f, hf⟩ : ∃ f, Hid (x * 2 ^ 127 = f) := ⟨x * 2 ^ 127, by show _ = _; rfl⟩
      have hst : Hid (s + -(d * f) = x * y) := by show _ = x * y; rw [← hs.out, ← hf.out, ← hd.out]; exact mul_end x y hy
      rw [hs.out] at hS
      rw [hf.out] at hX
      rcases d01 with rfl | rfl
      · have e : s = x * y := by rw [← hst.out]; omega
        obtain ⟨sl, s0, s1, s2, s3⟩ := hS
        obtain ⟨rl, r0, r1, r2, r3⟩ := hR
        rw [e] at s0 s1
        clear e
        go_wp2
        refine bodyPost_ret (by simp [results, Tryz.results79, go_sem, r0, r1]; try rfl) rfl ?_
        exact ⟨rfl, below_put hB (Nat.le_refl _) _⟩
      · have hss := hS
        have hxx := hX
        obtain ⟨sl, s0, s1, s2, s3⟩ := hss
        obtain ⟨xl, x0, x1, x2, x3⟩ := hxx
        go_wp2_with fail
        go_region_with (first
          | (go_at_call 86; refine (refNeg f _).mono ?_; rintro e w4 ⟨rfl, hb4⟩; have hS4 := hS.drew.call hb4; have hR4 := hR.drew.call hb4; have hB4 := below_then hB.drew hb4; have hss := hS4; obtain ⟨sl', s0', s1', s2', s3'⟩ := hss)
          | (go_at_call 46; refine (refAdd s (-f) _).mono ?_; rintro e w5 ⟨rfl, hb5⟩; have hS5 := hS4.call hb5; have hS6 := hS5.same (s + -f); have hR6 := (hR4.call hb5).other rS (s + -f); have hB6 := below_put (below_then hB4 hb5) (show w.heap.size ≤ w.heap.size + 1 by omega) (s + -f); obtain ⟨sl'', s0'', s1'', s2'', s3''⟩ := hS5; obtain ⟨tl, t0, t1, t2, t3⟩ := hS6; obtain ⟨ql, q0, q1, q2, q3⟩ := hR6))
        all_goals
          go_wp2
          refine bodyPost_ret (by simp [results, Tryz.results79, go_sem, q0, q1]; try rfl) rfl ?_
          exact ⟨by rw [← hst.out, Int.one_mul], below_put hB6 (Nat.le_refl _) _⟩

end Go.Proofs.YtodfcbpcgcgijaaGreatDoor

/- What Left of the document's answers gives: a number times a power of 2, modulo 2^128. -/
namespace Go.Proofs.YtodfcbpcgcgijaaGreatDoor
set_option maxRecDepth 100000
open Go.RowKit
attribute [local go_sem] cell_re eqW_self
attribute [local go_sem ↓] run_eqlW run_neqW

theorem W_far (a : Int) (n : Nat) (h : 128 ≤ n) : W (a * 2 ^ n) = W (a * 2 ^ 128) := by
  have e : a * 2 ^ n = 340282366920938463463374607431768211456 * (a * 2 ^ (n - 128)) := by
    rw [show (340282366920938463463374607431768211456 : Int) = 2 ^ 128 from rfl, ← Int.mul_assoc, Int.mul_comm (2 ^ 128) a, Int.mul_assoc, pow_split h]
  have h0 : ∀ t : Int, hi (340282366920938463463374607431768211456 * t) = 0 ∧ lo (340282366920938463463374607431768211456 * t) = 0 := fun t => by unfold hi lo; omega
  have e2 : a * 2 ^ 128 = 340282366920938463463374607431768211456 * a := by rw [show (2 : Int) ^ 128 = 340282366920938463463374607431768211456 from rfl, Int.mul_comm]
  rw [W, W, e, e2, (h0 _).1, (h0 _).2, (h0 _).1, (h0 _).2]

end Go.Proofs.YtodfcbpcgcgijaaGreatDoor
