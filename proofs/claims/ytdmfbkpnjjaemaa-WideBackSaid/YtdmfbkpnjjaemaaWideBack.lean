/- A quotient times the divisor, and the rest, come to the number, and the rest is less than the divisor, and has the number's sign, or is 0: of any product and rest. -/
import Derived.Test.YtdmfbkpnjjaemaaRows
import Derived.Test.YtdmfbkpnjjaemaaWideE
import Derived.Test.YtdmfbkpnjjaemaaVars
import Derived.Test.YtdmfbkpnjjaemaaBackMath
import Derived.Test.YtdmfbkpnjjaemaaLaw
import Derived.WalkKit
import Derived.ProofKit
import Derived.OpenShut
namespace Go.Proofs.Ytdmfbkpnjjaemaa.wideBack
open Go.ChangeShapes Go.WideShapes Go.ChangeAt Go.RowKit
set_option linter.unusedVariables false

attribute [local go_sem] cell_re eqW_self run_fieldW
attribute [local go_sem ↓] run_eqlW run_neqW

theorem sign_v (A : Int) (hA : Fits A) (c : Bool) (h : decide (A < 0) = c) (w : World) : ∃ s, decide (s < 0) = c ∧ Calls Try.prog 14 #[W A] w fun e w' => e = .returned (.int .i64 s) ∧ Below w.heap.size w w' :=
  ⟨sgn A, by rw [sgn_neg, h], wideSign A hA w⟩

set_option maxRecDepth 100000 in
set_option maxHeartbeats 1000000 in
theorem walk_zero (q r : Int) (hq : Half q) (w : World) :
    Calls Try.prog 8 #[.int .i64 q, .int .i64 0, .int .i64 r] w fun e w' => e = .returned (.bool true) ∧ Below w.heap.size w w' := by
  have d1 := Lib.hid (fun W1 : World => wideDiv_zero q W1)
  have hB : Below w.heap.size w w := Below.refl _ _
  go_enter Try.func8, Try.ntmps8
  go_wp2_with fail
  refine (works _).mono ?_
  rintro e w1 ⟨rfl, hb1⟩
  replace hB := below_then hB hb1
  clear hb1
  go_wp2_with fail
  refine (wideOf q hq _).mono ?_
  rintro e w2 ⟨rfl, hb2⟩
  replace hB := below_then hB hb2
  clear hb2
  go_wp2_with fail
  refine (d1.out _).mono ?_
  rintro e w3 ⟨rfl, hb3⟩
  replace hB := below_then hB hb3
  clear hb3
  have s3 := hB.size
  go_wp2
  go_ret
  exact ⟨rfl, by go_grown⟩

set_option maxRecDepth 100000 in
set_option maxHeartbeats 4000000 in
theorem walk_not (q b r : Int) (hq : Half q) (hb : Half b) (hr : Half r) (hz : b ≠ 0) (w : World) :
    Calls Try.prog 8 #[.int .i64 q, .int .i64 b, .int .i64 r] w fun e w' => e = .returned (.bool true) ∧ Below w.heap.size w w' := by
  obtain ⟨⟨m0, m1⟩, sA, sB⟩ := back_facts q b r hq hb hr hz
  obtain ⟨m, hm⟩ : ∃ m, r.tmod b = m := ⟨_, rfl⟩
  rw [hm] at m0 m1 sB
  obtain ⟨A, hA⟩ : ∃ A, Hid (q * b = A) := ⟨_, rfl⟩
  rw [hA.out] at sA sB
  have hq' := Lib.hid hq
  have hb' := Lib.hid hb
  obtain ⟨b0, b1⟩ := hb
  have hz1 : (b == 0) = false := by simpa using hz
  have hB : Below w.heap.size w w := Below.refl _ _
  clear hq hr
  go_enter Try.func8, Try.ntmps8
  go_wp2_with fail
  refine (works _).mono ?_
  rintro e w1 ⟨rfl, hb1⟩
  replace hB := below_then hB hb1
  clear hb1
  go_wp2_with fail
  refine (wideMul q b hq'.out hb'.out _).mono ?_
  rw [hA.out]
  rintro e w2 ⟨rfl, hb2⟩
  replace hB := below_then hB hb2
  clear hb2
  have hX := Holds.new w2 A 24
  have hw2 := hB.size
  replace hB := hB.alloc hB.size (.cells #[.int .i64 (hi A), .int .u64 (lo A)] 24)
  have sg := sgn_neg A
  by_cases hps : (decide (m < 0) == decide (A < 0)) = true
  · have hx := hX
    obtain ⟨xl, x0, x1, x2, x3⟩ := hx
    go_wp2_with fail
    clear xl x0 x1 x2 x3
    refine (wideSign A sA.fits _).mono ?_
    rintro e w3 ⟨rfl, hb3⟩
    replace hX := hX.call hb3
    replace hB := below_then hB hb3
    clear hb3
    have hx := hX
    obtain ⟨xl, x0, x1, x2, x3⟩ := hx
    have hq'' := Lib.hid hps
    go_wp2_with fail
    go_region_with (first
      | (go_at_call 18; refine (wideOf m ⟨m0, m1⟩ _).mono ?_; rintro e w4 ⟨rfl, hb4⟩; have hX4 := hX.drew.call hb4; have hB4 := below_then hB.drew hb4; have hx := hX4; obtain ⟨yl, y0, y1, y2, y3⟩ := hx)
      | (go_at_call 10; refine (wideAdd A m _).mono ?_; rintro e w5 ⟨rfl, hb5⟩; have hX5 := hX4.call hb5; have hX6 := hX5.same (A + m); have hB6 := below_put (below_then hB4 hb5) (show w.heap.size ≤ w2.heap.size by omega) (A + m); obtain ⟨zl, z0, z1, z2, z3⟩ := hX5))
    all_goals
      replace hX := hX6
      replace hB := hB6
      clear hX6 hB6 hX4 hB4 hb4 hb5 sg sA hq'
      obtain ⟨sP, hPS, hsig, hpos, hneg⟩ := quo_facts (A + m) b sB hz
      obtain ⟨P, hP⟩ : ∃ P, Hid (Int.tdiv (A + m) b = P) := ⟨_, rfl⟩
      obtain ⟨S, hS⟩ : ∃ S, Hid (Int.tmod (A + m) b = S) := ⟨_, rfl⟩
      rw [hP.out, hS.out] at hPS
      rw [hP.out] at sP
      rw [hS.out] at hsig hpos hneg
      have S0 : -9223372036854775808 ≤ S ∧ S ≤ 9223372036854775807 := by
        rcases Int.lt_or_le b 0 with h | h
        · have := hneg h; omega
        · have := hpos (by omega); omega
      obtain ⟨S0, S1⟩ := S0
      have hPS' := Lib.hid hPS
      have hsig' := Lib.hid hsig
      have hpos' := Lib.hid hpos
      have hneg' := Lib.hid hneg
      have d1 : Hid (∀ W1 : World, Calls Try.prog 29 #[W (A + m), .int .i64 b] W1 fun e w' => e = .returned (.tuple #[W P, .int .i64 S, .bool true]) ∧ Below W1.heap.size W1 w') := fun W1 => by
        have := wideDiv (A + m) b (sB).fits hb'.out W1
        rw [divided, if_neg hz, hP.out, hS.out] at this
        exact this
      have fA := Lib.hid (sB).fits
      have sP' := Lib.hid sP
      clear hPS hsig hpos hneg sP
      have hx := hX
      obtain ⟨xl, x0, x1, x2, x3⟩ := hx
      go_wp2_with fail
      clear xl x0 x1 x2 x3
      refine (d1.out _).mono ?_
      rintro e w6 ⟨rfl, hb6⟩
      replace hX := hX.call hb6
      replace hB := below_then hB hb6
      clear hb6
      have hY := Holds.new w6 P 24
      replace hX := hX.alloc (.cells #[.int .i64 (hi P), .int .u64 (lo P)] 24)
      replace hB := hB.alloc hB.size (.cells #[.int .i64 (hi P), .int .u64 (lo P)] 24)
      obtain ⟨n, hn⟩ : ∃ n, Hid (clipped P = n) := ⟨_, rfl⟩
      obtain ⟨k, hk⟩ : ∃ k, Hid (cut P = k) := ⟨_, rfl⟩
      have hnh : Hid (Half n) := by show Half n; rw [← hn.out]; exact clipped_half P
      have hx := hY
      obtain ⟨yl, y0, y1, y2, y3⟩ := hx
      go_wp2_with fail
      clear yl y0 y1 y2 y3
      refine (wideClip P sP'.out.fits _).mono ?_
      rw [hn.out, hk.out]
      rintro e w7 ⟨rfl, hb7⟩
      replace hX := hX.call hb7
      replace hB := below_then hB hb7
      clear hb7 hY
      go_wp2_with fail
      refine (wideMul n b hnh.out hb'.out _).mono ?_
      rintro e w8 ⟨rfl, hb8⟩
      replace hX := hX.call hb8
      replace hB := below_then hB hb8
      clear hb8
      go_wp2_with fail
      refine (wideOf S ⟨S0, S1⟩ _).mono ?_
      rintro e w9 ⟨rfl, hb9⟩
      replace hX := hX.call hb9
      replace hB := below_then hB hb9
      clear hb9
      go_wp2_with fail
      refine (wideAdd (n * b) S _).mono ?_
      rintro e w10 ⟨rfl, hb10⟩
      replace hX := hX.call hb10
      replace hB := below_then hB hb10
      clear hb10
      replace hX := hX.alloc (.cells #[.int .i64 (hi (n * b + S)), .int .u64 (lo (n * b + S))] 24)
      have hZ := Holds.new w10 (n * b + S) 24
      have hB2 := hB.alloc hB.size (.cells #[.int .i64 (hi (n * b + S)), .int .u64 (lo (n * b + S))] 24)
      have sg' := sgn_neg (A + m)
      have hx := hX
      obtain ⟨xl, x0, x1, x2, x3⟩ := hx
      have hx := hZ
      obtain ⟨zl, z0, z1, z2, z3⟩ := hx
      clear hX hZ hB
      rcases Int.lt_trichotomy b 0 with c1 | c1 | c1
      · have h7 := hneg'.out c1
        obtain ⟨u1, u2⟩ := h7
        have u3 : b < -S := by omega
        rcases Int.lt_trichotomy S 0 with c2 | c2 | c2
        · have c3 : A + m < 0 := by have := hsig'.out; omega
          have t1 : (S == 0) = false := by simp; omega
          have t2 : decide (S < 0) = true := decide_eq_true c2
          have t3 : decide (A + m < 0) = true := decide_eq_true c3
          rcases cut_cases P with e | e
          all_goals rw [hk.out] at e
          · subst e
            go_wp2_with (go_at_call 14; refine (chain (w0 := w) (by assumption) (wideSign (A + m) fA.out _)).mono ?_; rintro e' w' ⟨rfl, ht⟩)
            go_ret
            exact ⟨rfl, by assumption⟩
          · subst e
            have e5 : n * b + S = A + m := by rw [← hn.out, clipped_in P hk.out]; exact hPS'.out
            rw [e5] at xl x0 x1 x2 x3 zl z0 z1 z2 z3 hB2 ⊢
            clear e5
            go_wp2_with (go_at_call 14; refine (chain (w0 := w) (by assumption) (wideSign (A + m) fA.out _)).mono ?_; rintro e' w' ⟨rfl, ht⟩)
            go_ret
            exact ⟨rfl, by assumption⟩
        · have t1 : (S == 0) = true := by simp [c2]
          have t2 : decide (S < 0) = false := decide_eq_false (by omega)
          have t4 : 0 ≤ S := by omega
          clear c2
          rcases cut_cases P with e | e
          all_goals rw [hk.out] at e
          · subst e
            go_wp2_with (go_at_call 14; refine (chain (w0 := w) (by assumption) (wideSign (A + m) fA.out _)).mono ?_; rintro e' w' ⟨rfl, ht⟩)
            go_ret
            exact ⟨rfl, by assumption⟩
          · subst e
            have e5 : n * b + S = A + m := by rw [← hn.out, clipped_in P hk.out]; exact hPS'.out
            rw [e5] at xl x0 x1 x2 x3 zl z0 z1 z2 z3 hB2 ⊢
            clear e5
            go_wp2_with (go_at_call 14; refine (chain (w0 := w) (by assumption) (wideSign (A + m) fA.out _)).mono ?_; rintro e' w' ⟨rfl, ht⟩)
            go_ret
            exact ⟨rfl, by assumption⟩
        · have c3 : ¬ A + m < 0 := by have := hsig'.out; omega
          have t1 : (S == 0) = false := by simp; omega
          have t2 : decide (S < 0) = false := decide_eq_false (by omega)
          have t3 : decide (A + m < 0) = false := decide_eq_false c3
          rcases cut_cases P with e | e
          all_goals rw [hk.out] at e
          · subst e
            go_wp2_with (go_at_call 14; refine (chain (w0 := w) (by assumption) (wideSign (A + m) fA.out _)).mono ?_; rintro e' w' ⟨rfl, ht⟩)
            go_ret
            exact ⟨rfl, by assumption⟩
          · subst e
            have e5 : n * b + S = A + m := by rw [← hn.out, clipped_in P hk.out]; exact hPS'.out
            rw [e5] at xl x0 x1 x2 x3 zl z0 z1 z2 z3 hB2 ⊢
            clear e5
            go_wp2_with (go_at_call 14; refine (chain (w0 := w) (by assumption) (wideSign (A + m) fA.out _)).mono ?_; rintro e' w' ⟨rfl, ht⟩)
            go_ret
            exact ⟨rfl, by assumption⟩
      · exact absurd c1 hz
      · have h7 := hpos'.out c1
        obtain ⟨u1, u2⟩ := h7
        have u3 : -S < b := by omega
        rcases Int.lt_trichotomy S 0 with c2 | c2 | c2
        · have c3 : A + m < 0 := by have := hsig'.out; omega
          have t1 : (S == 0) = false := by simp; omega
          have t2 : decide (S < 0) = true := decide_eq_true c2
          have t3 : decide (A + m < 0) = true := decide_eq_true c3
          rcases cut_cases P with e | e
          all_goals rw [hk.out] at e
          · subst e
            go_wp2_with (go_at_call 14; refine (chain (w0 := w) (by assumption) (wideSign (A + m) fA.out _)).mono ?_; rintro e' w' ⟨rfl, ht⟩)
            go_ret
            exact ⟨rfl, by assumption⟩
          · subst e
            have e5 : n * b + S = A + m := by rw [← hn.out, clipped_in P hk.out]; exact hPS'.out
            rw [e5] at xl x0 x1 x2 x3 zl z0 z1 z2 z3 hB2 ⊢
            clear e5
            go_wp2_with (go_at_call 14; refine (chain (w0 := w) (by assumption) (wideSign (A + m) fA.out _)).mono ?_; rintro e' w' ⟨rfl, ht⟩)
            go_ret
            exact ⟨rfl, by assumption⟩
        · have t1 : (S == 0) = true := by simp [c2]
          have t2 : decide (S < 0) = false := decide_eq_false (by omega)
          have t4 : 0 ≤ S := by omega
          clear c2
          rcases cut_cases P with e | e
          all_goals rw [hk.out] at e
          · subst e
            go_wp2_with (go_at_call 14; refine (chain (w0 := w) (by assumption) (wideSign (A + m) fA.out _)).mono ?_; rintro e' w' ⟨rfl, ht⟩)
            go_ret
            exact ⟨rfl, by assumption⟩
          · subst e
            have e5 : n * b + S = A + m := by rw [← hn.out, clipped_in P hk.out]; exact hPS'.out
            rw [e5] at xl x0 x1 x2 x3 zl z0 z1 z2 z3 hB2 ⊢
            clear e5
            go_wp2_with (go_at_call 14; refine (chain (w0 := w) (by assumption) (wideSign (A + m) fA.out _)).mono ?_; rintro e' w' ⟨rfl, ht⟩)
            go_ret
            exact ⟨rfl, by assumption⟩
        · have c3 : ¬ A + m < 0 := by have := hsig'.out; omega
          have t1 : (S == 0) = false := by simp; omega
          have t2 : decide (S < 0) = false := decide_eq_false (by omega)
          have t3 : decide (A + m < 0) = false := decide_eq_false c3
          rcases cut_cases P with e | e
          all_goals rw [hk.out] at e
          · subst e
            go_wp2_with (go_at_call 14; refine (chain (w0 := w) (by assumption) (wideSign (A + m) fA.out _)).mono ?_; rintro e' w' ⟨rfl, ht⟩)
            go_ret
            exact ⟨rfl, by assumption⟩
          · subst e
            have e5 : n * b + S = A + m := by rw [← hn.out, clipped_in P hk.out]; exact hPS'.out
            rw [e5] at xl x0 x1 x2 x3 zl z0 z1 z2 z3 hB2 ⊢
            clear e5
            go_wp2_with (go_at_call 14; refine (chain (w0 := w) (by assumption) (wideSign (A + m) fA.out _)).mono ?_; rintro e' w' ⟨rfl, ht⟩)
            go_ret
            exact ⟨rfl, by assumption⟩
  · replace hps : (decide (m < 0) == decide (A < 0)) = false := Bool.eq_false_iff.2 hps
    have hx := hX
    obtain ⟨xl, x0, x1, x2, x3⟩ := hx
    go_wp2_with fail
    clear xl x0 x1 x2 x3
    refine (wideSign A sA.fits _).mono ?_
    rintro e w3 ⟨rfl, hb3⟩
    replace hX := hX.call hb3
    replace hB := below_then hB hb3
    clear hb3
    obtain ⟨sP, hPS, hsig, hpos, hneg⟩ := quo_facts (A) b sA hz
    obtain ⟨P, hP⟩ : ∃ P, Hid (Int.tdiv (A) b = P) := ⟨_, rfl⟩
    obtain ⟨S, hS⟩ : ∃ S, Hid (Int.tmod (A) b = S) := ⟨_, rfl⟩
    rw [hP.out, hS.out] at hPS
    rw [hP.out] at sP
    rw [hS.out] at hsig hpos hneg
    have S0 : -9223372036854775808 ≤ S ∧ S ≤ 9223372036854775807 := by
      rcases Int.lt_or_le b 0 with h | h
      · have := hneg h; omega
      · have := hpos (by omega); omega
    obtain ⟨S0, S1⟩ := S0
    have hPS' := Lib.hid hPS
    have hsig' := Lib.hid hsig
    have hpos' := Lib.hid hpos
    have hneg' := Lib.hid hneg
    have d1 : Hid (∀ W1 : World, Calls Try.prog 29 #[W (A), .int .i64 b] W1 fun e w' => e = .returned (.tuple #[W P, .int .i64 S, .bool true]) ∧ Below W1.heap.size W1 w') := fun W1 => by
      have := wideDiv (A) b (sA).fits hb'.out W1
      rw [divided, if_neg hz, hP.out, hS.out] at this
      exact this
    have fA := Lib.hid (sA).fits
    have sP' := Lib.hid sP
    clear hPS hsig hpos hneg sP
    have hx := hX
    obtain ⟨xl, x0, x1, x2, x3⟩ := hx
    go_wp2_with fail
    clear xl x0 x1 x2 x3
    refine (d1.out _).mono ?_
    rintro e w6 ⟨rfl, hb6⟩
    replace hX := hX.call hb6
    replace hB := below_then hB hb6
    clear hb6
    have hY := Holds.new w6 P 24
    replace hX := hX.alloc (.cells #[.int .i64 (hi P), .int .u64 (lo P)] 24)
    replace hB := hB.alloc hB.size (.cells #[.int .i64 (hi P), .int .u64 (lo P)] 24)
    obtain ⟨n, hn⟩ : ∃ n, Hid (clipped P = n) := ⟨_, rfl⟩
    obtain ⟨k, hk⟩ : ∃ k, Hid (cut P = k) := ⟨_, rfl⟩
    have hnh : Hid (Half n) := by show Half n; rw [← hn.out]; exact clipped_half P
    have hx := hY
    obtain ⟨yl, y0, y1, y2, y3⟩ := hx
    go_wp2_with fail
    clear yl y0 y1 y2 y3
    refine (wideClip P sP'.out.fits _).mono ?_
    rw [hn.out, hk.out]
    rintro e w7 ⟨rfl, hb7⟩
    replace hX := hX.call hb7
    replace hB := below_then hB hb7
    clear hb7 hY
    go_wp2_with fail
    refine (wideMul n b hnh.out hb'.out _).mono ?_
    rintro e w8 ⟨rfl, hb8⟩
    replace hX := hX.call hb8
    replace hB := below_then hB hb8
    clear hb8
    go_wp2_with fail
    refine (wideOf S ⟨S0, S1⟩ _).mono ?_
    rintro e w9 ⟨rfl, hb9⟩
    replace hX := hX.call hb9
    replace hB := below_then hB hb9
    clear hb9
    go_wp2_with fail
    refine (wideAdd (n * b) S _).mono ?_
    rintro e w10 ⟨rfl, hb10⟩
    replace hX := hX.call hb10
    replace hB := below_then hB hb10
    clear hb10
    replace hX := hX.alloc (.cells #[.int .i64 (hi (n * b + S)), .int .u64 (lo (n * b + S))] 24)
    have hZ := Holds.new w10 (n * b + S) 24
    have hB2 := hB.alloc hB.size (.cells #[.int .i64 (hi (n * b + S)), .int .u64 (lo (n * b + S))] 24)
    have sg' := sgn_neg (A)
    have hx := hX
    obtain ⟨xl, x0, x1, x2, x3⟩ := hx
    have hx := hZ
    obtain ⟨zl, z0, z1, z2, z3⟩ := hx
    clear hX hZ hB
    rcases Int.lt_trichotomy b 0 with c1 | c1 | c1
    · have h7 := hneg'.out c1
      obtain ⟨u1, u2⟩ := h7
      have u3 : b < -S := by omega
      rcases Int.lt_trichotomy S 0 with c2 | c2 | c2
      · have c3 : A < 0 := by have := hsig'.out; omega
        have t1 : (S == 0) = false := by simp; omega
        have t2 : decide (S < 0) = true := decide_eq_true c2
        have t3 : decide (A < 0) = true := decide_eq_true c3
        rcases cut_cases P with e | e
        all_goals rw [hk.out] at e
        · subst e
          go_wp2_with (go_at_call 14; refine (chain (w0 := w) (by assumption) (wideSign (A) fA.out _)).mono ?_; rintro e' w' ⟨rfl, ht⟩)
          go_ret
          exact ⟨rfl, by assumption⟩
        · subst e
          have e5 : n * b + S = A := by rw [← hn.out, clipped_in P hk.out]; exact hPS'.out
          rw [e5] at xl x0 x1 x2 x3 zl z0 z1 z2 z3 hB2 ⊢
          clear e5
          go_wp2_with (go_at_call 14; refine (chain (w0 := w) (by assumption) (wideSign (A) fA.out _)).mono ?_; rintro e' w' ⟨rfl, ht⟩)
          go_ret
          exact ⟨rfl, by assumption⟩
      · have t1 : (S == 0) = true := by simp [c2]
        have t2 : decide (S < 0) = false := decide_eq_false (by omega)
        have t4 : 0 ≤ S := by omega
        clear c2
        rcases cut_cases P with e | e
        all_goals rw [hk.out] at e
        · subst e
          go_wp2_with (go_at_call 14; refine (chain (w0 := w) (by assumption) (wideSign (A) fA.out _)).mono ?_; rintro e' w' ⟨rfl, ht⟩)
          go_ret
          exact ⟨rfl, by assumption⟩
        · subst e
          have e5 : n * b + S = A := by rw [← hn.out, clipped_in P hk.out]; exact hPS'.out
          rw [e5] at xl x0 x1 x2 x3 zl z0 z1 z2 z3 hB2 ⊢
          clear e5
          go_wp2_with (go_at_call 14; refine (chain (w0 := w) (by assumption) (wideSign (A) fA.out _)).mono ?_; rintro e' w' ⟨rfl, ht⟩)
          go_ret
          exact ⟨rfl, by assumption⟩
      · have c3 : ¬ A < 0 := by have := hsig'.out; omega
        have t1 : (S == 0) = false := by simp; omega
        have t2 : decide (S < 0) = false := decide_eq_false (by omega)
        have t3 : decide (A < 0) = false := decide_eq_false c3
        rcases cut_cases P with e | e
        all_goals rw [hk.out] at e
        · subst e
          go_wp2_with (go_at_call 14; refine (chain (w0 := w) (by assumption) (wideSign (A) fA.out _)).mono ?_; rintro e' w' ⟨rfl, ht⟩)
          go_ret
          exact ⟨rfl, by assumption⟩
        · subst e
          have e5 : n * b + S = A := by rw [← hn.out, clipped_in P hk.out]; exact hPS'.out
          rw [e5] at xl x0 x1 x2 x3 zl z0 z1 z2 z3 hB2 ⊢
          clear e5
          go_wp2_with (go_at_call 14; refine (chain (w0 := w) (by assumption) (wideSign (A) fA.out _)).mono ?_; rintro e' w' ⟨rfl, ht⟩)
          go_ret
          exact ⟨rfl, by assumption⟩
    · exact absurd c1 hz
    · have h7 := hpos'.out c1
      obtain ⟨u1, u2⟩ := h7
      have u3 : -S < b := by omega
      rcases Int.lt_trichotomy S 0 with c2 | c2 | c2
      · have c3 : A < 0 := by have := hsig'.out; omega
        have t1 : (S == 0) = false := by simp; omega
        have t2 : decide (S < 0) = true := decide_eq_true c2
        have t3 : decide (A < 0) = true := decide_eq_true c3
        rcases cut_cases P with e | e
        all_goals rw [hk.out] at e
        · subst e
          go_wp2_with (go_at_call 14; refine (chain (w0 := w) (by assumption) (wideSign (A) fA.out _)).mono ?_; rintro e' w' ⟨rfl, ht⟩)
          go_ret
          exact ⟨rfl, by assumption⟩
        · subst e
          have e5 : n * b + S = A := by rw [← hn.out, clipped_in P hk.out]; exact hPS'.out
          rw [e5] at xl x0 x1 x2 x3 zl z0 z1 z2 z3 hB2 ⊢
          clear e5
          go_wp2_with (go_at_call 14; refine (chain (w0 := w) (by assumption) (wideSign (A) fA.out _)).mono ?_; rintro e' w' ⟨rfl, ht⟩)
          go_ret
          exact ⟨rfl, by assumption⟩
      · have t1 : (S == 0) = true := by simp [c2]
        have t2 : decide (S < 0) = false := decide_eq_false (by omega)
        have t4 : 0 ≤ S := by omega
        clear c2
        rcases cut_cases P with e | e
        all_goals rw [hk.out] at e
        · subst e
          go_wp2_with (go_at_call 14; refine (chain (w0 := w) (by assumption) (wideSign (A) fA.out _)).mono ?_; rintro e' w' ⟨rfl, ht⟩)
          go_ret
          exact ⟨rfl, by assumption⟩
        · subst e
          have e5 : n * b + S = A := by rw [← hn.out, clipped_in P hk.out]; exact hPS'.out
          rw [e5] at xl x0 x1 x2 x3 zl z0 z1 z2 z3 hB2 ⊢
          clear e5
          go_wp2_with (go_at_call 14; refine (chain (w0 := w) (by assumption) (wideSign (A) fA.out _)).mono ?_; rintro e' w' ⟨rfl, ht⟩)
          go_ret
          exact ⟨rfl, by assumption⟩
      · have c3 : ¬ A < 0 := by have := hsig'.out; omega
        have t1 : (S == 0) = false := by simp; omega
        have t2 : decide (S < 0) = false := decide_eq_false (by omega)
        have t3 : decide (A < 0) = false := decide_eq_false c3
        rcases cut_cases P with e | e
        all_goals rw [hk.out] at e
        · subst e
          go_wp2_with (go_at_call 14; refine (chain (w0 := w) (by assumption) (wideSign (A) fA.out _)).mono ?_; rintro e' w' ⟨rfl, ht⟩)
          go_ret
          exact ⟨rfl, by assumption⟩
        · subst e
          have e5 : n * b + S = A := by rw [← hn.out, clipped_in P hk.out]; exact hPS'.out
          rw [e5] at xl x0 x1 x2 x3 zl z0 z1 z2 z3 hB2 ⊢
          clear e5
          go_wp2_with (go_at_call 14; refine (chain (w0 := w) (by assumption) (wideSign (A) fA.out _)).mono ?_; rintro e' w' ⟨rfl, ht⟩)
          go_ret
          exact ⟨rfl, by assumption⟩

theorem walk (q b r : Int) (hq : Half q) (hb : Half b) (hr : Half r) (w : World) :
    Calls Try.prog 8 #[.int .i64 q, .int .i64 b, .int .i64 r] w fun e w' => e = .returned (.bool true) ∧ Below w.heap.size w w' := by
  by_cases hz : b = 0
  · subst hz
    exact walk_zero q r hq w
  · exact walk_not q b r hq hb hr hz w


set_option maxRecDepth 100000 in
theorem lifted (os : Os) (started : os.Started) (H : Type) (enc : TypeId × Value → H) :
    ReturnsInHanded {} Try.checked os 8 .any (Rows.wideBackSpec.pre6 enc Try.prog Try.f8 Rows.wideBackRow.domain false) (Rows.wideBackSpec.post enc Try.prog Try.f8 false true false false) := by
  refine returnsInHanded_of_change (C := Try.checked) own started (by kernel_rfl) Try.func8
    (ChangeSpec.witness6 (enc := enc) (C := Try.checked) false ⟨#[], #[.int .i64 0, .int .i64 0, .int .i64 0], []⟩ 8 (by kernel_rfl) (by kernel_rfl) (by kernel_rfl) (by kernel_rfl)) ?_
  intro W1 base args ds gs before hval0 hW hcnd _
  have hval : ∀ (j : Nat) t v, Try.f8.params[j]? = some t → args[j]? = some v → Value.okWide Try.prog W1 .any base t v := hval0
  have hW' := hW
  obtain ⟨p, q, hA0, hV, rfl, hfz, hnd⟩ := hW
  have hA : DataW.TrodAll enc Try.prog W1 0 (fun _ => true) true Try.f8.params.toList args.toList ds p := hA0
  rw [Try.params8] at hA hval
  obtain ⟨v0, vs0, d0, ds0, p0, q0, hargs, rfl, rfl, h0, r0⟩ := trodAll_cons hA
  obtain ⟨v1, vs1, d1, ds1, p1, q1, rfl, rfl, rfl, h1, r1⟩ := trodAll_cons r0
  obtain ⟨v2, vs2, d2, ds2, p2, q2, rfl, rfl, rfl, h2, r2⟩ := trodAll_cons r1
  obtain ⟨rfl, rfl, rfl⟩ := trodAll_nil r2
  obtain rfl : args = #[v0, v1, v2] := by cases args; simp_all
  obtain ⟨rfl, rfl⟩ := trodVars_none hV
  obtain ⟨q, rfl, rfl, rfl, w0⟩ := open_int Try.underlying2 (hval 0 2 v0 rfl rfl) h0
  obtain ⟨b, rfl, rfl, rfl, w1⟩ := open_int Try.underlying2 (hval 1 2 v1 rfl rfl) h1
  obtain ⟨r, rfl, rfl, rfl, w2⟩ := open_int Try.underlying2 (hval 2 2 v2 rfl rfl) h2
  clear hA0 hval0
  simp only [List.append_nil] at hW'
  refine (walk q b r (half_of_wf w0) (half_of_wf w1) (half_of_wf w2) W1).mono fun e W' ⟨he, hg⟩ => ?_
  subst he
  exact ⟨_, rfl, post_of_below (pa := []) (pv := []) hW' (fun _ _ _ => (trodAll_cons_mk (shut_bool Try.underlying4 _) trodAll_mk0)) (fun sp _ => (trodAll_cons_mk (shut_int Try.underlying2 w0) (trodAll_cons_mk (shut_int Try.underlying2 w1) (trodAll_cons_mk (shut_int Try.underlying2 w2) trodAll_mk0)))) (fun _ _ => rfl) rfl hg (ok_one (by kernel_rfl) rfl (okWide_bool_mk Try.underlying4 _))⟩

theorem over : Rows.wideBackRow.holds Try.pinned (OpenSpec.ofChange Rows.wideBackSpec) :=
  OpenClaim.holds_of_wide 8 Try.f8 rfl rfl rfl rfl rfl rfl rfl ⟨rfl, rfl, rfl, rfl, rfl⟩ rfl rfl rfl rfl rfl (by kernel_rfl) Try.func8 (by kernel_rfl)
    (of_decide_eq_true (by kernel_rfl)) (by unfold Func.isWrapper; first | (rw [if_pos (by decide +kernel)]; kernel_rfl) | (rw [if_neg (by decide +kernel)]; exact ⟨rfl, rfl⟩))
    (fun os started H enc _ => lifted os started H enc)

theorem proved : Rows.WideBackSaid :=
  over
end Go.Proofs.Ytdmfbkpnjjaemaa.wideBack
