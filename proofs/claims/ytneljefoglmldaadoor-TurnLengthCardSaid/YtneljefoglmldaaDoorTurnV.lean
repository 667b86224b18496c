/- The angle of two numbers, in the document's answers. -/
import Derived.Test.YtneljefoglmldaaDoorTurnLev
import Derived.Test.YtneljefoglmldaaDoorTurnR
namespace Go.Proofs.YtneljefoglmldaaDoor
open Go.RowKit
set_option linter.unusedVariables false
attribute [local go_sem] cell_re eqW_self
attribute [local go_sem ↓] run_eqlW run_neqW

set_option maxRecDepth 100000 in
set_option maxHeartbeats 4000000 in
theorem ref5Angle_n (y0 x0 : Int) (hy : Half y0) (hx : Half x0) (h0 : x0 < 0) (h1 : (x0 == 0) = false) (w : World) :
    Calls Tryd.prog 14 #[.int .i64 y0, .int .i64 x0] w fun e w' => e = .returned (.int .u32 ((2147483648 + angOf (oppo x0) (oppo y0)) % 4294967296)) ∧ Below w.heap.size w w' := by
  have hx1 : 0 ≤ oppo x0 ∧ oppo x0 ≤ 9223372036854775807 := by unfold oppo; unfold Half at hx; omega
  have hy1 := oppo_bd hy
  have hn : ¬ (oppo y0 = 0 ∧ oppo x0 = 0) := by unfold oppo; omega
  have n1 := Lib.hid (ref5Opposite x0 hx)
  have n2 := Lib.hid (ref5Opposite y0 hy)
  obtain ⟨p, hp⟩ : ∃ p, Hid (oppo x0 = p) := ⟨_, Lib.hid rfl⟩
  obtain ⟨q, hq'⟩ : ∃ q, Hid (oppo y0 = q) := ⟨_, Lib.hid rfl⟩
  rw [hp.out] at n1 hx1 hn ⊢
  rw [hq'.out] at n2 hy1 hn ⊢
  clear hp hq' hx hy
  have hs := Low.start hx1 hy1 hn
  unfold angOf lev
  obtain ⟨L, hL⟩ : ∃ L, lower 3 p q = L := ⟨_, rfl⟩
  rw [hL] at hs ⊢
  obtain ⟨R, hR⟩ : ∃ R, Hid (raise 60 L.1 L.2 = R) := ⟨_, Lib.hid rfl⟩
  rw [hR.out]
  replace hs := Lib.hid hs
  clear hL hx1 hy1 hn
  go_enter Tryd.func14, Tryd.ntmps14
  go_wp2_with (go_at_call 36; first | ((with_reducible refine (n1.out _).mono ?_); rintro e wa ⟨rfl, rfl⟩) | ((with_reducible refine (n2.out _).mono ?_); rintro e wa ⟨rfl, rfl⟩))
  go_loop [5, 6, 8] (fun vu vv vi => ∃ (k n : Nat) (u v : Int), k + n = 3 ∧ vi = .int .i64 k ∧ vu = .int .i64 u ∧ vv = .int .i64 v ∧ Hid (Low L n u v)) (fun _ _ vi => 64 - (intOf vi).toNat)
  case atStart => exact ⟨0, 3, _, _, rfl, rfl, rfl, rfl, hs⟩
  case round =>
    clear hs
    obtain ⟨k, n, u, v, hk, rfl, rfl, rfl, hl⟩ := hrel
    have j1 : (k : Int) < 64 := by omega
    have hu : (0 ≤ u ∧ u ≤ 9223372036854775807) ∧ Half v := by have := hl.out.bd; unfold Half at *; omega
    obtain ⟨⟨u0, u1⟩, hv⟩ := hu
    have d1 := Lib.hid (ref5Bare u (by unfold Half; omega))
    rw [if_neg (show ¬ u < 0 by omega)] at d1
    have d2 := Lib.hid (ref5Bare v hv)
    have hgi : grt u v = max u (if v < 0 then -v else v) := rfl
    have q0 : 0 ≤ (if v < 0 then -v else v) ∧ (if v < 0 then -v else v) ≤ 9223372036854775808 := by unfold Half at hv; split <;> omega
    obtain ⟨q, hq⟩ : ∃ q, (if v < 0 then -v else v) = q := ⟨_, rfl⟩
    rw [hq] at d2 hgi q0
    clear hq
    obtain ⟨q0, q1⟩ := q0
    have hv' := hv
    obtain ⟨v0, v1⟩ := hv'
    have d3 := Lib.hid (ref5Half u (by unfold Half; omega))
    have d4 := Lib.hid (ref5Half v hv)
    by_cases hg : 2305843009213693951 < grt u v
    · obtain ⟨m, rfl, hn2, -⟩ := hl.out.step hg
      have hnext := Lib.hid hn2
      clear hn2 hl
      rcases Int.lt_or_le u q with hm | hm
      all_goals
        have g2 : (u < q → 2305843009213693952 ≤ q) ∧ (q ≤ u → 2305843009213693952 ≤ u) := by omega
        clear hg hgi
        go_wp2_with (first | (go_at_call 37; first | ((with_reducible refine (d1.out _).mono ?_); rintro e wa ⟨rfl, rfl⟩) | ((with_reducible refine (d2.out _).mono ?_); rintro e wa ⟨rfl, rfl⟩)) | (go_at_call 29; first | ((with_reducible refine (d3.out _).mono ?_); rintro e wa ⟨rfl, rfl⟩) | ((with_reducible refine (d4.out _).mono ?_); rintro e wa ⟨rfl, rfl⟩)))
        go_round
        case rel => exact ⟨k + 1, m, _, _, by omega, by go_num, rfl, rfl, hnext⟩
        case measure => simp [intOf]; omega
    · obtain ⟨e1, hs2⟩ := hl.out.stop hg
      rw [hR.out] at hs2
      replace hs2 := Lib.hid hs2
      clear e1 hl
      rcases Int.lt_or_le u q with hm | hm
      all_goals
        have g2 : (u < 2305843009213693952 ∧ q < 2305843009213693952) := by omega
        clear hg hgi
        go_wp2_with (go_at_call 37; first | ((with_reducible refine (d1.out _).mono ?_); rintro e wa ⟨rfl, rfl⟩) | ((with_reducible refine (d2.out _).mono ?_); rintro e wa ⟨rfl, rfl⟩))
        have hs := hs2
        clear hs2 d1 d2 d3 d4 hm g2 q0 q1 u0 u1 v0 v1 j1
        go_loop [5, 6, 9] (fun vu vv vi => ∃ (k n : Nat) (u v : Int), k + n = 60 ∧ vi = .int .i64 k ∧ vu = .int .i64 u ∧ vv = .int .i64 v ∧ Hid (Rise R n u v)) (fun _ _ vi => 64 - (intOf vi).toNat)
        case atStart => exact ⟨0, 60, _, _, rfl, rfl, rfl, rfl, hs⟩
        case round =>
          clear hs
          obtain ⟨k, n, u, v, hk, rfl, rfl, rfl, hl⟩ := hrel
          have j1 : (k : Int) < 64 := by omega
          have hu : (0 ≤ u ∧ u ≤ 9223372036854775807) ∧ Half v := by have := hl.out.bd; unfold Half at *; omega
          obtain ⟨⟨u0, u1⟩, hv⟩ := hu
          have d1 := Lib.hid (ref5Bare u (by unfold Half; omega))
          rw [if_neg (show ¬ u < 0 by omega)] at d1
          have d2 := Lib.hid (ref5Bare v hv)
          have hgi : grt u v = max u (if v < 0 then -v else v) := rfl
          have q0 : 0 ≤ (if v < 0 then -v else v) ∧ (if v < 0 then -v else v) ≤ 9223372036854775808 := by unfold Half at hv; split <;> omega
          obtain ⟨q, hq⟩ : ∃ q, (if v < 0 then -v else v) = q := ⟨_, rfl⟩
          rw [hq] at d2 hgi q0
          clear hq
          obtain ⟨q0, q1⟩ := q0
          have hv' := hv
          obtain ⟨v0, v1⟩ := hv'
  
          by_cases hg : grt u v < 1152921504606846976
          · obtain ⟨⟨m, rfl, hn2⟩, -⟩ := hl.out.step hg
            obtain ⟨⟨b0, b1⟩, b2, b3⟩ := hn2.bd
            have hnext := Lib.hid hn2
            clear hn2 hl
            rcases Int.lt_or_le u q with hm | hm
            all_goals
              have g2 : (u < 1152921504606846976 ∧ q < 1152921504606846976) := by omega
              clear hg hgi
              go_wp2_with ((go_at_call 37; first | ((with_reducible refine (d1.out _).mono ?_); rintro e wa ⟨rfl, rfl⟩) | ((with_reducible refine (d2.out _).mono ?_); rintro e wa ⟨rfl, rfl⟩)))
              go_round
              case rel => exact ⟨k + 1, m, _, _, by omega, by go_num, by go_num, by go_num, hnext⟩
              case measure => simp [intOf]; omega
          · obtain ⟨e1, hl2⟩ := hl.out.stop hg
            have hR2 := Lib.hid e1
            have hlev : Hid (Level R.1 R.2) := by rw [e1]; exact Lib.hid hl2
            clear e1 hl hl2
            rcases Int.lt_or_le u q with hm | hm
            all_goals
              have g2 : (u < q → 1152921504606846976 ≤ q) ∧ (q ≤ u → 1152921504606846976 ≤ u) := by omega
              clear hg hgi
              go_wp2_with (go_at_call 37; first | ((with_reducible refine (d1.out _).mono ?_); rintro e wa ⟨rfl, rfl⟩) | ((with_reducible refine (d2.out _).mono ?_); rintro e wa ⟨rfl, rfl⟩))
              go_loopw [5, 6, 7, 10] (fun vx vy vz vi wr => ∃ (k : Nat) (x y z : Int), k ≤ 30 ∧ vi = .int .i64 k ∧ vx = .int .i64 x ∧ vy = .int .i64 y ∧ vz = .int .i64 (2147483648 + z) ∧ Hid (angAt R.1 R.2 k = (x, y, z)) ∧ Below w.heap.size w wr) (fun _ _ _ vi _ => 30 - (intOf vi).toNat)
              case atStart => exact ⟨0, u, v, 0, Nat.zero_le _, rfl, rfl, rfl, rfl, Lib.hid (by rw [hR2.out]; rfl), Below.refl _ _⟩
              case round =>
                clear d1 d2 hR2 hm g2 q0 q1 u0 u1 v0 v1 j1
                obtain ⟨k, x, y, z, hk, rfl, rfl, rfl, rfl, hx, hB⟩ := hrel
                by_cases hlt : k < 30
                · obtain ⟨x', y', z', t, e5, e6, ⟨x0, x1⟩, ⟨y0, y1⟩, ⟨t0, t1⟩, ⟨z0, z1⟩, hw⟩ := angAt_facts R.1 R.2 hlev.out k hlt
                  obtain ⟨rfl, rfl, rfl⟩ : x' = x ∧ y' = y ∧ z' = z := by
                    have := e5.symm.trans hx.out
                    simp only [Prod.mk.injEq] at this
                    exact this
                  have d1 := Lib.hid (fun W1 : World => ref5Over x' k (by unfold Half; omega) (by omega) W1)
                  have d2 := Lib.hid (fun W1 : World => ref5Over y' k (by unfold Half; omega) (by omega) W1)
                  have d3 := Lib.hid (fun W1 : World => ref5Step k hlt W1)
                  rw [e6] at d3
                  obtain ⟨p, hp⟩ : ∃ p, Hid (x' / 2 ^ k = p) := ⟨_, rfl⟩
                  obtain ⟨q, hq⟩ : ∃ q, Hid (y' / 2 ^ k = q) := ⟨_, rfl⟩
                  rw [hp.out] at d1 hw
                  rw [hq.out] at d2 hw
                  have z2 : -17179869184 ≤ z' := by omega
                  have z3 : z' ≤ 17179869184 := by omega
                  clear e5 e6 hx hp hq z0 z1
                  rcases hw with ⟨c0, e7, ⟨c1, c2⟩, c3, c4⟩ | ⟨c0, e7, ⟨c1, c2⟩, c3, c4⟩
                  all_goals
                    replace e7 := Lib.hid e7
                    go_wp2_with (first | (go_at_call 29; first | ((with_reducible refine (d1.out _).mono ?_); rintro e wa ⟨rfl, rfl⟩) | ((with_reducible refine (d2.out _).mono ?_); rintro e wa ⟨rfl, rfl⟩)) | (go_at_call 30; refine (d3.out _).mono ?_; rintro e wa ⟨rfl, hs1⟩))
                    go_roundw
                    case rel => exact ⟨k + 1, _, _, _, by omega, by go_num, rfl, rfl, by go_num, e7, below_then hB hs1⟩
                    case measure => simp [intOf]; omega
                · obtain rfl : k = 30 := by omega
                  go_wp2
                  go_ret
                  have e9 : (angAt R.1 R.2 30).2.2 = z := by rw [hx.out]
                  exact ⟨retI (by omega), hB⟩
set_option maxRecDepth 100000 in
set_option maxHeartbeats 4000000 in
theorem ref5Angle_pa (y0 x0 : Int) (hy : Half y0) (hx : Half x0) (h0 : 0 ≤ x0) (hn : ¬ (y0 = 0 ∧ x0 = 0)) (h1 : (x0 == 0) = false) (w : World) :
    Calls Tryd.prog 14 #[.int .i64 y0, .int .i64 x0] w fun e w' => e = .returned (.int .u32 ((0 + angOf x0 y0) % 4294967296)) ∧ Below w.heap.size w w' := by
  have hx1 : 0 ≤ x0 ∧ x0 ≤ 9223372036854775807 := ⟨h0, hx.2⟩
  have hy1 := hy
  obtain ⟨hx2, hx3⟩ := hx
  obtain ⟨hy2, hy3⟩ := hy
  have hs := Low.start hx1 hy1 hn
  unfold angOf lev
  obtain ⟨L, hL⟩ : ∃ L, lower 3 x0 y0 = L := ⟨_, rfl⟩
  rw [hL] at hs ⊢
  obtain ⟨R, hR⟩ : ∃ R, Hid (raise 60 L.1 L.2 = R) := ⟨_, Lib.hid rfl⟩
  rw [hR.out]
  replace hs := Lib.hid hs
  clear hL hx1 hy1 hn
  go_enter Tryd.func14, Tryd.ntmps14
  go_wp2
  go_loop [5, 6, 8] (fun vu vv vi => ∃ (k n : Nat) (u v : Int), k + n = 3 ∧ vi = .int .i64 k ∧ vu = .int .i64 u ∧ vv = .int .i64 v ∧ Hid (Low L n u v)) (fun _ _ vi => 64 - (intOf vi).toNat)
  case atStart => exact ⟨0, 3, _, _, rfl, rfl, rfl, rfl, hs⟩
  case round =>
    clear hs
    obtain ⟨k, n, u, v, hk, rfl, rfl, rfl, hl⟩ := hrel
    have j1 : (k : Int) < 64 := by omega
    have hu : (0 ≤ u ∧ u ≤ 9223372036854775807) ∧ Half v := by have := hl.out.bd; unfold Half at *; omega
    obtain ⟨⟨u0, u1⟩, hv⟩ := hu
    have d1 := Lib.hid (ref5Bare u (by unfold Half; omega))
    rw [if_neg (show ¬ u < 0 by omega)] at d1
    have d2 := Lib.hid (ref5Bare v hv)
    have hgi : grt u v = max u (if v < 0 then -v else v) := rfl
    have q0 : 0 ≤ (if v < 0 then -v else v) ∧ (if v < 0 then -v else v) ≤ 9223372036854775808 := by unfold Half at hv; split <;> omega
    obtain ⟨q, hq⟩ : ∃ q, (if v < 0 then -v else v) = q := ⟨_, rfl⟩
    rw [hq] at d2 hgi q0
    clear hq
    obtain ⟨q0, q1⟩ := q0
    have hv' := hv
    obtain ⟨v0, v1⟩ := hv'
    have d3 := Lib.hid (ref5Half u (by unfold Half; omega))
    have d4 := Lib.hid (ref5Half v hv)
    by_cases hg : 2305843009213693951 < grt u v
    · obtain ⟨m, rfl, hn2, -⟩ := hl.out.step hg
      have hnext := Lib.hid hn2
      clear hn2 hl
      rcases Int.lt_or_le u q with hm | hm
      all_goals
        have g2 : (u < q → 2305843009213693952 ≤ q) ∧ (q ≤ u → 2305843009213693952 ≤ u) := by omega
        clear hg hgi
        go_wp2_with (first | (go_at_call 37; first | ((with_reducible refine (d1.out _).mono ?_); rintro e wa ⟨rfl, rfl⟩) | ((with_reducible refine (d2.out _).mono ?_); rintro e wa ⟨rfl, rfl⟩)) | (go_at_call 29; first | ((with_reducible refine (d3.out _).mono ?_); rintro e wa ⟨rfl, rfl⟩) | ((with_reducible refine (d4.out _).mono ?_); rintro e wa ⟨rfl, rfl⟩)))
        go_round
        case rel => exact ⟨k + 1, m, _, _, by omega, by go_num, rfl, rfl, hnext⟩
        case measure => simp [intOf]; omega
    · obtain ⟨e1, hs2⟩ := hl.out.stop hg
      rw [hR.out] at hs2
      replace hs2 := Lib.hid hs2
      clear e1 hl
      rcases Int.lt_or_le u q with hm | hm
      all_goals
        have g2 : (u < 2305843009213693952 ∧ q < 2305843009213693952) := by omega
        clear hg hgi
        go_wp2_with (go_at_call 37; first | ((with_reducible refine (d1.out _).mono ?_); rintro e wa ⟨rfl, rfl⟩) | ((with_reducible refine (d2.out _).mono ?_); rintro e wa ⟨rfl, rfl⟩))
        have hs := hs2
        clear hs2 d1 d2 d3 d4 hm g2 q0 q1 u0 u1 v0 v1 j1
        go_loop [5, 6, 9] (fun vu vv vi => ∃ (k n : Nat) (u v : Int), k + n = 60 ∧ vi = .int .i64 k ∧ vu = .int .i64 u ∧ vv = .int .i64 v ∧ Hid (Rise R n u v)) (fun _ _ vi => 64 - (intOf vi).toNat)
        case atStart => exact ⟨0, 60, _, _, rfl, rfl, rfl, rfl, hs⟩
        case round =>
          clear hs
          obtain ⟨k, n, u, v, hk, rfl, rfl, rfl, hl⟩ := hrel
          have j1 : (k : Int) < 64 := by omega
          have hu : (0 ≤ u ∧ u ≤ 9223372036854775807) ∧ Half v := by have := hl.out.bd; unfold Half at *; omega
          obtain ⟨⟨u0, u1⟩, hv⟩ := hu
          have d1 := Lib.hid (ref5Bare u (by unfold Half; omega))
          rw [if_neg (show ¬ u < 0 by omega)] at d1
          have d2 := Lib.hid (ref5Bare v hv)
          have hgi : grt u v = max u (if v < 0 then -v else v) := rfl
          have q0 : 0 ≤ (if v < 0 then -v else v) ∧ (if v < 0 then -v else v) ≤ 9223372036854775808 := by unfold Half at hv; split <;> omega
          obtain ⟨q, hq⟩ : ∃ q, (if v < 0 then -v else v) = q := ⟨_, rfl⟩
          rw [hq] at d2 hgi q0
          clear hq
          obtain ⟨q0, q1⟩ := q0
          have hv' := hv
          obtain ⟨v0, v1⟩ := hv'
  
          by_cases hg : grt u v < 1152921504606846976
          · obtain ⟨⟨m, rfl, hn2⟩, -⟩ := hl.out.step hg
            obtain ⟨⟨b0, b1⟩, b2, b3⟩ := hn2.bd
            have hnext := Lib.hid hn2
            clear hn2 hl
            rcases Int.lt_or_le u q with hm | hm
            all_goals
              have g2 : (u < 1152921504606846976 ∧ q < 1152921504606846976) := by omega
              clear hg hgi
              go_wp2_with ((go_at_call 37; first | ((with_reducible refine (d1.out _).mono ?_); rintro e wa ⟨rfl, rfl⟩) | ((with_reducible refine (d2.out _).mono ?_); rintro e wa ⟨rfl, rfl⟩)))
              go_round
              case rel => exact ⟨k + 1, m, _, _, by omega, by go_num, by go_num, by go_num, hnext⟩
              case measure => simp [intOf]; omega
          · obtain ⟨e1, hl2⟩ := hl.out.stop hg
            have hR2 := Lib.hid e1
            have hlev : Hid (Level R.1 R.2) := by rw [e1]; exact Lib.hid hl2
            clear e1 hl hl2
            rcases Int.lt_or_le u q with hm | hm
            all_goals
              have g2 : (u < q → 1152921504606846976 ≤ q) ∧ (q ≤ u → 1152921504606846976 ≤ u) := by omega
              clear hg hgi
              go_wp2_with (go_at_call 37; first | ((with_reducible refine (d1.out _).mono ?_); rintro e wa ⟨rfl, rfl⟩) | ((with_reducible refine (d2.out _).mono ?_); rintro e wa ⟨rfl, rfl⟩))
              go_loopw [5, 6, 7, 10] (fun vx vy vz vi wr => ∃ (k : Nat) (x y z : Int), k ≤ 30 ∧ vi = .int .i64 k ∧ vx = .int .i64 x ∧ vy = .int .i64 y ∧ vz = .int .i64 (0 + z) ∧ Hid (angAt R.1 R.2 k = (x, y, z)) ∧ Below w.heap.size w wr) (fun _ _ _ vi _ => 30 - (intOf vi).toNat)
              case atStart => exact ⟨0, u, v, 0, Nat.zero_le _, rfl, rfl, rfl, rfl, Lib.hid (by rw [hR2.out]; rfl), Below.refl _ _⟩
              case round =>
                clear d1 d2 hR2 hm g2 q0 q1 u0 u1 v0 v1 j1
                obtain ⟨k, x, y, z, hk, rfl, rfl, rfl, rfl, hx, hB⟩ := hrel
                by_cases hlt : k < 30
                · obtain ⟨x', y', z', t, e5, e6, ⟨x0, x1⟩, ⟨y0, y1⟩, ⟨t0, t1⟩, ⟨z0, z1⟩, hw⟩ := angAt_facts R.1 R.2 hlev.out k hlt
                  obtain ⟨rfl, rfl, rfl⟩ : x' = x ∧ y' = y ∧ z' = z := by
                    have := e5.symm.trans hx.out
                    simp only [Prod.mk.injEq] at this
                    exact this
                  have d1 := Lib.hid (fun W1 : World => ref5Over x' k (by unfold Half; omega) (by omega) W1)
                  have d2 := Lib.hid (fun W1 : World => ref5Over y' k (by unfold Half; omega) (by omega) W1)
                  have d3 := Lib.hid (fun W1 : World => ref5Step k hlt W1)
                  rw [e6] at d3
                  obtain ⟨p, hp⟩ : ∃ p, Hid (x' / 2 ^ k = p) := ⟨_, rfl⟩
                  obtain ⟨q, hq⟩ : ∃ q, Hid (y' / 2 ^ k = q) := ⟨_, rfl⟩
                  rw [hp.out] at d1 hw
                  rw [hq.out] at d2 hw
                  have z2 : -17179869184 ≤ z' := by omega
                  have z3 : z' ≤ 17179869184 := by omega
                  clear e5 e6 hx hp hq z0 z1
                  rcases hw with ⟨c0, e7, ⟨c1, c2⟩, c3, c4⟩ | ⟨c0, e7, ⟨c1, c2⟩, c3, c4⟩
                  all_goals
                    replace e7 := Lib.hid e7
                    go_wp2_with (first | (go_at_call 29; first | ((with_reducible refine (d1.out _).mono ?_); rintro e wa ⟨rfl, rfl⟩) | ((with_reducible refine (d2.out _).mono ?_); rintro e wa ⟨rfl, rfl⟩)) | (go_at_call 30; refine (d3.out _).mono ?_; rintro e wa ⟨rfl, hs1⟩))
                    go_roundw
                    case rel => exact ⟨k + 1, _, _, _, by omega, by go_num, rfl, rfl, by go_num, e7, below_then hB hs1⟩
                    case measure => simp [intOf]; omega
                · obtain rfl : k = 30 := by omega
                  go_wp2
                  go_ret
                  have e9 : (angAt R.1 R.2 30).2.2 = z := by rw [hx.out]
                  exact ⟨retI (by omega), hB⟩
set_option maxRecDepth 100000 in
set_option maxHeartbeats 4000000 in
theorem ref5Angle_pb (y0 x0 : Int) (hy : Half y0) (hx : Half x0) (h0 : 0 ≤ x0) (hn : ¬ (y0 = 0 ∧ x0 = 0)) (h1 : (x0 == 0) = true) (h2 : (y0 == 0) = false) (w : World) :
    Calls Tryd.prog 14 #[.int .i64 y0, .int .i64 x0] w fun e w' => e = .returned (.int .u32 ((0 + angOf x0 y0) % 4294967296)) ∧ Below w.heap.size w w' := by
  have hx1 : 0 ≤ x0 ∧ x0 ≤ 9223372036854775807 := ⟨h0, hx.2⟩
  have hy1 := hy
  obtain ⟨hx2, hx3⟩ := hx
  obtain ⟨hy2, hy3⟩ := hy
  have hs := Low.start hx1 hy1 hn
  unfold angOf lev
  obtain ⟨L, hL⟩ : ∃ L, lower 3 x0 y0 = L := ⟨_, rfl⟩
  rw [hL] at hs ⊢
  obtain ⟨R, hR⟩ : ∃ R, Hid (raise 60 L.1 L.2 = R) := ⟨_, Lib.hid rfl⟩
  rw [hR.out]
  replace hs := Lib.hid hs
  clear hL hx1 hy1 hn
  go_enter Tryd.func14, Tryd.ntmps14
  go_wp2
  go_loop [5, 6, 8] (fun vu vv vi => ∃ (k n : Nat) (u v : Int), k + n = 3 ∧ vi = .int .i64 k ∧ vu = .int .i64 u ∧ vv = .int .i64 v ∧ Hid (Low L n u v)) (fun _ _ vi => 64 - (intOf vi).toNat)
  case atStart => exact ⟨0, 3, _, _, rfl, rfl, rfl, rfl, hs⟩
  case round =>
    clear hs
    obtain ⟨k, n, u, v, hk, rfl, rfl, rfl, hl⟩ := hrel
    have j1 : (k : Int) < 64 := by omega
    have hu : (0 ≤ u ∧ u ≤ 9223372036854775807) ∧ Half v := by have := hl.out.bd; unfold Half at *; omega
    obtain ⟨⟨u0, u1⟩, hv⟩ := hu
    have d1 := Lib.hid (ref5Bare u (by unfold Half; omega))
    rw [if_neg (show ¬ u < 0 by omega)] at d1
    have d2 := Lib.hid (ref5Bare v hv)
    have hgi : grt u v = max u (if v < 0 then -v else v) := rfl
    have q0 : 0 ≤ (if v < 0 then -v else v) ∧ (if v < 0 then -v else v) ≤ 9223372036854775808 := by unfold Half at hv; split <;> omega
    obtain ⟨q, hq⟩ : ∃ q, (if v < 0 then -v else v) = q := ⟨_, rfl⟩
    rw [hq] at d2 hgi q0
    clear hq
    obtain ⟨q0, q1⟩ := q0
    have hv' := hv
    obtain ⟨v0, v1⟩ := hv'
    have d3 := Lib.hid (ref5Half u (by unfold Half; omega))
    have d4 := Lib.hid (ref5Half v hv)
    by_cases hg : 2305843009213693951 < grt u v
    · obtain ⟨m, rfl, hn2, -⟩ := hl.out.step hg
      have hnext := Lib.hid hn2
      clear hn2 hl
      rcases Int.lt_or_le u q with hm | hm
      all_goals
        have g2 : (u < q → 2305843009213693952 ≤ q) ∧ (q ≤ u → 2305843009213693952 ≤ u) := by omega
        clear hg hgi
        go_wp2_with (first | (go_at_call 37; first | ((with_reducible refine (d1.out _).mono ?_); rintro e wa ⟨rfl, rfl⟩) | ((with_reducible refine (d2.out _).mono ?_); rintro e wa ⟨rfl, rfl⟩)) | (go_at_call 29; first | ((with_reducible refine (d3.out _).mono ?_); rintro e wa ⟨rfl, rfl⟩) | ((with_reducible refine (d4.out _).mono ?_); rintro e wa ⟨rfl, rfl⟩)))
        go_round
        case rel => exact ⟨k + 1, m, _, _, by omega, by go_num, rfl, rfl, hnext⟩
        case measure => simp [intOf]; omega
    · obtain ⟨e1, hs2⟩ := hl.out.stop hg
      rw [hR.out] at hs2
      replace hs2 := Lib.hid hs2
      clear e1 hl
      rcases Int.lt_or_le u q with hm | hm
      all_goals
        have g2 : (u < 2305843009213693952 ∧ q < 2305843009213693952) := by omega
        clear hg hgi
        go_wp2_with (go_at_call 37; first | ((with_reducible refine (d1.out _).mono ?_); rintro e wa ⟨rfl, rfl⟩) | ((with_reducible refine (d2.out _).mono ?_); rintro e wa ⟨rfl, rfl⟩))
        have hs := hs2
        clear hs2 d1 d2 d3 d4 hm g2 q0 q1 u0 u1 v0 v1 j1
        go_loop [5, 6, 9] (fun vu vv vi => ∃ (k n : Nat) (u v : Int), k + n = 60 ∧ vi = .int .i64 k ∧ vu = .int .i64 u ∧ vv = .int .i64 v ∧ Hid (Rise R n u v)) (fun _ _ vi => 64 - (intOf vi).toNat)
        case atStart => exact ⟨0, 60, _, _, rfl, rfl, rfl, rfl, hs⟩
        case round =>
          clear hs
          obtain ⟨k, n, u, v, hk, rfl, rfl, rfl, hl⟩ := hrel
          have j1 : (k : Int) < 64 := by omega
          have hu : (0 ≤ u ∧ u ≤ 9223372036854775807) ∧ Half v := by have := hl.out.bd; unfold Half at *; omega
          obtain ⟨⟨u0, u1⟩, hv⟩ := hu
          have d1 := Lib.hid (ref5Bare u (by unfold Half; omega))
          rw [if_neg (show ¬ u < 0 by omega)] at d1
          have d2 := Lib.hid (ref5Bare v hv)
          have hgi : grt u v = max u (if v < 0 then -v else v) := rfl
          have q0 : 0 ≤ (if v < 0 then -v else v) ∧ (if v < 0 then -v else v) ≤ 9223372036854775808 := by unfold Half at hv; split <;> omega
          obtain ⟨q, hq⟩ : ∃ q, (if v < 0 then -v else v) = q := ⟨_, rfl⟩
          rw [hq] at d2 hgi q0
          clear hq
          obtain ⟨q0, q1⟩ := q0
          have hv' := hv
          obtain ⟨v0, v1⟩ := hv'
  
          by_cases hg : grt u v < 1152921504606846976
          · obtain ⟨⟨m, rfl, hn2⟩, -⟩ := hl.out.step hg
            obtain ⟨⟨b0, b1⟩, b2, b3⟩ := hn2.bd
            have hnext := Lib.hid hn2
            clear hn2 hl
            rcases Int.lt_or_le u q with hm | hm
            all_goals
              have g2 : (u < 1152921504606846976 ∧ q < 1152921504606846976) := by omega
              clear hg hgi
              go_wp2_with ((go_at_call 37; first | ((with_reducible refine (d1.out _).mono ?_); rintro e wa ⟨rfl, rfl⟩) | ((with_reducible refine (d2.out _).mono ?_); rintro e wa ⟨rfl, rfl⟩)))
              go_round
              case rel => exact ⟨k + 1, m, _, _, by omega, by go_num, by go_num, by go_num, hnext⟩
              case measure => simp [intOf]; omega
          · obtain ⟨e1, hl2⟩ := hl.out.stop hg
            have hR2 := Lib.hid e1
            have hlev : Hid (Level R.1 R.2) := by rw [e1]; exact Lib.hid hl2
            clear e1 hl hl2
            rcases Int.lt_or_le u q with hm | hm
            all_goals
              have g2 : (u < q → 1152921504606846976 ≤ q) ∧ (q ≤ u → 1152921504606846976 ≤ u) := by omega
              clear hg hgi
              go_wp2_with (go_at_call 37; first | ((with_reducible refine (d1.out _).mono ?_); rintro e wa ⟨rfl, rfl⟩) | ((with_reducible refine (d2.out _).mono ?_); rintro e wa ⟨rfl, rfl⟩))
              go_loopw [5, 6, 7, 10] (fun vx vy vz vi wr => ∃ (k : Nat) (x y z : Int), k ≤ 30 ∧ vi = .int .i64 k ∧ vx = .int .i64 x ∧ vy = .int .i64 y ∧ vz = .int .i64 (0 + z) ∧ Hid (angAt R.1 R.2 k = (x, y, z)) ∧ Below w.heap.size w wr) (fun _ _ _ vi _ => 30 - (intOf vi).toNat)
              case atStart => exact ⟨0, u, v, 0, Nat.zero_le _, rfl, rfl, rfl, rfl, Lib.hid (by rw [hR2.out]; rfl), Below.refl _ _⟩
              case round =>
                clear d1 d2 hR2 hm g2 q0 q1 u0 u1 v0 v1 j1
                obtain ⟨k, x, y, z, hk, rfl, rfl, rfl, rfl, hx, hB⟩ := hrel
                by_cases hlt : k < 30
                · obtain ⟨x', y', z', t, e5, e6, ⟨x0, x1⟩, ⟨y0, y1⟩, ⟨t0, t1⟩, ⟨z0, z1⟩, hw⟩ := angAt_facts R.1 R.2 hlev.out k hlt
                  obtain ⟨rfl, rfl, rfl⟩ : x' = x ∧ y' = y ∧ z' = z := by
                    have := e5.symm.trans hx.out
                    simp only [Prod.mk.injEq] at this
                    exact this
                  have d1 := Lib.hid (fun W1 : World => ref5Over x' k (by unfold Half; omega) (by omega) W1)
                  have d2 := Lib.hid (fun W1 : World => ref5Over y' k (by unfold Half; omega) (by omega) W1)
                  have d3 := Lib.hid (fun W1 : World => ref5Step k hlt W1)
                  rw [e6] at d3
                  obtain ⟨p, hp⟩ : ∃ p, Hid (x' / 2 ^ k = p) := ⟨_, rfl⟩
                  obtain ⟨q, hq⟩ : ∃ q, Hid (y' / 2 ^ k = q) := ⟨_, rfl⟩
                  rw [hp.out] at d1 hw
                  rw [hq.out] at d2 hw
                  have z2 : -17179869184 ≤ z' := by omega
                  have z3 : z' ≤ 17179869184 := by omega
                  clear e5 e6 hx hp hq z0 z1
                  rcases hw with ⟨c0, e7, ⟨c1, c2⟩, c3, c4⟩ | ⟨c0, e7, ⟨c1, c2⟩, c3, c4⟩
                  all_goals
                    replace e7 := Lib.hid e7
                    go_wp2_with (first | (go_at_call 29; first | ((with_reducible refine (d1.out _).mono ?_); rintro e wa ⟨rfl, rfl⟩) | ((with_reducible refine (d2.out _).mono ?_); rintro e wa ⟨rfl, rfl⟩)) | (go_at_call 30; refine (d3.out _).mono ?_; rintro e wa ⟨rfl, hs1⟩))
                    go_roundw
                    case rel => exact ⟨k + 1, _, _, _, by omega, by go_num, rfl, rfl, by go_num, e7, below_then hB hs1⟩
                    case measure => simp [intOf]; omega
                · obtain rfl : k = 30 := by omega
                  go_wp2
                  go_ret
                  have e9 : (angAt R.1 R.2 30).2.2 = z := by rw [hx.out]
                  exact ⟨retI (by omega), hB⟩
set_option maxRecDepth 100000 in
theorem ref5Angle (y x : Int) (hy : Half y) (hx : Half x) (w : World) :
    Calls Tryd.prog 14 #[.int .i64 y, .int .i64 x] w fun e w' => e = .returned (.int .u32 (angA y x)) ∧ Below w.heap.size w w' := by
  unfold angA
  by_cases h0 : y = 0 ∧ x = 0
  · rw [if_pos h0]
    obtain ⟨rfl, rfl⟩ := h0
    go_enter Tryd.func14, Tryd.ntmps14
    go_wp2
    go_ret
    exact ⟨rfl, Below.refl _ _⟩
  · rw [if_neg h0]
    by_cases hneg : x < 0
    · rw [if_pos hneg]; exact ref5Angle_n y x hy hx hneg (by simp; omega) w
    · rw [if_neg hneg]
      by_cases h : x = 0
      · exact ref5Angle_pb y x hy hx (by omega) h0 (by simp [h]) (by simp; omega) w
      · exact ref5Angle_pa y x hy hx (by omega) h0 (by simp [h]) w

end Go.Proofs.YtneljefoglmldaaDoor
