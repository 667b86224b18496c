/- The angle of two numbers, in the program. -/
import Derived.Test.YtneljefoglmldaaDoorTurnLev
import Derived.Test.YtneljefoglmldaaDoorTurnS
namespace Go.Proofs.YtneljefoglmldaaDoor
open Go.RowKit
set_option linter.unusedVariables false
attribute [local go_sem] cell_re eqW_self
attribute [local go_sem ↓] run_eqlW run_neqW

set_option maxRecDepth 100000 in
set_option maxHeartbeats 2000000 in
theorem turnLevel (x0 y0 : Int) (hx : 0 ≤ x0 ∧ x0 ≤ 9223372036854775807) (hy : Half y0) (h0 : ¬ (y0 = 0 ∧ x0 = 0)) (w : World) :
    Calls Tryd.prog 33 #[.int .i64 x0, .int .i64 y0] w fun e w' => e = .returned (.tuple #[.int .i64 (lev x0 y0).1, .int .i64 (lev x0 y0).2]) ∧ Below w.heap.size w w' := by
  have hs := Low.start hx hy h0
  unfold lev
  obtain ⟨L, hL⟩ : ∃ L, lower 3 x0 y0 = L := ⟨_, rfl⟩
  rw [hL] at hs ⊢
  clear hL hx hy h0
  replace hs := Lib.hid hs
  obtain ⟨R, hR⟩ : ∃ R, Hid (raise 60 L.1 L.2 = R) := ⟨_, Lib.hid rfl⟩
  rw [hR.out]
  go_enter Tryd.func33, Tryd.ntmps33
  go_wp2
  go_loopw [0, 1] (fun vx vy wr => ∃ (n : Nat) (x y : Int), vx = .int .i64 x ∧ vy = .int .i64 y ∧ Hid (Low L n x y) ∧ Below w.heap.size w wr) (fun vx vy _ => (intOf vx).toNat + (intOf vy).natAbs)
  case atStart => exact ⟨3, x0, y0, rfl, rfl, hs, Below.refl _ _⟩
  case round =>
    obtain ⟨n, x, y, rfl, rfl, hl, hB⟩ := hrel
    clear hs
    obtain ⟨⟨x0, x1⟩, hy, g1⟩ := hl.out.bd
    have d := Lib.hid (fun W1 : World => turnGreater x y ⟨x0, x1⟩ hy W1)
    obtain ⟨y0, y1⟩ := hy
    by_cases hg : 2305843009213693951 < grt x y
    · obtain ⟨m, rfl, hm, hd⟩ := hl.out.step hg
      replace hm := Lib.hid hm
      have g2 : 2305843009213693951 < min (grt x y) 9223372036854775807 := by omega
      obtain ⟨g, hgg⟩ : ∃ g, min (grt x y) 9223372036854775807 = g := ⟨_, rfl⟩
      rw [hgg] at d g2
      clear hgg hl hg
      go_wp2_with (go_at_call 46; refine (d.out _).mono ?_; rintro e wa ⟨rfl, ha1⟩)
      go_roundw
      case rel => exact ⟨m, x / 2, y / 2, rfl, rfl, hm, below_then hB ha1⟩
      case measure => simp only [intOf]; exact hd
    · obtain ⟨e1, hr⟩ := hl.out.stop hg
      rw [hR.out] at hr
      replace hr := Lib.hid hr
      have g2 : min (grt x y) 9223372036854775807 ≤ 2305843009213693951 := by omega
      obtain ⟨g, hgg⟩ : ∃ g, min (grt x y) 9223372036854775807 = g := ⟨_, rfl⟩
      rw [hgg] at d g2
      clear hgg hl hg e1
      go_wp2_with (go_at_call 46; refine (d.out _).mono ?_; rintro e wa ⟨rfl, ha1⟩)
      replace hB := below_then hB ha1
      clear ha1 d g2
      go_loopw [0, 1] (fun vx vy wr => ∃ (n : Nat) (x y : Int), vx = .int .i64 x ∧ vy = .int .i64 y ∧ Hid (Rise R n x y) ∧ Below w.heap.size w wr) (fun vx vy _ => (4611686018427387904 - (intOf vx + (intOf vy).natAbs)).toNat)
      case atStart => exact ⟨60, x, y, rfl, rfl, hr, hB⟩
      case round =>
        clear hr hB
        obtain ⟨n, u, v, rfl, rfl, hl, hB⟩ := hrel
        obtain ⟨⟨u0, u1⟩, ⟨v0, v1⟩⟩ := hl.out.bd
        have d := Lib.hid (fun W1 : World => turnGreater u v ⟨u0, by omega⟩ (by unfold Half; omega) W1)
        by_cases hg : grt u v < 1152921504606846976
        · obtain ⟨⟨m, rfl, hm⟩, hd⟩ := hl.out.step hg
          have hb := hm.bd
          obtain ⟨⟨b0, b1⟩, b2, b3⟩ := hb
          replace hm := Lib.hid hm
          have g2 : min (grt u v) 9223372036854775807 < 1152921504606846976 := by omega
          obtain ⟨g, hgg⟩ : ∃ g, min (grt u v) 9223372036854775807 = g := ⟨_, rfl⟩
          rw [hgg] at d g2
          clear hgg hl hg
          go_wp2_with (go_at_call 46; refine (d.out _).mono ?_; rintro e wb ⟨rfl, hb1⟩)
          go_roundw
          case rel => exact ⟨m, 2 * u, 2 * v, by go_num, by go_num, hm, below_then hB hb1⟩
          case measure => simp only [intOf]; omega
        · obtain ⟨rfl, hr2⟩ := hl.out.stop hg
          have g2 : 1152921504606846976 ≤ min (grt u v) 9223372036854775807 := by omega
          obtain ⟨g, hgg⟩ : ∃ g, min (grt u v) 9223372036854775807 = g := ⟨_, rfl⟩
          rw [hgg] at d g2
          clear hgg hl hg hr2
          go_wp2_with (go_at_call 46; refine (d.out _).mono ?_; rintro e wb ⟨rfl, hb1⟩)
          go_ret2
          exact ⟨rfl, below_then hB hb1⟩

theorem turnNeg (a : Int) (ha : Half a) : ∃ b : Bool, ∀ w : World, Calls Tryd.prog 32 #[.int .i64 a] w fun e w' => e = .returned (.tuple #[.int .i64 (oppo a), .bool b]) ∧ Below w.heap.size w w' :=
  ⟨cut (-a), fun w => by have := fixNeg a ha w; rw [sat, clipped_neg ha] at this; exact this⟩
set_option maxRecDepth 100000 in
set_option maxHeartbeats 4000000 in
theorem turnAngle_na (y0 x0 : Int) (hy : Half y0) (hx : Half x0) (h0 : x0 < 0) (h1 : (y0 == 0) = false) (w : World) (hS : Steps w) :
    Calls Tryd.prog 13 #[.int .i64 y0, .int .i64 x0] w fun e w' => e = .returned (.int .u32 ((2147483648 + angOf (oppo x0) (oppo y0)) % 4294967296)) ∧ Below w.heap.size w w' := by
  have hB : Below w.heap.size w w := Below.refl _ _
  have hx1 : 0 ≤ oppo x0 ∧ oppo x0 ≤ 9223372036854775807 := by unfold oppo; unfold Half at hx; omega
  have hy1 := oppo_bd hy
  have hn : ¬ (oppo y0 = 0 ∧ oppo x0 = 0) := by unfold oppo; omega
  obtain ⟨b1, n1⟩ := turnNeg y0 hy
  obtain ⟨b2, n2⟩ := turnNeg x0 hx
  replace n1 := Lib.hid n1
  replace n2 := Lib.hid n2
  obtain ⟨p, hp⟩ : ∃ p, Hid (oppo x0 = p) := ⟨_, Lib.hid rfl⟩
  obtain ⟨q, hq'⟩ : ∃ q, Hid (oppo y0 = q) := ⟨_, Lib.hid rfl⟩
  rw [hp.out] at n2 hx1 hn ⊢
  rw [hq'.out] at n1 hy1 hn ⊢
  clear hp hq' hx hy
  obtain ⟨X, Y, hXY⟩ : ∃ X Y, lev p q = (X, Y) := ⟨_, _, rfl⟩
  have hl := lev_level hx1 hy1 hn
  have d := Lib.hid (fun W1 : World => turnLevel p q hx1 hy1 hn W1)
  unfold angOf
  rw [hXY] at hl d ⊢
  dsimp only at hl d ⊢
  replace hl := Lib.hid hl
  clear hXY hx1 hy1 hn
  go_enter Tryd.func13, Tryd.ntmps13
  go_wp2_with fail
  refine (n1.out _).mono ?_
  rintro e wa ⟨rfl, ha1⟩
  replace hB := below_then hB ha1
  replace hS := hS.call ha1
  clear ha1
  go_wp2_with fail
  refine (n2.out _).mono ?_
  rintro e wb ⟨rfl, ha1⟩
  replace hB := below_then hB ha1
  replace hS := hS.call ha1
  clear ha1
  go_wp2_with fail
  refine (d.out _).mono ?_
  rintro e w1 ⟨rfl, hb1⟩
  have hS1 := hS.call hb1
  clear hS
  replace hB := below_then hB hb1
  clear hb1 d
  obtain ⟨tt, fr, hg⟩ := hS1
  go_wp2_with (refine wpList_load_row rfl 52 _ rfl 0 rfl tt _ fr _ hg Tryd.underlying52 rfl (by kernel_rfl) ?_)
  clear hg
  go_loopw [0, 1, 5, 33] (fun vy vx va vi wr => ∃ (k : Nat) (x y z A : Int), k ≤ 30 ∧ vi = .int .i64 k ∧ vx = .int .i64 x ∧ vy = .int .i64 y ∧ va = .int .u32 A ∧ (0 ≤ A ∧ A ≤ 4294967295) ∧ Hid (A = (2147483648 + z) % 4294967296) ∧ Hid (angAt X Y k = (x, y, z)) ∧ Below w.heap.size w wr) (fun _ _ _ vi _ => 30 - (intOf vi).toNat)
  case atStart => exact ⟨0, X, Y, 0, 2147483648, Nat.zero_le _, rfl, rfl, rfl, rfl, ⟨by omega, by omega⟩, Lib.hid (by omega), Lib.hid rfl, hB⟩
  case round =>
    clear hB
    obtain ⟨k, x, y, z, A, hk, rfl, rfl, rfl, rfl, ⟨A0, A1⟩, hA, hx, hB⟩ := hrel
    by_cases hlt : k < 30
    · obtain ⟨x', y', z', t, e5, e6, ⟨x0, x1⟩, ⟨y0, y1⟩, ⟨t0, t1⟩, ⟨z0, z1⟩, hw⟩ := angAt_facts X Y hl.out k hlt
      obtain ⟨rfl, rfl, rfl⟩ : x' = x ∧ y' = y ∧ z' = z := by
        have := e5.symm.trans hx.out
        simp only [Prod.mk.injEq] at this
        exact this
      have hr := steps_index k hlt wr
      rw [e6] at hr
      clear e5 e6 hx z0 z1
      rcases hw with ⟨c0, e7, ⟨c1, c2⟩, c3, c4⟩ | ⟨c0, e7, ⟨c1, c2⟩, c3, c4⟩
      · have d := Lib.hid (fun W1 : World => turnOtherWay x' y' k (by unfold Half; omega) (by unfold Half; omega) hlt (by unfold Half; omega) (by unfold Half; omega) W1)
        replace e7 := Lib.hid e7
        obtain ⟨u, hu⟩ : ∃ u, Hid (x' + y' / 2 ^ k = u) := ⟨_, rfl⟩
        obtain ⟨v, hv⟩ : ∃ v, Hid (y' - x' / 2 ^ k = v) := ⟨_, rfl⟩
        rw [hu.out] at d c1 c2 e7
        rw [hv.out] at d c3 c4 e7
        clear hu hv
        go_wp2_with (go_at_call 34; refine (d.out _).mono ?_; rintro e wa ⟨rfl, ha1⟩)
        go_roundw
        case rel => exact ⟨k + 1, u, v, z' + t, _, by omega, by go_num, rfl, rfl, rfl, ⟨by omega, by omega⟩, Lib.hid (by have := hA.out; omega), e7, below_then hB ha1⟩
        case measure => simp [intOf]; omega
      · have d := Lib.hid (fun W1 : World => turnOneWay x' y' k (by unfold Half; omega) (by unfold Half; omega) hlt (by unfold Half; omega) (by unfold Half; omega) W1)
        replace e7 := Lib.hid e7
        obtain ⟨u, hu⟩ : ∃ u, Hid (x' - y' / 2 ^ k = u) := ⟨_, rfl⟩
        obtain ⟨v, hv⟩ : ∃ v, Hid (y' + x' / 2 ^ k = v) := ⟨_, rfl⟩
        rw [hu.out] at d c1 c2 e7
        rw [hv.out] at d c3 c4 e7
        clear hu hv
        go_wp2_with (go_at_call 35; refine (d.out _).mono ?_; rintro e wa ⟨rfl, ha1⟩)
        go_roundw
        case rel => exact ⟨k + 1, u, v, z' - t, _, by omega, by go_num, rfl, rfl, rfl, ⟨by omega, by omega⟩, Lib.hid (by have := hA.out; omega), e7, below_then hB ha1⟩
        case measure => simp [intOf]; omega
    · obtain rfl : k = 30 := by omega
      go_wp2
      go_ret
      exact ⟨retI (by rw [hx.out]; exact hA.out), hB⟩
set_option maxRecDepth 100000 in
set_option maxHeartbeats 4000000 in
theorem turnAngle_nb (y0 x0 : Int) (hy : Half y0) (hx : Half x0) (h0 : x0 < 0) (h1 : (y0 == 0) = true) (h2 : (x0 == 0) = false) (w : World) (hS : Steps w) :
    Calls Tryd.prog 13 #[.int .i64 y0, .int .i64 x0] w fun e w' => e = .returned (.int .u32 ((2147483648 + angOf (oppo x0) (oppo y0)) % 4294967296)) ∧ Below w.heap.size w w' := by
  have hB : Below w.heap.size w w := Below.refl _ _
  have hx1 : 0 ≤ oppo x0 ∧ oppo x0 ≤ 9223372036854775807 := by unfold oppo; unfold Half at hx; omega
  have hy1 := oppo_bd hy
  have hn : ¬ (oppo y0 = 0 ∧ oppo x0 = 0) := by unfold oppo; omega
  obtain ⟨b1, n1⟩ := turnNeg y0 hy
  obtain ⟨b2, n2⟩ := turnNeg x0 hx
  replace n1 := Lib.hid n1
  replace n2 := Lib.hid n2
  obtain ⟨p, hp⟩ : ∃ p, Hid (oppo x0 = p) := ⟨_, Lib.hid rfl⟩
  obtain ⟨q, hq'⟩ : ∃ q, Hid (oppo y0 = q) := ⟨_, Lib.hid rfl⟩
  rw [hp.out] at n2 hx1 hn ⊢
  rw [hq'.out] at n1 hy1 hn ⊢
  clear hp hq' hx hy
  obtain ⟨X, Y, hXY⟩ : ∃ X Y, lev p q = (X, Y) := ⟨_, _, rfl⟩
  have hl := lev_level hx1 hy1 hn
  have d := Lib.hid (fun W1 : World => turnLevel p q hx1 hy1 hn W1)
  unfold angOf
  rw [hXY] at hl d ⊢
  dsimp only at hl d ⊢
  replace hl := Lib.hid hl
  clear hXY hx1 hy1 hn
  go_enter Tryd.func13, Tryd.ntmps13
  go_wp2_with fail
  refine (n1.out _).mono ?_
  rintro e wa ⟨rfl, ha1⟩
  replace hB := below_then hB ha1
  replace hS := hS.call ha1
  clear ha1
  go_wp2_with fail
  refine (n2.out _).mono ?_
  rintro e wb ⟨rfl, ha1⟩
  replace hB := below_then hB ha1
  replace hS := hS.call ha1
  clear ha1
  go_wp2_with fail
  refine (d.out _).mono ?_
  rintro e w1 ⟨rfl, hb1⟩
  have hS1 := hS.call hb1
  clear hS
  replace hB := below_then hB hb1
  clear hb1 d
  obtain ⟨tt, fr, hg⟩ := hS1
  go_wp2_with (refine wpList_load_row rfl 52 _ rfl 0 rfl tt _ fr _ hg Tryd.underlying52 rfl (by kernel_rfl) ?_)
  clear hg
  go_loopw [0, 1, 5, 33] (fun vy vx va vi wr => ∃ (k : Nat) (x y z A : Int), k ≤ 30 ∧ vi = .int .i64 k ∧ vx = .int .i64 x ∧ vy = .int .i64 y ∧ va = .int .u32 A ∧ (0 ≤ A ∧ A ≤ 4294967295) ∧ Hid (A = (2147483648 + z) % 4294967296) ∧ Hid (angAt X Y k = (x, y, z)) ∧ Below w.heap.size w wr) (fun _ _ _ vi _ => 30 - (intOf vi).toNat)
  case atStart => exact ⟨0, X, Y, 0, 2147483648, Nat.zero_le _, rfl, rfl, rfl, rfl, ⟨by omega, by omega⟩, Lib.hid (by omega), Lib.hid rfl, hB⟩
  case round =>
    clear hB
    obtain ⟨k, x, y, z, A, hk, rfl, rfl, rfl, rfl, ⟨A0, A1⟩, hA, hx, hB⟩ := hrel
    by_cases hlt : k < 30
    · obtain ⟨x', y', z', t, e5, e6, ⟨x0, x1⟩, ⟨y0, y1⟩, ⟨t0, t1⟩, ⟨z0, z1⟩, hw⟩ := angAt_facts X Y hl.out k hlt
      obtain ⟨rfl, rfl, rfl⟩ : x' = x ∧ y' = y ∧ z' = z := by
        have := e5.symm.trans hx.out
        simp only [Prod.mk.injEq] at this
        exact this
      have hr := steps_index k hlt wr
      rw [e6] at hr
      clear e5 e6 hx z0 z1
      rcases hw with ⟨c0, e7, ⟨c1, c2⟩, c3, c4⟩ | ⟨c0, e7, ⟨c1, c2⟩, c3, c4⟩
      · have d := Lib.hid (fun W1 : World => turnOtherWay x' y' k (by unfold Half; omega) (by unfold Half; omega) hlt (by unfold Half; omega) (by unfold Half; omega) W1)
        replace e7 := Lib.hid e7
        obtain ⟨u, hu⟩ : ∃ u, Hid (x' + y' / 2 ^ k = u) := ⟨_, rfl⟩
        obtain ⟨v, hv⟩ : ∃ v, Hid (y' - x' / 2 ^ k = v) := ⟨_, rfl⟩
        rw [hu.out] at d c1 c2 e7
        rw [hv.out] at d c3 c4 e7
        clear hu hv
        go_wp2_with (go_at_call 34; refine (d.out _).mono ?_; rintro e wa ⟨rfl, ha1⟩)
        go_roundw
        case rel => exact ⟨k + 1, u, v, z' + t, _, by omega, by go_num, rfl, rfl, rfl, ⟨by omega, by omega⟩, Lib.hid (by have := hA.out; omega), e7, below_then hB ha1⟩
        case measure => simp [intOf]; omega
      · have d := Lib.hid (fun W1 : World => turnOneWay x' y' k (by unfold Half; omega) (by unfold Half; omega) hlt (by unfold Half; omega) (by unfold Half; omega) W1)
        replace e7 := Lib.hid e7
        obtain ⟨u, hu⟩ : ∃ u, Hid (x' - y' / 2 ^ k = u) := ⟨_, rfl⟩
        obtain ⟨v, hv⟩ : ∃ v, Hid (y' + x' / 2 ^ k = v) := ⟨_, rfl⟩
        rw [hu.out] at d c1 c2 e7
        rw [hv.out] at d c3 c4 e7
        clear hu hv
        go_wp2_with (go_at_call 35; refine (d.out _).mono ?_; rintro e wa ⟨rfl, ha1⟩)
        go_roundw
        case rel => exact ⟨k + 1, u, v, z' - t, _, by omega, by go_num, rfl, rfl, rfl, ⟨by omega, by omega⟩, Lib.hid (by have := hA.out; omega), e7, below_then hB ha1⟩
        case measure => simp [intOf]; omega
    · obtain rfl : k = 30 := by omega
      go_wp2
      go_ret
      exact ⟨retI (by rw [hx.out]; exact hA.out), hB⟩
set_option maxRecDepth 100000 in
set_option maxHeartbeats 4000000 in
theorem turnAngle_pa (y0 x0 : Int) (hy : Half y0) (hx : Half x0) (h0 : 0 ≤ x0) (hn : ¬ (y0 = 0 ∧ x0 = 0)) (h1 : (y0 == 0) = false) (w : World) (hS : Steps w) :
    Calls Tryd.prog 13 #[.int .i64 y0, .int .i64 x0] w fun e w' => e = .returned (.int .u32 ((0 + angOf x0 y0) % 4294967296)) ∧ Below w.heap.size w w' := by
  have hB : Below w.heap.size w w := Below.refl _ _
  have hx1 : 0 ≤ x0 ∧ x0 ≤ 9223372036854775807 := ⟨h0, hx.2⟩
  have hy1 := hy
  obtain ⟨hx2, hx3⟩ := hx
  obtain ⟨hy2, hy3⟩ := hy
  obtain ⟨X, Y, hXY⟩ : ∃ X Y, lev x0 y0 = (X, Y) := ⟨_, _, rfl⟩
  have hl := lev_level hx1 hy1 hn
  have d := Lib.hid (fun W1 : World => turnLevel x0 y0 hx1 hy1 hn W1)
  unfold angOf
  rw [hXY] at hl d ⊢
  dsimp only at hl d ⊢
  replace hl := Lib.hid hl
  clear hXY hx1 hy1 hn
  go_enter Tryd.func13, Tryd.ntmps13
  go_wp2_with fail
  refine (d.out _).mono ?_
  rintro e w1 ⟨rfl, hb1⟩
  have hS1 := hS.call hb1
  clear hS
  replace hB := below_then hB hb1
  clear hb1 d
  obtain ⟨tt, fr, hg⟩ := hS1
  go_wp2_with (refine wpList_load_row rfl 52 _ rfl 0 rfl tt _ fr _ hg Tryd.underlying52 rfl (by kernel_rfl) ?_)
  clear hg
  go_loopw [0, 1, 5, 33] (fun vy vx va vi wr => ∃ (k : Nat) (x y z A : Int), k ≤ 30 ∧ vi = .int .i64 k ∧ vx = .int .i64 x ∧ vy = .int .i64 y ∧ va = .int .u32 A ∧ (0 ≤ A ∧ A ≤ 4294967295) ∧ Hid (A = (0 + z) % 4294967296) ∧ Hid (angAt X Y k = (x, y, z)) ∧ Below w.heap.size w wr) (fun _ _ _ vi _ => 30 - (intOf vi).toNat)
  case atStart => exact ⟨0, X, Y, 0, 0, Nat.zero_le _, rfl, rfl, rfl, rfl, ⟨by omega, by omega⟩, Lib.hid (by omega), Lib.hid rfl, hB⟩
  case round =>
    clear hB
    obtain ⟨k, x, y, z, A, hk, rfl, rfl, rfl, rfl, ⟨A0, A1⟩, hA, hx, hB⟩ := hrel
    by_cases hlt : k < 30
    · obtain ⟨x', y', z', t, e5, e6, ⟨x0, x1⟩, ⟨y0, y1⟩, ⟨t0, t1⟩, ⟨z0, z1⟩, hw⟩ := angAt_facts X Y hl.out k hlt
      obtain ⟨rfl, rfl, rfl⟩ : x' = x ∧ y' = y ∧ z' = z := by
        have := e5.symm.trans hx.out
        simp only [Prod.mk.injEq] at this
        exact this
      have hr := steps_index k hlt wr
      rw [e6] at hr
      clear e5 e6 hx z0 z1
      rcases hw with ⟨c0, e7, ⟨c1, c2⟩, c3, c4⟩ | ⟨c0, e7, ⟨c1, c2⟩, c3, c4⟩
      · have d := Lib.hid (fun W1 : World => turnOtherWay x' y' k (by unfold Half; omega) (by unfold Half; omega) hlt (by unfold Half; omega) (by unfold Half; omega) W1)
        replace e7 := Lib.hid e7
        obtain ⟨u, hu⟩ : ∃ u, Hid (x' + y' / 2 ^ k = u) := ⟨_, rfl⟩
        obtain ⟨v, hv⟩ : ∃ v, Hid (y' - x' / 2 ^ k = v) := ⟨_, rfl⟩
        rw [hu.out] at d c1 c2 e7
        rw [hv.out] at d c3 c4 e7
        clear hu hv
        go_wp2_with (go_at_call 34; refine (d.out _).mono ?_; rintro e wa ⟨rfl, ha1⟩)
        go_roundw
        case rel => exact ⟨k + 1, u, v, z' + t, _, by omega, by go_num, rfl, rfl, rfl, ⟨by omega, by omega⟩, Lib.hid (by have := hA.out; omega), e7, below_then hB ha1⟩
        case measure => simp [intOf]; omega
      · have d := Lib.hid (fun W1 : World => turnOneWay x' y' k (by unfold Half; omega) (by unfold Half; omega) hlt (by unfold Half; omega) (by unfold Half; omega) W1)
        replace e7 := Lib.hid e7
        obtain ⟨u, hu⟩ : ∃ u, Hid (x' - y' / 2 ^ k = u) := ⟨_, rfl⟩
        obtain ⟨v, hv⟩ : ∃ v, Hid (y' + x' / 2 ^ k = v) := ⟨_, rfl⟩
        rw [hu.out] at d c1 c2 e7
        rw [hv.out] at d c3 c4 e7
        clear hu hv
        go_wp2_with (go_at_call 35; refine (d.out _).mono ?_; rintro e wa ⟨rfl, ha1⟩)
        go_roundw
        case rel => exact ⟨k + 1, u, v, z' - t, _, by omega, by go_num, rfl, rfl, rfl, ⟨by omega, by omega⟩, Lib.hid (by have := hA.out; omega), e7, below_then hB ha1⟩
        case measure => simp [intOf]; omega
    · obtain rfl : k = 30 := by omega
      go_wp2
      go_ret
      exact ⟨retI (by rw [hx.out]; exact hA.out), hB⟩
set_option maxRecDepth 100000 in
set_option maxHeartbeats 4000000 in
theorem turnAngle_pb (y0 x0 : Int) (hy : Half y0) (hx : Half x0) (h0 : 0 ≤ x0) (hn : ¬ (y0 = 0 ∧ x0 = 0)) (h1 : (y0 == 0) = true) (h2 : (x0 == 0) = false) (w : World) (hS : Steps w) :
    Calls Tryd.prog 13 #[.int .i64 y0, .int .i64 x0] w fun e w' => e = .returned (.int .u32 ((0 + angOf x0 y0) % 4294967296)) ∧ Below w.heap.size w w' := by
  have hB : Below w.heap.size w w := Below.refl _ _
  have hx1 : 0 ≤ x0 ∧ x0 ≤ 9223372036854775807 := ⟨h0, hx.2⟩
  have hy1 := hy
  obtain ⟨hx2, hx3⟩ := hx
  obtain ⟨hy2, hy3⟩ := hy
  obtain ⟨X, Y, hXY⟩ : ∃ X Y, lev x0 y0 = (X, Y) := ⟨_, _, rfl⟩
  have hl := lev_level hx1 hy1 hn
  have d := Lib.hid (fun W1 : World => turnLevel x0 y0 hx1 hy1 hn W1)
  unfold angOf
  rw [hXY] at hl d ⊢
  dsimp only at hl d ⊢
  replace hl := Lib.hid hl
  clear hXY hx1 hy1 hn
  go_enter Tryd.func13, Tryd.ntmps13
  go_wp2_with fail
  refine (d.out _).mono ?_
  rintro e w1 ⟨rfl, hb1⟩
  have hS1 := hS.call hb1
  clear hS
  replace hB := below_then hB hb1
  clear hb1 d
  obtain ⟨tt, fr, hg⟩ := hS1
  go_wp2_with (refine wpList_load_row rfl 52 _ rfl 0 rfl tt _ fr _ hg Tryd.underlying52 rfl (by kernel_rfl) ?_)
  clear hg
  go_loopw [0, 1, 5, 33] (fun vy vx va vi wr => ∃ (k : Nat) (x y z A : Int), k ≤ 30 ∧ vi = .int .i64 k ∧ vx = .int .i64 x ∧ vy = .int .i64 y ∧ va = .int .u32 A ∧ (0 ≤ A ∧ A ≤ 4294967295) ∧ Hid (A = (0 + z) % 4294967296) ∧ Hid (angAt X Y k = (x, y, z)) ∧ Below w.heap.size w wr) (fun _ _ _ vi _ => 30 - (intOf vi).toNat)
  case atStart => exact ⟨0, X, Y, 0, 0, Nat.zero_le _, rfl, rfl, rfl, rfl, ⟨by omega, by omega⟩, Lib.hid (by omega), Lib.hid rfl, hB⟩
  case round =>
    clear hB
    obtain ⟨k, x, y, z, A, hk, rfl, rfl, rfl, rfl, ⟨A0, A1⟩, hA, hx, hB⟩ := hrel
    by_cases hlt : k < 30
    · obtain ⟨x', y', z', t, e5, e6, ⟨x0, x1⟩, ⟨y0, y1⟩, ⟨t0, t1⟩, ⟨z0, z1⟩, hw⟩ := angAt_facts X Y hl.out k hlt
      obtain ⟨rfl, rfl, rfl⟩ : x' = x ∧ y' = y ∧ z' = z := by
        have := e5.symm.trans hx.out
        simp only [Prod.mk.injEq] at this
        exact this
      have hr := steps_index k hlt wr
      rw [e6] at hr
      clear e5 e6 hx z0 z1
      rcases hw with ⟨c0, e7, ⟨c1, c2⟩, c3, c4⟩ | ⟨c0, e7, ⟨c1, c2⟩, c3, c4⟩
      · have d := Lib.hid (fun W1 : World => turnOtherWay x' y' k (by unfold Half; omega) (by unfold Half; omega) hlt (by unfold Half; omega) (by unfold Half; omega) W1)
        replace e7 := Lib.hid e7
        obtain ⟨u, hu⟩ : ∃ u, Hid (x' + y' / 2 ^ k = u) := ⟨_, rfl⟩
        obtain ⟨v, hv⟩ : ∃ v, Hid (y' - x' / 2 ^ k = v) := ⟨_, rfl⟩
        rw [hu.out] at d c1 c2 e7
        rw [hv.out] at d c3 c4 e7
        clear hu hv
        go_wp2_with (go_at_call 34; refine (d.out _).mono ?_; rintro e wa ⟨rfl, ha1⟩)
        go_roundw
        case rel => exact ⟨k + 1, u, v, z' + t, _, by omega, by go_num, rfl, rfl, rfl, ⟨by omega, by omega⟩, Lib.hid (by have := hA.out; omega), e7, below_then hB ha1⟩
        case measure => simp [intOf]; omega
      · have d := Lib.hid (fun W1 : World => turnOneWay x' y' k (by unfold Half; omega) (by unfold Half; omega) hlt (by unfold Half; omega) (by unfold Half; omega) W1)
        replace e7 := Lib.hid e7
        obtain ⟨u, hu⟩ : ∃ u, Hid (x' - y' / 2 ^ k = u) := ⟨_, rfl⟩
        obtain ⟨v, hv⟩ : ∃ v, Hid (y' + x' / 2 ^ k = v) := ⟨_, rfl⟩
        rw [hu.out] at d c1 c2 e7
        rw [hv.out] at d c3 c4 e7
        clear hu hv
        go_wp2_with (go_at_call 35; refine (d.out _).mono ?_; rintro e wa ⟨rfl, ha1⟩)
        go_roundw
        case rel => exact ⟨k + 1, u, v, z' - t, _, by omega, by go_num, rfl, rfl, rfl, ⟨by omega, by omega⟩, Lib.hid (by have := hA.out; omega), e7, below_then hB ha1⟩
        case measure => simp [intOf]; omega
    · obtain rfl : k = 30 := by omega
      go_wp2
      go_ret
      exact ⟨retI (by rw [hx.out]; exact hA.out), hB⟩
set_option maxRecDepth 100000 in
theorem turnAngle (y x : Int) (hy : Half y) (hx : Half x) (w : World) (hS : Steps w) :
    Calls Tryd.prog 13 #[.int .i64 y, .int .i64 x] w fun e w' => e = .returned (.int .u32 (angA y x)) ∧ Below w.heap.size w w' := by
  unfold angA
  by_cases h0 : y = 0 ∧ x = 0
  · rw [if_pos h0]
    obtain ⟨rfl, rfl⟩ := h0
    go_enter Tryd.func13, Tryd.ntmps13
    go_wp2
    go_ret
    exact ⟨rfl, Below.refl _ _⟩
  · rw [if_neg h0]
    by_cases h : y = 0
    · have h1 : (y == 0) = true := by simp [h]
      have h2 : (x == 0) = false := by simp; omega
      by_cases hneg : x < 0
      · rw [if_pos hneg]; exact turnAngle_nb y x hy hx hneg h1 h2 w hS
      · rw [if_neg hneg]; exact turnAngle_pb y x hy hx (by omega) h0 h1 h2 w hS
    · have h1 : (y == 0) = false := by simp [h]
      by_cases hneg : x < 0
      · rw [if_pos hneg]; exact turnAngle_na y x hy hx hneg h1 w hS
      · rw [if_neg hneg]; exact turnAngle_pa y x hy hx (by omega) h0 h1 w hS

end Go.Proofs.YtneljefoglmldaaDoor
