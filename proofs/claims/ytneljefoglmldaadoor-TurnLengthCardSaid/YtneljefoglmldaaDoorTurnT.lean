/- Cosine and sine in the document's answers. -/
import Derived.Test.YtneljefoglmldaaDoorTurnS
namespace Go.Proofs.YtneljefoglmldaaDoor
open Go.RowKit
set_option linter.unusedVariables false
attribute [local go_sem] cell_re eqW_self
attribute [local go_sem ↓] run_eqlW run_neqW
set_option maxRecDepth 100000 in
set_option maxHeartbeats 4000000 in
theorem ref5Both (a : Int) (ha : Word32 a) (w : World) :
    Calls Tryd.prog 11 #[.int .u32 a] w fun e w' => e = .returned (.tuple #[.int .i64 (cosA a), .int .i64 (sinA a)]) ∧ Below w.heap.size w w' := by
  obtain ⟨q, r, c, s, e1, e2, hr, e3, e4, ⟨c0, c1⟩, ⟨s0, s1⟩, hq⟩ := cosA_facts a ha
  obtain ⟨a0, a1⟩ := ha
  have hA := Lib.hid hr
  obtain ⟨r0, r1⟩ := hr
  replace e1 := Lib.hid e1
  replace e2 := Lib.hid e2
  replace e3 := Lib.hid e3
  replace e4 := Lib.hid e4
  rcases hq with ⟨rfl, x1, x2⟩ | ⟨rfl, x1, x2⟩ | ⟨rfl, x1, x2⟩ | ⟨rfl, x1, x2⟩
  all_goals
    rw [x1, x2]
    clear x1 x2
    go_enter Tryd.func11, Tryd.ntmps11
    go_wp2
    go_loopw [5, 6, 7, 8] (fun vz vx vy vi wr => ∃ (k : Nat) (x y z : Int), k ≤ 30 ∧ vi = .int .i64 k ∧ vx = .int .i64 x ∧ vy = .int .i64 y ∧ vz = .int .i64 z ∧ Hid (bothAt r k = (x, y, z)) ∧ Below w.heap.size w wr) (fun _ _ _ vi _ => 30 - (intOf vi).toNat)
    case atStart => exact ⟨0, 2608131496, 0, r, Nat.zero_le _, rfl, rfl, rfl, by rw [← e2.out], Lib.hid rfl, Below.refl _ _⟩
    case round =>
      obtain ⟨k, x, y, z, hk, rfl, rfl, rfl, rfl, hx, hB⟩ := hrel
      by_cases hlt : k < 30
      · obtain ⟨x', y', z', t, e5, e6, ⟨x0, x1⟩, ⟨y0, y1⟩, ⟨z0, z1⟩, ⟨t0, t1⟩, hw⟩ := bothAt_facts r hA.out k hlt
        obtain ⟨rfl, rfl, rfl⟩ : x' = x ∧ y' = y ∧ z' = z := by
          have := e5.symm.trans hx.out
          simp only [Prod.mk.injEq] at this
          exact this
        have d1 := Lib.hid (fun W1 : World => ref5Over x' k (by unfold Half; omega) (by omega) W1)
        have d2 := Lib.hid (fun W1 : World => ref5Over y' k (by unfold Half; omega) (by omega) W1)
        have d3 := Lib.hid (fun W1 : World => ref5Step k hlt W1)
        rw [e6] at d3
        obtain ⟨u, hu⟩ : ∃ u, Hid (x' / 2 ^ k = u) := ⟨_, rfl⟩
        obtain ⟨v, hv⟩ : ∃ v, Hid (y' / 2 ^ k = v) := ⟨_, rfl⟩
        rw [hu.out] at d1 hw
        rw [hv.out] at d2 hw
        clear e5 e6 hx hu hv
        rcases hw with ⟨c0, e7, ⟨c1, c2⟩, c3, c4⟩ | ⟨c0, e7, ⟨c1, c2⟩, c3, c4⟩
        all_goals
          replace e7 := Lib.hid e7
          go_wp2_with (first | (go_at_call 29; first | ((with_reducible refine (d1.out _).mono ?_); rintro e wa ⟨rfl, rfl⟩) | ((with_reducible refine (d2.out _).mono ?_); rintro e wa ⟨rfl, rfl⟩)) | (go_at_call 30; refine (d3.out _).mono ?_; rintro e wa ⟨rfl, hs1⟩))
          go_roundw
          case rel => exact ⟨k + 1, _, _, _, by omega, by go_num, rfl, rfl, rfl, e7, below_then hB hs1⟩
          case measure => simp [intOf]; omega
      · obtain rfl : k = 30 := by omega
        have p := both_pos r hA.out
        have b := both_bd r 30 (by decide)
        unfold cosOf at e3
        unfold sinOf at e4
        rw [hx.out] at p b e3 e4
        dsimp only at p b e3 e4
        have d1 := Lib.hid (fun W1 : World => ref5Clamp x p.1 (by omega) W1)
        have d2 := Lib.hid (fun W1 : World => ref5Clamp y p.2 (by omega) W1)
        rw [e3.out] at d1
        rw [e4.out] at d2
        clear p b e3 e4 hx hlt hk
        rw [e1.out]
        go_wp2_with (go_at_call 31; first | ((with_reducible refine (d1.out _).mono ?_); rintro e wa ⟨rfl, rfl⟩) | ((with_reducible refine (d2.out _).mono ?_); rintro e wa ⟨rfl, rfl⟩))
        go_ret2
        exact ⟨rfl, hB⟩

end Go.Proofs.YtneljefoglmldaaDoor
