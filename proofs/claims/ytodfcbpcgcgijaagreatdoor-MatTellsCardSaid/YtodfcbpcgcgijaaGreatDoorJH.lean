import Derived.Test.YtodfcbpcgcgijaaGreatDoorJA
import Derived.Test.YtodfcbpcgcgijaaGreatDoorJG
import Derived.Test.YtodfcbpcgcgijaaGreatDoorRows
import Derived.Test.YtodfcbpcgcgijaaGreatDoorJB
import Derived.Lib.LaidTab
import Derived.LaidMore
import Derived.MakeChecks
import Derived.LaidHandle
/- Two numbers, shifted alike until the greater one is within the bounds; and the angle of any two. -/
namespace Go.Proofs.YtodfcbpcgcgijaaGreatDoor
set_option maxRecDepth 100000
open Go.RowKit
set_option linter.unusedVariables false

def lower : Nat → Int → Int → Int × Int
  | 0, x, y => (x, y)
  | n + 1, x, y => if 2305843009213693951 < grt x y then lower n (x / 2) (y / 2) else (x, y)
def raise : Nat → Int → Int → Int × Int
  | 0, x, y => (x, y)
  | n + 1, x, y => if grt x y < 1152921504606846976 then raise n (2 * x) (2 * y) else (x, y)
def lev (x y : Int) : Int × Int := raise 60 (lower 3 x y).1 (lower 3 x y).2
/-- The angle of x (not below 0) and y. -/
def angOf (x y : Int) : Int := (angAt (lev x y).1 (lev x y).2 30).2.2
/-- The angle of y and x. -/
def angA (y x : Int) : Int := if y = 0 ∧ x = 0 then 0 else if x < 0 then (2147483648 + angOf (oppo x) (oppo y)) % 4294967296 else (0 + angOf x y) % 4294967296
theorem grt_two (x y : Int) : grt (2 * x) (2 * y) = 2 * grt x y := by
  unfold grt
  split <;> split <;> omega
theorem grt_is (x y : Int) (h : 0 ≤ x) : x ≤ grt x y ∧ y ≤ grt x y ∧ -y ≤ grt x y ∧ (grt x y = x ∨ grt x y = y ∨ grt x y = -y) := by
  unfold grt
  split <;> omega
/-- On the way down, and on the way up. -/
def Low (L : Int × Int) (n : Nat) (x y : Int) : Prop := n ≤ 3 ∧ lower n x y = L ∧ 0 ≤ x ∧ x < 1152921504606846976 * 2 ^ n ∧ -(1152921504606846976 * 2 ^ n) ≤ y ∧ y < 1152921504606846976 * 2 ^ n ∧ 1 ≤ grt x y
def Rise (L : Int × Int) (n : Nat) (x y : Int) : Prop := n ≤ 60 ∧ raise n x y = L ∧ 0 ≤ x ∧ 1 ≤ grt x y ∧ grt x y ≤ 2305843009213693951 ∧ 1152921504606846976 ≤ grt x y * 2 ^ n
theorem pow_3 {n : Nat} (h : n ≤ 3) : (2 : Int) ^ n ≤ 8 := by
  match n, h with
  | 0, _ | 1, _ | 2, _ | 3, _ => decide
theorem Low.bd {L : Int × Int} {n : Nat} {x y : Int} (h : Low L n x y) : (0 ≤ x ∧ x ≤ 9223372036854775807) ∧ Half y ∧ 1 ≤ grt x y := by
  obtain ⟨h0, h1, h2, h3, h4, h5, h6⟩ := h
  have := pow_3 h0
  unfold Half
  omega
theorem Low.start {x y : Int} (hx : 0 ≤ x ∧ x ≤ 9223372036854775807) (hy : Half y) (h : ¬ (y = 0 ∧ x = 0)) : Low (lower 3 x y) 3 x y := by
  unfold Half at hy
  refine ⟨Nat.le_refl _, rfl, hx.1, ?_, ?_, ?_, ?_⟩
  · rw [show (2 : Int) ^ 3 = 8 from rfl]; omega
  · rw [show (2 : Int) ^ 3 = 8 from rfl]; omega
  · rw [show (2 : Int) ^ 3 = 8 from rfl]; omega
  · unfold grt; split <;> omega
theorem Low.step {L : Int × Int} {n : Nat} {x y : Int} (h : Low L n x y) (hg : 2305843009213693951 < grt x y) : ∃ m, n = m + 1 ∧ Low L m (x / 2) (y / 2) ∧ (x / 2).toNat + (y / 2).natAbs < x.toNat + y.natAbs := by
  obtain ⟨h0, h1, h2, h3, h4, h5, h6⟩ := h
  match n with
  | 0 =>
    rw [show (2 : Int) ^ 0 = 1 from rfl] at h3 h4 h5
    unfold grt at hg
    split at hg <;> omega
  | m + 1 =>
    rw [lower, if_pos hg] at h1
    rw [Int.pow_succ] at h3 h4 h5
    have hp := two_pow_pos m
    have e : 1152921504606846976 * ((2 : Int) ^ m * 2) = 2 * (1152921504606846976 * 2 ^ m) := by omega
    rw [e] at h3 h4 h5
    refine ⟨m, rfl, ⟨by omega, h1, by omega, by omega, by omega, by omega, ?_⟩, ?_⟩
    · unfold grt at hg ⊢
      split at hg <;> split <;> omega
    · unfold grt at hg
      split at hg <;> omega
theorem Low.stop {L : Int × Int} {n : Nat} {x y : Int} (h : Low L n x y) (hg : ¬ 2305843009213693951 < grt x y) : L = (x, y) ∧ Rise (raise 60 L.1 L.2) 60 x y := by
  obtain ⟨h0, h1, h2, h3, h4, h5, h6⟩ := h
  have e : L = (x, y) := by
    rw [← h1]
    match n with
    | 0 => rfl
    | m + 1 => rw [lower, if_neg hg]
  refine ⟨e, Nat.le_refl _, by rw [e], h2, h6, by omega, ?_⟩
  have := Int.mul_le_mul_of_nonneg_right h6 (show (0 : Int) ≤ 2 ^ 60 by decide)
  have e2 : (2 : Int) ^ 60 = 1152921504606846976 := by decide
  omega
theorem Rise.bd {L : Int × Int} {n : Nat} {x y : Int} (h : Rise L n x y) : (0 ≤ x ∧ x ≤ 2305843009213693951) ∧ (-2305843009213693951 ≤ y ∧ y ≤ 2305843009213693951) := by
  obtain ⟨h0, h1, h2, h3, h4, h5⟩ := h
  have := grt_is x y h2
  omega
theorem Rise.step {L : Int × Int} {n : Nat} {x y : Int} (h : Rise L n x y) (hg : grt x y < 1152921504606846976) : (∃ m, n = m + 1 ∧ Rise L m (2 * x) (2 * y)) ∧
    (4611686018427387904 - (2 * x + (2 * y).natAbs)).toNat < (4611686018427387904 - (x + y.natAbs)).toNat := by
  obtain ⟨h0, h1, h2, h3, h4, h5⟩ := h
  have hi := grt_is x y h2
  refine ⟨?_, by omega⟩
  match n with
  | 0 =>
    rw [show (2 : Int) ^ 0 = 1 from rfl] at h5
    omega
  | m + 1 =>
    rw [raise, if_pos hg] at h1
    refine ⟨m, rfl, by omega, h1, by omega, by rw [grt_two]; omega, by rw [grt_two]; omega, ?_⟩
    rw [grt_two]
    rw [Int.pow_succ] at h5
    have e : 2 * grt x y * 2 ^ m = grt x y * (2 ^ m * 2) := by grind
    omega
theorem Rise.stop {L : Int × Int} {n : Nat} {x y : Int} (h : Rise L n x y) (hg : ¬ grt x y < 1152921504606846976) : L = (x, y) ∧ Level x y := by
  have hb := h.bd
  obtain ⟨h0, h1, h2, h3, h4, h5⟩ := h
  have hi := grt_is x y h2
  refine ⟨?_, by unfold Level; omega⟩
  rw [← h1]
  match n with
  | 0 => rfl
  | m + 1 => rw [raise, if_neg hg]
theorem raise_level {L : Int × Int} : ∀ {n : Nat} {x y : Int}, Rise L n x y → Level L.1 L.2
  | 0, x, y, h => by
    by_cases hg : grt x y < 1152921504606846976
    · obtain ⟨⟨m, e, _⟩, _⟩ := h.step hg
      omega
    · obtain ⟨e, hl⟩ := h.stop hg
      rw [e]
      exact hl
  | n + 1, x, y, h => by
    by_cases hg : grt x y < 1152921504606846976
    · obtain ⟨⟨m, e, h'⟩, _⟩ := h.step hg
      obtain rfl : m = n := by omega
      exact raise_level h'
    · obtain ⟨e, hl⟩ := h.stop hg
      rw [e]
      exact hl
theorem low_level {L : Int × Int} : ∀ {n : Nat} {x y : Int}, Low L n x y → Level (raise 60 L.1 L.2).1 (raise 60 L.1 L.2).2
  | n, x, y, h => by
    by_cases hg : 2305843009213693951 < grt x y
    · match n with
      | 0 => obtain ⟨m, e, _⟩ := h.step hg; omega
      | n + 1 =>
        obtain ⟨m, e, h', _⟩ := h.step hg
        obtain rfl : m = n := by omega
        exact low_level h'
    · exact raise_level (h.stop hg).2
theorem lev_level {x y : Int} (hx : 0 ≤ x ∧ x ≤ 9223372036854775807) (hy : Half y) (h : ¬ (y = 0 ∧ x = 0)) : Level (lev x y).1 (lev x y).2 := low_level (Low.start hx hy h)
theorem oppo_bd {a : Int} (ha : Half a) : Half (oppo a) := by unfold Half oppo at *; omega
theorem clipped_neg {a : Int} (ha : Half a) : clipped (-a) = oppo a := by unfold Half at ha; unfold clipped oppo; omega
theorem angAt_facts (X Y : Int) (hL : Level X Y) (k : Nat) (hk : k < 30) : ∃ x y z t, angAt X Y k = (x, y, z) ∧ stp k = t ∧ (0 ≤ x ∧ x ≤ 9223372036854775000) ∧ (-9223372036854775100 ≤ y ∧ y ≤ 9223372036854775100) ∧ (1 ≤ t ∧ t ≤ 536870912) ∧ (-(536870912 * k) ≤ z ∧ z ≤ 536870912 * k) ∧
    ((0 ≤ y ∧ angAt X Y (k + 1) = (x + y / 2 ^ k, y - x / 2 ^ k, z + t) ∧ (0 ≤ x + y / 2 ^ k ∧ x + y / 2 ^ k ≤ 9223372036854775000) ∧ (-9223372036854775100 ≤ y - x / 2 ^ k ∧ y - x / 2 ^ k ≤ 9223372036854775100)) ∨
     (y < 0 ∧ angAt X Y (k + 1) = (x - y / 2 ^ k, y + x / 2 ^ k, z - t) ∧ (0 ≤ x - y / 2 ^ k ∧ x - y / 2 ^ k ≤ 9223372036854775000) ∧ (-9223372036854775100 ≤ y + x / 2 ^ k ∧ y + x / 2 ^ k ≤ 9223372036854775100))) := by
  have zb : ∀ n : Nat, n < 31 → -(536870912 * (n : Int)) ≤ (angAt X Y n).2.2 ∧ (angAt X Y n).2.2 ≤ 536870912 * n := by
    intro n
    induction n with
    | zero => intro _; show -(536870912 * (0 : Int)) ≤ 0 ∧ (0 : Int) ≤ 536870912 * 0; decide
    | succ n ih =>
      intro hn
      have ih := ih (by omega)
      have b := stp_bd n (by omega)
      rw [(ang_step X Y n).2.2, sgA]
      split <;> omega
  obtain ⟨x, y, z, e⟩ : ∃ x y z, angAt X Y k = (x, y, z) := ⟨_, _, _, rfl⟩
  have b1 := ang_small X Y hL k (by omega)
  have b3 := ang_small X Y hL (k + 1) (by omega)
  have b4 := stp_bd k hk
  have b5 := zb k (by omega)
  rw [e] at b1 b5
  refine ⟨x, y, z, stp k, e, rfl, ⟨b1.1, b1.2.1⟩, b1.2.2, b4, b5, ?_⟩
  rcases Int.lt_or_le y 0 with h | h
  · have e2 := angAt_no e h
    rw [e2] at b3
    exact Or.inr ⟨h, e2, ⟨b3.1, b3.2.1⟩, b3.2.2⟩
  · have e2 := angAt_yes e h
    rw [e2] at b3
    exact Or.inl ⟨h, e2, ⟨b3.1, b3.2.1⟩, b3.2.2⟩

end Go.Proofs.YtodfcbpcgcgijaaGreatDoor

/- The angle of two numbers, in the program. -/
namespace Go.Proofs.YtodfcbpcgcgijaaGreatDoor
set_option maxRecDepth 100000
open Go.RowKit
set_option linter.unusedVariables false
attribute [local go_sem] cell_re eqW_self
attribute [local go_sem ↓] run_eqlW run_neqW

set_option maxRecDepth 100000 in
set_option maxHeartbeats 2000000 in
theorem turnLevel (x0 y0 : Int) (hx : 0 ≤ x0 ∧ x0 ≤ 9223372036854775807) (hy : Half y0) (h0 : ¬ (y0 = 0 ∧ x0 = 0)) (w : World) :
    Calls Tryz.prog 57 #[.int .i64 x0, .int .i64 y0] w fun e w' => e = .returned (.tuple #[.int .i64 (lev x0 y0).1, .int .i64 (lev x0 y0).2]) ∧ Below w.heap.size w w' := by
  have hs := Low.start hx hy h0
  unfold lev
  obtain ⟨L, hL⟩ : ∃ L, lower 3 x0 y0 = L := ⟨_, rfl⟩
  rw [hL] at hs ⊢
  clear hL hx hy h0
  replace hs := Lib.hid hs
  obtain ⟨R, hR⟩ : ∃ R, Hid (raise 60 L.1 L.2 = R) := ⟨_, Lib.hid rfl⟩
  rw [hR.out]
  go_enter Tryz.func57, Tryz.ntmps57
  go_wp2
  go_loopw [0, 1] (fun vx vy wr => ∃ (n : Nat) (x y : Int), vx = .int .i64 x ∧ vy = .int .i64 y ∧ Hid (Low L n x y) ∧ Below w.heap.size w wr) (fun vx vy _ => (intOf vx).toNat + (intOf vy).natAbs)
  case atStart => exact ⟨3, x0, y0, rfl, rfl, hs, Below.refl _ _⟩
  case round =>
    obtain ⟨n, x, y, rfl, rfl, hl, hB⟩ := hrel
    clear hs
    obtain ⟨⟨x0, x1⟩, hy, g1⟩ := hl.out.bd
    have d := Lib.hid (fun W1 : World => turnGreater x y ⟨x0, x1⟩ hy W1)
    obtain ⟨y0, y1⟩ := hy
    by_cases hg : 2305843009213693951 < grt x y
    · obtain ⟨m, rfl, hm, hd⟩ := hl.out.step hg
      replace hm := Lib.hid hm
      have g2 : 2305843009213693951 < min (grt x y) 9223372036854775807 := by omega
      obtain ⟨g, hgg⟩ : ∃ g, min (grt x y) 9223372036854775807 = g := ⟨_, rfl⟩
      rw [hgg] at d g2
      clear hgg hl hg
      go_wp2_with (go_at_call 87; refine (d.out _).mono ?_; rintro e wa ⟨rfl, ha1⟩)
      go_roundw
      case rel => exact ⟨m, x / 2, y / 2, rfl, rfl, hm, below_then hB ha1⟩
      case measure => simp only [intOf]; exact hd
    · obtain ⟨e1, hr⟩ := hl.out.stop hg
      rw [hR.out] at hr
      replace hr := Lib.hid hr
      have g2 : min (grt x y) 9223372036854775807 ≤ 2305843009213693951 := by omega
      obtain ⟨g, hgg⟩ : ∃ g, min (grt x y) 9223372036854775807 = g := ⟨_, rfl⟩
      rw [hgg] at d g2
      clear hgg hl hg e1
      go_wp2_with (go_at_call 87; refine (d.out _).mono ?_; rintro e wa ⟨rfl, ha1⟩)
      replace hB := below_then hB ha1
      clear ha1 d g2
      go_loopw [0, 1] (fun vx vy wr => ∃ (n : Nat) (x y : Int), vx = .int .i64 x ∧ vy = .int .i64 y ∧ Hid (Rise R n x y) ∧ Below w.heap.size w wr) (fun vx vy _ => (4611686018427387904 - (intOf vx + (intOf vy).natAbs)).toNat)
      case atStart => exact ⟨60, x, y, rfl, rfl, hr, hB⟩
      case round =>
        clear hr hB
        obtain ⟨n, u, v, rfl, rfl, hl, hB⟩ := hrel
        obtain ⟨⟨u0, u1⟩, ⟨v0, v1⟩⟩ := hl.out.bd
        have d := Lib.hid (fun W1 : World => turnGreater u v ⟨u0, by omega⟩ (by unfold Half; omega) W1)
        by_cases hg : grt u v < 1152921504606846976
        · obtain ⟨⟨m, rfl, hm⟩, hd⟩ := hl.out.step hg
          have hb := hm.bd
          obtain ⟨⟨b0, b1⟩, b2, b3⟩ := hb
          replace hm := Lib.hid hm
          have g2 : min (grt u v) 9223372036854775807 < 1152921504606846976 := by omega
          obtain ⟨g, hgg⟩ : ∃ g, min (grt u v) 9223372036854775807 = g := ⟨_, rfl⟩
          rw [hgg] at d g2
          clear hgg hl hg
          go_wp2_with (go_at_call 87; refine (d.out _).mono ?_; rintro e wb ⟨rfl, hb1⟩)
          go_roundw
          case rel => exact ⟨m, 2 * u, 2 * v, by go_num, by go_num, hm, below_then hB hb1⟩
          case measure => simp only [intOf]; omega
        · obtain ⟨rfl, hr2⟩ := hl.out.stop hg
          have g2 : 1152921504606846976 ≤ min (grt u v) 9223372036854775807 := by omega
          obtain ⟨g, hgg⟩ : ∃ g, min (grt u v) 9223372036854775807 = g := ⟨_, rfl⟩
          rw [hgg] at d g2
          clear hgg hl hg hr2
          go_wp2_with (go_at_call 87; refine (d.out _).mono ?_; rintro e wb ⟨rfl, hb1⟩)
          go_ret2
          exact ⟨rfl, below_then hB hb1⟩

theorem turnNeg (a : Int) (ha : Half a) : ∃ b : Bool, ∀ w : World, Calls Tryz.prog 56 #[.int .i64 a] w fun e w' => e = .returned (.tuple #[.int .i64 (oppo a), .bool b]) ∧ Below w.heap.size w w' :=
  ⟨cut (-a), fun w => by have := fixNeg a ha w; rw [sat, clipped_neg ha] at this; exact this⟩
set_option maxRecDepth 100000 in
set_option maxHeartbeats 4000000 in
theorem turnAngle_na (y0 x0 : Int) (hy : Half y0) (hx : Half x0) (h0 : x0 < 0) (h1 : (y0 == 0) = false) (w : World) (hS : Steps w) :
    Calls Tryz.prog 28 #[.int .i64 y0, .int .i64 x0] w fun e w' => e = .returned (.int .u32 ((2147483648 + angOf (oppo x0) (oppo y0)) % 4294967296)) ∧ Below w.heap.size w w' := by
  have hB : Below w.heap.size w w := Below.refl _ _
  have hx1 : 0 ≤ oppo x0 ∧ oppo x0 ≤ 9223372036854775807 := by unfold oppo; unfold Half at hx; omega
  have hy1 := oppo_bd hy
  have hn : ¬ (oppo y0 = 0 ∧ oppo x0 = 0) := by unfold oppo; omega
  obtain ⟨b1, n1⟩ := turnNeg y0 hy
  obtain ⟨b2, n2⟩ := turnNeg x0 hx
  replace n1 := Lib.hid n1
  replace n2 := Lib.hid n2
  obtain ⟨p, hp⟩ : ∃ p, Hid (oppo x0 = p) := ⟨_, Lib.hid rfl⟩
  obtain ⟨q, hq'⟩ : ∃ q, Hid (oppo y0 = q) := ⟨_, Lib.hid rfl⟩
  rw [hp.out] at n2 hx1 hn ⊢
  rw [hq'.out] at n1 hy1 hn ⊢
  clear hp hq' hx hy
  obtain ⟨X, Y, hXY⟩ : ∃ X Y, lev p q = (X, Y) := ⟨_, _, rfl⟩
  have hl := lev_level hx1 hy1 hn
  have d := Lib.hid (fun W1 : World => turnLevel p q hx1 hy1 hn W1)
  unfold angOf
  rw [hXY] at hl d ⊢
  dsimp only at hl d ⊢
  replace hl := Lib.hid hl
  clear hXY hx1 hy1 hn
  go_enter Tryz.func28, Tryz.ntmps28
  go_wp2_with fail
  refine (n1.out _).mono ?_
  rintro e wa ⟨rfl, ha1⟩
  replace hB := below_then hB ha1
  replace hS := hS.call ha1
  clear ha1
  go_wp2_with fail
  refine (n2.out _).mono ?_
  rintro e wb ⟨rfl, ha1⟩
  replace hB := below_then hB ha1
  replace hS := hS.call ha1
  clear ha1
  go_wp2_with fail
  refine (d.out _).mono ?_
  rintro e w1 ⟨rfl, hb1⟩
  have hS1 := hS.call hb1
  clear hS
  replace hB := below_then hB hb1
  clear hb1 d
  obtain ⟨tt, fr, hg⟩ := hS1
  go_wp2_with (refine wpList_load_row rfl 65 _ rfl 0 rfl tt _ fr _ hg Tryz.underlying65 rfl (by kernel_rfl) ?_)
  clear hg
  go_loopw [0, 1, 5, 33] (fun vy vx va vi wr => ∃ (k : Nat) (x y z A : Int), k ≤ 30 ∧ vi = .int .i64 k ∧ vx = .int .i64 x ∧ vy = .int .i64 y ∧ va = .int .u32 A ∧ (0 ≤ A ∧ A ≤ 4294967295) ∧ Hid (A = (2147483648 + z) % 4294967296) ∧ Hid (angAt X Y k = (x, y, z)) ∧ Below w.heap.size w wr) (fun _ _ _ vi _ => 30 - (intOf vi).toNat)
  case atStart => exact ⟨0, X, Y, 0, 2147483648, Nat.zero_le _, rfl, rfl, rfl, rfl, ⟨by omega, by omega⟩, Lib.hid (by omega), Lib.hid rfl, hB⟩
  case round =>
    clear hB
    obtain ⟨k, x, y, z, A, hk, rfl, rfl, rfl, rfl, ⟨A0, A1⟩, hA, hx, hB⟩ := hrel
    by_cases hlt : k < 30
    · obtain ⟨x', y', z', t, e5, e6, ⟨x0, x1⟩, ⟨y0, y1⟩, ⟨t0, t1⟩, ⟨z0, z1⟩, hw⟩ := angAt_facts X Y hl.out k hlt
      obtain ⟨rfl, rfl, rfl⟩ : x' = x ∧ y' = y ∧ z' = z := by
        have := e5.symm.trans hx.out
        simp only [Prod.mk.injEq] at this
        exact this
      have hr := steps_index k hlt wr
      rw [e6] at hr
      clear e5 e6 hx z0 z1
      rcases hw with ⟨c0, e7, ⟨c1, c2⟩, c3, c4⟩ | ⟨c0, e7, ⟨c1, c2⟩, c3, c4⟩
      · have d := Lib.hid (fun W1 : World => turnOtherWay x' y' k (by unfold Half; omega) (by unfold Half; omega) hlt (by unfold Half; omega) (by unfold Half; omega) W1)
        replace e7 := Lib.hid e7
        obtain ⟨u, hu⟩ : ∃ u, Hid (x' + y' / 2 ^ k = u) := ⟨_, rfl⟩
        obtain ⟨v, hv⟩ : ∃ v, Hid (y' - x' / 2 ^ k = v) := ⟨_, rfl⟩
        rw [hu.out] at d c1 c2 e7
        rw [hv.out] at d c3 c4 e7
        clear hu hv
        go_wp2_with (go_at_call 58; refine (d.out _).mono ?_; rintro e wa ⟨rfl, ha1⟩)
        go_roundw
        case rel => exact ⟨k + 1, u, v, z' + t, _, by omega, by go_num, rfl, rfl, rfl, ⟨by omega, by omega⟩, Lib.hid (by have := hA.out; omega), e7, below_then hB ha1⟩
        case measure => simp [intOf]; omega
      · have d := Lib.hid (fun W1 : World => turnOneWay x' y' k (by unfold Half; omega) (by unfold Half; omega) hlt (by unfold Half; omega) (by unfold Half; omega) W1)
        replace e7 := Lib.hid e7
        obtain ⟨u, hu⟩ : ∃ u, Hid (x' - y' / 2 ^ k = u) := ⟨_, rfl⟩
        obtain ⟨v, hv⟩ : ∃ v, Hid (y' + x' / 2 ^ k = v) := ⟨_, rfl⟩
        rw [hu.out] at d c1 c2 e7
        rw [hv.out] at d c3 c4 e7
        clear hu hv
        go_wp2_with (go_at_call 59; refine (d.out _).mono ?_; rintro e wa ⟨rfl, ha1⟩)
        go_roundw
        case rel => exact ⟨k + 1, u, v, z' - t, _, by omega, by go_num, rfl, rfl, rfl, ⟨by omega, by omega⟩, Lib.hid (by have := hA.out; omega), e7, below_then hB ha1⟩
        case measure => simp [intOf]; omega
    · obtain rfl : k = 30 := by omega
      go_wp2
      go_ret
      exact ⟨retI (by rw [hx.out]; exact hA.out), hB⟩
set_option maxRecDepth 100000 in
set_option maxHeartbeats 4000000 in
theorem turnAngle_nb (y0 x0 : Int) (hy : Half y0) (hx : Half x0) (h0 : x0 < 0) (h1 : (y0 == 0) = true) (h2 : (x0 == 0) = false) (w : World) (hS : Steps w) :
    Calls Tryz.prog 28 #[.int .i64 y0, .int .i64 x0] w fun e w' => e = .returned (.int .u32 ((2147483648 + angOf (oppo x0) (oppo y0)) % 4294967296)) ∧ Below w.heap.size w w' := by
  have hB : Below w.heap.size w w := Below.refl _ _
  have hx1 : 0 ≤ oppo x0 ∧ oppo x0 ≤ 9223372036854775807 := by unfold oppo; unfold Half at hx; omega
  have hy1 := oppo_bd hy
  have hn : ¬ (oppo y0 = 0 ∧ oppo x0 = 0) := by unfold oppo; omega
  obtain ⟨b1, n1⟩ := turnNeg y0 hy
  obtain ⟨b2, n2⟩ := turnNeg x0 hx
  replace n1 := Lib.hid n1
  replace n2 := Lib.hid n2
  obtain ⟨p, hp⟩ : ∃ p, Hid (oppo x0 = p) := ⟨_, Lib.hid rfl⟩
  obtain ⟨q, hq'⟩ : ∃ q, Hid (oppo y0 = q) := ⟨_, Lib.hid rfl⟩
  rw [hp.out] at n2 hx1 hn ⊢
  rw [hq'.out] at n1 hy1 hn ⊢
  clear hp hq' hx hy
  obtain ⟨X, Y, hXY⟩ : ∃ X Y, lev p q = (X, Y) := ⟨_, _, rfl⟩
  have hl := lev_level hx1 hy1 hn
  have d := Lib.hid (fun W1 : World => turnLevel p q hx1 hy1 hn W1)
  unfold angOf
  rw [hXY] at hl d ⊢
  dsimp only at hl d ⊢
  replace hl := Lib.hid hl
  clear hXY hx1 hy1 hn
  go_enter Tryz.func28, Tryz.ntmps28
  go_wp2_with fail
  refine (n1.out _).mono ?_
  rintro e wa ⟨rfl, ha1⟩
  replace hB := below_then hB ha1
  replace hS := hS.call ha1
  clear ha1
  go_wp2_with fail
  refine (n2.out _).mono ?_
  rintro e wb ⟨rfl, ha1⟩
  replace hB := below_then hB ha1
  replace hS := hS.call ha1
  clear ha1
  go_wp2_with fail
  refine (d.out _).mono ?_
  rintro e w1 ⟨rfl, hb1⟩
  have hS1 := hS.call hb1
  clear hS
  replace hB := below_then hB hb1
  clear hb1 d
  obtain ⟨tt, fr, hg⟩ := hS1
  go_wp2_with (refine wpList_load_row rfl 65 _ rfl 0 rfl tt _ fr _ hg Tryz.underlying65 rfl (by kernel_rfl) ?_)
  clear hg
  go_loopw [0, 1, 5, 33] (fun vy vx va vi wr => ∃ (k : Nat) (x y z A : Int), k ≤ 30 ∧ vi = .int .i64 k ∧ vx = .int .i64 x ∧ vy = .int .i64 y ∧ va = .int .u32 A ∧ (0 ≤ A ∧ A ≤ 4294967295) ∧ Hid (A = (2147483648 + z) % 4294967296) ∧ Hid (angAt X Y k = (x, y, z)) ∧ Below w.heap.size w wr) (fun _ _ _ vi _ => 30 - (intOf vi).toNat)
  case atStart => exact ⟨0, X, Y, 0, 2147483648, Nat.zero_le _, rfl, rfl, rfl, rfl, ⟨by omega, by omega⟩, Lib.hid (by omega), Lib.hid rfl, hB⟩
  case round =>
    clear hB
    obtain ⟨k, x, y, z, A, hk, rfl, rfl, rfl, rfl, ⟨A0, A1⟩, hA, hx, hB⟩ := hrel
    by_cases hlt : k < 30
    · obtain ⟨x', y', z', t, e5, e6, ⟨x0, x1⟩, ⟨y0, y1⟩, ⟨t0, t1⟩, ⟨z0, z1⟩, hw⟩ := angAt_facts X Y hl.out k hlt
      obtain ⟨rfl, rfl, rfl⟩ : x' = x ∧ y' = y ∧ z' = z := by
        have := e5.symm.trans hx.out
        simp only [Prod.mk.injEq] at this
        exact this
      have hr := steps_index k hlt wr
      rw [e6] at hr
      clear e5 e6 hx z0 z1
      rcases hw with ⟨c0, e7, ⟨c1, c2⟩, c3, c4⟩ | ⟨c0, e7, ⟨c1, c2⟩, c3, c4⟩
      · have d := Lib.hid (fun W1 : World => turnOtherWay x' y' k (by unfold Half; omega) (by unfold Half; omega) hlt (by unfold Half; omega) (by unfold Half; omega) W1)
        replace e7 := Lib.hid e7
        obtain ⟨u, hu⟩ : ∃ u, Hid (x' + y' / 2 ^ k = u) := ⟨_, rfl⟩
        obtain ⟨v, hv⟩ : ∃ v, Hid (y' - x' / 2 ^ k = v) := ⟨_, rfl⟩
        rw [hu.out] at d c1 c2 e7
        rw [hv.out] at d c3 c4 e7
        clear hu hv
        go_wp2_with (go_at_call 58; refine (d.out _).mono ?_; rintro e wa ⟨rfl, ha1⟩)
        go_roundw
        case rel => exact ⟨k + 1, u, v, z' + t, _, by omega, by go_num, rfl, rfl, rfl, ⟨by omega, by omega⟩, Lib.hid (by have := hA.out; omega), e7, below_then hB ha1⟩
        case measure => simp [intOf]; omega
      · have d := Lib.hid (fun W1 : World => turnOneWay x' y' k (by unfold Half; omega) (by unfold Half; omega) hlt (by unfold Half; omega) (by unfold Half; omega) W1)
        replace e7 := Lib.hid e7
        obtain ⟨u, hu⟩ : ∃ u, Hid (x' - y' / 2 ^ k = u) := ⟨_, rfl⟩
        obtain ⟨v, hv⟩ : ∃ v, Hid (y' + x' / 2 ^ k = v) := ⟨_, rfl⟩
        rw [hu.out] at d c1 c2 e7
        rw [hv.out] at d c3 c4 e7
        clear hu hv
        go_wp2_with (go_at_call 59; refine (d.out _).mono ?_; rintro e wa ⟨rfl, ha1⟩)
        go_roundw
        case rel => exact ⟨k + 1, u, v, z' - t, _, by omega, by go_num, rfl, rfl, rfl, ⟨by omega, by omega⟩, Lib.hid (by have := hA.out; omega), e7, below_then hB ha1⟩
        case measure => simp [intOf]; omega
    · obtain rfl : k = 30 := by omega
      go_wp2
      go_ret
      exact ⟨retI (by rw [hx.out]; exact hA.out), hB⟩
set_option maxRecDepth 100000 in
set_option maxHeartbeats 4000000 in
theorem turnAngle_pa (y0 x0 : Int) (hy : Half y0) (hx : Half x0) (h0 : 0 ≤ x0) (hn : ¬ (y0 = 0 ∧ x0 = 0)) (h1 : (y0 == 0) = false) (w : World) (hS : Steps w) :
    Calls Tryz.prog 28 #[.int .i64 y0, .int .i64 x0] w fun e w' => e = .returned (.int .u32 ((0 + angOf x0 y0) % 4294967296)) ∧ Below w.heap.size w w' := by
  have hB : Below w.heap.size w w := Below.refl _ _
  have hx1 : 0 ≤ x0 ∧ x0 ≤ 9223372036854775807 := ⟨h0, hx.2⟩
  have hy1 := hy
  obtain ⟨hx2, hx3⟩ := hx
  obtain ⟨hy2, hy3⟩ := hy
  obtain ⟨X, Y, hXY⟩ : ∃ X Y, lev x0 y0 = (X, Y) := ⟨_, _, rfl⟩
  have hl := lev_level hx1 hy1 hn
  have d := Lib.hid (fun W1 : World => turnLevel x0 y0 hx1 hy1 hn W1)
  unfold angOf
  rw [hXY] at hl d ⊢
  dsimp only at hl d ⊢
  replace hl := Lib.hid hl
  clear hXY hx1 hy1 hn
  go_enter Tryz.func28, Tryz.ntmps28
  go_wp2_with fail
  refine (d.out _).mono ?_
  rintro e w1 ⟨rfl, hb1⟩
  have hS1 := hS.call hb1
  clear hS
  replace hB := below_then hB hb1
  clear hb1 d
  obtain ⟨tt, fr, hg⟩ := hS1
  go_wp2_with (refine wpList_load_row rfl 65 _ rfl 0 rfl tt _ fr _ hg Tryz.underlying65 rfl (by kernel_rfl) ?_)
  clear hg
  go_loopw [0, 1, 5, 33] (fun vy vx va vi wr => ∃ (k : Nat) (x y z A : Int), k ≤ 30 ∧ vi = .int .i64 k ∧ vx = .int .i64 x ∧ vy = .int .i64 y ∧ va = .int .u32 A ∧ (0 ≤ A ∧ A ≤ 4294967295) ∧ Hid (A = (0 + z) % 4294967296) ∧ Hid (angAt X Y k = (x, y, z)) ∧ Below w.heap.size w wr) (fun _ _ _ vi _ => 30 - (intOf vi).toNat)
  case atStart => exact ⟨0, X, Y, 0, 0, Nat.zero_le _, rfl, rfl, rfl, rfl, ⟨by omega, by omega⟩, Lib.hid (by omega), Lib.hid rfl, hB⟩
  case round =>
    clear hB
    obtain ⟨k, x, y, z, A, hk, rfl, rfl, rfl, rfl, ⟨A0, A1⟩, hA, hx, hB⟩ := hrel
    by_cases hlt : k < 30
    · obtain ⟨x', y', z', t, e5, e6, ⟨x0, x1⟩, ⟨y0, y1⟩, ⟨t0, t1⟩, ⟨z0, z1⟩, hw⟩ := angAt_facts X Y hl.out k hlt
      obtain ⟨rfl, rfl, rfl⟩ : x' = x ∧ y' = y ∧ z' = z := by
        have := e5.symm.trans hx.out
        simp only [Prod.mk.injEq] at this
        exact this
      have hr := steps_index k hlt wr
      rw [e6] at hr
      clear e5 e6 hx z0 z1
      rcases hw with ⟨c0, e7, ⟨c1, c2⟩, c3, c4⟩ | ⟨c0, e7, ⟨c1, c2⟩, c3, c4⟩
      · have d := Lib.hid (fun W1 : World => turnOtherWay x' y' k (by unfold Half; omega) (by unfold Half; omega) hlt (by unfold Half; omega) (by unfold Half; omega) W1)
        replace e7 := Lib.hid e7
        obtain ⟨u, hu⟩ : ∃ u, Hid (x' + y' / 2 ^ k = u) := ⟨_, rfl⟩
        obtain ⟨v, hv⟩ : ∃ v, Hid (y' - x' / 2 ^ k = v) := ⟨_, rfl⟩
        rw [hu.out] at d c1 c2 e7
        rw [hv.out] at d c3 c4 e7
        clear hu hv
        go_wp2_with (go_at_call 58; refine (d.out _).mono ?_; rintro e wa ⟨rfl, ha1⟩)
        go_roundw
        case rel => exact ⟨k + 1, u, v, z' + t, _, by omega, by go_num, rfl, rfl, rfl, ⟨by omega, by omega⟩, Lib.hid (by have := hA.out; omega), e7, below_then hB ha1⟩
        case measure => simp [intOf]; omega
      · have d := Lib.hid (fun W1 : World => turnOneWay x' y' k (by unfold Half; omega) (by unfold Half; omega) hlt (by unfold Half; omega) (by unfold Half; omega) W1)
        replace e7 := Lib.hid e7
        obtain ⟨u, hu⟩ : ∃ u, Hid (x' - y' / 2 ^ k = u) := ⟨_, rfl⟩
        obtain ⟨v, hv⟩ : ∃ v, Hid (y' + x' / 2 ^ k = v) := ⟨_, rfl⟩
        rw [hu.out] at d c1 c2 e7
        rw [hv.out] at d c3 c4 e7
        clear hu hv
        go_wp2_with (go_at_call 59; refine (d.out _).mono ?_; rintro e wa ⟨rfl, ha1⟩)
        go_roundw
        case rel => exact ⟨k + 1, u, v, z' - t, _, by omega, by go_num, rfl, rfl, rfl, ⟨by omega, by omega⟩, Lib.hid (by have := hA.out; omega), e7, below_then hB ha1⟩
        case measure => simp [intOf]; omega
    · obtain rfl : k = 30 := by omega
      go_wp2
      go_ret
      exact ⟨retI (by rw [hx.out]; exact hA.out), hB⟩
set_option maxRecDepth 100000 in
set_option maxHeartbeats 4000000 in
theorem turnAngle_pb (y0 x0 : Int) (hy : Half y0) (hx : Half x0) (h0 : 0 ≤ x0) (hn : ¬ (y0 = 0 ∧ x0 = 0)) (h1 : (y0 == 0) = true) (h2 : (x0 == 0) = false) (w : World) (hS : Steps w) :
    Calls Tryz.prog 28 #[.int .i64 y0, .int .i64 x0] w fun e w' => e = .returned (.int .u32 ((0 + angOf x0 y0) % 4294967296)) ∧ Below w.heap.size w w' := by
  have hB : Below w.heap.size w w := Below.refl _ _
  have hx1 : 0 ≤ x0 ∧ x0 ≤ 9223372036854775807 := ⟨h0, hx.2⟩
  have hy1 := hy
  obtain ⟨hx2, hx3⟩ := hx
  obtain ⟨hy2, hy3⟩ := hy
  obtain ⟨X, Y, hXY⟩ : ∃ X Y, lev x0 y0 = (X, Y) := ⟨_, _, rfl⟩
  have hl := lev_level hx1 hy1 hn
  have d := Lib.hid (fun W1 : World => turnLevel x0 y0 hx1 hy1 hn W1)
  unfold angOf
  rw [hXY] at hl d ⊢
  dsimp only at hl d ⊢
  replace hl := Lib.hid hl
  clear hXY hx1 hy1 hn
  go_enter Tryz.func28, Tryz.ntmps28
  go_wp2_with fail
  refine (d.out _).mono ?_
  rintro e w1 ⟨rfl, hb1⟩
  have hS1 := hS.call hb1
  clear hS
  replace hB := below_then hB hb1
  clear hb1 d
  obtain ⟨tt, fr, hg⟩ := hS1
  go_wp2_with (refine wpList_load_row rfl 65 _ rfl 0 rfl tt _ fr _ hg Tryz.underlying65 rfl (by kernel_rfl) ?_)
  clear hg
  go_loopw [0, 1, 5, 33] (fun vy vx va vi wr => ∃ (k : Nat) (x y z A : Int), k ≤ 30 ∧ vi = .int .i64 k ∧ vx = .int .i64 x ∧ vy = .int .i64 y ∧ va = .int .u32 A ∧ (0 ≤ A ∧ A ≤ 4294967295) ∧ Hid (A = (0 + z) % 4294967296) ∧ Hid (angAt X Y k = (x, y, z)) ∧ Below w.heap.size w wr) (fun _ _ _ vi _ => 30 - (intOf vi).toNat)
  case atStart => exact ⟨0, X, Y, 0, 0, Nat.zero_le _, rfl, rfl, rfl, rfl, ⟨by omega, by omega⟩, Lib.hid (by omega), Lib.hid rfl, hB⟩
  case round =>
    clear hB
    obtain ⟨k, x, y, z, A, hk, rfl, rfl, rfl, rfl, ⟨A0, A1⟩, hA, hx, hB⟩ := hrel
    by_cases hlt : k < 30
    · obtain ⟨x', y', z', t, e5, e6, ⟨x0, x1⟩, ⟨y0, y1⟩, ⟨t0, t1⟩, ⟨z0, z1⟩, hw⟩ := angAt_facts X Y hl.out k hlt
      obtain ⟨rfl, rfl, rfl⟩ : x' = x ∧ y' = y ∧ z' = z := by
        have := e5.symm.trans hx.out
        simp only [Prod.mk.injEq] at this
        exact this
      have hr := steps_index k hlt wr
      rw [e6] at hr
      clear e5 e6 hx z0 z1
      rcases hw with ⟨c0, e7, ⟨c1, c2⟩, c3, c4⟩ | ⟨c0, e7, ⟨c1, c2⟩, c3, c4⟩
      · have d := Lib.hid (fun W1 : World => turnOtherWay x' y' k (by unfold Half; omega) (by unfold Half; omega) hlt (by unfold Half; omega) (by unfold Half; omega) W1)
        replace e7 := Lib.hid e7
        obtain ⟨u, hu⟩ : ∃ u, Hid (x' + y' / 2 ^ k = u) := ⟨_, rfl⟩
        obtain ⟨v, hv⟩ : ∃ v, Hid (y' - x' / 2 ^ k = v) := ⟨_, rfl⟩
        rw [hu.out] at d c1 c2 e7
        rw [hv.out] at d c3 c4 e7
        clear hu hv
        go_wp2_with (go_at_call 58; refine (d.out _).mono ?_; rintro e wa ⟨rfl, ha1⟩)
        go_roundw
        case rel => exact ⟨k + 1, u, v, z' + t, _, by omega, by go_num, rfl, rfl, rfl, ⟨by omega, by omega⟩, Lib.hid (by have := hA.out; omega), e7, below_then hB ha1⟩
        case measure => simp [intOf]; omega
      · have d := Lib.hid (fun W1 : World => turnOneWay x' y' k (by unfold Half; omega) (by unfold Half; omega) hlt (by unfold Half; omega) (by unfold Half; omega) W1)
        replace e7 := Lib.hid e7
        obtain ⟨u, hu⟩ : ∃ u, Hid (x' - y' / 2 ^ k = u) := ⟨_, rfl⟩
        obtain ⟨v, hv⟩ : ∃ v, Hid (y' + x' / 2 ^ k = v) := ⟨_, rfl⟩
        rw [hu.out] at d c1 c2 e7
        rw [hv.out] at d c3 c4 e7
        clear hu hv
        go_wp2_with (go_at_call 59; refine (d.out _).mono ?_; rintro e wa ⟨rfl, ha1⟩)
        go_roundw
        case rel => exact ⟨k + 1, u, v, z' - t, _, by omega, by go_num, rfl, rfl, rfl, ⟨by omega, by omega⟩, Lib.hid (by have := hA.out; omega), e7, below_then hB ha1⟩
        case measure => simp [intOf]; omega
    · obtain rfl : k = 30 := by omega
      go_wp2
      go_ret
      exact ⟨retI (by rw [hx.out]; exact hA.out), hB⟩
set_option maxRecDepth 100000 in
theorem turnAngle (y x : Int) (hy : Half y) (hx : Half x) (w : World) (hS : Steps w) :
    Calls Tryz.prog 28 #[.int .i64 y, .int .i64 x] w fun e w' => e = .returned (.int .u32 (angA y x)) ∧ Below w.heap.size w w' := by
  unfold angA
  by_cases h0 : y = 0 ∧ x = 0
  · rw [if_pos h0]
    obtain ⟨rfl, rfl⟩ := h0
    go_enter Tryz.func28, Tryz.ntmps28
    go_wp2
    go_ret
    exact ⟨rfl, Below.refl _ _⟩
  · rw [if_neg h0]
    by_cases h : y = 0
    · have h1 : (y == 0) = true := by simp [h]
      have h2 : (x == 0) = false := by simp; omega
      by_cases hneg : x < 0
      · rw [if_pos hneg]; exact turnAngle_nb y x hy hx hneg h1 h2 w hS
      · rw [if_neg hneg]; exact turnAngle_pb y x hy hx (by omega) h0 h1 h2 w hS
    · have h1 : (y == 0) = false := by simp [h]
      by_cases hneg : x < 0
      · rw [if_pos hneg]; exact turnAngle_na y x hy hx hneg h1 w hS
      · rw [if_neg hneg]; exact turnAngle_pa y x hy hx (by omega) h0 h1 w hS

end Go.Proofs.YtodfcbpcgcgijaaGreatDoor

/- The angle of two numbers, in the document's answers. -/
namespace Go.Proofs.YtodfcbpcgcgijaaGreatDoor
set_option maxRecDepth 100000
open Go.RowKit
set_option linter.unusedVariables false
attribute [local go_sem] cell_re eqW_self
attribute [local go_sem ↓] run_eqlW run_neqW

set_option maxRecDepth 100000 in
set_option maxHeartbeats 4000000 in
theorem ref5Angle_n (y0 x0 : Int) (hy : Half y0) (hx : Half x0) (h0 : x0 < 0) (h1 : (x0 == 0) = false) (w : World) :
    Calls Tryz.prog 29 #[.int .i64 y0, .int .i64 x0] w fun e w' => e = .returned (.int .u32 ((2147483648 + angOf (oppo x0) (oppo y0)) % 4294967296)) ∧ Below w.heap.size w w' := by
  have hx1 : 0 ≤ oppo x0 ∧ oppo x0 ≤ 9223372036854775807 := by unfold oppo; unfold Half at hx; omega
  have hy1 := oppo_bd hy
  have hn : ¬ (oppo y0 = 0 ∧ oppo x0 = 0) := by unfold oppo; omega
  have n1 := Lib.hid (ref5Opposite x0 hx)
  have n2 := Lib.hid (ref5Opposite y0 hy)
  obtain ⟨p, hp⟩ : ∃ p, Hid (oppo x0 = p) := ⟨_, Lib.hid rfl⟩
  obtain ⟨q, hq'⟩ : ∃ q, Hid (oppo y0 = q) := ⟨_, Lib.hid rfl⟩
  rw [hp.out] at n1 hx1 hn ⊢
  rw [hq'.out] at n2 hy1 hn ⊢
  clear hp hq' hx hy
  have hs := Low.start hx1 hy1 hn
  unfold angOf lev
  obtain ⟨L, hL⟩ : ∃ L, lower 3 p q = L := ⟨_, rfl⟩
  rw [hL] at hs ⊢
  obtain ⟨R, hR⟩ : ∃ R, Hid (raise 60 L.1 L.2 = R) := ⟨_, Lib.hid rfl⟩
  rw [hR.out]
  replace hs := Lib.hid hs
  clear hL hx1 hy1 hn
  go_enter Tryz.func29, Tryz.ntmps29
  go_wp2_with (go_at_call 60; first | ((with_reducible refine (n1.out _).mono ?_); rintro e wa ⟨rfl, rfl⟩) | ((with_reducible refine (n2.out _).mono ?_); rintro e wa ⟨rfl, rfl⟩))
  go_loop [5, 6, 8] (fun vu vv vi => ∃ (k n : Nat) (u v : Int), k + n = 3 ∧ vi = .int .i64 k ∧ vu = .int .i64 u ∧ vv = .int .i64 v ∧ Hid (Low L n u v)) (fun _ _ vi => 64 - (intOf vi).toNat)
  case atStart => exact ⟨0, 3, _, _, rfl, rfl, rfl, rfl, hs⟩
  case round =>
    clear hs
    obtain ⟨k, n, u, v, hk, rfl, rfl, rfl, hl⟩ := hrel
    have j1 : (k : Int) < 64 := by omega
    have hu : (0 ≤ u ∧ u ≤ 9223372036854775807) ∧ Half v := by have := hl.out.bd; unfold Half at *; omega
    obtain ⟨⟨u0, u1⟩, hv⟩ := hu
    have d1 := Lib.hid (ref5Bare u (by unfold Half; omega))
    rw [if_neg (show ¬ u < 0 by omega)] at d1
    have d2 := Lib.hid (ref5Bare v hv)
    have hgi : grt u v = max u (if v < 0 then -v else v) := rfl
    have q0 : 0 ≤ (if v < 0 then -v else v) ∧ (if v < 0 then -v else v) ≤ 9223372036854775808 := by unfold Half at hv; split <;> omega
    obtain ⟨q, hq⟩ : ∃ q, (if v < 0 then -v else v) = q := ⟨_, rfl⟩
    rw [hq] at d2 hgi q0
    clear hq
    obtain ⟨q0, q1⟩ := q0
    have hv' := hv
    obtain ⟨v0, v1⟩ := hv'
    have d3 := Lib.hid (ref5Half u (by unfold Half; omega))
    have d4 := Lib.hid (ref5Half v hv)
    by_cases hg : 2305843009213693951 < grt u v
    · obtain ⟨m, rfl, hn2, -⟩ := hl.out.step hg
      have hnext := Lib.hid hn2
      clear hn2 hl
      rcases Int.lt_or_le u q with hm | hm
      all_goals
        have g2 : (u < q → 2305843009213693952 ≤ q) ∧ (q ≤ u → 2305843009213693952 ≤ u) := by omega
        clear hg hgi
        go_wp2_with (first | (go_at_call 61; first | ((with_reducible refine (d1.out _).mono ?_); rintro e wa ⟨rfl, rfl⟩) | ((with_reducible refine (d2.out _).mono ?_); rintro e wa ⟨rfl, rfl⟩)) | (go_at_call 62; first | ((with_reducible refine (d3.out _).mono ?_); rintro e wa ⟨rfl, rfl⟩) | ((with_reducible refine (d4.out _).mono ?_); rintro e wa ⟨rfl, rfl⟩)))
        go_round
        case rel => exact ⟨k + 1, m, _, _, by omega, by go_num, rfl, rfl, hnext⟩
        case measure => simp [intOf]; omega
    · obtain ⟨e1, hs2⟩ := hl.out.stop hg
      rw [hR.out] at hs2
      replace hs2 := Lib.hid hs2
      clear e1 hl
      rcases Int.lt_or_le u q with hm | hm
      all_goals
        have g2 : (u < 2305843009213693952 ∧ q < 2305843009213693952) := by omega
        clear hg hgi
        go_wp2_with (go_at_call 61; first | ((with_reducible refine (d1.out _).mono ?_); rintro e wa ⟨rfl, rfl⟩) | ((with_reducible refine (d2.out _).mono ?_); rintro e wa ⟨rfl, rfl⟩))
        have hs := hs2
        clear hs2 d1 d2 d3 d4 hm g2 q0 q1 u0 u1 v0 v1 j1
        go_loop [5, 6, 9] (fun vu vv vi => ∃ (k n : Nat) (u v : Int), k + n = 60 ∧ vi = .int .i64 k ∧ vu = .int .i64 u ∧ vv = .int .i64 v ∧ Hid (Rise R n u v)) (fun _ _ vi => 64 - (intOf vi).toNat)
        case atStart => exact ⟨0, 60, _, _, rfl, rfl, rfl, rfl, hs⟩
        case round =>
          clear hs
          obtain ⟨k, n, u, v, hk, rfl, rfl, rfl, hl⟩ := hrel
          have j1 : (k : Int) < 64 := by omega
          have hu : (0 ≤ u ∧ u ≤ 9223372036854775807) ∧ Half v := by have := hl.out.bd; unfold Half at *; omega
          obtain ⟨⟨u0, u1⟩, hv⟩ := hu
          have d1 := Lib.hid (ref5Bare u (by unfold Half; omega))
          rw [if_neg (show ¬ u < 0 by omega)] at d1
          have d2 := Lib.hid (ref5Bare v hv)
          have hgi : grt u v = max u (if v < 0 then -v else v) := rfl
          have q0 : 0 ≤ (if v < 0 then -v else v) ∧ (if v < 0 then -v else v) ≤ 9223372036854775808 := by unfold Half at hv; split <;> omega
          obtain ⟨q, hq⟩ : ∃ q, (if v < 0 then -v else v) = q := ⟨_, rfl⟩
          rw [hq] at d2 hgi q0
          clear hq
          obtain ⟨q0, q1⟩ := q0
          have hv' := hv
          obtain ⟨v0, v1⟩ := hv'
  
          by_cases hg : grt u v < 1152921504606846976
          · obtain ⟨⟨m, rfl, hn2⟩, -⟩ := hl.out.step hg
            obtain ⟨⟨b0, b1⟩, b2, b3⟩ := hn2.bd
            have hnext := Lib.hid hn2
            clear hn2 hl
            rcases Int.lt_or_le u q with hm | hm
            all_goals
              have g2 : (u < 1152921504606846976 ∧ q < 1152921504606846976) := by omega
              clear hg hgi
              go_wp2_with ((go_at_call 61; first | ((with_reducible refine (d1.out _).mono ?_); rintro e wa ⟨rfl, rfl⟩) | ((with_reducible refine (d2.out _).mono ?_); rintro e wa ⟨rfl, rfl⟩)))
              go_round
              case rel => exact ⟨k + 1, m, _, _, by omega, by go_num, by go_num, by go_num, hnext⟩
              case measure => simp [intOf]; omega
          · obtain ⟨e1, hl2⟩ := hl.out.stop hg
            have hR2 := Lib.hid e1
            have hlev : Hid (Level R.1 R.2) := by rw [e1]; exact Lib.hid hl2
            clear e1 hl hl2
            rcases Int.lt_or_le u q with hm | hm
            all_goals
              have g2 : (u < q → 1152921504606846976 ≤ q) ∧ (q ≤ u → 1152921504606846976 ≤ u) := by omega
              clear hg hgi
              go_wp2_with (go_at_call 61; first | ((with_reducible refine (d1.out _).mono ?_); rintro e wa ⟨rfl, rfl⟩) | ((with_reducible refine (d2.out _).mono ?_); rintro e wa ⟨rfl, rfl⟩))
              go_loopw [5, 6, 7, 10] (fun vx vy vz vi wr => ∃ (k : Nat) (x y z : Int), k ≤ 30 ∧ vi = .int .i64 k ∧ vx = .int .i64 x ∧ vy = .int .i64 y ∧ vz = .int .i64 (2147483648 + z) ∧ Hid (angAt R.1 R.2 k = (x, y, z)) ∧ Below w.heap.size w wr) (fun _ _ _ vi _ => 30 - (intOf vi).toNat)
              case atStart => exact ⟨0, u, v, 0, Nat.zero_le _, rfl, rfl, rfl, rfl, Lib.hid (by rw [hR2.out]; rfl), Below.refl _ _⟩
              case round =>
                clear d1 d2 hR2 hm g2 q0 q1 u0 u1 v0 v1 j1
                obtain ⟨k, x, y, z, hk, rfl, rfl, rfl, rfl, hx, hB⟩ := hrel
                by_cases hlt : k < 30
                · obtain ⟨x', y', z', t, e5, e6, ⟨x0, x1⟩, ⟨y0, y1⟩, ⟨t0, t1⟩, ⟨z0, z1⟩, hw⟩ := angAt_facts R.1 R.2 hlev.out k hlt
                  obtain ⟨rfl, rfl, rfl⟩ : x' = x ∧ y' = y ∧ z' = z := by
                    have := e5.symm.trans hx.out
                    simp only [Prod.mk.injEq] at this
                    exact this
                  have d1 := Lib.hid (fun W1 : World => ref5Over x' k (by unfold Half; omega) (by omega) W1)
                  have d2 := Lib.hid (fun W1 : World => ref5Over y' k (by unfold Half; omega) (by omega) W1)
                  have d3 := Lib.hid (fun W1 : World => ref5Step k hlt W1)
                  rw [e6] at d3
                  obtain ⟨p, hp⟩ : ∃ p, Hid (x' / 2 ^ k = p) := ⟨_, rfl⟩
                  obtain ⟨q, hq⟩ : ∃ q, Hid (y' / 2 ^ k = q) := ⟨_, rfl⟩
                  rw [hp.out] at d1 hw
                  rw [hq.out] at d2 hw
                  have z2 : -17179869184 ≤ z' := by omega
                  have z3 : z' ≤ 17179869184 := by omega
                  clear e5 e6 hx hp hq z0 z1
                  rcases hw with ⟨c0, e7, ⟨c1, c2⟩, c3, c4⟩ | ⟨c0, e7, ⟨c1, c2⟩, c3, c4⟩
                  all_goals
                    replace e7 := Lib.hid e7
                    go_wp2_with (first | (go_at_call 62; first | ((with_reducible refine (d1.out _).mono ?_); rintro e wa ⟨rfl, rfl⟩) | ((with_reducible refine (d2.out _).mono ?_); rintro e wa ⟨rfl, rfl⟩)) | (go_at_call 63; refine (d3.out _).mono ?_; rintro e wa ⟨rfl, hs1⟩))
                    go_roundw
                    case rel => exact ⟨k + 1, _, _, _, by omega, by go_num, rfl, rfl, by go_num, e7, below_then hB hs1⟩
                    case measure => simp [intOf]; omega
                · obtain rfl : k = 30 := by omega
                  go_wp2
                  go_ret
                  have e9 : (angAt R.1 R.2 30).2.2 = z := by rw [hx.out]
                  exact ⟨retI (by omega), hB⟩
set_option maxRecDepth 100000 in
set_option maxHeartbeats 4000000 in
theorem ref5Angle_pa (y0 x0 : Int) (hy : Half y0) (hx : Half x0) (h0 : 0 ≤ x0) (hn : ¬ (y0 = 0 ∧ x0 = 0)) (h1 : (x0 == 0) = false) (w : World) :
    Calls Tryz.prog 29 #[.int .i64 y0, .int .i64 x0] w fun e w' => e = .returned (.int .u32 ((0 + angOf x0 y0) % 4294967296)) ∧ Below w.heap.size w w' := by
  have hx1 : 0 ≤ x0 ∧ x0 ≤ 9223372036854775807 := ⟨h0, hx.2⟩
  have hy1 := hy
  obtain ⟨hx2, hx3⟩ := hx
  obtain ⟨hy2, hy3⟩ := hy
  have hs := Low.start hx1 hy1 hn
  unfold angOf lev
  obtain ⟨L, hL⟩ : ∃ L, lower 3 x0 y0 = L := ⟨_, rfl⟩
  rw [hL] at hs ⊢
  obtain ⟨R, hR⟩ : ∃ R, Hid (raise 60 L.1 L.2 = R) := ⟨_, Lib.hid rfl⟩
  rw [hR.out]
  replace hs := Lib.hid hs
  clear hL hx1 hy1 hn
  go_enter Tryz.func29, Tryz.ntmps29
  go_wp2
  go_loop [5, 6, 8] (fun vu vv vi => ∃ (k n : Nat) (u v : Int), k + n = 3 ∧ vi = .int .i64 k ∧ vu = .int .i64 u ∧ vv = .int .i64 v ∧ Hid (Low L n u v)) (fun _ _ vi => 64 - (intOf vi).toNat)
  case atStart => exact ⟨0, 3, _, _, rfl, rfl, rfl, rfl, hs⟩
  case round =>
    clear hs
    obtain ⟨k, n, u, v, hk, rfl, rfl, rfl, hl⟩ := hrel
    have j1 : (k : Int) < 64 := by omega
    have hu : (0 ≤ u ∧ u ≤ 9223372036854775807) ∧ Half v := by have := hl.out.bd; unfold Half at *; omega
    obtain ⟨⟨u0, u1⟩, hv⟩ := hu
    have d1 := Lib.hid (ref5Bare u (by unfold Half; omega))
    rw [if_neg (show ¬ u < 0 by omega)] at d1
    have d2 := Lib.hid (ref5Bare v hv)
    have hgi : grt u v = max u (if v < 0 then -v else v) := rfl
    have q0 : 0 ≤ (if v < 0 then -v else v) ∧ (if v < 0 then -v else v) ≤ 9223372036854775808 := by unfold Half at hv; split <;> omega
    obtain ⟨q, hq⟩ : ∃ q, (if v < 0 then -v else v) = q := ⟨_, rfl⟩
    rw [hq] at d2 hgi q0
    clear hq
    obtain ⟨q0, q1⟩ := q0
    have hv' := hv
    obtain ⟨v0, v1⟩ := hv'
    have d3 := Lib.hid (ref5Half u (by unfold Half; omega))
    have d4 := Lib.hid (ref5Half v hv)
    by_cases hg : 2305843009213693951 < grt u v
    · obtain ⟨m, rfl, hn2, -⟩ := hl.out.step hg
      have hnext := Lib.hid hn2
      clear hn2 hl
      rcases Int.lt_or_le u q with hm | hm
      all_goals
        have g2 : (u < q → 2305843009213693952 ≤ q) ∧ (q ≤ u → 2305843009213693952 ≤ u) := by omega
        clear hg hgi
        go_wp2_with (first | (go_at_call 61; first | ((with_reducible refine (d1.out _).mono ?_); rintro e wa ⟨rfl, rfl⟩) | ((with_reducible refine (d2.out _).mono ?_); rintro e wa ⟨rfl, rfl⟩)) | (go_at_call 62; first | ((with_reducible refine (d3.out _).mono ?_); rintro e wa ⟨rfl, rfl⟩) | ((with_reducible refine (d4.out _).mono ?_); rintro e wa ⟨rfl, rfl⟩)))
        go_round
        case rel => exact ⟨k + 1, m, _, _, by omega, by go_num, rfl, rfl, hnext⟩
        case measure => simp [intOf]; omega
    · obtain ⟨e1, hs2⟩ := hl.out.stop hg
      rw [hR.out] at hs2
      replace hs2 := Lib.hid hs2
      clear e1 hl
      rcases Int.lt_or_le u q with hm | hm
      all_goals
        have g2 : (u < 2305843009213693952 ∧ q < 2305843009213693952) := by omega
        clear hg hgi
        go_wp2_with (go_at_call 61; first | ((with_reducible refine (d1.out _).mono ?_); rintro e wa ⟨rfl, rfl⟩) | ((with_reducible refine (d2.out _).mono ?_); rintro e wa ⟨rfl, rfl⟩))
        have hs := hs2
        clear hs2 d1 d2 d3 d4 hm g2 q0 q1 u0 u1 v0 v1 j1
        go_loop [5, 6, 9] (fun vu vv vi => ∃ (k n : Nat) (u v : Int), k + n = 60 ∧ vi = .int .i64 k ∧ vu = .int .i64 u ∧ vv = .int .i64 v ∧ Hid (Rise R n u v)) (fun _ _ vi => 64 - (intOf vi).toNat)
        case atStart => exact ⟨0, 60, _, _, rfl, rfl, rfl, rfl, hs⟩
        case round =>
          clear hs
          obtain ⟨k, n, u, v, hk, rfl, rfl, rfl, hl⟩ := hrel
          have j1 : (k : Int) < 64 := by omega
          have hu : (0 ≤ u ∧ u ≤ 9223372036854775807) ∧ Half v := by have := hl.out.bd; unfold Half at *; omega
          obtain ⟨⟨u0, u1⟩, hv⟩ := hu
          have d1 := Lib.hid (ref5Bare u (by unfold Half; omega))
          rw [if_neg (show ¬ u < 0 by omega)] at d1
          have d2 := Lib.hid (ref5Bare v hv)
          have hgi : grt u v = max u (if v < 0 then -v else v) := rfl
          have q0 : 0 ≤ (if v < 0 then -v else v) ∧ (if v < 0 then -v else v) ≤ 9223372036854775808 := by unfold Half at hv; split <;> omega
          obtain ⟨q, hq⟩ : ∃ q, (if v < 0 then -v else v) = q := ⟨_, rfl⟩
          rw [hq] at d2 hgi q0
          clear hq
          obtain ⟨q0, q1⟩ := q0
          have hv' := hv
          obtain ⟨v0, v1⟩ := hv'
  
          by_cases hg : grt u v < 1152921504606846976
          · obtain ⟨⟨m, rfl, hn2⟩, -⟩ := hl.out.step hg
            obtain ⟨⟨b0, b1⟩, b2, b3⟩ := hn2.bd
            have hnext := Lib.hid hn2
            clear hn2 hl
            rcases Int.lt_or_le u q with hm | hm
            all_goals
              have g2 : (u < 1152921504606846976 ∧ q < 1152921504606846976) := by omega
              clear hg hgi
              go_wp2_with ((go_at_call 61; first | ((with_reducible refine (d1.out _).mono ?_); rintro e wa ⟨rfl, rfl⟩) | ((with_reducible refine (d2.out _).mono ?_); rintro e wa ⟨rfl, rfl⟩)))
              go_round
              case rel => exact ⟨k + 1, m, _, _, by omega, by go_num, by go_num, by go_num, hnext⟩
              case measure => simp [intOf]; omega
          · obtain ⟨e1, hl2⟩ := hl.out.stop hg
            have hR2 := Lib.hid e1
            have hlev : Hid (Level R.1 R.2) := by rw [e1]; exact Lib.hid hl2
            clear e1 hl hl2
            rcases Int.lt_or_le u q with hm | hm
            all_goals
              have g2 : (u < q → 1152921504606846976 ≤ q) ∧ (q ≤ u → 1152921504606846976 ≤ u) := by omega
              clear hg hgi
              go_wp2_with (go_at_call 61; first | ((with_reducible refine (d1.out _).mono ?_); rintro e wa ⟨rfl, rfl⟩) | ((with_reducible refine (d2.out _).mono ?_); rintro e wa ⟨rfl, rfl⟩))
              go_loopw [5, 6, 7, 10] (fun vx vy vz vi wr => ∃ (k : Nat) (x y z : Int), k ≤ 30 ∧ vi = .int .i64 k ∧ vx = .int .i64 x ∧ vy = .int .i64 y ∧ vz = .int .i64 (0 + z) ∧ Hid (angAt R.1 R.2 k = (x, y, z)) ∧ Below w.heap.size w wr) (fun _ _ _ vi _ => 30 - (intOf vi).toNat)
              case atStart => exact ⟨0, u, v, 0, Nat.zero_le _, rfl, rfl, rfl, rfl, Lib.hid (by rw [hR2.out]; rfl), Below.refl _ _⟩
              case round =>
                clear d1 d2 hR2 hm g2 q0 q1 u0 u1 v0 v1 j1
                obtain ⟨k, x, y, z, hk, rfl, rfl, rfl, rfl, hx, hB⟩ := hrel
                by_cases hlt : k < 30
                · obtain ⟨x', y', z', t, e5, e6, ⟨x0, x1⟩, ⟨y0, y1⟩, ⟨t0, t1⟩, ⟨z0, z1⟩, hw⟩ := angAt_facts R.1 R.2 hlev.out k hlt
                  obtain ⟨rfl, rfl, rfl⟩ : x' = x ∧ y' = y ∧ z' = z := by
                    have := e5.symm.trans hx.out
                    simp only [Prod.mk.injEq] at this
                    exact this
                  have d1 := Lib.hid (fun W1 : World => ref5Over x' k (by unfold Half; omega) (by omega) W1)
                  have d2 := Lib.hid (fun W1 : World => ref5Over y' k (by unfold Half; omega) (by omega) W1)
                  have d3 := Lib.hid (fun W1 : World => ref5Step k hlt W1)
                  rw [e6] at d3
                  obtain ⟨p, hp⟩ : ∃ p, Hid (x' / 2 ^ k = p) := ⟨_, rfl⟩
                  obtain ⟨q, hq⟩ : ∃ q, Hid (y' / 2 ^ k = q) := ⟨_, rfl⟩
                  rw [hp.out] at d1 hw
                  rw [hq.out] at d2 hw
                  have z2 : -17179869184 ≤ z' := by omega
                  have z3 : z' ≤ 17179869184 := by omega
                  clear e5 e6 hx hp hq z0 z1
                  rcases hw with ⟨c0, e7, ⟨c1, c2⟩, c3, c4⟩ | ⟨c0, e7, ⟨c1, c2⟩, c3, c4⟩
                  all_goals
                    replace e7 := Lib.hid e7
                    go_wp2_with (first | (go_at_call 62; first | ((with_reducible refine (d1.out _).mono ?_); rintro e wa ⟨rfl, rfl⟩) | ((with_reducible refine (d2.out _).mono ?_); rintro e wa ⟨rfl, rfl⟩)) | (go_at_call 63; refine (d3.out _).mono ?_; rintro e wa ⟨rfl, hs1⟩))
                    go_roundw
                    case rel => exact ⟨k + 1, _, _, _, by omega, by go_num, rfl, rfl, by go_num, e7, below_then hB hs1⟩
                    case measure => simp [intOf]; omega
                · obtain rfl : k = 30 := by omega
                  go_wp2
                  go_ret
                  have e9 : (angAt R.1 R.2 30).2.2 = z := by rw [hx.out]
                  exact ⟨retI (by omega), hB⟩
set_option maxRecDepth 100000 in
set_option maxHeartbeats 4000000 in
theorem ref5Angle_pb (y0 x0 : Int) (hy : Half y0) (hx : Half x0) (h0 : 0 ≤ x0) (hn : ¬ (y0 = 0 ∧ x0 = 0)) (h1 : (x0 == 0) = true) (h2 : (y0 == 0) = false) (w : World) :
    Calls Tryz.prog 29 #[.int .i64 y0, .int .i64 x0] w fun e w' => e = .returned (.int .u32 ((0 + angOf x0 y0) % 4294967296)) ∧ Below w.heap.size w w' := by
  have hx1 : 0 ≤ x0 ∧ x0 ≤ 9223372036854775807 := ⟨h0, hx.2⟩
  have hy1 := hy
  obtain ⟨hx2, hx3⟩ := hx
  obtain ⟨hy2, hy3⟩ := hy
  have hs := Low.start hx1 hy1 hn
  unfold angOf lev
  obtain ⟨L, hL⟩ : ∃ L, lower 3 x0 y0 = L := ⟨_, rfl⟩
  rw [hL] at hs ⊢
  obtain ⟨R, hR⟩ : ∃ R, Hid (raise 60 L.1 L.2 = R) := ⟨_, Lib.hid rfl⟩
  rw [hR.out]
  replace hs := Lib.hid hs
  clear hL hx1 hy1 hn
  go_enter Tryz.func29, Tryz.ntmps29
  go_wp2
  go_loop [5, 6, 8] (fun vu vv vi => ∃ (k n : Nat) (u v : Int), k + n = 3 ∧ vi = .int .i64 k ∧ vu = .int .i64 u ∧ vv = .int .i64 v ∧ Hid (Low L n u v)) (fun _ _ vi => 64 - (intOf vi).toNat)
  case atStart => exact ⟨0, 3, _, _, rfl, rfl, rfl, rfl, hs⟩
  case round =>
    clear hs
    obtain ⟨k, n, u, v, hk, rfl, rfl, rfl, hl⟩ := hrel
    have j1 : (k : Int) < 64 := by omega
    have hu : (0 ≤ u ∧ u ≤ 9223372036854775807) ∧ Half v := by have := hl.out.bd; unfold Half at *; omega
    obtain ⟨⟨u0, u1⟩, hv⟩ := hu
    have d1 := Lib.hid (ref5Bare u (by unfold Half; omega))
    rw [if_neg (show ¬ u < 0 by omega)] at d1
    have d2 := Lib.hid (ref5Bare v hv)
    have hgi : grt u v = max u (if v < 0 then -v else v) := rfl
    have q0 : 0 ≤ (if v < 0 then -v else v) ∧ (if v < 0 then -v else v) ≤ 9223372036854775808 := by unfold Half at hv; split <;> omega
    obtain ⟨q, hq⟩ : ∃ q, (if v < 0 then -v else v) = q := ⟨_, rfl⟩
    rw [hq] at d2 hgi q0
    clear hq
    obtain ⟨q0, q1⟩ := q0
    have hv' := hv
    obtain ⟨v0, v1⟩ := hv'
    have d3 := Lib.hid (ref5Half u (by unfold Half; omega))
    have d4 := Lib.hid (ref5Half v hv)
    by_cases hg : 2305843009213693951 < grt u v
    · obtain ⟨m, rfl, hn2, -⟩ := hl.out.step hg
      have hnext := Lib.hid hn2
      clear hn2 hl
      rcases Int.lt_or_le u q with hm | hm
      all_goals
        have g2 : (u < q → 2305843009213693952 ≤ q) ∧ (q ≤ u → 2305843009213693952 ≤ u) := by omega
        clear hg hgi
        go_wp2_with (first | (go_at_call 61; first | ((with_reducible refine (d1.out _).mono ?_); rintro e wa ⟨rfl, rfl⟩) | ((with_reducible refine (d2.out _).mono ?_); rintro e wa ⟨rfl, rfl⟩)) | (go_at_call 62; first | ((with_reducible refine (d3.out _).mono ?_); rintro e wa ⟨rfl, rfl⟩) | ((with_reducible refine (d4.out _).mono ?_); rintro e wa ⟨rfl, rfl⟩)))
        go_round
        case rel => exact ⟨k + 1, m, _, _, by omega, by go_num, rfl, rfl, hnext⟩
        case measure => simp [intOf]; omega
    · obtain ⟨e1, hs2⟩ := hl.out.stop hg
      rw [hR.out] at hs2
      replace hs2 := Lib.hid hs2
      clear e1 hl
      rcases Int.lt_or_le u q with hm | hm
      all_goals
        have g2 : (u < 2305843009213693952 ∧ q < 2305843009213693952) := by omega
        clear hg hgi
        go_wp2_with (go_at_call 61; first | ((with_reducible refine (d1.out _).mono ?_); rintro e wa ⟨rfl, rfl⟩) | ((with_reducible refine (d2.out _).mono ?_); rintro e wa ⟨rfl, rfl⟩))
        have hs := hs2
        clear hs2 d1 d2 d3 d4 hm g2 q0 q1 u0 u1 v0 v1 j1
        go_loop [5, 6, 9] (fun vu vv vi => ∃ (k n : Nat) (u v : Int), k + n = 60 ∧ vi = .int .i64 k ∧ vu = .int .i64 u ∧ vv = .int .i64 v ∧ Hid (Rise R n u v)) (fun _ _ vi => 64 - (intOf vi).toNat)
        case atStart => exact ⟨0, 60, _, _, rfl, rfl, rfl, rfl, hs⟩
        case round =>
          clear hs
          obtain ⟨k, n, u, v, hk, rfl, rfl, rfl, hl⟩ := hrel
          have j1 : (k : Int) < 64 := by omega
          have hu : (0 ≤ u ∧ u ≤ 9223372036854775807) ∧ Half v := by have := hl.out.bd; unfold Half at *; omega
          obtain ⟨⟨u0, u1⟩, hv⟩ := hu
          have d1 := Lib.hid (ref5Bare u (by unfold Half; omega))
          rw [if_neg (show ¬ u < 0 by omega)] at d1
          have d2 := Lib.hid (ref5Bare v hv)
          have hgi : grt u v = max u (if v < 0 then -v else v) := rfl
          have q0 : 0 ≤ (if v < 0 then -v else v) ∧ (if v < 0 then -v else v) ≤ 9223372036854775808 := by unfold Half at hv; split <;> omega
          obtain ⟨q, hq⟩ : ∃ q, (if v < 0 then -v else v) = q := ⟨_, rfl⟩
          rw [hq] at d2 hgi q0
          clear hq
          obtain ⟨q0, q1⟩ := q0
          have hv' := hv
          obtain ⟨v0, v1⟩ := hv'
  
          by_cases hg : grt u v < 1152921504606846976
          · obtain ⟨⟨m, rfl, hn2⟩, -⟩ := hl.out.step hg
            obtain ⟨⟨b0, b1⟩, b2, b3⟩ := hn2.bd
            have hnext := Lib.hid hn2
            clear hn2 hl
            rcases Int.lt_or_le u q with hm | hm
            all_goals
              have g2 : (u < 1152921504606846976 ∧ q < 1152921504606846976) := by omega
              clear hg hgi
              go_wp2_with ((go_at_call 61; first | ((with_reducible refine (d1.out _).mono ?_); rintro e wa ⟨rfl, rfl⟩) | ((with_reducible refine (d2.out _).mono ?_); rintro e wa ⟨rfl, rfl⟩)))
              go_round
              case rel => exact ⟨k + 1, m, _, _, by omega, by go_num, by go_num, by go_num, hnext⟩
              case measure => simp [intOf]; omega
          · obtain ⟨e1, hl2⟩ := hl.out.stop hg
            have hR2 := Lib.hid e1
            have hlev : Hid (Level R.1 R.2) := by rw [e1]; exact Lib.hid hl2
            clear e1 hl hl2
            rcases Int.lt_or_le u q with hm | hm
            all_goals
              have g2 : (u < q → 1152921504606846976 ≤ q) ∧ (q ≤ u → 1152921504606846976 ≤ u) := by omega
              clear hg hgi
              go_wp2_with (go_at_call 61; first | ((with_reducible refine (d1.out _).mono ?_); rintro e wa ⟨rfl, rfl⟩) | ((with_reducible refine (d2.out _).mono ?_); rintro e wa ⟨rfl, rfl⟩))
              go_loopw [5, 6, 7, 10] (fun vx vy vz vi wr => ∃ (k : Nat) (x y z : Int), k ≤ 30 ∧ vi = .int .i64 k ∧ vx = .int .i64 x ∧ vy = .int .i64 y ∧ vz = .int .i64 (0 + z) ∧ Hid (angAt R.1 R.2 k = (x, y, z)) ∧ Below w.heap.size w wr) (fun _ _ _ vi _ => 30 - (intOf vi).toNat)
              case atStart => exact ⟨0, u, v, 0, Nat.zero_le _, rfl, rfl, rfl, rfl, Lib.hid (by rw [hR2.out]; rfl), Below.refl _ _⟩
              case round =>
                clear d1 d2 hR2 hm g2 q0 q1 u0 u1 v0 v1 j1
                obtain ⟨k, x, y, z, hk, rfl, rfl, rfl, rfl, hx, hB⟩ := hrel
                by_cases hlt : k < 30
                · obtain ⟨x', y', z', t, e5, e6, ⟨x0, x1⟩, ⟨y0, y1⟩, ⟨t0, t1⟩, ⟨z0, z1⟩, hw⟩ := angAt_facts R.1 R.2 hlev.out k hlt
                  obtain ⟨rfl, rfl, rfl⟩ : x' = x ∧ y' = y ∧ z' = z := by
                    have := e5.symm.trans hx.out
                    simp only [Prod.mk.injEq] at this
                    exact this
                  have d1 := Lib.hid (fun W1 : World => ref5Over x' k (by unfold Half; omega) (by omega) W1)
                  have d2 := Lib.hid (fun W1 : World => ref5Over y' k (by unfold Half; omega) (by omega) W1)
                  have d3 := Lib.hid (fun W1 : World => ref5Step k hlt W1)
                  rw [e6] at d3
                  obtain ⟨p, hp⟩ : ∃ p, Hid (x' / 2 ^ k = p) := ⟨_, rfl⟩
                  obtain ⟨q, hq⟩ : ∃ q, Hid (y' / 2 ^ k = q) := ⟨_, rfl⟩
                  rw [hp.out] at d1 hw
                  rw [hq.out] at d2 hw
                  have z2 : -17179869184 ≤ z' := by omega
                  have z3 : z' ≤ 17179869184 := by omega
                  clear e5 e6 hx hp hq z0 z1
                  rcases hw with ⟨c0, e7, ⟨c1, c2⟩, c3, c4⟩ | ⟨c0, e7, ⟨c1, c2⟩, c3, c4⟩
                  all_goals
                    replace e7 := Lib.hid e7
                    go_wp2_with (first | (go_at_call 62; first | ((with_reducible refine (d1.out _).mono ?_); rintro e wa ⟨rfl, rfl⟩) | ((with_reducible refine (d2.out _).mono ?_); rintro e wa ⟨rfl, rfl⟩)) | (go_at_call 63; refine (d3.out _).mono ?_; rintro e wa ⟨rfl, hs1⟩))
                    go_roundw
                    case rel => exact ⟨k + 1, _, _, _, by omega, by go_num, rfl, rfl, by go_num, e7, below_then hB hs1⟩
                    case measure => simp [intOf]; omega
                · obtain rfl : k = 30 := by omega
                  go_wp2
                  go_ret
                  have e9 : (angAt R.1 R.2 30).2.2 = z := by rw [hx.out]
                  exact ⟨retI (by omega), hB⟩
set_option maxRecDepth 100000 in
theorem ref5Angle (y x : Int) (hy : Half y) (hx : Half x) (w : World) :
    Calls Tryz.prog 29 #[.int .i64 y, .int .i64 x] w fun e w' => e = .returned (.int .u32 (angA y x)) ∧ Below w.heap.size w w' := by
  unfold angA
  by_cases h0 : y = 0 ∧ x = 0
  · rw [if_pos h0]
    obtain ⟨rfl, rfl⟩ := h0
    go_enter Tryz.func29, Tryz.ntmps29
    go_wp2
    go_ret
    exact ⟨rfl, Below.refl _ _⟩
  · rw [if_neg h0]
    by_cases hneg : x < 0
    · rw [if_pos hneg]; exact ref5Angle_n y x hy hx hneg (by simp; omega) w
    · rw [if_neg hneg]
      by_cases h : x = 0
      · exact ref5Angle_pb y x hy hx (by omega) h0 (by simp [h]) (by simp; omega) w
      · exact ref5Angle_pa y x hy hx (by omega) h0 (by simp [h]) w

end Go.Proofs.YtodfcbpcgcgijaaGreatDoor

/- What the statements on angles ask of cosines, sines and angles. -/
namespace Go.Proofs.YtodfcbpcgcgijaaGreatDoor
set_option maxRecDepth 100000
open Go.RowKit
set_option linter.unusedVariables false

theorem lower_next (n : Nat) (x y : Int) : lower (n + 1) x y = if 2305843009213693951 < grt x y then lower n (x / 2) (y / 2) else (x, y) := rfl
theorem raise_next (n : Nat) (x y : Int) : raise (n + 1) x y = if grt x y < 1152921504606846976 then raise n (2 * x) (2 * y) else (x, y) := rfl
theorem lower_fuel : ∀ n x y, 0 ≤ x → x < 1152921504606846976 * 2 ^ n → -(1152921504606846976 * 2 ^ n) ≤ y → y < 1152921504606846976 * 2 ^ n → lower (n + 1) x y = lower n x y
  | 0, x, y, h0, h1, h2, h3 => by
    rw [show (2 : Int) ^ 0 = 1 from rfl] at h1 h2 h3
    rw [lower_next, if_neg (by unfold grt; split <;> omega)]
    rfl
  | n + 1, x, y, h0, h1, h2, h3 => by
    rw [lower_next (n + 1) x y, lower_next n x y]
    split
    · have e : 1152921504606846976 * (2 : Int) ^ (n + 1) = 2 * (1152921504606846976 * 2 ^ n) := by rw [Int.pow_succ]; omega
      rw [e] at h1 h2 h3
      exact lower_fuel n (x / 2) (y / 2) (by omega) (by omega) (by omega) (by omega)
    · rfl
theorem raise_fuel : ∀ n x y, 1152921504606846976 ≤ grt x y * 2 ^ n → raise (n + 1) x y = raise n x y
  | 0, x, y, h => by
    rw [show (2 : Int) ^ 0 = 1 from rfl] at h
    rw [raise_next, if_neg (by omega)]
    rfl
  | n + 1, x, y, h => by
    rw [raise_next (n + 1) x y, raise_next n x y]
    split
    · refine raise_fuel n (2 * x) (2 * y) ?_
      rw [grt_two]
      rw [Int.pow_succ] at h
      have e : 2 * grt x y * 2 ^ n = grt x y * (2 ^ n * 2) := by grind
      omega
    · rfl
theorem lev_two {x y : Int} (hx : 0 ≤ x ∧ x < 4611686018427387904) (hy : -4611686018427387904 < y ∧ y < 4611686018427387904) (h0 : ¬ (y = 0 ∧ x = 0)) : lev (2 * x) (2 * y) = lev x y := by
  unfold lev
  by_cases h : 2305843009213693951 < grt (2 * x) (2 * y)
  · have e : lower 3 (2 * x) (2 * y) = lower 3 x y := by
      rw [lower, if_pos h, show 2 * x / 2 = x by omega, show 2 * y / 2 = y by omega]
      exact (lower_fuel 2 x y hx.1 (by rw [show (2 : Int) ^ 2 = 4 from rfl]; omega) (by rw [show (2 : Int) ^ 2 = 4 from rfl]; omega) (by rw [show (2 : Int) ^ 2 = 4 from rfl]; omega)).symm
    rw [e]
  · have h1 : lower 3 (2 * x) (2 * y) = (2 * x, 2 * y) := by rw [lower, if_neg h]
    rw [grt_two] at h
    have h2 : lower 3 x y = (x, y) := by rw [lower, if_neg (by omega)]
    have h3 : 1 ≤ grt x y := by unfold grt; split <;> omega
    rw [h1, h2]
    show raise 60 (2 * x) (2 * y) = raise 60 x y
    have h4 : raise 60 x y = raise 59 (2 * x) (2 * y) := by rw [raise, if_pos (by omega)]
    rw [h4]
    refine raise_fuel 59 (2 * x) (2 * y) ?_
    rw [grt_two, show (2 : Int) ^ 59 = 576460752303423488 from rfl]
    omega
theorem angA_two {y x : Int} (hy : -4611686018427387904 < y ∧ y < 4611686018427387904) (hx : -4611686018427387904 < x ∧ x < 4611686018427387904) : angA (2 * y) (2 * x) = angA y x := by
  unfold angA
  by_cases h0 : y = 0 ∧ x = 0
  · rw [if_pos h0, if_pos (by omega)]
  · rw [if_neg h0, if_neg (by omega)]
    by_cases hn : x < 0
    · rw [if_pos hn, if_pos (by omega)]
      have e1 : oppo (2 * x) = 2 * oppo x := by unfold oppo; omega
      have e2 : oppo (2 * y) = 2 * oppo y := by unfold oppo; omega
      rw [e1, e2]
      unfold angOf
      rw [lev_two (by unfold oppo; omega) (by unfold oppo; omega) (by unfold oppo; omega)]
    · rw [if_neg hn, if_neg (by omega)]
      unfold angOf
      rw [lev_two (by omega) (by omega) h0]
theorem angA_neg {y x : Int} (hy : -9223372036854775808 < y ∧ y ≤ 9223372036854775807) (hx : -9223372036854775808 < x ∧ x ≤ 9223372036854775807) (h : x ≠ 0) : angA (-y) (-x) = (angA y x + 2147483648) % 4294967296 := by
  have ex : oppo x = -x := by unfold oppo; omega
  have ey : oppo y = -y := by unfold oppo; omega
  have ex' : oppo (-x) = x := by unfold oppo; omega
  have ey' : oppo (-y) = y := by unfold oppo; omega
  rcases Int.lt_or_le x 0 with hn | hn
  · have l : angA (-y) (-x) = (0 + angOf (-x) (-y)) % 4294967296 := by unfold angA; rw [if_neg (by omega), if_neg (by omega)]
    have r : angA y x = (2147483648 + angOf (-x) (-y)) % 4294967296 := by unfold angA; rw [if_neg (by omega), if_pos hn, ex, ey]
    rw [l, r]; omega
  · have l : angA (-y) (-x) = (2147483648 + angOf x y) % 4294967296 := by unfold angA; rw [if_neg (by omega), if_pos (by omega), ex', ey']
    have r : angA y x = (0 + angOf x y) % 4294967296 := by unfold angA; rw [if_neg (by omega), if_neg (by omega)]
    rw [l, r]; omega
theorem angA_bd (y x : Int) : Word32 (angA y x) := by
  unfold angA Word32
  split
  · omega
  · split <;> omega

theorem raise_pow : ∀ n x y, ∃ k : Nat, raise n x y = (2 ^ k * x, 2 ^ k * y)
  | 0, x, y => ⟨0, by rw [raise]; simp⟩
  | n + 1, x, y => by
    rw [raise]
    split
    · obtain ⟨k, hk⟩ := raise_pow n (2 * x) (2 * y)
      exact ⟨k + 1, by rw [hk, Int.pow_succ]; simp only [Prod.mk.injEq]; exact ⟨by grind, by grind⟩⟩
    · exact ⟨0, by simp⟩
theorem lev_pow {x y : Int} (hx : 0 ≤ x ∧ x ≤ 4294967296) (hy : -4294967296 ≤ y ∧ y ≤ 4294967296) (hg : 2147483648 ≤ grt x y) : ∃ w : Int, 0 < w ∧ w ≤ 536870912 ∧ lev x y = (w * x, w * y) ∧ Level (w * x) (w * y) := by
  have h2 : lower 3 x y = (x, y) := by rw [lower, if_neg (by unfold grt; split <;> omega)]
  have hl := lev_level (x := x) (y := y) (by omega) (by unfold Half; omega) (by unfold grt at hg; split at hg <;> omega)
  obtain ⟨k, hk⟩ := raise_pow 60 x y
  have e : lev x y = (2 ^ k * x, 2 ^ k * y) := by unfold lev; rw [h2]; exact hk
  rw [e] at hl
  have hp := two_pow_pos k
  refine ⟨2 ^ k, hp, ?_, e, hl⟩
  have hk30 : k < 30 := by
    rcases Nat.lt_or_ge k 30 with h | h
    · exact h
    · have h3 : (1073741824 : Int) ≤ 2 ^ k := by
        obtain ⟨j, rfl⟩ : ∃ j, k = 30 + j := ⟨k - 30, by omega⟩
        have := two_pow_pos j
        rw [Int.pow_add, show (2 : Int) ^ 30 = 1073741824 from rfl]
        omega
      obtain ⟨l0, l1, l2, l3, -⟩ := hl
      dsimp only at l0 l1 l2 l3
      have h4 := grt_is x y hx.1
      rcases h4.2.2.2 with h5 | h5 | h5
      · have := Int.mul_le_mul_of_nonneg_left (show 2147483648 ≤ x by omega) (Int.le_of_lt hp); omega
      · have := Int.mul_le_mul_of_nonneg_left (show 2147483648 ≤ y by omega) (Int.le_of_lt hp); omega
      · have := Int.mul_le_mul_of_nonneg_left (show 2147483648 ≤ -y by omega) (Int.le_of_lt hp); rw [Int.mul_neg] at this; omega
  have : (2 : Int) ^ k * 2 ^ (29 - k) = 536870912 := by rw [← Int.pow_add, show k + (29 - k) = 29 by omega]; rfl
  have h1 := two_pow_pos (29 - k)
  have := Int.mul_le_mul_of_nonneg_left (show 1 ≤ (2 : Int) ^ (29 - k) by omega) (Int.le_of_lt hp)
  omega
theorem great_one {c s : Int} (hc : 1 ≤ c ∧ c ≤ 4294967296) (hs : 1 ≤ s ∧ s ≤ 4294967296) (h : 18446744073709551616 - 1030792151040 ≤ c * c + s * s) : 2147483648 ≤ c ∨ 2147483648 ≤ s := by
  rcases Int.lt_or_le c 2147483648 with h1 | h1
  · rcases Int.lt_or_le s 2147483648 with h2 | h2
    · have a := Int.mul_le_mul_of_nonneg_left (show c ≤ 2147483648 by omega) (show 0 ≤ c by omega)
      have b := Int.mul_le_mul_of_nonneg_left (show s ≤ 2147483648 by omega) (show 0 ≤ s by omega)
      omega
    · exact Or.inr h2
  · exact Or.inl h1
/-- The angles of cosine and sine of a rest, as they lie, and a quarter back. -/
theorem angOf_near (r : Int) (hr : 0 ≤ r ∧ r < 1073741824) : Within (angOf (cosOf r) (sinOf r) - r) 450 ∧ Within (angOf (sinOf r) (-cosOf r) - (r - 1073741824)) 450 := by
  obtain ⟨c0, c1, s0, s1, -, -, -, -, n0, -⟩ := cos_sin r hr
  have g := great_one ⟨c0, c1⟩ ⟨s0, s1⟩ n0
  constructor
  · obtain ⟨w, w0, w1, e, hl⟩ := lev_pow (x := cosOf r) (y := sinOf r) (by omega) (by omega) (by unfold grt; split <;> omega)
    unfold angOf
    rw [e]
    dsimp only
    have := back_near r hr 0 (Or.inl rfl) w ⟨w0, w1⟩ (w * cosOf r) (w * sinOf r) (by rw [show (1 - 0) * cosOf r + 0 * sinOf r = cosOf r by omega]) (by rw [show (1 - 0) * sinOf r - 0 * cosOf r = sinOf r by omega]) hl
    rw [show r - 0 * 1073741824 = r by omega] at this
    exact this
  · obtain ⟨w, w0, w1, e, hl⟩ := lev_pow (x := sinOf r) (y := -cosOf r) (by omega) (by omega) (by unfold grt; split <;> omega)
    unfold angOf
    rw [e]
    dsimp only
    have := back_near r hr 1 (Or.inr rfl) w ⟨w0, w1⟩ (w * sinOf r) (w * -cosOf r) (by rw [show (1 - 1) * cosOf r + 1 * sinOf r = sinOf r by omega]) (by rw [show (1 - 1) * sinOf r - 1 * cosOf r = -cosOf r by omega]) hl
    rw [show r - 1 * 1073741824 = r - 1073741824 by omega] at this
    exact this
theorem angA_back (a : Int) (ha : Word32 a) : -1024 ≤ way a (angA (sinA a) (cosA a)) ∧ way a (angA (sinA a) (cosA a)) ≤ 1024 := by
  obtain ⟨q, r, c, s, e1, e2, hr, e3, e4, ⟨c0, c1⟩, ⟨s0, s1⟩, hq⟩ := cosA_facts a ha
  have hn := angOf_near r hr
  rw [e3, e4] at hn
  obtain ⟨⟨n1, n2⟩, n3, n4⟩ := hn
  unfold Word32 at ha
  rcases hq with ⟨rfl, x1, x2⟩ | ⟨rfl, x1, x2⟩ | ⟨rfl, x1, x2⟩ | ⟨rfl, x1, x2⟩ <;> rw [x1, x2] <;> unfold angA way
  · rw [if_neg (by omega), if_neg (by omega)]
    omega
  · rw [if_neg (by omega), if_pos (by omega), show oppo (-s) = s by unfold oppo; omega, show oppo c = -c by unfold oppo; omega]
    omega
  · rw [if_neg (by omega), if_pos (by omega), show oppo (-c) = c by unfold oppo; omega, show oppo (-s) = s by unfold oppo; omega]
    omega
  · rw [if_neg (by omega), if_neg (by omega)]
    omega
theorem cosA_next (a : Int) (ha : Word32 a) : cosA ((a + 1073741824) % 4294967296) = -sinA a ∧ sinA ((a + 1073741824) % 4294967296) = cosA a := by
  unfold Word32 at ha
  have e1 : (a + 1073741824) % 4294967296 % 1073741824 = a % 1073741824 := by omega
  unfold cosA sinA
  rw [e1]
  rcases (by omega : (a / 1073741824 = 0 ∧ (a + 1073741824) % 4294967296 / 1073741824 = 1) ∨ (a / 1073741824 = 1 ∧ (a + 1073741824) % 4294967296 / 1073741824 = 2) ∨ (a / 1073741824 = 2 ∧ (a + 1073741824) % 4294967296 / 1073741824 = 3) ∨ (a / 1073741824 = 3 ∧ (a + 1073741824) % 4294967296 / 1073741824 = 0)) with ⟨h, k⟩ | ⟨h, k⟩ | ⟨h, k⟩ | ⟨h, k⟩ <;> rw [h, k] <;> simp
theorem cosA_bd (a : Int) (ha : Word32 a) : (-4294967296 ≤ cosA a ∧ cosA a ≤ 4294967296) ∧ (-4294967296 ≤ sinA a ∧ sinA a ≤ 4294967296) := by
  obtain ⟨q, r, c, s, e1, e2, hr, e3, e4, ⟨c0, c1⟩, ⟨s0, s1⟩, hq⟩ := cosA_facts a ha
  omega
theorem cosA_unit (a : Int) (ha : Word32 a) : 18446744073709551616 - 1030792151040 ≤ cosA a * cosA a + sinA a * sinA a ∧ cosA a * cosA a + sinA a * sinA a ≤ 18446744073709551616 + 1030792151040 := by
  obtain ⟨q, r, c, s, e1, e2, hr, e3, e4, ⟨c0, c1⟩, ⟨s0, s1⟩, hq⟩ := cosA_facts a ha
  obtain ⟨-, -, -, -, -, -, -, -, n0, n1⟩ := cos_sin r hr
  rw [e3, e4] at n0 n1
  rcases hq with ⟨rfl, x1, x2⟩ | ⟨rfl, x1, x2⟩ | ⟨rfl, x1, x2⟩ | ⟨rfl, x1, x2⟩ <;> rw [x1, x2]
  · exact ⟨n0, n1⟩
  · rw [Int.neg_mul_neg]; omega
  · rw [Int.neg_mul_neg, Int.neg_mul_neg]; exact ⟨n0, n1⟩
  · rw [Int.neg_mul_neg]; omega
theorem works_nums : 4294966272 < cosA 0 ∧ sinA 0 < 1024 ∧ -256 ≤ way 536870912 (angA 4294967296 4294967296) ∧ way 536870912 (angA 4294967296 4294967296) ≤ 256 ∧ way 1 0 = -1 := by decide +kernel

end Go.Proofs.YtodfcbpcgcgijaaGreatDoor

/- What a row that lists the table of the steps gives its walk; and the examples that each statement asks for. -/
namespace Go.Proofs.YtodfcbpcgcgijaaGreatDoor
set_option maxRecDepth 100000
open Go.RowKit
set_option linter.unusedVariables false
attribute [local go_sem] cell_re eqW_self
attribute [local go_sem ↓] run_eqlW run_neqW

theorem word32_of_wf {n : Int} (h : (Lit.int .u32 n).wf = true) : 0 ≤ n ∧ n ≤ 4294967295 := by
  simp [Lit.wf, IntKind.min, IntKind.max, IntKind.signed, IntKind.bits] at h
  exact ⟨by omega, by omega⟩
/-- What the rows list. -/
def laidT : List (String × DataW Unit) := [("pelorus/turn.steps", Rows.laid_pelorus_turn_steps)]
theorem door_met (os : Os) (args : Array Value) : laidMetH Tryz.prog laidT ((World.doorLaid Tryz.prog 400 os).forCall (fun _ _ => 0) ⟨#[], args, []⟩).memory :=
  laidMetH_of_parts3 (fuel := 8) (laidMet_of_run' 8 (by kernel_rfl) (by kernel_rfl)) (by kernel_rfl) (by kernel_rfl)
theorem gSteps : Tryz.prog.globalNamed "pelorus/turn.steps" = some 0 := by kernel_rfl
theorem tSteps : (Tryz.prog.globals[0]?).map (·.type) = some 65 := by kernel_rfl
theorem steps_of_laid {W : World} (h : laidMetH Tryz.prog laidT W) : Steps W := by
  rw [MakeChecks.laidMetH_plain _ _ _ (by kernel_rfl)] at h
  have h' : laidMet Tryz.prog [("pelorus/turn.steps", Lib.tabData .u32 angles)] W := h
  have ht := Lib.tabIs_of_head gSteps tSteps Tryz.underlying65 Tryz.underlying30 (by kernel_rfl) (by kernel_rfl) h'
  unfold Lib.TabIs World.var? at ht
  rw [gSteps] at ht
  simp only [Option.bind_some] at ht
  split at ht
  · rename_i cs t fr hc
    have e := Option.some.inj ht
    subst e
    exact ⟨t, fr, hc⟩
  · cases ht
end Go.Proofs.YtodfcbpcgcgijaaGreatDoor
