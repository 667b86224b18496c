/- Cosine and sine, of the program and in the document's answers. -/
import Derived.Test.YtneljefoglmldaaDoorTurnR
import Derived.Laws.Rows
namespace Go.Proofs.YtneljefoglmldaaDoor
open Go.RowKit
set_option linter.unusedVariables false
attribute [local go_sem] cell_re eqW_self
attribute [local go_sem ↓] run_eqlW run_neqW

/-- The row of the steps' angles; and that the program's variable holds it. -/
def angRow : Array Value := (angles.map (Value.int .u32)).toArray
def Steps (w : World) : Prop := ∃ t fr, w.heap[0]? = some (.cells angRow t fr)
theorem Steps.call {w w' : World} (h : Steps w) (hb : Below w.heap.size w w') : Steps w' := by
  obtain ⟨t, fr, h⟩ := h
  refine ⟨t, fr, (hb.block 0 ?_).trans h⟩
  rcases Nat.eq_zero_or_pos w.heap.size with h0 | h0
  · rw [Array.getElem?_eq_none (by omega)] at h; cases h
  · exact h0
theorem angRow_at (k : Nat) (hk : k < 30) : angRow[k]? = some (.int .u32 (stp k)) := by
  unfold angRow
  rw [List.getElem?_toArray, List.getElem?_eq_getElem (by rw [List.length_map]; exact hk), angles_at]
theorem steps_index (k : Nat) (hk : k < 30) (W1 : World) : (Instr.index 52 (.agg angRow) (.int .i64 k)).run Tryd.prog W1 = .ok (.int .u32 (stp k)) W1 := by
  have h := angRow_at k hk
  have hs : angRow.size = 30 := by decide
  simp [Instr.index, run_underlying Tryd.underlying52, asIntOf, go_sem, hs, hk]
  exact (Array.getElem?_eq_some_iff.1 h).2
theorem bothAt_facts (a : Int) (ha : 0 ≤ a ∧ a < 1073741824) (k : Nat) (hk : k < 30) : ∃ x y z t, bothAt a k = (x, y, z) ∧ stp k = t ∧ (-4296015872 ≤ x ∧ x ≤ 4296015872) ∧ (-4296015872 ≤ y ∧ y ≤ 4296015872) ∧ (-1073741824 ≤ z ∧ z < 1073741824) ∧ (1 ≤ t ∧ t ≤ 536870912) ∧
    ((0 ≤ z ∧ bothAt a (k + 1) = (x - y / 2 ^ k, y + x / 2 ^ k, z - t) ∧ (-4296015872 ≤ x - y / 2 ^ k ∧ x - y / 2 ^ k ≤ 4296015872) ∧ (-4296015872 ≤ y + x / 2 ^ k ∧ y + x / 2 ^ k ≤ 4296015872)) ∨
     (z < 0 ∧ bothAt a (k + 1) = (x + y / 2 ^ k, y - x / 2 ^ k, z + t) ∧ (-4296015872 ≤ x + y / 2 ^ k ∧ x + y / 2 ^ k ≤ 4296015872) ∧ (-4296015872 ≤ y - x / 2 ^ k ∧ y - x / 2 ^ k ≤ 4296015872))) := by
  obtain ⟨x, y, z, e⟩ : ∃ x y z, bothAt a k = (x, y, z) := ⟨_, _, _, rfl⟩
  have b1 := both_bd a k (by omega)
  have b2 := left_bd a ha k (by omega)
  have b3 := both_bd a (k + 1) (by omega)
  have b4 := stp_bd k hk
  rw [e] at b1 b2
  refine ⟨x, y, z, stp k, e, rfl, b1.1, b1.2, b2, b4, ?_⟩
  rcases Int.lt_or_le z 0 with h | h
  · have e2 := bothAt_no e h
    rw [e2] at b3
    exact Or.inr ⟨h, e2, b3⟩
  · have e2 := bothAt_yes e h
    rw [e2] at b3
    exact Or.inl ⟨h, e2, b3⟩
theorem clamp_facts (a : Int) (ha : 0 ≤ a ∧ a < 1073741824) {x y z : Int} (h : bothAt a 30 = (x, y, z)) : Half x ∧ Half y ∧ clamp x 0 4294967296 = cosOf a ∧ clamp y 0 4294967296 = sinOf a := by
  have b := both_bd a 30 (by decide)
  have p := both_pos a ha
  unfold cosOf sinOf
  rw [h] at b p ⊢
  dsimp only at b p ⊢
  unfold Half clamp
  refine ⟨by omega, by omega, ?_, ?_⟩ <;> split <;> omega
set_option maxRecDepth 100000 in
set_option maxHeartbeats 2000000 in
theorem turnQuarter (a : Int) (ha : 0 ≤ a ∧ a < 1073741824) (w : World) (hS : Steps w) :
    Calls Tryd.prog 28 #[.int .u32 a] w fun e w' => e = .returned (.tuple #[.int .i64 (cosOf a), .int .i64 (sinOf a)]) ∧ Below w.heap.size w w' := by
  have hA := Lib.hid ha
  obtain ⟨a0, a1⟩ := ha
  obtain ⟨tt, fr, hg⟩ := hS
  go_enter Tryd.func28, Tryd.ntmps28
  go_wp2_with (refine wpList_load_row rfl 52 _ rfl 0 rfl tt _ fr _ hg Tryd.underlying52 rfl (by kernel_rfl) ?_)
  clear hg
  go_loopw [4, 5, 6, 16] (fun vx vy vz vi wr => ∃ (k : Nat) (x y z : Int), k ≤ 30 ∧ vi = .int .i64 k ∧ vx = .int .i64 x ∧ vy = .int .i64 y ∧ vz = .int .i32 z ∧ Hid (bothAt a k = (x, y, z)) ∧ Below w.heap.size w wr) (fun _ _ _ vi _ => 30 - (intOf vi).toNat)
  case atStart => exact ⟨0, 2608131496, 0, a, Nat.zero_le _, rfl, rfl, rfl, rfl, Lib.hid rfl, Below.refl _ _⟩
  case round =>
    obtain ⟨k, x, y, z, hk, rfl, rfl, rfl, rfl, hx, hB⟩ := hrel
    by_cases hlt : k < 30
    · obtain ⟨x', y', z', t, e1, e2, ⟨x0, x1⟩, ⟨y0, y1⟩, ⟨z0, z1⟩, ⟨t0, t1⟩, hw⟩ := bothAt_facts a hA.out k hlt
      obtain ⟨rfl, rfl, rfl⟩ : x' = x ∧ y' = y ∧ z' = z := by
        have := e1.symm.trans hx.out
        simp only [Prod.mk.injEq] at this
        exact this
      have hr := steps_index k hlt wr
      rw [e2] at hr
      clear e1 e2 hx
      rcases hw with ⟨c0, e3, ⟨c1, c2⟩, c3, c4⟩ | ⟨c0, e3, ⟨c1, c2⟩, c3, c4⟩
      · have d := Lib.hid (fun W1 : World => turnOneWay x' y' k (by unfold Half; omega) (by unfold Half; omega) hlt (by unfold Half; omega) (by unfold Half; omega) W1)
        replace e3 := Lib.hid e3
        obtain ⟨u, hu⟩ : ∃ u, Hid (x' - y' / 2 ^ k = u) := ⟨_, rfl⟩
        obtain ⟨v, hv⟩ : ∃ v, Hid (y' + x' / 2 ^ k = v) := ⟨_, rfl⟩
        rw [hu.out] at d c1 c2 e3
        rw [hv.out] at d c3 c4 e3
        clear hu hv
        go_wp2_with (go_at_call 35; refine (d.out _).mono ?_; rintro e wa ⟨rfl, ha1⟩)
        go_roundw
        case rel => exact ⟨k + 1, u, v, z' - t, by omega, by go_num, rfl, rfl, by go_num, e3, below_then hB ha1⟩
        case measure => simp [intOf]; omega
      · have d := Lib.hid (fun W1 : World => turnOtherWay x' y' k (by unfold Half; omega) (by unfold Half; omega) hlt (by unfold Half; omega) (by unfold Half; omega) W1)
        replace e3 := Lib.hid e3
        obtain ⟨u, hu⟩ : ∃ u, Hid (x' + y' / 2 ^ k = u) := ⟨_, rfl⟩
        obtain ⟨v, hv⟩ : ∃ v, Hid (y' - x' / 2 ^ k = v) := ⟨_, rfl⟩
        rw [hu.out] at d c1 c2 e3
        rw [hv.out] at d c3 c4 e3
        clear hu hv
        go_wp2_with (go_at_call 34; refine (d.out _).mono ?_; rintro e wa ⟨rfl, ha1⟩)
        go_roundw
        case rel => exact ⟨k + 1, u, v, z' + t, by omega, by go_num, rfl, rfl, by go_num, e3, below_then hB ha1⟩
        case measure => simp [intOf]; omega
    · obtain rfl : k = 30 := by omega
      obtain ⟨p0, p1, p2, p3⟩ := clamp_facts a hA.out hx.out
      have d1 := Lib.hid (fun W1 : World => fixClamp x 0 4294967296 p0 (by unfold Half; omega) (by unfold Half; omega) W1)
      have d2 := Lib.hid (fun W1 : World => fixClamp y 0 4294967296 p1 (by unfold Half; omega) (by unfold Half; omega) W1)
      rw [p2] at d1
      rw [p3] at d2
      clear p0 p1 p2 p3 hx hlt
      obtain ⟨b1, hb1⟩ : ∃ b, clamped x 0 4294967296 = b := ⟨_, rfl⟩
      obtain ⟨b2, hb2⟩ : ∃ b, clamped y 0 4294967296 = b := ⟨_, rfl⟩
      rw [hb1] at d1
      rw [hb2] at d2
      clear hb1 hb2
      go_wp2_with fail
      refine (d1.out _).mono ?_
      rintro e w1 ⟨rfl, hc1⟩
      replace hB := below_then hB hc1
      clear hc1
      go_wp2_with fail
      refine (d2.out _).mono ?_
      rintro e w2 ⟨rfl, hc2⟩
      replace hB := below_then hB hc2
      clear hc2
      go_wp2
      go_ret2
      exact ⟨rfl, hB⟩
/-- Cosine and sine of any angle. -/
def cosA (a : Int) : Int := if a / 1073741824 = 0 then cosOf (a % 1073741824) else if a / 1073741824 = 1 then -sinOf (a % 1073741824) else if a / 1073741824 = 2 then -cosOf (a % 1073741824) else sinOf (a % 1073741824)
def sinA (a : Int) : Int := if a / 1073741824 = 0 then sinOf (a % 1073741824) else if a / 1073741824 = 1 then cosOf (a % 1073741824) else if a / 1073741824 = 2 then -sinOf (a % 1073741824) else -cosOf (a % 1073741824)
theorem cosA_facts (a : Int) (ha : Word32 a) : ∃ q r c s : Int, a / 1073741824 = q ∧ a % 1073741824 = r ∧ (0 ≤ r ∧ r < 1073741824) ∧ cosOf r = c ∧ sinOf r = s ∧ (1 ≤ c ∧ c ≤ 4294967296) ∧ (1 ≤ s ∧ s ≤ 4294967296) ∧
    ((q = 0 ∧ cosA a = c ∧ sinA a = s) ∨ (q = 1 ∧ cosA a = -s ∧ sinA a = c) ∨ (q = 2 ∧ cosA a = -c ∧ sinA a = -s) ∨ (q = 3 ∧ cosA a = s ∧ sinA a = -c)) := by
  obtain ⟨a0, a1⟩ := ha
  have hr : 0 ≤ a % 1073741824 ∧ a % 1073741824 < 1073741824 := by omega
  obtain ⟨c1, c2, c3, c4, -⟩ := cos_sin _ hr
  refine ⟨_, _, _, _, rfl, rfl, hr, rfl, rfl, ⟨c1, c2⟩, ⟨c3, c4⟩, ?_⟩
  unfold cosA sinA
  rcases (by omega : a / 1073741824 = 0 ∨ a / 1073741824 = 1 ∨ a / 1073741824 = 2 ∨ a / 1073741824 = 3) with h | h | h | h <;> rw [h] <;> simp
set_option maxRecDepth 100000 in
set_option maxHeartbeats 1000000 in
theorem turnBoth (a : Int) (ha : Word32 a) (w : World) (hS : Steps w) :
    Calls Tryd.prog 10 #[.int .u32 a] w fun e w' => e = .returned (.tuple #[.int .i64 (cosA a), .int .i64 (sinA a)]) ∧ Below w.heap.size w w' := by
  obtain ⟨q, r, c, s, e1, e2, hr, e3, e4, ⟨c0, c1⟩, ⟨s0, s1⟩, hq⟩ := cosA_facts a ha
  obtain ⟨a0, a1⟩ := ha
  have d := Lib.hid (turnQuarter r hr w hS)
  rw [e3, e4] at d
  clear e3 e4
  obtain ⟨r0, r1⟩ := hr
  rcases hq with ⟨rfl, x1, x2⟩ | ⟨rfl, x1, x2⟩ | ⟨rfl, x1, x2⟩ | ⟨rfl, x1, x2⟩
  all_goals
    rw [x1, x2]
    clear x1 x2
    go_enter Tryd.func10, Tryd.ntmps10
    go_wp2_with (go_at_call 28; refine d.out.mono ?_; rintro e w' ⟨rfl, hb⟩)
    go_ret2
    exact ⟨rfl, hb⟩

end Go.Proofs.YtneljefoglmldaaDoor
