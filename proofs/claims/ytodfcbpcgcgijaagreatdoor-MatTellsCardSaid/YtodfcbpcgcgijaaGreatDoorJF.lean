import Derived.Test.YtodfcbpcgcgijaaGreatDoorJE
import Derived.ArgAppend
import Derived.WalkSpells
import Derived.Laws.MakeOwn
import Derived.Test.YtodfcbpcgcgijaaGreatDoorJC
import Derived.Test.YtodfcbpcgcgijaaGreatDoorJD
import Derived.Test.YtodfcbpcgcgijaaGreatDoorJA
/- What Right of the document's answers gives: a number over a power of 2, rounding down. -/
namespace Go.Proofs.YtodfcbpcgcgijaaGreatDoor
set_option maxRecDepth 100000
open Go.RowKit
attribute [local go_sem] cell_re eqW_self
attribute [local go_sem ↓] run_eqlW run_neqW

theorem bit_shift (a : Int) (k j : Nat) : bit (a / 2 ^ k) (j + 1) = bit (a / 2 ^ (k + 1)) j := by
  unfold bit
  rw [Int.ediv_ediv_of_nonneg (Int.le_of_lt (pow_pos' _)), Int.ediv_ediv_of_nonneg (Int.le_of_lt (pow_pos' _)), ← Int.pow_add, ← Int.pow_add, show k + (j + 1) = k + 1 + j by omega]
theorem sign_div (a : Int) (ha : Fits a) (n : Nat) : a / 2 ^ (127 + n) = a / 2 ^ 127 := by
  unfold Fits at ha
  have hp := pow_pos' n
  rw [Int.pow_add, ← Int.ediv_ediv_of_nonneg (Int.le_of_lt (pow_pos' 127))]
  have h : a / 2 ^ 127 = -1 ∨ a / 2 ^ 127 = 0 := by
    rw [show (2 : Int) ^ 127 = 170141183460469231731687303715884105728 from rfl]
    omega
  rcases h with h | h <;> rw [h]
  · generalize (2 : Int) ^ n = p at hp
    have e : (-1 : Int) = (p - 1) + p * (-1) := by omega
    rw [e, Int.add_mul_ediv_left _ _ (Int.ne_of_gt hp), Int.ediv_eq_zero_of_lt (by omega) (by omega)]
    omega
  · exact Int.zero_ediv _
theorem bit_sign (a : Int) (ha : Fits a) (k : Nat) : bit (a / 2 ^ k) 127 = bit a 127 := by
  unfold bit
  rw [Int.ediv_ediv_of_nonneg (Int.le_of_lt (pow_pos' _)), ← Int.pow_add, Nat.add_comm, sign_div a ha]

/-- A slice of 128 integers, from off on in block g, and what lies behind them up to its capacity. -/
structure Win (w : World) (B g off cap : Nat) (f : Nat → Int) : Prop where
  ge : B ≤ g
  le : 128 ≤ cap
  max : cap ≤ maxLen
  row : ∃ cur, w.heap[g]? = some (.cells cur 3 (0, 0)) ∧ off + cap ≤ cur.size ∧ ∀ j, j < 128 → cur[off + j]? = some (.int .i64 (f j))
theorem Win.lt {w : World} {B g off cap : Nat} {f : Nat → Int} (h : Win w B g off cap f) : g < w.heap.size := by
  obtain ⟨cur, hc, _⟩ := h.row
  rcases Nat.lt_or_ge g w.heap.size with hlt | hge
  · exact hlt
  · rw [Array.getElem?_eq_none hge] at hc; cases hc
theorem Win.ints {w : World} {B g off cap : Nat} {f : Nat → Int} (h : Win w B g off cap f) : Ints w g off f :=
  ⟨h.lt, fun j hj => by obtain ⟨cur, hc, _, hf⟩ := h.row; rw [cell_of_row w g (off + j) cur _ _ hc]; exact hf j hj⟩
theorem Win.below {w w' : World} {B B' g off cap : Nat} {f : Nat → Int} (h : Win w B g off cap f) (hb : Below B' w w') (hg : g < B') : Win w' B g off cap f :=
  ⟨h.ge, h.le, h.max, by obtain ⟨cur, hc, h2⟩ := h.row; exact ⟨cur, (hb.block g hg).trans hc, h2⟩⟩
theorem Win.alloc {w : World} {B g off cap : Nat} {f : Nat → Int} (h : Win w B g off cap f) (o : Obj) : Win (w.alloc o) B g off cap f := h.below ((Below.refl w.heap.size w).alloc (Nat.le_refl _) o) h.lt
theorem Win.spare {w : World} {B g off cap : Nat} {f : Nat → Int} (h : Win w B g off cap f) (j : Nat) (hj : j < cap) : (w.cell? ⟨g, off + j, none⟩).isSome = true ∧ w.frozen? ⟨g, off + j, none⟩ = false := by
  obtain ⟨cur, hc, hs, _⟩ := h.row
  exact ⟨by rw [cell_of_row w g (off + j) cur _ _ hc, Array.getElem?_eq_getElem (by omega)]; rfl, frozen_of_row w g (off + j) cur _ hc⟩
theorem Win.of_row {w : World} {B g cap : Nat} {f : Nat → Int} {xs : List Value} (h : w.ownsRow B 3 1 (.slice (some ⟨g, 0, none⟩) 128 cap) 128 xs) (hx : ∀ j, j < 128 → xs[j]? = some (.int .i64 (f j))) : Win w B g 0 cap f := by
  rcases h.2 with ⟨h', _⟩ | ⟨g', cap', cur, h', hb, hg, hnc, hcm, hcs, htake⟩
  · simp at h'
  · simp only [Value.slice.injEq, Option.some.injEq, Addr.mk.injEq, and_true, true_and] at h'
    obtain ⟨rfl, rfl⟩ := h'
    refine ⟨hb, hnc, hcm, cur, hg, by omega, fun j hj => ?_⟩
    have := hx j hj
    rw [← htake, List.getElem?_take, if_pos (by omega)] at this
    rw [Nat.zero_add]
    simpa using this

theorem Win.congr {w : World} {B g off cap : Nat} {f f' : Nat → Int} (h : Win w B g off cap f) (hf : ∀ j, j < 128 → f j = f' j) : Win w B g off cap f' :=
  ⟨h.ge, h.le, h.max, by obtain ⟨cur, hc, hs, hx⟩ := h.row; exact ⟨cur, hc, hs, fun j hj => by rw [← hf j hj]; exact hx j hj⟩⟩
theorem Win.mono {w : World} {B B' g off cap : Nat} {f : Nat → Int} (h : Win w B g off cap f) (hB : B' ≤ B) : Win w B' g off cap f := ⟨Nat.le_trans hB h.ge, h.le, h.max, h.row⟩
theorem Win.room {w : World} {B g off cap : Nat} {f : Nat → Int} (h : Win w B g off cap f) (hc : 128 ≤ cap - 1) (d : Int) :
    Win (w.setCells g (off + 1 + 127 * 1) [.int .i64 d]) B g (off + 1) (cap - 1) (fun j => if j < 127 then f (j + 1) else d) := by
  obtain ⟨cur, hcur, hs, hx⟩ := h.row
  have hm := h.max
  refine ⟨h.ge, hc, by omega, cur.setIfInBounds (off + 128) (.int .i64 d), ?_, by simp; omega, fun j hj => ?_⟩
  · show (w.setCell ⟨g, off + 1 + 127 * 1, none⟩ (.int .i64 d)).heap[g]? = _
    rw [show off + 1 + 127 * 1 = off + 128 by omega]
    exact heap_setCell_same w g (off + 128) cur 3 _ hcur
  · rw [Array.getElem?_setIfInBounds]
    by_cases h7 : j < 127
    · rw [if_neg (by omega), if_pos h7, show off + 1 + j = off + (j + 1) by omega]
      exact hx (j + 1) (by omega)
    · obtain rfl : j = 127 := by omega
      rw [if_pos (by omega), if_pos (by omega), if_neg (by omega)]
theorem Below.cells1 {B : Nat} {a w : World} (h : Below B a w) {g : Nat} (hg : B ≤ g) (o : Nat) (u : Value) : Below B a (w.setCells g o [u]) := h.setCell (p := ⟨g, o, none⟩) hg u
theorem Holds.cells1 {w : World} {k g : Nat} {v : Int} (h : Holds w k v) (hk : k < g) (o : Nat) (u : Value) : Holds (w.setCells g o [u]) k v :=
  h.below (B := g) ((Below.refl g w).setCell (p := ⟨g, o, none⟩) (Nat.le_refl g) u) hk
theorem shifted (a : Int) (ha : Fits a) (k j : Nat) (hj : j < 128) : (if j < 127 then bit (a / 2 ^ k) (j + 1) else bit a 127) = bit (a / 2 ^ (k + 1)) j := by
  by_cases h : j < 127
  · rw [if_pos h, bit_shift]
  · obtain rfl : j = 127 := by omega
    rw [if_neg (by omega), bit_sign a ha]

/-- What holds at a round's head. -/
structure RightAt (a : Int) (w : World) (k : Nat) (v : Value) (wr : World) : Prop where
  win : ∃ g off cap, v = .slice (some ⟨g, off, none⟩) 128 cap ∧ Win wr (w.heap.size + 2) g off cap (bit (a / 2 ^ k))
  res : Holds wr (w.heap.size + 1) 0
  old : Below w.heap.size w wr

def olds (a : Int) (k : Nat) : List Value := (List.range 127).map fun j => Value.int .i64 (bit (a / 2 ^ k) (j + 1))
theorem olds_at (a : Int) (k j : Nat) (h : j < 127) : (olds a k)[j]? = some (Value.int .i64 (bit (a / 2 ^ k) (j + 1))) := by unfold olds; simp [h]
theorem olds_len (a : Int) (k : Nat) : (olds a k).length = 127 := by unfold olds; simp
theorem olds_ok {a : Int} {w : World} {B k g off c : Nat} (hW : Win w B g off c (bit (a / 2 ^ k))) {j : Nat} {u : Value} (hj : (olds a k)[j]? = some u) : w.cell? ⟨g, off + 1 + j, none⟩ = some u := by
  have hj7 : j < 127 := by
    rcases Nat.lt_or_ge j 127 with h | h
    · exact h
    · rw [List.getElem?_eq_none (by rw [olds_len]; exact h)] at hj; cases hj
  rw [olds_at a k j hj7] at hj
  injection hj with hj
  subst hj
  rw [show off + 1 + j = off + (j + 1) by omega]
  exact hW.ints.at_ (j + 1) (by omega)
theorem right_room {a : Int} {w wr : World} (ha : Fits a) {k g off c : Nat} {d : Int} (hd : bit a 127 = d) (hW : Win wr (w.heap.size + 2) g off c (bit (a / 2 ^ k))) (hR : Holds wr (w.heap.size + 1) 0) (hB : Below w.heap.size w wr) (hc : 128 ≤ c - 1) :
    RightAt a w (k + 1) (.slice (some ⟨g, off + 1, none⟩) 128 (c - 1)) ((wr.alloc (.cells #[.int .i64 d] 3)).setCells g (off + 1 + 127 * 1) [.int .i64 d]) := by
  have hg := hW.ge
  refine ⟨⟨g, off + 1, c - 1, rfl, ((hW.alloc _).room hc d).congr fun j hj => ?_⟩, (hR.alloc _).cells1 (by omega) _ _, Below.cells1 (hB.alloc hB.size _) (by omega) _ _⟩
  rw [← hd]
  exact shifted a ha k j hj
theorem right_grow {a : Int} {w wr w' : World} (ha : Fits a) {k : Nat} {d : Int} {v : Value} (hd : bit a 127 = d) (hR : Holds wr (w.heap.size + 1) 0) (hB : Below w.heap.size w wr)
    (hown : w'.ownsRow (wr.heap.size + 1) 3 1 v 128 (olds a k ++ [.int .i64 d])) (hg : (wr.alloc (.cells #[.int .i64 d] 3)).grownBy w' none) : RightAt a w (k + 1) v w' := by
  have hs := hR.lt
  have hb : Below (wr.alloc (.cells #[.int .i64 d] 3)).heap.size (wr.alloc (.cells #[.int .i64 d] 3)) w' := (Below.refl _ _).grown hg (Nat.le_refl _) (fun _ h => by cases h)
  obtain ⟨g, cap, rfl, _⟩ := hown.form (by omega)
  refine ⟨⟨g, 0, cap, rfl, (Win.of_row (f := bit (a / 2 ^ (k + 1))) hown fun j hj => ?_).mono (by omega)⟩, (hR.alloc _).call hb, below_then (hB.alloc hB.size _) hb⟩
  rw [← shifted a ha k j hj]
  by_cases h : j < 127
  · rw [List.getElem?_append_left (by rw [olds_len]; exact h), olds_at a k j h, if_pos h]
  · obtain rfl : j = 127 := by omega
    rw [List.getElem?_append_right (by rw [olds_len]; omega), olds_len, if_neg (by omega), hd]
    rfl

set_option maxRecDepth 100000 in
set_option maxHeartbeats 1000000 in
theorem refRight_m (a n : Int) (ha : Fits a) (m : Nat) (hm : m ≤ 127) (hn : n ≤ 9223372036854775807) (hn2 : -9223372036854775808 ≤ n) (hmn : (n ≤ 0 ∧ m = 0) ∨ (0 < n ∧ n ≤ 127 ∧ (m : Int) = n) ∨ (127 < n ∧ m = 127)) (w : World) :
    Calls Tryz.prog 101 #[W a, .int .i64 n] w fun e w' => e = .returned (W (a / 2 ^ m)) ∧ Below w.heap.size w w' := by
  obtain ⟨i0, hi0, hz0, hz1, hz2⟩ := info_parts Tryz.infoInt
  obtain ⟨z1, z2⟩ := zero_halves
  have hz : ((w.alloc (.cells #[.int .i64 (hi a), .int .u64 (lo a)] 56)).alloc (.cells #[.int .i64 0, .int .u64 0] 56)) = (w.alloc (.cells #[.int .i64 (hi a), .int .u64 (lo a)] 56)).alloc (.cells #[.int .i64 (hi 0), .int .u64 (lo 0)] 56) := by rw [z1, z2]
  have hR : Holds ((w.alloc (.cells #[.int .i64 (hi a), .int .u64 (lo a)] 56)).alloc (.cells #[.int .i64 0, .int .u64 0] 56)) (w.heap.size + 1) 0 := by
    rw [hz]
    have := Holds.new (w.alloc (.cells #[.int .i64 (hi a), .int .u64 (lo a)] 56)) 0 56
    rw [World.size_alloc] at this
    exact this
  have hB : Below w.heap.size w ((w.alloc (.cells #[.int .i64 (hi a), .int .u64 (lo a)] 56)).alloc (.cells #[.int .i64 0, .int .u64 0] 56)) := by go_grown
  clear hz z1 z2
  have hmn' := Lib.hid hmn
  clear hmn
  go_enter Tryz.func101, Tryz.ntmps101
  go_wp2_with fail
  refine (refDigits a _).mono ?_
  rintro e w1 ⟨g, cap, rfl, hown, hb1⟩
  replace hR := hR.call hb1
  replace hB := below_then hB hb1
  have hW : Win w1 (w.heap.size + 2) g 0 cap (bit (a / 2 ^ 0)) := by
    rw [show a / 2 ^ 0 = a by simp]
    exact (Win.of_row hown (fun j hj => bits_at a 128 j hj)).mono (by simp)
  have hc7 : w1.cell? ⟨g, 127, none⟩ = some (.int .i64 (bit a 127)) := (row_cell hown (Below.refl _ _)).2 127 (by omega)
  have hM0 : RightAt a w 0 (.slice (some ⟨g, 0, none⟩) 128 cap) w1 := ⟨⟨g, 0, cap, rfl, hW⟩, hR, hB⟩
  obtain ⟨d, hd⟩ : ∃ d, Hid (bit a 127 = d) := ⟨_, rfl⟩
  rw [hd.out] at hc7
  clear hown hb1 hW hR hB
  go_wp2
  go_loopw [5, 7] (fun v5 v7 wr => ∃ k : Nat, k ≤ m ∧ v7 = .int .i64 k ∧ RightAt a w k v5 wr) (fun _ v7 _ => 127 - (intOf v7).toNat)
  case atStart => exact ⟨0, Nat.zero_le _, rfl, hM0⟩
  case round =>
    clear hM0 hc7
    obtain ⟨k, hk, rfl, ⟨⟨g', off, c, rfl, hW⟩, hR, hB⟩⟩ := hrel
    have hWc := hW.le
    have hWm := hW.max
    unfold maxLen at hWm
    have hg2 := hW.ge
    have gl := hW.lt
    have hsz := hR.lt
    by_cases hlt : k < m
    · have j0 : (0 : Int) ≤ (k : Int) := by omega
      have j1 : (k : Int) < 127 := by omega
      have j4 : (1 : Int) ≤ (c : Int) := by omega
      have j5 : (128 : Int) ≤ (c : Int) := by omega
      have hn0 : 0 < n := by have := hmn'.out; omega
      have hW1 := hW.alloc (.cells #[.int .i64 d] 3)
      have hi1 := hW1.ints.at_
      have hi2 := Lib.hid hi1
      clear hi1
      by_cases hbig : n ≤ 127
      · have j2 : (k : Int) < n := by have := hmn'.out; omega
        go_wp2_with (at_builtin; refine wpList_append_arg _ rfl _ _ 83 rfl 3 i0 (.int .i64 0) 1 8 Tryz.underlying83 hi0 hz0 hz1 hz2 rfl (by decide) g' (off + 1) 127 (c - 1) (olds a k) rfl ?lo ?olds ⟨wr.heap.size, 0, none⟩ 1 1 [.int .i64 d] rfl rfl ?c1 ?c2 ?spare ?b1 ?b2 ?room ?grow)
        case lo => rw [olds_len]
        case olds =>
          intro j u hj
          have hj7 : j < 127 := by
            rcases Nat.lt_or_ge j 127 with h | h
            · exact h
            · rw [List.getElem?_eq_none (by rw [olds_len]; exact h)] at hj; cases hj
          rw [olds_at a k j hj7] at hj
          injection hj with hj
          subst hj
          rw [show off + 1 + j = off + (j + 1) by omega]
          exact hi2.out (j + 1) (by omega)
        case c1 =>
          intro j u hj
          match j, hj with
          | 0, hj => simp at hj; subst hj; simp [Addr.add]
        case c2 => intro u hu; simp at hu; subst hu; rfl
        case spare =>
          intro hr j hj
          simp at hj
          subst hj
          have := hW1.spare 128 (by omega)
          rw [show off + 1 + 127 * 1 + 0 = off + 128 by omega]
          exact this
        case b1 => unfold maxLen; omega
        case b2 => omega
        case room =>
          intro hr
          have hM := right_room ha hd.out hW hR hB (by omega)
          clear hW hR hB hW1 hi2
          go_wp2
          go_roundw
          case rel => exact ⟨k + 1, by omega, by go_num, hM⟩
          case measure => simp [intOf]; omega
        case grow =>
          intro hr v' w' hown' hgrow
          have hM := right_grow ha hd.out hR hB hown' hgrow
          clear hown' hgrow hW hR hB hW1 hi2
          go_wp2
          go_roundw
          case rel => exact ⟨k + 1, by omega, by go_num, hM⟩
          case measure => simp [intOf]; omega
      · have j3 : 127 < n := by omega
        go_wp2_with (at_builtin; refine wpList_append_arg _ rfl _ _ 83 rfl 3 i0 (.int .i64 0) 1 8 Tryz.underlying83 hi0 hz0 hz1 hz2 rfl (by decide) g' (off + 1) 127 (c - 1) (olds a k) rfl ?loZ ?oldsZ ⟨wr.heap.size, 0, none⟩ 1 1 [.int .i64 d] rfl rfl ?c1Z ?c2Z ?spareZ ?b1Z ?b2Z ?roomZ ?growZ)
        case roomZ =>
          intro hr
          have hM := right_room ha hd.out hW hR hB (by omega)
          clear hW hR hB hW1 hi2
          go_wp2
          go_roundw
          case rel => exact ⟨k + 1, by omega, by go_num, hM⟩
          case measure => simp [intOf]; omega
        case growZ =>
          intro hr v' w' hown' hgrow
          have hM := right_grow ha hd.out hR hB hown' hgrow
          clear hown' hgrow hW hR hB hW1 hi2
          go_wp2
          go_roundw
          case rel => exact ⟨k + 1, by omega, by go_num, hM⟩
          case measure => simp [intOf]; omega
        all_goals first
          | exact olds_len _ _
          | (unfold maxLen; omega)
          | omega
          | rfl
          | (intro hr; exact hW.spare 128 (by omega))
          | (intro u hu; simp at hu; subst hu; rfl)
          | (intro j u hj; exact olds_ok hW hj)
    · have hkm : Hid (k = m) := by show k = m; omega
      have hnum : Hid (Ints wr g' off (bit (a / 2 ^ m))) := by
        have h := hW.ints
        rw [hkm.out] at h
        exact h
      by_cases hbig : n ≤ 127
      · have j2 : ¬ (k : Int) < n := by have := hmn'.out; omega
        go_wp2_with fail
        refine (number_ints (a / 2 ^ m) hnum.out).mono ?_
        rintro e w6 ⟨rfl, hb6⟩
        have hR6 := hR.call hb6
        have hB6 := below_then hB hb6
        obtain ⟨rl, r0, r1, r2, r3⟩ := hR6
        clear hR hB hb6 hW
        go_wp2
        refine bodyPost_ret (by simp [results, Tryz.results101, go_sem, r0, r1]; try rfl) rfl ?_
        exact ⟨rfl, below_put hB6 (show w.heap.size ≤ w.heap.size + 1 by omega) _⟩
      · have j3 : 127 < n := by omega
        have j4 : ¬ (k : Int) < 127 := by have := hmn'.out; omega
        go_wp2_with fail
        refine (number_ints (a / 2 ^ m) hnum.out).mono ?_
        rintro e w6 ⟨rfl, hb6⟩
        have hR6 := hR.call hb6
        have hB6 := below_then hB hb6
        obtain ⟨rl, r0, r1, r2, r3⟩ := hR6
        clear hR hB hb6 hW
        go_wp2
        refine bodyPost_ret (by simp [results, Tryz.results101, go_sem, r0, r1]; try rfl) rfl ?_
        exact ⟨rfl, below_put hB6 (show w.heap.size ≤ w.heap.size + 1 by omega) _⟩

end Go.Proofs.YtodfcbpcgcgijaaGreatDoor

/- What Near and Clip of the document's answers give. -/
namespace Go.Proofs.YtodfcbpcgcgijaaGreatDoor
set_option maxRecDepth 100000
open Go.RowKit
attribute [local go_sem] cell_re eqW_self
attribute [local go_sem ↓] run_eqlW run_neqW

theorem refRight (a : Int) (ha : Fits a) (n : Int) (hn : Half n) (k : Nat) (pn : places n = (k : Int)) (w : World) :
    Calls Tryz.prog 101 #[W a, .int .i64 n] w fun e w' => e = .returned (W (a / 2 ^ k)) ∧ Below w.heap.size w w' := by
  obtain ⟨n0, n1⟩ := hn
  exact refRight_m a n ha k (by unfold places at pn; omega) n1 n0 (by unfold places at pn; omega) w

set_option maxRecDepth 100000 in
set_option maxHeartbeats 1000000 in
theorem refNear_in (a : Int) (ha : Fits a) (k : Nat) (hk : k ≤ 126) (w : World) :
    Calls Tryz.prog 84 #[W a, .int .i64 ((k : Int) + 1)] w fun e w' => e = .returned (W (a / 2 ^ (k + 1) + bit a k)) ∧ Below w.heap.size w w' := by
  obtain ⟨z1, z2⟩ := zero_halves
  have hz : ((w.alloc (.cells #[.int .i64 (hi a), .int .u64 (lo a)] 56)).alloc (.cells #[.int .i64 0, .int .u64 0] 56)) = (w.alloc (.cells #[.int .i64 (hi a), .int .u64 (lo a)] 56)).alloc (.cells #[.int .i64 (hi 0), .int .u64 (lo 0)] 56) := by rw [z1, z2]
  have hA : Holds ((w.alloc (.cells #[.int .i64 (hi a), .int .u64 (lo a)] 56)).alloc (.cells #[.int .i64 0, .int .u64 0] 56)) w.heap.size a := (Holds.new w a 56).alloc _
  have hR : Holds ((w.alloc (.cells #[.int .i64 (hi a), .int .u64 (lo a)] 56)).alloc (.cells #[.int .i64 0, .int .u64 0] 56)) (w.heap.size + 1) 0 := by
    rw [hz]
    have := Holds.new (w.alloc (.cells #[.int .i64 (hi a), .int .u64 (lo a)] 56)) 0 56
    rw [World.size_alloc] at this
    exact this
  have hB : Below w.heap.size w ((w.alloc (.cells #[.int .i64 (hi a), .int .u64 (lo a)] 56)).alloc (.cells #[.int .i64 0, .int .u64 0] 56)) := by go_grown
  clear hz z1 z2
  have j0 : (0 : Int) ≤ (k : Int) := by omega
  have j1 : (k : Int) ≤ 126 := by omega
  have j2 : (k : Int) < 128 := by omega
  go_enter Tryz.func84, Tryz.ntmps84
  go_wp2_with fail
  refine (refDigits a _).mono ?_
  rintro e w1 ⟨g, cap, rfl, hown, hb1⟩
  have hc := (row_cell hown (Below.refl _ _)).2 k (by omega)
  obtain ⟨d, hd, d0, d1⟩ : ∃ d, Hid (bit a k = d) ∧ 0 ≤ d ∧ d ≤ 1 := ⟨_, rfl, bit_lo a k, bit_hi a k⟩
  rw [hd.out] at hc
  replace hA := hA.call hb1
  replace hR := hR.call hb1
  replace hB := below_then hB hb1
  have hx := hA
  obtain ⟨xl, x0, x1, x2, x3⟩ := hx
  clear hown hb1
  go_wp2_with fail
  refine (refRight a ha ((k : Int) + 1) (by unfold Half; omega) (k + 1) (by unfold places; omega) _).mono ?_
  rintro e w3 ⟨rfl, hb3⟩
  replace hR := hR.call hb3
  replace hB := below_then hB hb3
  clear hA hb3 xl x0 x1 x2 x3 hc
  go_wp2_with fail
  refine (refOf d (by unfold Half; omega) _).mono ?_
  rintro e w4 ⟨rfl, hb4⟩
  replace hR := hR.call hb4
  replace hB := below_then hB hb4
  clear hb4
  go_wp2_with fail
  refine (refAdd _ d _).mono ?_
  rintro e w5 ⟨rfl, hb5⟩
  replace hR := hR.call hb5
  replace hB := below_then hB hb5
  clear hb5
  obtain ⟨rl, r0, r1, r2, r3⟩ := hR
  go_wp2
  refine bodyPost_ret (by simp [results, Tryz.results84, go_sem, r0, r1]; try rfl) rfl ?_
  exact ⟨by rw [hd.out] <;> simp, below_put hB (show w.heap.size ≤ w.heap.size + 1 by omega) _⟩

set_option maxRecDepth 100000 in
set_option maxHeartbeats 1000000 in
theorem refNear_far (a : Int) (ha : Fits a) (n : Int) (h0 : 127 < n) (w : World) :
    Calls Tryz.prog 84 #[W a, .int .i64 n] w fun e w' => e = .returned (W (a / 2 ^ (126 + 1) + bit a 126)) ∧ Below w.heap.size w w' := by
  obtain ⟨z1, z2⟩ := zero_halves
  have hz : ((w.alloc (.cells #[.int .i64 (hi a), .int .u64 (lo a)] 56)).alloc (.cells #[.int .i64 0, .int .u64 0] 56)) = (w.alloc (.cells #[.int .i64 (hi a), .int .u64 (lo a)] 56)).alloc (.cells #[.int .i64 (hi 0), .int .u64 (lo 0)] 56) := by rw [z1, z2]
  have hA : Holds ((w.alloc (.cells #[.int .i64 (hi a), .int .u64 (lo a)] 56)).alloc (.cells #[.int .i64 0, .int .u64 0] 56)) w.heap.size a := (Holds.new w a 56).alloc _
  have hR : Holds ((w.alloc (.cells #[.int .i64 (hi a), .int .u64 (lo a)] 56)).alloc (.cells #[.int .i64 0, .int .u64 0] 56)) (w.heap.size + 1) 0 := by
    rw [hz]
    have := Holds.new (w.alloc (.cells #[.int .i64 (hi a), .int .u64 (lo a)] 56)) 0 56
    rw [World.size_alloc] at this
    exact this
  have hB : Below w.heap.size w ((w.alloc (.cells #[.int .i64 (hi a), .int .u64 (lo a)] 56)).alloc (.cells #[.int .i64 0, .int .u64 0] 56)) := by go_grown
  clear hz z1 z2
  go_enter Tryz.func84, Tryz.ntmps84
  go_wp2_with fail
  refine (refDigits a _).mono ?_
  rintro e w1 ⟨g, cap, rfl, hown, hb1⟩
  have hc := (row_cell hown (Below.refl _ _)).2 126 (by omega)
  obtain ⟨d, hd, d0, d1⟩ : ∃ d, Hid (bit a 126 = d) ∧ 0 ≤ d ∧ d ≤ 1 := ⟨_, rfl, bit_lo a 126, bit_hi a 126⟩
  rw [hd.out] at hc
  replace hA := hA.call hb1
  replace hR := hR.call hb1
  replace hB := below_then hB hb1
  have hx := hA
  obtain ⟨xl, x0, x1, x2, x3⟩ := hx
  clear hown hb1
  go_wp2_with fail
  refine (refRight a ha 127 (by unfold Half; omega) (126 + 1) (by unfold places; omega) _).mono ?_
  rintro e w3 ⟨rfl, hb3⟩
  replace hR := hR.call hb3
  replace hB := below_then hB hb3
  clear hA hb3 xl x0 x1 x2 x3 hc
  go_wp2_with fail
  refine (refOf d (by unfold Half; omega) _).mono ?_
  rintro e w4 ⟨rfl, hb4⟩
  replace hR := hR.call hb4
  replace hB := below_then hB hb4
  clear hb4
  go_wp2_with fail
  refine (refAdd _ d _).mono ?_
  rintro e w5 ⟨rfl, hb5⟩
  replace hR := hR.call hb5
  replace hB := below_then hB hb5
  clear hb5
  obtain ⟨rl, r0, r1, r2, r3⟩ := hR
  go_wp2
  refine bodyPost_ret (by simp [results, Tryz.results84, go_sem, r0, r1]; try rfl) rfl ?_
  exact ⟨by rw [hd.out] <;> simp, below_put hB (show w.heap.size ≤ w.heap.size + 1 by omega) _⟩

set_option maxRecDepth 100000 in
set_option maxHeartbeats 1000000 in
theorem refNear_low (a : Int) (n : Int) (h0 : n ≤ 0) (w : World) :
    Calls Tryz.prog 84 #[W a, .int .i64 n] w fun e w' => e = .returned (W a) ∧ Below w.heap.size w w' := by
  have h2 : n ≤ 127 := by omega
  go_enter Tryz.func84, Tryz.ntmps84
  go_wp2
  go_returns
  exact ⟨rfl, by go_grown⟩
theorem refNear (a n : Int) (ha : Fits a) (hn : Half n) (w : World) :
    Calls Tryz.prog 84 #[W a, .int .i64 n] w fun e w' => e = .returned (W (near a n)) ∧ Below w.heap.size w w' := by
  obtain ⟨n0, n1⟩ := hn
  rcases Int.lt_or_le 0 n with h | h
  · obtain ⟨k, hk⟩ : ∃ k : Nat, places n = (k : Int) + 1 := ⟨(places n).toNat - 1, by unfold places; omega⟩
    have e : near a n = a / 2 ^ (k + 1) + bit a k := by
      unfold near
      rw [if_neg (by omega), hk, show ((k : Int) + 1).toNat = k + 1 by omega, near_half a (k + 1) (by omega), show k + 1 - 1 = k by omega]
      rfl
    rw [e]
    by_cases hb : n ≤ 127
    · obtain rfl : n = (k : Int) + 1 := by unfold places at hk; omega
      exact refNear_in a ha k (by omega) w
    · obtain rfl : k = 126 := by unfold places at hk; omega
      exact refNear_far a ha n (by omega) w
  · have e : near a n = a := by unfold near; rw [if_pos h]
    rw [e]
    exact refNear_low a n h w


end Go.Proofs.YtodfcbpcgcgijaaGreatDoor

/- What Clip and Div of the document's answers give. -/
namespace Go.Proofs.YtodfcbpcgcgijaaGreatDoor
set_option maxRecDepth 100000
open Go.RowKit
attribute [local go_sem] cell_re eqW_self
attribute [local go_sem ↓] run_eqlW run_neqW

theorem refLess_v (a b : Int) (ha : Fits a) (hb : Fits b) (c : Bool) (h : decide (a < b) = c) (w : World) : Calls Tryz.prog 100 #[W a, W b] w fun e w' => e = .returned (.bool c) ∧ Below w.heap.size w w' := by
  subst h
  exact refLess a b ha hb w

set_option maxHeartbeats 1000000 in
theorem refClip_lo (a : Int) (ha : Fits a) (h : a < -9223372036854775808) (w : World) :
    Calls Tryz.prog 81 #[W a] w fun e w' => e = .returned (.tuple #[.int .i64 (clipped a), .bool (cut a)]) ∧ Below w.heap.size w w' := by
  have hha := hi_lo a
  have hga := hi_hi a
  have hla := lo_lo a
  have hka := lo_hi a
  have c1 := Lib.hid (show decide (a < -9223372036854775808) = true by simp; omega)
  have c2 := Lib.hid (show decide (9223372036854775807 < a) = false by simp; omega)
  have f1 := Lib.hid (show Fits (-9223372036854775808) by unfold Fits; omega)
  have f2 := Lib.hid (show Fits 9223372036854775807 by unfold Fits; omega)
  go_enter Tryz.func81, Tryz.ntmps81
  go_wp2_with fail
  refine wp_region_quiet_below (by kernel_rfl) (by kernel_rfl) ?_
  repeat (go_big_quiet_step ((first | (go_at_call 85; first | (with_reducible exact Calls.regrown_of (refOf (-9223372036854775808) (by unfold Half; omega) _))) | (go_at_call 100; first | (with_reducible exact Calls.regrown_of (refLess_v a (-9223372036854775808) ha f1.out true c1.out _))))))
  refine wpQuiet_nil ?_
  intro w1 hw1
  have hb1 := below_of_re hw1
  clear hw1
  obtain ⟨hc1, hf1⟩ := bcell hb1
  have hz1 := hb1.size
  have ht1 : Below w.heap.size w w1 := Below.trans (by go_grown) (hb1.mono (by simp <;> omega))
  go_wp2
  go_returns
  refine ⟨retIB ?_ ?_, by assumption⟩
  · unfold clipped; omega
  · unfold cut; first | (symm; exact decide_eq_true (by omega)) | (symm; exact decide_eq_false (by omega))

set_option maxHeartbeats 1000000 in
theorem refClip_hi (a : Int) (ha : Fits a) (h : 9223372036854775807 < a) (w : World) :
    Calls Tryz.prog 81 #[W a] w fun e w' => e = .returned (.tuple #[.int .i64 (clipped a), .bool (cut a)]) ∧ Below w.heap.size w w' := by
  have hha := hi_lo a
  have hga := hi_hi a
  have hla := lo_lo a
  have hka := lo_hi a
  have c1 := Lib.hid (show decide (a < -9223372036854775808) = false by simp; omega)
  have c2 := Lib.hid (show decide (9223372036854775807 < a) = true by simp; omega)
  have f1 := Lib.hid (show Fits (-9223372036854775808) by unfold Fits; omega)
  have f2 := Lib.hid (show Fits 9223372036854775807 by unfold Fits; omega)
  go_enter Tryz.func81, Tryz.ntmps81
  go_wp2_with fail
  refine wp_region_quiet_below (by kernel_rfl) (by kernel_rfl) ?_
  repeat (go_big_quiet_step ((first | (go_at_call 85; first | (with_reducible exact Calls.regrown_of (refOf (-9223372036854775808) (by unfold Half; omega) _))) | (go_at_call 100; first | (with_reducible exact Calls.regrown_of (refLess_v a (-9223372036854775808) ha f1.out false c1.out _))))))
  refine wpQuiet_nil ?_
  intro w1 hw1
  have hb1 := below_of_re hw1
  clear hw1
  obtain ⟨hc1, hf1⟩ := bcell hb1
  have hz1 := hb1.size
  have ht1 : Below w.heap.size w w1 := Below.trans (by go_grown) (hb1.mono (by simp <;> omega))
  have d0 : w1.cell? ⟨w.heap.size, 0, none⟩ = some (.int .i64 (hi a)) := (hc1 _ _ (by simp)).trans (by simp [go_sem])
  have d1 : w1.cell? ⟨w.heap.size, 1, none⟩ = some (.int .u64 (lo a)) := (hc1 _ _ (by simp)).trans (by simp [go_sem])
  have e0 := cell_regrown d0
  have e1 := cell_regrown d1
  clear hc1 hf1 hz1 hb1
  go_wp2_with fail
  refine wp_region_quiet_below (by kernel_rfl) (by kernel_rfl) ?_
  repeat (go_big_quiet_step ((first | (go_at_call 85; first | (with_reducible exact Calls.regrown_of (refOf 9223372036854775807 (by unfold Half; omega) _))) | (go_at_call 100; first | (with_reducible exact Calls.regrown_of (refLess_v 9223372036854775807 a f2.out ha true c2.out _))))))
  refine wpQuiet_nil ?_
  intro w2 hw2
  have hb2 := below_of_re hw2
  clear hw2
  obtain ⟨hc2, hf2⟩ := bcell hb2
  have hz2 := hb2.size
  have ht2 : Below w.heap.size w w2 := Below.trans ht1 (hb2.mono ht1.size)
  go_wp2
  go_returns
  refine ⟨retIB ?_ ?_, by assumption⟩
  · unfold clipped; omega
  · unfold cut; first | (symm; exact decide_eq_true (by omega)) | (symm; exact decide_eq_false (by omega))

set_option maxHeartbeats 1000000 in
theorem refClip_in (a : Int) (ha : Fits a) (h : -9223372036854775808 ≤ a ∧ a ≤ 9223372036854775807) (w : World) :
    Calls Tryz.prog 81 #[W a] w fun e w' => e = .returned (.tuple #[.int .i64 (clipped a), .bool (cut a)]) ∧ Below w.heap.size w w' := by
  have hha := hi_lo a
  have hga := hi_hi a
  have hla := lo_lo a
  have hka := lo_hi a
  have c1 := Lib.hid (show decide (a < -9223372036854775808) = false by simp; omega)
  have c2 := Lib.hid (show decide (9223372036854775807 < a) = false by simp; omega)
  have f1 := Lib.hid (show Fits (-9223372036854775808) by unfold Fits; omega)
  have f2 := Lib.hid (show Fits 9223372036854775807 by unfold Fits; omega)
  go_enter Tryz.func81, Tryz.ntmps81
  go_wp2_with fail
  refine wp_region_quiet_below (by kernel_rfl) (by kernel_rfl) ?_
  repeat (go_big_quiet_step ((first | (go_at_call 85; first | (with_reducible exact Calls.regrown_of (refOf (-9223372036854775808) (by unfold Half; omega) _))) | (go_at_call 100; first | (with_reducible exact Calls.regrown_of (refLess_v a (-9223372036854775808) ha f1.out false c1.out _))))))
  refine wpQuiet_nil ?_
  intro w1 hw1
  have hb1 := below_of_re hw1
  clear hw1
  obtain ⟨hc1, hf1⟩ := bcell hb1
  have hz1 := hb1.size
  have ht1 : Below w.heap.size w w1 := Below.trans (by go_grown) (hb1.mono (by simp <;> omega))
  have d0 : w1.cell? ⟨w.heap.size, 0, none⟩ = some (.int .i64 (hi a)) := (hc1 _ _ (by simp)).trans (by simp [go_sem])
  have d1 : w1.cell? ⟨w.heap.size, 1, none⟩ = some (.int .u64 (lo a)) := (hc1 _ _ (by simp)).trans (by simp [go_sem])
  have e0 := cell_regrown d0
  have e1 := cell_regrown d1
  clear hc1 hf1 hz1 hb1
  go_wp2_with fail
  refine wp_region_quiet_below (by kernel_rfl) (by kernel_rfl) ?_
  repeat (go_big_quiet_step ((first | (go_at_call 85; first | (with_reducible exact Calls.regrown_of (refOf 9223372036854775807 (by unfold Half; omega) _))) | (go_at_call 100; first | (with_reducible exact Calls.regrown_of (refLess_v 9223372036854775807 a f2.out ha false c2.out _))))))
  refine wpQuiet_nil ?_
  intro w2 hw2
  have hb2 := below_of_re hw2
  clear hw2
  obtain ⟨hc2, hf2⟩ := bcell hb2
  have hz2 := hb2.size
  have ht2 : Below w.heap.size w w2 := Below.trans ht1 (hb2.mono ht1.size)
  have g1 : w2.cell? ⟨w.heap.size, 1, none⟩ = some (.int .u64 (lo a)) := (hb2.cell (p := ⟨w.heap.size, 1, none⟩) (World.block_lt_of_cell? w1 _ d1)).trans d1
  go_wp2
  go_returns
  refine ⟨retIB ?_ ?_, by assumption⟩
  · unfold clipped; (unfold wrap64 lo; omega)
  · unfold cut; first | (symm; exact decide_eq_true (by omega)) | (symm; exact decide_eq_false (by omega))

theorem refClip (a : Int) (ha : Fits a) (w : World) : Calls Tryz.prog 81 #[W a] w fun e w' => e = .returned (.tuple #[.int .i64 (clipped a), .bool (cut a)]) ∧ Below w.heap.size w w' := by
  by_cases h : a < -9223372036854775808
  · exact refClip_lo a ha h w
  · by_cases h2 : 9223372036854775807 < a
    · exact refClip_hi a ha h2 w
    · exact refClip_in a ha (by omega) w

end Go.Proofs.YtodfcbpcgcgijaaGreatDoor

/- What Div of the document's answers gives: the quotient, rounding towards 0, and the rest. -/
namespace Go.Proofs.YtodfcbpcgcgijaaGreatDoor
set_option maxRecDepth 100000
open Go.RowKit
attribute [local go_sem] cell_re eqW_self
attribute [local go_sem ↓] run_eqlW run_neqW

/-- One bit more of a quotient. -/
theorem div_bit (U y : Int) (hy : 1 ≤ y) (i : Nat) :
    bit (U / y) i = (2 * (U / 2 ^ (i + 1) % y) + bit U i) / y ∧ U / 2 ^ i % y = (2 * (U / 2 ^ (i + 1) % y) + bit U i) % y := by
  have e1 : U / 2 ^ i = 2 * (U / 2 ^ (i + 1)) + bit U i := by rw [div_succ]; unfold bit; omega
  have h1 := Int.mul_ediv_add_emod (U / 2 ^ (i + 1)) y
  have h2 := Int.emod_nonneg (U / 2 ^ (i + 1)) (show y ≠ 0 by omega)
  have h3 := Int.emod_lt_of_pos (U / 2 ^ (i + 1)) (show 0 < y by omega)
  have b0 := bit_lo U i
  have b1 := bit_hi U i
  have e2 : U / 2 ^ i = (2 * (U / 2 ^ (i + 1) % y) + bit U i) + y * (2 * (U / 2 ^ (i + 1) / y)) := by rw [Int.mul_left_comm]; omega
  have e3 : U / 2 ^ i / y = (2 * (U / 2 ^ (i + 1) % y) + bit U i) / y + 2 * (U / 2 ^ (i + 1) / y) := by rw [e2, Int.add_mul_ediv_left _ _ (by omega)]
  refine ⟨?_, by rw [e2, Int.add_mul_emod_self_left]⟩
  have e4 : bit (U / y) i = U / 2 ^ i / y % 2 := by
    unfold bit
    rw [Int.ediv_ediv_of_nonneg (by omega), Int.ediv_ediv_of_nonneg (Int.le_of_lt (pow_pos' i)), Int.mul_comm]
  rw [e4, e3]
  generalize U / 2 ^ (i + 1) % y = r at *
  have h5 : (2 * r + bit U i) / y < 2 := Int.ediv_lt_of_lt_mul (by omega) (by omega)
  have h6 : 0 ≤ (2 * r + bit U i) / y := Int.ediv_nonneg (by omega) (by omega)
  omega
/-- The quotient's bits from i on; below them nothing yet. -/
def outs (q : Int) (i : Nat) : List Value := (List.range 128).map fun j => Value.int .i64 (if j < i then 0 else bit q j)
theorem outs_at (q : Int) (i j : Nat) (h : j < 128) : (outs q i)[j]? = some (Value.int .i64 (if j < i then 0 else bit q j)) := by unfold outs; simp [h]
theorem outs_start (q : Int) : List.replicate 128 (Value.int .i64 0) = outs q 128 := by
  apply List.ext_getElem?
  intro j
  by_cases hj : j < 128
  · rw [outs_at q 128 j hj, if_pos hj, List.getElem?_replicate, if_pos hj]
  · rw [List.getElem?_eq_none (by simp; omega), List.getElem?_eq_none (by unfold outs; simp; omega)]
theorem outs_end (q : Int) : outs q 0 = bits_ q 128 := by unfold outs bits_; simp
theorem outs_one (q : Int) (i : Nat) (hi : i < 128) (h : bit q i = 1) : (outs q (i + 1)).set i (.int .i64 1) = outs q i := by
  apply List.ext_getElem?
  intro j
  by_cases hj : j < 128
  · rw [List.getElem?_set, outs_at q i j hj]
    by_cases hji : i = j
    · subst hji
      rw [if_pos rfl, if_pos (by unfold outs; simpa using hi), if_neg (by omega), h]
    · rw [if_neg hji, outs_at q (i + 1) j hj]
      by_cases h2 : j < i
      · rw [if_pos h2, if_pos (by omega)]
      · rw [if_neg h2, if_neg (by omega)]
  · rw [List.getElem?_eq_none (by unfold outs; simp; omega), List.getElem?_eq_none (by unfold outs; simp; omega)]
theorem outs_none (q : Int) (i : Nat) (h : bit q i = 0) : outs q (i + 1) = outs q i := by
  apply List.ext_getElem?
  intro j
  by_cases hj : j < 128
  · rw [outs_at q (i + 1) j hj, outs_at q i j hj]
    by_cases hji : i = j
    · subst hji
      rw [if_pos (by omega), if_neg (by omega), h]
    · by_cases h2 : j < i
      · rw [if_pos (by omega), if_pos h2]
      · rw [if_neg (by omega), if_neg h2]
  · rw [List.getElem?_eq_none (by unfold outs; simp; omega), List.getElem?_eq_none (by unfold outs; simp; omega)]

theorem make128 (w : World) : (Instr.makeSlice 83 (.int .i64 128) (.int .i64 128)).run Tryz.prog w = .ok (.slice (some ⟨w.heap.size, 0, none⟩) 128 128) (w.alloc (.cells (madeCells #[.int .i64 0] 128) 3)) := by
  obtain ⟨i0, hi0, hz0, hz1, hz2⟩ := info_parts Tryz.infoInt
  have h := run_make (P := Tryz.prog) w 83 3 i0 (.int .i64 0) Tryz.underlying83 hi0 hz0 .i64 .i64 128 128 (by omega) (by omega) (by rw [hz2]; omega) (by omega)
  rw [hz1] at h
  exact h
theorem made_row (q : Int) (w : World) : (w.alloc (.cells (madeCells #[.int .i64 0] 128) 3)).ownsRow w.heap.size 3 1 (.slice (some ⟨w.heap.size, 0, none⟩) 128 128) 128 (outs q 128) := by
  have h := World.ownsRow_lit (base := w.heap.size) (e := 3) (size := 1) w (madeCells #[.int .i64 0] 128) 128 (Nat.le_refl _) (by unfold maxLen; omega) (size_madeCells _ _)
  rw [toList_madeCells_one, outs_start q] at h
  exact h

/-- What holds before bit number i - 1 is looked at. -/
structure DivAt (U y a : Int) (w : World) (g o i : Nat) (rest : Int) (wr : World) : Prop where
  arg : Holds wr w.heap.size a
  res : Holds wr (w.heap.size + 1) 0
  ys : Ints wr g 0 (bit U)
  row : wr.ownsRow o 3 1 (.slice (some ⟨o, 0, none⟩) 128 128) 128 (outs (U / y) i)
  old : Below w.heap.size w wr
  rest : rest = U / 2 ^ i % y

set_option maxHeartbeats 400000 in
theorem refDiv_zero (a : Int) (w : World) : Calls Tryz.prog 78 #[W a, .int .i64 0] w fun e w' => e = .returned (.tuple #[.agg #[.int .i64 0, .int .u64 0], .int .i64 0, .bool false]) ∧ Below w.heap.size w w' := by
  go_enter Tryz.func78, Tryz.ntmps78
  go_wp2
  go_returns
  exact ⟨rfl, by go_grown⟩

set_option maxRecDepth 100000 in
set_option maxHeartbeats 2000000 in
theorem refDiv_pp (a b : Int) (ha : Fits a) (hb : Half b) (h0 : 0 ≤ a) (h1 : 0 < b) (w : World) :
    Calls Tryz.prog 78 #[W a, .int .i64 b] w fun e w' => e = .returned (.tuple #[W (a.tdiv b), .int .i64 (a.tmod b), .bool true]) ∧ Below w.heap.size w w' := by
  have hha := hi_lo a
  have hga := hi_hi a
  have hla := lo_lo a
  have hka := lo_hi a
  obtain ⟨hb0', hb1'⟩ := hb
  have hq := halves ha
  obtain ⟨ha0, ha1⟩ := ha
  have h2 : 0 ≤ hi a := by omega
  clear hq
  have y0 : 1 ≤ b := by omega
  have y1 : b ≤ 9223372036854775808 := by omega
  have y2 : IntKind.u64.wrap b = b := by rw [IntKind.wrap_u64]; omega
  have U0 : 0 ≤ a := h0
  have U1 : a ≤ 170141183460469231731687303715884105728 := by omega
  obtain ⟨z1, z2⟩ := zero_halves
  have hz : ((w.alloc (.cells #[.int .i64 (hi a), .int .u64 (lo a)] 56)).alloc (.cells #[.int .i64 0, .int .u64 0] 56)) = (w.alloc (.cells #[.int .i64 (hi a), .int .u64 (lo a)] 56)).alloc (.cells #[.int .i64 (hi 0), .int .u64 (lo 0)] 56) := by rw [z1, z2]
  have hA : Holds ((w.alloc (.cells #[.int .i64 (hi a), .int .u64 (lo a)] 56)).alloc (.cells #[.int .i64 0, .int .u64 0] 56)) w.heap.size a := (Holds.new w a 56).alloc _
  have hR : Holds ((w.alloc (.cells #[.int .i64 (hi a), .int .u64 (lo a)] 56)).alloc (.cells #[.int .i64 0, .int .u64 0] 56)) (w.heap.size + 1) 0 := by
    rw [hz]
    have := Holds.new (w.alloc (.cells #[.int .i64 (hi a), .int .u64 (lo a)] 56)) 0 56
    rw [World.size_alloc] at this
    exact this
  have hB : Below w.heap.size w ((w.alloc (.cells #[.int .i64 (hi a), .int .u64 (lo a)] 56)).alloc (.cells #[.int .i64 0, .int .u64 0] 56)) := by go_grown
  replace hA := hA.alloc (.cells #[.int .i64 (hi a), .int .u64 (lo a)] 56)
  replace hR := hR.alloc (.cells #[.int .i64 (hi a), .int .u64 (lo a)] 56)
  replace hB := hB.alloc (by simp; omega) (.cells #[.int .i64 (hi a), .int .u64 (lo a)] 56)
  have hX : Holds (((w.alloc (.cells #[.int .i64 (hi a), .int .u64 (lo a)] 56)).alloc (.cells #[.int .i64 0, .int .u64 0] 56)).alloc (.cells #[.int .i64 (hi a), .int .u64 (lo a)] 56)) (w.heap.size + 2) a := by
    have := Holds.new ((w.alloc (.cells #[.int .i64 (hi a), .int .u64 (lo a)] 56)).alloc (.cells #[.int .i64 0, .int .u64 0] 56)) a 56
    simp only [World.size_alloc] at this
    exact this
  have mk := make128
  clear hz z1 z2
  go_enter Tryz.func78, Tryz.ntmps78
  go_wp2_with fail
  clear hX
  refine (refDigits a _).mono ?_
  rintro e w4 ⟨g, cap, rfl, hown, hb4⟩
  replace hA := (hA.call hb4)
  replace hR := (hR.call hb4)
  replace hB := below_then hB hb4
  have hg := (hown.lt g rfl).2
  have hs4 : w.heap.size + 1 < w4.heap.size := hR.lt
  have hM0 : DivAt a b a w g w4.heap.size 128 0 (w4.alloc (.cells (madeCells #[.int .i64 0] 128) 3)) :=
    ⟨hA.alloc _, hR.alloc _, (Ints.of_row hown).alloc _, made_row _ _, hB.alloc hB.size _, by rw [Int.ediv_eq_zero_of_lt U0 (by rw [show (2 : Int) ^ 128 = 340282366920938463463374607431768211456 from rfl]; omega), Int.zero_emod]⟩
  clear hA hR hB hown hb4
  go_wp2
  go_loopw [11, 12] (fun v11 v12 wr => ∃ (i : Nat) (c r : Int), i ≤ 128 ∧ Hid (c = (i : Int) - 1) ∧ v12 = .int .i64 c ∧ v11 = .int .u64 r ∧ DivAt a b a w g w4.heap.size i r wr) (fun _ v12 _ => (intOf v12 + 1).toNat)
  case atStart => exact ⟨128, 127, 0, by omega, rfl, rfl, rfl, hM0⟩
  case round =>
    clear hM0 mk
    obtain ⟨i, c, r, hi8, hc, rfl, rfl, hM⟩ := hrel
    have hA := hM.arg
    have hR := hM.res
    have hY := hM.ys
    have hO := hM.row
    have hB := hM.old
    have hr := Lib.hid hM.rest
    clear hM
    have r0 : 0 ≤ r := by rw [hr.out]; exact Int.emod_nonneg _ (by omega)
    have r1 : r < b := by rw [hr.out]; exact Int.emod_lt_of_pos _ (by omega)
    rcases Nat.eq_zero_or_pos i with hi0 | hi0
    · subst hi0
      have hc1 : c = -1 := by have := hc.out; omega
      subst hc1
      rw [outs_end] at hO
      obtain ⟨q, hq⟩ : ∃ q, Hid (a / b = q) := ⟨_, rfl⟩
      have hrr : r = a % b := by have := hr.out; rw [show (2 : Int) ^ 0 = 1 from rfl, Int.ediv_one] at this; exact this
      have hrr' := Lib.hid hrr
      clear hrr
      rw [hq.out] at hO
      have hN := Ints.of_row hO
      have hx := hA
      obtain ⟨al, a0, a1, a2, a3⟩ := hx
      have hrm : r ≤ 9223372036854775807 := by omega
      clear hY hO
      go_wp2_with fail
      refine (number_ints q hN).mono ?_
      rintro e w6 ⟨rfl, hb6⟩
      have hA6 := hA.call hb6
      have hR6 := hR.call hb6
      have hB6 := below_then hB hb6
      have hQ := Holds.new w6 q 56
      have rQ : w.heap.size + 1 < w6.heap.size := hR6.lt
      have aQ : w.heap.size < w6.heap.size := hA6.lt
      have t1 : decide (hi a < 0) = false := decide_eq_false (by omega)
      have t2 : decide (b < 0) = false := decide_eq_false (by omega)
      clear hN hb6 al a0 a1 a2 a3 hA hR hB
      have hx := hA6
      obtain ⟨al, a0, a1, a2, a3⟩ := hx
      have hx := hR6
      obtain ⟨rl, s0, s1, s2, s3⟩ := hx
      go_wp2
      refine bodyPost_ret (by simp [results, Tryz.results78, go_sem, s0, s1, rQ]; try rfl) rfl ?_
      refine ⟨?_, (below_put hB6 (show w.heap.size ≤ w.heap.size + 1 by omega) q).alloc (by rw [put_size]; omega) _⟩
      obtain ⟨e1, e2⟩ := (tdiv_cases a b).1 h0 h1
      rw [e1, e2, hq.out, ← hrr'.out]
    · obtain ⟨j, rfl⟩ : ∃ j, i = j + 1 := ⟨i - 1, by omega⟩
      have hcj : c = (j : Int) := by have := hc.out; omega
      subst hcj
      have j7 : j < 128 := by omega
      have hcy := hY.at_ j j7
      rw [Nat.zero_add] at hcy
      obtain ⟨d, hd, d0, d1⟩ : ∃ d, Hid (bit a j = d) ∧ 0 ≤ d ∧ d ≤ 1 := ⟨_, rfl, bit_lo a j, bit_hi a j⟩
      rw [hd.out] at hcy
      have hdb : Hid (bit (a / b) j = (2 * r + d) / b ∧ a / 2 ^ j % b = (2 * r + d) % b) := by
        have := div_bit a b y0 j
        rw [← hr.out, hd.out] at this
        exact this
      have j0 : (0 : Int) ≤ (j : Int) := by omega
      have j1 : (j : Int) < 128 := by omega
      have r2 : ¬ (9223372036854775808 : Int) ≤ r := by omega
      by_cases hge : b ≤ 2 * r + d
      · have q1 : bit (a / b) j = 1 := by
          rw [hdb.out.1, show 2 * r + d = (2 * r + d - b) + b * 1 by omega, Int.add_mul_ediv_left _ _ (by omega), Int.ediv_eq_zero_of_lt (by omega) (by omega), Int.zero_add]
        have q2 : 2 * r + d - b = a / 2 ^ j % b := by
          rw [hdb.out.2, show 2 * r + d = (2 * r + d - b) + b * 1 by omega, Int.add_mul_emod_self_left, Int.emod_eq_of_lt (by omega) (by omega)]
          omega
        have hoc : wr.cell? ⟨w4.heap.size, j, none⟩ = some (.int .i64 0) := by rw [hO.cellAt j (by omega), outs_at _ _ _ j7, if_pos (by omega)]
        have hof : wr.frozen? ⟨w4.heap.size, j, none⟩ = false := hO.frozenAt j
        obtain ⟨hO', _⟩ := hO.stored j (.int .i64 1)
        rw [outs_one _ _ j7 q1] at hO'
        have hM' : DivAt a b a w g w4.heap.size j (2 * r + d - b) (wr.setCell ⟨w4.heap.size, j, none⟩ (.int .i64 1)) :=
          ⟨hA.below ((Below.refl w4.heap.size wr).setCell (p := ⟨w4.heap.size, j, none⟩) (Nat.le_refl _) _) (by omega), hR.below ((Below.refl w4.heap.size wr).setCell (p := ⟨w4.heap.size, j, none⟩) (Nat.le_refl _) _) hs4, hY.below ((Below.refl w4.heap.size wr).setCell (p := ⟨w4.heap.size, j, none⟩) (Nat.le_refl _) _) hg, hO', hB.setCell (p := ⟨w4.heap.size, j, none⟩) (by show w.heap.size ≤ w4.heap.size; omega) _, q2⟩
        clear q1 q2 hO hO' hA hR hY hB
        go_wp2
        go_roundw
        case rel => exact ⟨j, (j : Int) - 1, _, by omega, rfl, rfl, rfl, hM'⟩
        case measure => simp [intOf] <;> omega
      · have q1 : bit (a / b) j = 0 := by rw [hdb.out.1]; exact Int.ediv_eq_zero_of_lt (by omega) (by omega)
        have q2 : 2 * r + d = a / 2 ^ j % b := by rw [hdb.out.2, Int.emod_eq_of_lt (by omega) (by omega)]
        rw [outs_none _ _ q1] at hO
        have hM' : DivAt a b a w g w4.heap.size j (2 * r + d) wr := ⟨hA, hR, hY, hO, hB, q2⟩
        clear q1 q2 hO hA hR hY hB
        go_wp2
        go_roundw
        case rel => exact ⟨j, (j : Int) - 1, _, by omega, rfl, rfl, rfl, hM'⟩
        case measure => simp [intOf] <;> omega

set_option maxRecDepth 100000 in
set_option maxHeartbeats 2000000 in
theorem refDiv_pn (a b : Int) (ha : Fits a) (hb : Half b) (h0 : 0 ≤ a) (h1 : b < 0) (w : World) :
    Calls Tryz.prog 78 #[W a, .int .i64 b] w fun e w' => e = .returned (.tuple #[W (a.tdiv b), .int .i64 (a.tmod b), .bool true]) ∧ Below w.heap.size w w' := by
  have hha := hi_lo a
  have hga := hi_hi a
  have hla := lo_lo a
  have hka := lo_hi a
  obtain ⟨hb0', hb1'⟩ := hb
  have hq := halves ha
  obtain ⟨ha0, ha1⟩ := ha
  have h2 : 0 ≤ hi a := by omega
  clear hq
  obtain ⟨y, hy, y0, y1⟩ : ∃ y, Hid (-b = y) ∧ 1 ≤ y ∧ y ≤ 9223372036854775808 := ⟨_, rfl, by omega, by omega⟩
  have y2 : IntKind.u64.wrap (-(b + 1)) = y - 1 := by rw [IntKind.wrap_u64, ← hy.out]; omega
  have y3 : IntKind.u64.wrap (wrap64 (-(b + 1))) = y - 1 := by rw [IntKind.wrap_u64, ← hy.out]; unfold wrap64; omega
  have y4 : y - 1 + 1 = y := by omega
  have U0 : 0 ≤ a := h0
  have U1 : a ≤ 170141183460469231731687303715884105728 := by omega
  obtain ⟨z1, z2⟩ := zero_halves
  have hz : ((w.alloc (.cells #[.int .i64 (hi a), .int .u64 (lo a)] 56)).alloc (.cells #[.int .i64 0, .int .u64 0] 56)) = (w.alloc (.cells #[.int .i64 (hi a), .int .u64 (lo a)] 56)).alloc (.cells #[.int .i64 (hi 0), .int .u64 (lo 0)] 56) := by rw [z1, z2]
  have hA : Holds ((w.alloc (.cells #[.int .i64 (hi a), .int .u64 (lo a)] 56)).alloc (.cells #[.int .i64 0, .int .u64 0] 56)) w.heap.size a := (Holds.new w a 56).alloc _
  have hR : Holds ((w.alloc (.cells #[.int .i64 (hi a), .int .u64 (lo a)] 56)).alloc (.cells #[.int .i64 0, .int .u64 0] 56)) (w.heap.size + 1) 0 := by
    rw [hz]
    have := Holds.new (w.alloc (.cells #[.int .i64 (hi a), .int .u64 (lo a)] 56)) 0 56
    rw [World.size_alloc] at this
    exact this
  have hB : Below w.heap.size w ((w.alloc (.cells #[.int .i64 (hi a), .int .u64 (lo a)] 56)).alloc (.cells #[.int .i64 0, .int .u64 0] 56)) := by go_grown
  replace hA := hA.alloc (.cells #[.int .i64 (hi a), .int .u64 (lo a)] 56)
  replace hR := hR.alloc (.cells #[.int .i64 (hi a), .int .u64 (lo a)] 56)
  replace hB := hB.alloc (by simp; omega) (.cells #[.int .i64 (hi a), .int .u64 (lo a)] 56)
  have hX : Holds (((w.alloc (.cells #[.int .i64 (hi a), .int .u64 (lo a)] 56)).alloc (.cells #[.int .i64 0, .int .u64 0] 56)).alloc (.cells #[.int .i64 (hi a), .int .u64 (lo a)] 56)) (w.heap.size + 2) a := by
    have := Holds.new ((w.alloc (.cells #[.int .i64 (hi a), .int .u64 (lo a)] 56)).alloc (.cells #[.int .i64 0, .int .u64 0] 56)) a 56
    simp only [World.size_alloc] at this
    exact this
  have mk := make128
  clear hz z1 z2
  go_enter Tryz.func78, Tryz.ntmps78
  go_wp2_with fail
  clear hX
  refine (refDigits a _).mono ?_
  rintro e w4 ⟨g, cap, rfl, hown, hb4⟩
  replace hA := (hA.call hb4)
  replace hR := (hR.call hb4)
  replace hB := below_then hB hb4
  have hg := (hown.lt g rfl).2
  have hs4 : w.heap.size + 1 < w4.heap.size := hR.lt
  have hM0 : DivAt a y a w g w4.heap.size 128 0 (w4.alloc (.cells (madeCells #[.int .i64 0] 128) 3)) :=
    ⟨hA.alloc _, hR.alloc _, (Ints.of_row hown).alloc _, made_row _ _, hB.alloc hB.size _, by rw [Int.ediv_eq_zero_of_lt U0 (by rw [show (2 : Int) ^ 128 = 340282366920938463463374607431768211456 from rfl]; omega), Int.zero_emod]⟩
  clear hA hR hB hown hb4
  go_wp2
  go_loopw [11, 12] (fun v11 v12 wr => ∃ (i : Nat) (c r : Int), i ≤ 128 ∧ Hid (c = (i : Int) - 1) ∧ v12 = .int .i64 c ∧ v11 = .int .u64 r ∧ DivAt a y a w g w4.heap.size i r wr) (fun _ v12 _ => (intOf v12 + 1).toNat)
  case atStart => exact ⟨128, 127, 0, by omega, rfl, rfl, rfl, hM0⟩
  case round =>
    clear hM0 mk
    obtain ⟨i, c, r, hi8, hc, rfl, rfl, hM⟩ := hrel
    have hA := hM.arg
    have hR := hM.res
    have hY := hM.ys
    have hO := hM.row
    have hB := hM.old
    have hr := Lib.hid hM.rest
    clear hM
    have r0 : 0 ≤ r := by rw [hr.out]; exact Int.emod_nonneg _ (by omega)
    have r1 : r < y := by rw [hr.out]; exact Int.emod_lt_of_pos _ (by omega)
    rcases Nat.eq_zero_or_pos i with hi0 | hi0
    · subst hi0
      have hc1 : c = -1 := by have := hc.out; omega
      subst hc1
      rw [outs_end] at hO
      obtain ⟨q, hq⟩ : ∃ q, Hid (a / y = q) := ⟨_, rfl⟩
      have hrr : r = a % y := by have := hr.out; rw [show (2 : Int) ^ 0 = 1 from rfl, Int.ediv_one] at this; exact this
      have hrr' := Lib.hid hrr
      clear hrr
      rw [hq.out] at hO
      have hN := Ints.of_row hO
      have hx := hA
      obtain ⟨al, a0, a1, a2, a3⟩ := hx
      have hrm : r ≤ 9223372036854775807 := by omega
      clear hY hO
      go_wp2_with fail
      refine (number_ints q hN).mono ?_
      rintro e w6 ⟨rfl, hb6⟩
      have hA6 := hA.call hb6
      have hR6 := hR.call hb6
      have hB6 := below_then hB hb6
      have hQ := Holds.new w6 q 56
      have rQ : w.heap.size + 1 < w6.heap.size := hR6.lt
      have aQ : w.heap.size < w6.heap.size := hA6.lt
      have t1 : decide (hi a < 0) = false := decide_eq_false (by omega)
      have t2 : decide (b < 0) = true := decide_eq_true (by omega)
      clear hN hb6 al a0 a1 a2 a3 hA hR hB
      have hx := hA6
      obtain ⟨al, a0, a1, a2, a3⟩ := hx
      go_wp2_with fail
      refine (refNeg q _).mono ?_
      rintro e w7 ⟨rfl, hb7⟩
      have hA7 := (hA6.alloc (.cells #[.int .i64 (hi q), .int .u64 (lo q)] 56)).call hb7
      have hR7 := (hR6.alloc (.cells #[.int .i64 (hi q), .int .u64 (lo q)] 56)).call hb7
      have hQ7 := hQ.call hb7
      have hB7 := below_then (hB6.alloc hB6.size (.cells #[.int .i64 (hi q), .int .u64 (lo q)] 56)) hb7
      have rQ7 : w.heap.size + 1 < w7.heap.size := hR7.lt
      have n1 : w.heap.size ≠ w6.heap.size := by omega
      have n2 : w.heap.size + 1 ≠ w6.heap.size := by omega
      have hA8 := hA7.other n1 (-q)
      have hR8 := hR7.other n2 (-q)
      have hQ8 := hQ7.same (-q)
      have hB8 := below_put hB7 (show w.heap.size ≤ w6.heap.size by omega) (-q)
      clear al a0 a1 a2 a3 hb7 hQ
      obtain ⟨al, a0, a1, a2, a3⟩ := hA8
      obtain ⟨rl, s0, s1, s2, s3⟩ := hR8
      obtain ⟨ql, q0, q1, q2, q3⟩ := hQ7
      obtain ⟨ql', q0', q1', q2', q3'⟩ := hQ8
      go_wp2
      refine bodyPost_ret (by simp [results, Tryz.results78, go_sem, s0, s1]; try rfl) rfl ?_
      refine ⟨?_, below_put hB8 (show w.heap.size ≤ w.heap.size + 1 by omega) _⟩
      obtain ⟨e1, e2⟩ := (tdiv_cases a b).2.1 h0 h1
      rw [e1, e2, hy.out, hq.out, ← hrr'.out]
    · obtain ⟨j, rfl⟩ : ∃ j, i = j + 1 := ⟨i - 1, by omega⟩
      have hcj : c = (j : Int) := by have := hc.out; omega
      subst hcj
      have j7 : j < 128 := by omega
      have hcy := hY.at_ j j7
      rw [Nat.zero_add] at hcy
      obtain ⟨d, hd, d0, d1⟩ : ∃ d, Hid (bit a j = d) ∧ 0 ≤ d ∧ d ≤ 1 := ⟨_, rfl, bit_lo a j, bit_hi a j⟩
      rw [hd.out] at hcy
      have hdb : Hid (bit (a / y) j = (2 * r + d) / y ∧ a / 2 ^ j % y = (2 * r + d) % y) := by
        have := div_bit a y y0 j
        rw [← hr.out, hd.out] at this
        exact this
      have j0 : (0 : Int) ≤ (j : Int) := by omega
      have j1 : (j : Int) < 128 := by omega
      have r2 : ¬ (9223372036854775808 : Int) ≤ r := by omega
      by_cases hge : y ≤ 2 * r + d
      · have q1 : bit (a / y) j = 1 := by
          rw [hdb.out.1, show 2 * r + d = (2 * r + d - y) + y * 1 by omega, Int.add_mul_ediv_left _ _ (by omega), Int.ediv_eq_zero_of_lt (by omega) (by omega), Int.zero_add]
        have q2 : 2 * r + d - y = a / 2 ^ j % y := by
          rw [hdb.out.2, show 2 * r + d = (2 * r + d - y) + y * 1 by omega, Int.add_mul_emod_self_left, Int.emod_eq_of_lt (by omega) (by omega)]
          omega
        have hoc : wr.cell? ⟨w4.heap.size, j, none⟩ = some (.int .i64 0) := by rw [hO.cellAt j (by omega), outs_at _ _ _ j7, if_pos (by omega)]
        have hof : wr.frozen? ⟨w4.heap.size, j, none⟩ = false := hO.frozenAt j
        obtain ⟨hO', _⟩ := hO.stored j (.int .i64 1)
        rw [outs_one _ _ j7 q1] at hO'
        have hM' : DivAt a y a w g w4.heap.size j (2 * r + d - y) (wr.setCell ⟨w4.heap.size, j, none⟩ (.int .i64 1)) :=
          ⟨hA.below ((Below.refl w4.heap.size wr).setCell (p := ⟨w4.heap.size, j, none⟩) (Nat.le_refl _) _) (by omega), hR.below ((Below.refl w4.heap.size wr).setCell (p := ⟨w4.heap.size, j, none⟩) (Nat.le_refl _) _) hs4, hY.below ((Below.refl w4.heap.size wr).setCell (p := ⟨w4.heap.size, j, none⟩) (Nat.le_refl _) _) hg, hO', hB.setCell (p := ⟨w4.heap.size, j, none⟩) (by show w.heap.size ≤ w4.heap.size; omega) _, q2⟩
        clear q1 q2 hO hO' hA hR hY hB
        go_wp2
        go_roundw
        case rel => exact ⟨j, (j : Int) - 1, _, by omega, rfl, rfl, rfl, hM'⟩
        case measure => simp [intOf] <;> omega
      · have q1 : bit (a / y) j = 0 := by rw [hdb.out.1]; exact Int.ediv_eq_zero_of_lt (by omega) (by omega)
        have q2 : 2 * r + d = a / 2 ^ j % y := by rw [hdb.out.2, Int.emod_eq_of_lt (by omega) (by omega)]
        rw [outs_none _ _ q1] at hO
        have hM' : DivAt a y a w g w4.heap.size j (2 * r + d) wr := ⟨hA, hR, hY, hO, hB, q2⟩
        clear q1 q2 hO hA hR hY hB
        go_wp2
        go_roundw
        case rel => exact ⟨j, (j : Int) - 1, _, by omega, rfl, rfl, rfl, hM'⟩
        case measure => simp [intOf] <;> omega

set_option maxRecDepth 100000 in
set_option maxHeartbeats 2000000 in
theorem refDiv_np (a b : Int) (ha : Fits a) (hb : Half b) (h0 : a < 0) (h1 : 0 < b) (w : World) :
    Calls Tryz.prog 78 #[W a, .int .i64 b] w fun e w' => e = .returned (.tuple #[W (a.tdiv b), .int .i64 (a.tmod b), .bool true]) ∧ Below w.heap.size w w' := by
  have hha := hi_lo a
  have hga := hi_hi a
  have hla := lo_lo a
  have hka := lo_hi a
  obtain ⟨hb0', hb1'⟩ := hb
  have hq := halves ha
  obtain ⟨ha0, ha1⟩ := ha
  have h2 : hi a < 0 := by omega
  clear hq
  have y0 : 1 ≤ b := by omega
  have y1 : b ≤ 9223372036854775808 := by omega
  have y2 : IntKind.u64.wrap b = b := by rw [IntKind.wrap_u64]; omega
  obtain ⟨U, hU, U0, U1⟩ : ∃ U, Hid (-a = U) ∧ 0 ≤ U ∧ U ≤ 170141183460469231731687303715884105728 := ⟨_, rfl, by omega, by omega⟩
  obtain ⟨z1, z2⟩ := zero_halves
  have hz : ((w.alloc (.cells #[.int .i64 (hi a), .int .u64 (lo a)] 56)).alloc (.cells #[.int .i64 0, .int .u64 0] 56)) = (w.alloc (.cells #[.int .i64 (hi a), .int .u64 (lo a)] 56)).alloc (.cells #[.int .i64 (hi 0), .int .u64 (lo 0)] 56) := by rw [z1, z2]
  have hA : Holds ((w.alloc (.cells #[.int .i64 (hi a), .int .u64 (lo a)] 56)).alloc (.cells #[.int .i64 0, .int .u64 0] 56)) w.heap.size a := (Holds.new w a 56).alloc _
  have hR : Holds ((w.alloc (.cells #[.int .i64 (hi a), .int .u64 (lo a)] 56)).alloc (.cells #[.int .i64 0, .int .u64 0] 56)) (w.heap.size + 1) 0 := by
    rw [hz]
    have := Holds.new (w.alloc (.cells #[.int .i64 (hi a), .int .u64 (lo a)] 56)) 0 56
    rw [World.size_alloc] at this
    exact this
  have hB : Below w.heap.size w ((w.alloc (.cells #[.int .i64 (hi a), .int .u64 (lo a)] 56)).alloc (.cells #[.int .i64 0, .int .u64 0] 56)) := by go_grown
  replace hA := hA.alloc (.cells #[.int .i64 (hi a), .int .u64 (lo a)] 56)
  replace hR := hR.alloc (.cells #[.int .i64 (hi a), .int .u64 (lo a)] 56)
  replace hB := hB.alloc (by simp; omega) (.cells #[.int .i64 (hi a), .int .u64 (lo a)] 56)
  have hX : Holds (((w.alloc (.cells #[.int .i64 (hi a), .int .u64 (lo a)] 56)).alloc (.cells #[.int .i64 0, .int .u64 0] 56)).alloc (.cells #[.int .i64 (hi a), .int .u64 (lo a)] 56)) (w.heap.size + 2) a := by
    have := Holds.new ((w.alloc (.cells #[.int .i64 (hi a), .int .u64 (lo a)] 56)).alloc (.cells #[.int .i64 0, .int .u64 0] 56)) a 56
    simp only [World.size_alloc] at this
    exact this
  have mk := make128
  clear hz z1 z2
  go_enter Tryz.func78, Tryz.ntmps78
  go_wp2_with fail
  refine (refNeg a _).mono ?_
  rintro e w1 ⟨rfl, hb1⟩
  rw [hU.out]
  have aX : w.heap.size ≠ w.heap.size + 2 := by omega
  have rX : w.heap.size + 1 ≠ w.heap.size + 2 := by omega
  have hX1 := hX.call hb1
  have hX2 := hX1.same U
  replace hA := (hA.call hb1).other aX U
  replace hR := (hR.call hb1).other rX U
  replace hB := below_put (below_then hB hb1) (show w.heap.size ≤ w.heap.size + 2 by omega) U
  obtain ⟨xl, x0, x1, x2, x3⟩ := hX1
  obtain ⟨xl', x0', x1', x2', x3'⟩ := hX2
  clear hX hb1
  go_wp2_with fail
  refine (refDigits U _).mono ?_
  rintro e w4 ⟨g, cap, rfl, hown, hb4⟩
  replace hA := (hA.call hb4)
  replace hR := (hR.call hb4)
  replace hB := below_then hB hb4
  have hg := (hown.lt g rfl).2
  have hs4 : w.heap.size + 1 < w4.heap.size := hR.lt
  have hM0 : DivAt U b a w g w4.heap.size 128 0 (w4.alloc (.cells (madeCells #[.int .i64 0] 128) 3)) :=
    ⟨hA.alloc _, hR.alloc _, (Ints.of_row hown).alloc _, made_row _ _, hB.alloc hB.size _, by rw [Int.ediv_eq_zero_of_lt U0 (by rw [show (2 : Int) ^ 128 = 340282366920938463463374607431768211456 from rfl]; omega), Int.zero_emod]⟩
  clear hA hR hB hown hb4
  go_wp2
  go_loopw [11, 12] (fun v11 v12 wr => ∃ (i : Nat) (c r : Int), i ≤ 128 ∧ Hid (c = (i : Int) - 1) ∧ v12 = .int .i64 c ∧ v11 = .int .u64 r ∧ DivAt U b a w g w4.heap.size i r wr) (fun _ v12 _ => (intOf v12 + 1).toNat)
  case atStart => exact ⟨128, 127, 0, by omega, rfl, rfl, rfl, hM0⟩
  case round =>
    clear hM0 mk
    obtain ⟨i, c, r, hi8, hc, rfl, rfl, hM⟩ := hrel
    have hA := hM.arg
    have hR := hM.res
    have hY := hM.ys
    have hO := hM.row
    have hB := hM.old
    have hr := Lib.hid hM.rest
    clear hM
    have r0 : 0 ≤ r := by rw [hr.out]; exact Int.emod_nonneg _ (by omega)
    have r1 : r < b := by rw [hr.out]; exact Int.emod_lt_of_pos _ (by omega)
    rcases Nat.eq_zero_or_pos i with hi0 | hi0
    · subst hi0
      have hc1 : c = -1 := by have := hc.out; omega
      subst hc1
      rw [outs_end] at hO
      obtain ⟨q, hq⟩ : ∃ q, Hid (U / b = q) := ⟨_, rfl⟩
      have hrr : r = U % b := by have := hr.out; rw [show (2 : Int) ^ 0 = 1 from rfl, Int.ediv_one] at this; exact this
      have hrr' := Lib.hid hrr
      clear hrr
      rw [hq.out] at hO
      have hN := Ints.of_row hO
      have hx := hA
      obtain ⟨al, a0, a1, a2, a3⟩ := hx
      have hrm : r ≤ 9223372036854775807 := by omega
      clear hY hO
      go_wp2_with fail
      refine (number_ints q hN).mono ?_
      rintro e w6 ⟨rfl, hb6⟩
      have hA6 := hA.call hb6
      have hR6 := hR.call hb6
      have hB6 := below_then hB hb6
      have hQ := Holds.new w6 q 56
      have rQ : w.heap.size + 1 < w6.heap.size := hR6.lt
      have aQ : w.heap.size < w6.heap.size := hA6.lt
      have t1 : decide (hi a < 0) = true := decide_eq_true (by omega)
      have t2 : decide (b < 0) = false := decide_eq_false (by omega)
      clear hN hb6 al a0 a1 a2 a3 hA hR hB
      have hx := hA6
      obtain ⟨al, a0, a1, a2, a3⟩ := hx
      go_wp2_with fail
      refine (refNeg q _).mono ?_
      rintro e w7 ⟨rfl, hb7⟩
      have hA7 := (hA6.alloc (.cells #[.int .i64 (hi q), .int .u64 (lo q)] 56)).call hb7
      have hR7 := (hR6.alloc (.cells #[.int .i64 (hi q), .int .u64 (lo q)] 56)).call hb7
      have hQ7 := hQ.call hb7
      have hB7 := below_then (hB6.alloc hB6.size (.cells #[.int .i64 (hi q), .int .u64 (lo q)] 56)) hb7
      have rQ7 : w.heap.size + 1 < w7.heap.size := hR7.lt
      have n1 : w.heap.size ≠ w6.heap.size := by omega
      have n2 : w.heap.size + 1 ≠ w6.heap.size := by omega
      have hA8 := hA7.other n1 (-q)
      have hR8 := hR7.other n2 (-q)
      have hQ8 := hQ7.same (-q)
      have hB8 := below_put hB7 (show w.heap.size ≤ w6.heap.size by omega) (-q)
      clear al a0 a1 a2 a3 hb7 hQ
      obtain ⟨al, a0, a1, a2, a3⟩ := hA8
      obtain ⟨rl, s0, s1, s2, s3⟩ := hR8
      obtain ⟨ql, q0, q1, q2, q3⟩ := hQ7
      obtain ⟨ql', q0', q1', q2', q3'⟩ := hQ8
      go_wp2
      refine bodyPost_ret (by simp [results, Tryz.results78, go_sem, s0, s1]; try rfl) rfl ?_
      refine ⟨?_, below_put hB8 (show w.heap.size ≤ w.heap.size + 1 by omega) _⟩
      obtain ⟨e1, e2⟩ := (tdiv_cases a b).2.2.1 h0 h1
      rw [e1, e2, hU.out, hq.out, ← hrr'.out]
    · obtain ⟨j, rfl⟩ : ∃ j, i = j + 1 := ⟨i - 1, by omega⟩
      have hcj : c = (j : Int) := by have := hc.out; omega
      subst hcj
      have j7 : j < 128 := by omega
      have hcy := hY.at_ j j7
      rw [Nat.zero_add] at hcy
      obtain ⟨d, hd, d0, d1⟩ : ∃ d, Hid (bit U j = d) ∧ 0 ≤ d ∧ d ≤ 1 := ⟨_, rfl, bit_lo U j, bit_hi U j⟩
      rw [hd.out] at hcy
      have hdb : Hid (bit (U / b) j = (2 * r + d) / b ∧ U / 2 ^ j % b = (2 * r + d) % b) := by
        have := div_bit U b y0 j
        rw [← hr.out, hd.out] at this
        exact this
      have j0 : (0 : Int) ≤ (j : Int) := by omega
      have j1 : (j : Int) < 128 := by omega
      have r2 : ¬ (9223372036854775808 : Int) ≤ r := by omega
      by_cases hge : b ≤ 2 * r + d
      · have q1 : bit (U / b) j = 1 := by
          rw [hdb.out.1, show 2 * r + d = (2 * r + d - b) + b * 1 by omega, Int.add_mul_ediv_left _ _ (by omega), Int.ediv_eq_zero_of_lt (by omega) (by omega), Int.zero_add]
        have q2 : 2 * r + d - b = U / 2 ^ j % b := by
          rw [hdb.out.2, show 2 * r + d = (2 * r + d - b) + b * 1 by omega, Int.add_mul_emod_self_left, Int.emod_eq_of_lt (by omega) (by omega)]
          omega
        have hoc : wr.cell? ⟨w4.heap.size, j, none⟩ = some (.int .i64 0) := by rw [hO.cellAt j (by omega), outs_at _ _ _ j7, if_pos (by omega)]
        have hof : wr.frozen? ⟨w4.heap.size, j, none⟩ = false := hO.frozenAt j
        obtain ⟨hO', _⟩ := hO.stored j (.int .i64 1)
        rw [outs_one _ _ j7 q1] at hO'
        have hM' : DivAt U b a w g w4.heap.size j (2 * r + d - b) (wr.setCell ⟨w4.heap.size, j, none⟩ (.int .i64 1)) :=
          ⟨hA.below ((Below.refl w4.heap.size wr).setCell (p := ⟨w4.heap.size, j, none⟩) (Nat.le_refl _) _) (by omega), hR.below ((Below.refl w4.heap.size wr).setCell (p := ⟨w4.heap.size, j, none⟩) (Nat.le_refl _) _) hs4, hY.below ((Below.refl w4.heap.size wr).setCell (p := ⟨w4.heap.size, j, none⟩) (Nat.le_refl _) _) hg, hO', hB.setCell (p := ⟨w4.heap.size, j, none⟩) (by show w.heap.size ≤ w4.heap.size; omega) _, q2⟩
        clear q1 q2 hO hO' hA hR hY hB
        go_wp2
        go_roundw
        case rel => exact ⟨j, (j : Int) - 1, _, by omega, rfl, rfl, rfl, hM'⟩
        case measure => simp [intOf] <;> omega
      · have q1 : bit (U / b) j = 0 := by rw [hdb.out.1]; exact Int.ediv_eq_zero_of_lt (by omega) (by omega)
        have q2 : 2 * r + d = U / 2 ^ j % b := by rw [hdb.out.2, Int.emod_eq_of_lt (by omega) (by omega)]
        rw [outs_none _ _ q1] at hO
        have hM' : DivAt U b a w g w4.heap.size j (2 * r + d) wr := ⟨hA, hR, hY, hO, hB, q2⟩
        clear q1 q2 hO hA hR hY hB
        go_wp2
        go_roundw
        case rel => exact ⟨j, (j : Int) - 1, _, by omega, rfl, rfl, rfl, hM'⟩
        case measure => simp [intOf] <;> omega

set_option maxRecDepth 100000 in
set_option maxHeartbeats 2000000 in
theorem refDiv_nn (a b : Int) (ha : Fits a) (hb : Half b) (h0 : a < 0) (h1 : b < 0) (w : World) :
    Calls Tryz.prog 78 #[W a, .int .i64 b] w fun e w' => e = .returned (.tuple #[W (a.tdiv b), .int .i64 (a.tmod b), .bool true]) ∧ Below w.heap.size w w' := by
  have hha := hi_lo a
  have hga := hi_hi a
  have hla := lo_lo a
  have hka := lo_hi a
  obtain ⟨hb0', hb1'⟩ := hb
  have hq := halves ha
  obtain ⟨ha0, ha1⟩ := ha
  have h2 : hi a < 0 := by omega
  clear hq
  obtain ⟨y, hy, y0, y1⟩ : ∃ y, Hid (-b = y) ∧ 1 ≤ y ∧ y ≤ 9223372036854775808 := ⟨_, rfl, by omega, by omega⟩
  have y2 : IntKind.u64.wrap (-(b + 1)) = y - 1 := by rw [IntKind.wrap_u64, ← hy.out]; omega
  have y3 : IntKind.u64.wrap (wrap64 (-(b + 1))) = y - 1 := by rw [IntKind.wrap_u64, ← hy.out]; unfold wrap64; omega
  have y4 : y - 1 + 1 = y := by omega
  obtain ⟨U, hU, U0, U1⟩ : ∃ U, Hid (-a = U) ∧ 0 ≤ U ∧ U ≤ 170141183460469231731687303715884105728 := ⟨_, rfl, by omega, by omega⟩
  obtain ⟨z1, z2⟩ := zero_halves
  have hz : ((w.alloc (.cells #[.int .i64 (hi a), .int .u64 (lo a)] 56)).alloc (.cells #[.int .i64 0, .int .u64 0] 56)) = (w.alloc (.cells #[.int .i64 (hi a), .int .u64 (lo a)] 56)).alloc (.cells #[.int .i64 (hi 0), .int .u64 (lo 0)] 56) := by rw [z1, z2]
  have hA : Holds ((w.alloc (.cells #[.int .i64 (hi a), .int .u64 (lo a)] 56)).alloc (.cells #[.int .i64 0, .int .u64 0] 56)) w.heap.size a := (Holds.new w a 56).alloc _
  have hR : Holds ((w.alloc (.cells #[.int .i64 (hi a), .int .u64 (lo a)] 56)).alloc (.cells #[.int .i64 0, .int .u64 0] 56)) (w.heap.size + 1) 0 := by
    rw [hz]
    have := Holds.new (w.alloc (.cells #[.int .i64 (hi a), .int .u64 (lo a)] 56)) 0 56
    rw [World.size_alloc] at this
    exact this
  have hB : Below w.heap.size w ((w.alloc (.cells #[.int .i64 (hi a), .int .u64 (lo a)] 56)).alloc (.cells #[.int .i64 0, .int .u64 0] 56)) := by go_grown
  replace hA := hA.alloc (.cells #[.int .i64 (hi a), .int .u64 (lo a)] 56)
  replace hR := hR.alloc (.cells #[.int .i64 (hi a), .int .u64 (lo a)] 56)
  replace hB := hB.alloc (by simp; omega) (.cells #[.int .i64 (hi a), .int .u64 (lo a)] 56)
  have hX : Holds (((w.alloc (.cells #[.int .i64 (hi a), .int .u64 (lo a)] 56)).alloc (.cells #[.int .i64 0, .int .u64 0] 56)).alloc (.cells #[.int .i64 (hi a), .int .u64 (lo a)] 56)) (w.heap.size + 2) a := by
    have := Holds.new ((w.alloc (.cells #[.int .i64 (hi a), .int .u64 (lo a)] 56)).alloc (.cells #[.int .i64 0, .int .u64 0] 56)) a 56
    simp only [World.size_alloc] at this
    exact this
  have mk := make128
  clear hz z1 z2
  go_enter Tryz.func78, Tryz.ntmps78
  go_wp2_with fail
  refine (refNeg a _).mono ?_
  rintro e w1 ⟨rfl, hb1⟩
  rw [hU.out]
  have aX : w.heap.size ≠ w.heap.size + 2 := by omega
  have rX : w.heap.size + 1 ≠ w.heap.size + 2 := by omega
  have hX1 := hX.call hb1
  have hX2 := hX1.same U
  replace hA := (hA.call hb1).other aX U
  replace hR := (hR.call hb1).other rX U
  replace hB := below_put (below_then hB hb1) (show w.heap.size ≤ w.heap.size + 2 by omega) U
  obtain ⟨xl, x0, x1, x2, x3⟩ := hX1
  obtain ⟨xl', x0', x1', x2', x3'⟩ := hX2
  clear hX hb1
  go_wp2_with fail
  refine (refDigits U _).mono ?_
  rintro e w4 ⟨g, cap, rfl, hown, hb4⟩
  replace hA := (hA.call hb4)
  replace hR := (hR.call hb4)
  replace hB := below_then hB hb4
  have hg := (hown.lt g rfl).2
  have hs4 : w.heap.size + 1 < w4.heap.size := hR.lt
  have hM0 : DivAt U y a w g w4.heap.size 128 0 (w4.alloc (.cells (madeCells #[.int .i64 0] 128) 3)) :=
    ⟨hA.alloc _, hR.alloc _, (Ints.of_row hown).alloc _, made_row _ _, hB.alloc hB.size _, by rw [Int.ediv_eq_zero_of_lt U0 (by rw [show (2 : Int) ^ 128 = 340282366920938463463374607431768211456 from rfl]; omega), Int.zero_emod]⟩
  clear hA hR hB hown hb4
  go_wp2
  go_loopw [11, 12] (fun v11 v12 wr => ∃ (i : Nat) (c r : Int), i ≤ 128 ∧ Hid (c = (i : Int) - 1) ∧ v12 = .int .i64 c ∧ v11 = .int .u64 r ∧ DivAt U y a w g w4.heap.size i r wr) (fun _ v12 _ => (intOf v12 + 1).toNat)
  case atStart => exact ⟨128, 127, 0, by omega, rfl, rfl, rfl, hM0⟩
  case round =>
    clear hM0 mk
    obtain ⟨i, c, r, hi8, hc, rfl, rfl, hM⟩ := hrel
    have hA := hM.arg
    have hR := hM.res
    have hY := hM.ys
    have hO := hM.row
    have hB := hM.old
    have hr := Lib.hid hM.rest
    clear hM
    have r0 : 0 ≤ r := by rw [hr.out]; exact Int.emod_nonneg _ (by omega)
    have r1 : r < y := by rw [hr.out]; exact Int.emod_lt_of_pos _ (by omega)
    rcases Nat.eq_zero_or_pos i with hi0 | hi0
    · subst hi0
      have hc1 : c = -1 := by have := hc.out; omega
      subst hc1
      rw [outs_end] at hO
      obtain ⟨q, hq⟩ : ∃ q, Hid (U / y = q) := ⟨_, rfl⟩
      have hrr : r = U % y := by have := hr.out; rw [show (2 : Int) ^ 0 = 1 from rfl, Int.ediv_one] at this; exact this
      have hrr' := Lib.hid hrr
      clear hrr
      rw [hq.out] at hO
      have hN := Ints.of_row hO
      have hx := hA
      obtain ⟨al, a0, a1, a2, a3⟩ := hx
      have hrm : r ≤ 9223372036854775807 := by omega
      clear hY hO
      go_wp2_with fail
      refine (number_ints q hN).mono ?_
      rintro e w6 ⟨rfl, hb6⟩
      have hA6 := hA.call hb6
      have hR6 := hR.call hb6
      have hB6 := below_then hB hb6
      have hQ := Holds.new w6 q 56
      have rQ : w.heap.size + 1 < w6.heap.size := hR6.lt
      have aQ : w.heap.size < w6.heap.size := hA6.lt
      have t1 : decide (hi a < 0) = true := decide_eq_true (by omega)
      have t2 : decide (b < 0) = true := decide_eq_true (by omega)
      clear hN hb6 al a0 a1 a2 a3 hA hR hB
      have hx := hA6
      obtain ⟨al, a0, a1, a2, a3⟩ := hx
      have hx := hR6
      obtain ⟨rl, s0, s1, s2, s3⟩ := hx
      go_wp2
      refine bodyPost_ret (by simp [results, Tryz.results78, go_sem, s0, s1, rQ]; try rfl) rfl ?_
      refine ⟨?_, (below_put hB6 (show w.heap.size ≤ w.heap.size + 1 by omega) q).alloc (by rw [put_size]; omega) _⟩
      obtain ⟨e1, e2⟩ := (tdiv_cases a b).2.2.2 h0 h1
      rw [e1, e2, hU.out, hy.out, hq.out, ← hrr'.out]
    · obtain ⟨j, rfl⟩ : ∃ j, i = j + 1 := ⟨i - 1, by omega⟩
      have hcj : c = (j : Int) := by have := hc.out; omega
      subst hcj
      have j7 : j < 128 := by omega
      have hcy := hY.at_ j j7
      rw [Nat.zero_add] at hcy
      obtain ⟨d, hd, d0, d1⟩ : ∃ d, Hid (bit U j = d) ∧ 0 ≤ d ∧ d ≤ 1 := ⟨_, rfl, bit_lo U j, bit_hi U j⟩
      rw [hd.out] at hcy
      have hdb : Hid (bit (U / y) j = (2 * r + d) / y ∧ U / 2 ^ j % y = (2 * r + d) % y) := by
        have := div_bit U y y0 j
        rw [← hr.out, hd.out] at this
        exact this
      have j0 : (0 : Int) ≤ (j : Int) := by omega
      have j1 : (j : Int) < 128 := by omega
      have r2 : ¬ (9223372036854775808 : Int) ≤ r := by omega
      by_cases hge : y ≤ 2 * r + d
      · have q1 : bit (U / y) j = 1 := by
          rw [hdb.out.1, show 2 * r + d = (2 * r + d - y) + y * 1 by omega, Int.add_mul_ediv_left _ _ (by omega), Int.ediv_eq_zero_of_lt (by omega) (by omega), Int.zero_add]
        have q2 : 2 * r + d - y = U / 2 ^ j % y := by
          rw [hdb.out.2, show 2 * r + d = (2 * r + d - y) + y * 1 by omega, Int.add_mul_emod_self_left, Int.emod_eq_of_lt (by omega) (by omega)]
          omega
        have hoc : wr.cell? ⟨w4.heap.size, j, none⟩ = some (.int .i64 0) := by rw [hO.cellAt j (by omega), outs_at _ _ _ j7, if_pos (by omega)]
        have hof : wr.frozen? ⟨w4.heap.size, j, none⟩ = false := hO.frozenAt j
        obtain ⟨hO', _⟩ := hO.stored j (.int .i64 1)
        rw [outs_one _ _ j7 q1] at hO'
        have hM' : DivAt U y a w g w4.heap.size j (2 * r + d - y) (wr.setCell ⟨w4.heap.size, j, none⟩ (.int .i64 1)) :=
          ⟨hA.below ((Below.refl w4.heap.size wr).setCell (p := ⟨w4.heap.size, j, none⟩) (Nat.le_refl _) _) (by omega), hR.below ((Below.refl w4.heap.size wr).setCell (p := ⟨w4.heap.size, j, none⟩) (Nat.le_refl _) _) hs4, hY.below ((Below.refl w4.heap.size wr).setCell (p := ⟨w4.heap.size, j, none⟩) (Nat.le_refl _) _) hg, hO', hB.setCell (p := ⟨w4.heap.size, j, none⟩) (by show w.heap.size ≤ w4.heap.size; omega) _, q2⟩
        clear q1 q2 hO hO' hA hR hY hB
        go_wp2
        go_roundw
        case rel => exact ⟨j, (j : Int) - 1, _, by omega, rfl, rfl, rfl, hM'⟩
        case measure => simp [intOf] <;> omega
      · have q1 : bit (U / y) j = 0 := by rw [hdb.out.1]; exact Int.ediv_eq_zero_of_lt (by omega) (by omega)
        have q2 : 2 * r + d = U / 2 ^ j % y := by rw [hdb.out.2, Int.emod_eq_of_lt (by omega) (by omega)]
        rw [outs_none _ _ q1] at hO
        have hM' : DivAt U y a w g w4.heap.size j (2 * r + d) wr := ⟨hA, hR, hY, hO, hB, q2⟩
        clear q1 q2 hO hA hR hY hB
        go_wp2
        go_roundw
        case rel => exact ⟨j, (j : Int) - 1, _, by omega, rfl, rfl, rfl, hM'⟩
        case measure => simp [intOf] <;> omega

theorem refDiv (a b : Int) (ha : Fits a) (hb : Half b) (w : World) :
    Calls Tryz.prog 78 #[W a, .int .i64 b] w fun e w' => e = .returned (divided a b) ∧ Below w.heap.size w w' := by
  unfold divided
  by_cases hz : b = 0
  · subst hz
    rw [if_pos rfl]
    exact refDiv_zero a w
  · rw [if_neg hz]
    rcases Int.lt_or_le a 0 with h | h <;> rcases Int.lt_or_le b 0 with h' | h'
    · exact refDiv_nn a b ha hb h h' w
    · exact refDiv_np a b ha hb h (by omega) w
    · exact refDiv_pn a b ha hb h h' w
    · exact refDiv_pp a b ha hb h (by omega) w

end Go.Proofs.YtodfcbpcgcgijaaGreatDoor

/- What the document's answers on numbers with a point are, each for every number that its parameters can hold. -/
namespace Go.Proofs.YtodfcbpcgcgijaaGreatDoor
set_option maxRecDepth 100000
open Go.RowKit
attribute [local go_sem] cell_re eqW_self
attribute [local go_sem ↓] run_eqlW run_neqW

set_option maxHeartbeats 1000000 in
theorem ref2Clip (a : Int) (ha : Fits a) (w : World) :
    Calls Tryz.prog 80 #[W a] w fun e w' => e = .returned (sat a) ∧ Below w.heap.size w w' := by
  go_enter Tryz.func80, Tryz.ntmps80
  go_wp2_with (first | (go_at_call 81; refine (chain (w0 := w) (by go_grown) (by first | with_reducible exact refClip a ha _)).mono ?_; rintro e w' ⟨rfl, ht⟩; have hs := ht.size))
  go_ret2
  exact ⟨rfl, by go_grown⟩

set_option maxHeartbeats 1000000 in
theorem ref2Sub (a b : Int) (ha : Half a) (hb : Half b) (w : World) :
    Calls Tryz.prog 49 #[.int .i64 a, .int .i64 b] w fun e w' => e = .returned (sat (a + -b)) ∧ Below w.heap.size w w' := by
  have f1 := Lib.hid ha
  have f2 := Lib.hid hb
  clear ha hb
  go_enter Tryz.func49, Tryz.ntmps49
  go_wp2_with (first | (go_at_call 85; refine (chain (w0 := w) (by go_grown) (by first | with_reducible exact refOf a f1.out _ | with_reducible exact refOf b f2.out _)).mono ?_; rintro e w' ⟨rfl, ht⟩; have hs := ht.size) | (go_at_call 86; refine (chain (w0 := w) (by go_grown) (by first | with_reducible exact refNeg b _)).mono ?_; rintro e w' ⟨rfl, ht⟩; have hs := ht.size) | (go_at_call 46; refine (chain (w0 := w) (by go_grown) (by first | with_reducible exact refAdd a (-b) _)).mono ?_; rintro e w' ⟨rfl, ht⟩; have hs := ht.size) | (go_at_call 80; refine (chain (w0 := w) (by go_grown) (by first | with_reducible exact ref2Clip _ (fits_sub f1.out f2.out) _)).mono ?_; rintro e w' ⟨rfl, ht⟩; have hs := ht.size))
  go_ret2
  exact ⟨rfl, by go_grown⟩

set_option maxHeartbeats 1000000 in
theorem ref2Mul (a b : Int) (ha : Half a) (hb : Half b) (w : World) :
    Calls Tryz.prog 48 #[.int .i64 a, .int .i64 b] w fun e w' => e = .returned (sat (near (a * b) 32)) ∧ Below w.heap.size w w' := by
  have f1 := Lib.hid ha
  have f2 := Lib.hid hb
  clear ha hb
  go_enter Tryz.func48, Tryz.ntmps48
  go_wp2_with (first | (go_at_call 79; refine (chain (w0 := w) (by go_grown) (by first | with_reducible exact refMul a b f1.out f2.out _)).mono ?_; rintro e w' ⟨rfl, ht⟩; have hs := ht.size) | (go_at_call 84; refine (chain (w0 := w) (by go_grown) (by first | with_reducible exact refNear (a * b) 32 (fits_mul f1.out f2.out) (by unfold Half; omega) _)).mono ?_; rintro e w' ⟨rfl, ht⟩; have hs := ht.size) | (go_at_call 80; refine (chain (w0 := w) (by go_grown) (by first | with_reducible exact ref2Clip _ (fits_near f1.out f2.out) _)).mono ?_; rintro e w' ⟨rfl, ht⟩; have hs := ht.size))
  go_ret2
  exact ⟨rfl, by go_grown⟩

theorem ref2Div_0 (a b : Int) (h : b = 0) (w : World) : Calls Tryz.prog 44 #[.int .i64 a, .int .i64 b] w fun e w' => e = .returned (quo a b) ∧ Below w.heap.size w w' := by
  subst h
  unfold quo
  rw [if_pos rfl]
  rcases Int.lt_trichotomy a 0 with h | h | h
  · have g : ¬ 0 < a := by omega
    rw [if_neg g, if_pos h]
    go_enter Tryz.func44, Tryz.ntmps44
    go_wp2
    go_ret2
    exact ⟨rfl, by go_grown⟩
  · subst h
    go_enter Tryz.func44, Tryz.ntmps44
    go_wp2
    go_ret2
    exact ⟨rfl, by go_grown⟩
  · rw [if_pos h]
    go_enter Tryz.func44, Tryz.ntmps44
    go_wp2
    go_ret2
    exact ⟨rfl, by go_grown⟩

set_option maxHeartbeats 1000000 in
theorem ref2Div_not (a b : Int) (ha : Half a) (hb : Half b) (hz : b ≠ 0) (w : World) :
    Calls Tryz.prog 44 #[.int .i64 a, .int .i64 b] w fun e w' => e = .returned (quo a b) ∧ Below w.heap.size w w' := by
  have d1 := Lib.hid (fun W1 : World => refDiv (a * 4294967296) b (fits_shift a ha) hb W1)
  unfold quo
  rw [if_neg hz]
  unfold divided at d1
  rw [if_neg hz] at d1
  have f3 := Lib.hid (fits_quo ha b)
  have f1 := Lib.hid ha
  have f2 := Lib.hid hb
  clear ha hb
  go_enter Tryz.func44, Tryz.ntmps44
  go_wp2_with (first | (go_at_call 79; refine (chain (w0 := w) (by go_grown) (by first | with_reducible exact refMul a 4294967296 f1.out (by unfold Half; omega) _)).mono ?_; rintro e w' ⟨rfl, ht⟩; have hs := ht.size) | (go_at_call 78; refine (chain (w0 := w) (by go_grown) (by first | with_reducible exact d1.out _)).mono ?_; rintro e w' ⟨rfl, ht⟩; have hs := ht.size) | (go_at_call 80; refine (chain (w0 := w) (by go_grown) (by first | with_reducible exact ref2Clip _ f3.out _)).mono ?_; rintro e w' ⟨rfl, ht⟩; have hs := ht.size))
  go_ret2
  exact ⟨rfl, by go_grown⟩

theorem ref2Div (a b : Int) (ha : Half a) (hb : Half b) (w : World) : Calls Tryz.prog 44 #[.int .i64 a, .int .i64 b] w fun e w' => e = .returned (quo a b) ∧ Below w.heap.size w w' := by
  by_cases hz : b = 0
  · exact ref2Div_0 a b hz w
  · exact ref2Div_not a b ha hb hz w
end Go.Proofs.YtodfcbpcgcgijaaGreatDoor

/- Roots, in the document's answers. -/
namespace Go.Proofs.YtodfcbpcgcgijaaGreatDoor
set_option maxRecDepth 100000
open Go.RowKit
set_option linter.unusedVariables false
attribute [local go_sem] cell_re eqW_self
attribute [local go_sem ↓] run_eqlW run_neqW

set_option maxRecDepth 100000 in
set_option maxHeartbeats 2000000 in
theorem ref4Square (n : Int) (h0 : 0 ≤ n) (h1 : n ≤ 18446744073709551615) (w : World) : Calls Tryz.prog 76 #[.int .u64 n] w fun e w' => e = .returned (W (n * n)) ∧ Below w.heap.size w w' := by
  obtain ⟨z1, z2⟩ := zero_halves
  have n1 : hi n = 0 := by unfold hi; omega
  have n2 : lo n = n := by unfold lo; omega
  have hmod := Lib.hid (show n % 2 ^ 64 = n by rw [show (2 : Int) ^ 64 = 18446744073709551616 from rfl]; omega)
  have hR := Holds.new w 0 56
  have hS := Holds.new (w.alloc (.cells #[.int .i64 (hi 0), .int .u64 (lo 0)] 56)) 0 56
  have hX := Holds.new ((w.alloc (.cells #[.int .i64 (hi 0), .int .u64 (lo 0)] 56)).alloc (.cells #[.int .i64 (hi 0), .int .u64 (lo 0)] 56)) n 56
  replace hR := (hR.alloc (.cells #[.int .i64 (hi 0), .int .u64 (lo 0)] 56)).alloc (.cells #[.int .i64 (hi n), .int .u64 (lo n)] 56)
  replace hS := hS.alloc (.cells #[.int .i64 (hi n), .int .u64 (lo n)] 56)
  have hB : Below w.heap.size w (((w.alloc (.cells #[.int .i64 (hi 0), .int .u64 (lo 0)] 56)).alloc (.cells #[.int .i64 (hi 0), .int .u64 (lo 0)] 56)).alloc (.cells #[.int .i64 (hi n), .int .u64 (lo n)] 56)) := by go_grown
  have hD : Hid (∀ W1 : World, Calls Tryz.prog 82 #[.agg #[.int .i64 0, .int .u64 n]] W1 (Bits128 n W1)) := fun W1 => by
    have := refDigits n W1
    rw [W, n1, n2] at this
    exact this
  rw [World.size_alloc] at hS hX
  rw [World.size_alloc] at hX
  rw [n1, n2, z1, z2] at hX hR hS hB
  clear n1 n2 h0 h1
  go_enter Tryz.func76, Tryz.ntmps76
  go_wp2_with fail
  refine (hD.out _).mono ?_
  rintro e w3 ⟨g, cap, rfl, hown, hb3⟩
  have hg3 := hown.lt g rfl
  have hY := Ints.of_row hown
  have hlt := hX.lt
  replace hR := hR.call hb3
  replace hS := hS.call hb3
  replace hX := hX.call hb3
  replace hB := below_then hB hb3
  have hM0 : MulAt n n w (w.heap.size + 1 + 1) g 0 w3 :=
    ⟨by rw [show n * (n % 2 ^ 0) = 0 by simp]; exact hS, by rw [show n * 2 ^ 0 = n by simp]; exact hX, hR, hY, hB⟩
  have hgl : w.heap.size + 1 + 1 < g := by have := hg3.1; simp at this; omega
  have gR : g ≠ w.heap.size := by omega
  have gS : g ≠ w.heap.size + 1 := by omega
  have gX : g ≠ w.heap.size + 1 + 1 := by omega
  have rS : w.heap.size ≠ w.heap.size + 1 := by omega
  have rX : w.heap.size ≠ w.heap.size + 1 + 1 := by omega
  have sX : w.heap.size + 1 ≠ w.heap.size + 1 + 1 := by omega
  have hRX : w.heap.size ≤ w.heap.size + 1 + 1 := by omega
  clear hS hX hR hY hB hg3 hb3 hown hlt hgl z1 z2
  go_wp2
  go_loopw [6] (fun v6 wr => ∃ k : Nat, k ≤ 64 ∧ v6 = .int .i64 k ∧ MulAt n n w (w.heap.size + 1 + 1) g k wr) (fun v6 _ => 64 - (intOf v6).toNat)
  case atStart => exact ⟨0, by omega, rfl, hM0⟩
  case round =>
    clear hM0
    obtain ⟨k, hk, rfl, hM⟩ := hrel
    have hS := hM.sum
    have hX := hM.fac
    have hR := hM.res
    have hY := hM.ys
    have hB := hM.old
    clear hM
    by_cases hlt : k < 64
    · have j0 : (0 : Int) ≤ (k : Int) := by omega
      have j1 : (k : Int) < 64 := by omega
      have hcy := hY.at_ k (by omega)
      rw [Nat.zero_add] at hcy
      obtain ⟨d, hd, d01⟩ : ∃ d, Hid (bit n k = d) ∧ (d = 0 ∨ d = 1) := ⟨_, rfl, by have := bit_lo n k; have := bit_hi n k; omega⟩
      rw [hd.out] at hcy
      obtain ⟨s, hs⟩ : ∃ s, Hid (n * (n % 2 ^ k) = s) := ⟨_, rfl⟩
      obtain ⟨f, hf⟩ : ∃ f, Hid (n * 2 ^ k = f) := ⟨_, rfl⟩
      have hff : f + f = n * 2 ^ (k + 1) := by rw [← hf.out]; exact dbl n k
      have hff' := Lib.hid hff
      clear hff
      have hst : Hid (n * (n % 2 ^ (k + 1)) = s + d * f) := by show _ = s + d * f; rw [mul_step, hs.out, hd.out, hf.out]
      rw [hs.out] at hS
      rw [hf.out] at hX
      rcases d01 with rfl | rfl
      · have hxx := hX
        obtain ⟨xl, x0, x1, x2, x3⟩ := hxx
        go_wp2_with fail
        refine (refAdd f f _).mono ?_
        rintro e w6 ⟨rfl, hb6⟩
        have hX6 := hX.call hb6
        have hM6 : MulAt n n w (w.heap.size + 1 + 1) g (k + 1) (put w6 (w.heap.size + 1 + 1) (f + f)) :=
          ⟨by rw [hst.out, Int.zero_mul, Int.add_zero]; exact (hS.call hb6).other sX _, by rw [← hff'.out]; exact hX6.same _, (hR.call hb6).other rX _, (hY.call hb6).other gX _, below_put (below_then hB hb6) hRX _⟩
        obtain ⟨xl, x0, x1, x2, x3⟩ := hX6
        clear hb6 hS hX hR hY hB
        go_wp2
        go_roundw
        case rel => exact ⟨k + 1, by omega, by go_num, hM6⟩
        case measure => simp [intOf]; omega
      · have hss := hS
        have hxx := hX
        obtain ⟨sl, s0, s1, s2, s3⟩ := hss
        obtain ⟨xl, x0, x1, x2, x3⟩ := hxx
        go_wp2_with fail
        refine (refAdd s f _).mono ?_
        rintro e w4 ⟨rfl, hb4⟩
        replace hS := hS.call hb4
        replace hX := (hX.call hb4).other sX.symm (s + f)
        replace hR := (hR.call hb4).other rS (s + f)
        replace hY := (hY.call hb4).other gS (s + f)
        replace hB := below_put (below_then hB hb4) (show w.heap.size ≤ w.heap.size + 1 by omega) (s + f)
        have hS5 := hS.same (s + f)
        obtain ⟨sl, s0, s1, s2, s3⟩ := hS
        have hxx := hX
        obtain ⟨xl, x0, x1, x2, x3⟩ := hxx
        clear hb4
        go_wp2_with fail
        refine (refAdd f f _).mono ?_
        rintro e w6 ⟨rfl, hb6⟩
        have hX6 := hX.call hb6
        have hM6 : MulAt n n w (w.heap.size + 1 + 1) g (k + 1) (put w6 (w.heap.size + 1 + 1) (f + f)) :=
          ⟨by rw [hst.out, Int.one_mul]; exact (hS5.call hb6).other sX _, by rw [← hff'.out]; exact hX6.same _, (hR.call hb6).other rX _, (hY.call hb6).other gX _, below_put (below_then hB hb6) hRX _⟩
        obtain ⟨xl, x0, x1, x2, x3⟩ := hX6
        clear hb6 hS5 hX hR hY hB
        go_wp2
        go_roundw
        case rel => exact ⟨k + 1, by omega, by go_num, hM6⟩
        case measure => simp [intOf]; omega
    · have hk6 : Hid (k = 64) := by show k = 64; omega
      have j1 : ¬ (k : Int) < 64 := by omega
      rw [hk6.out, hmod.out] at hS
      obtain ⟨t, ht0⟩ : ∃ t, n * n = t := ⟨_, rfl⟩
      have ht := Lib.hid ht0
      clear ht0
      rw [ht.out] at hS
      obtain ⟨sl, s0, s1, s2, s3⟩ := hS
      obtain ⟨rl, r0, r1, r2, r3⟩ := hR
      go_wp2
      refine bodyPost_ret (by simp [results, Tryz.results76, go_sem, r0, r1]; try rfl) rfl ?_
      exact ⟨by rw [ht.out], below_put hB (Nat.le_refl _) _⟩

/-- What holds of both ends, of what lies between, in round k. -/
def Halves (a : Int) (k : Nat) (l h : Int) : Prop := 0 ≤ l ∧ l ≤ h ∧ h ≤ 13043817825332782212 ∧ l * l ≤ a ∧ a < (h + 1) * (h + 1) ∧ (h - l) * 2 ^ k < 18446744073709551616
theorem Halves.start {a : Int} (h0 : 0 ≤ a) (h1 : a < 170141183460469231731687303715884105728) : Halves a 0 0 13043817825332782212 :=
  ⟨by decide, by decide, by decide, by omega, by omega, by decide⟩
theorem Halves.lt {a l h : Int} {k : Nat} (H : Halves a k l h) (hlh : l < h) : k < 64 := by
  obtain ⟨-, -, -, -, -, h6⟩ := H
  rcases Nat.lt_or_ge k 64 with c | c
  · exact c
  · obtain ⟨j, rfl⟩ : ∃ j, k = 64 + j := ⟨k - 64, by omega⟩
    rw [Int.pow_add, show (2 : Int) ^ 64 = 18446744073709551616 from rfl] at h6
    have p := pow_pos' j
    have h1 := Int.mul_le_mul_of_nonneg_right (show (1 : Int) ≤ h - l by omega) (show 0 ≤ 18446744073709551616 * (2 : Int) ^ j by omega)
    omega
theorem Halves.half {d e : Int} {k : Nat} (h0 : 0 ≤ e) (h : 2 * e ≤ d) (hd : d * 2 ^ k < 18446744073709551616) : e * 2 ^ (k + 1) < 18446744073709551616 := by
  rw [Int.pow_succ, Int.mul_comm ((2 : Int) ^ k), ← Int.mul_assoc, Int.mul_comm e]
  have := Int.mul_le_mul_of_nonneg_right h (Int.le_of_lt (pow_pos' k))
  omega
theorem Halves.down {a l h m : Int} {k : Nat} (H : Halves a k l h) (hlh : l < h) (hm : l + (h - l) / 2 + (h - l) % 2 = m) (hc : a < m * m) : Halves a (k + 1) l (m - 1) := by
  obtain ⟨h1, h2, h3, h4, h5, h6⟩ := H
  exact ⟨h1, by omega, by omega, h4, by rw [Int.sub_add_cancel]; exact hc, Halves.half (by omega) (by omega) h6⟩
theorem Halves.up {a l h m : Int} {k : Nat} (H : Halves a k l h) (hlh : l < h) (hm : l + (h - l) / 2 + (h - l) % 2 = m) (hc : ¬ a < m * m) : Halves a (k + 1) m h := by
  obtain ⟨h1, h2, h3, h4, h5, h6⟩ := H
  exact ⟨by omega, by omega, h3, by omega, h5, Halves.half (by omega) (by omega) h6⟩
theorem Halves.done {a l h : Int} {k : Nat} (H : Halves a k l h) (hlh : ¬ l < h) (h0 : 0 ≤ a) (h1 : a < 170141183460469231731687303715884105728) : l = root a := by
  obtain ⟨k1, k2, k3, k4, k5, k6⟩ := H
  obtain rfl : l = h := by omega
  exact IsRoot.unique ⟨k1, k4, k5⟩ (isRoot_root h0 (by omega))
theorem mid_fits {m : Int} (h0 : 0 ≤ m) (h1 : m ≤ 13043817825332782212) : Fits (m * m) := by
  have := sq_le h0 h1
  have := sq_le (Int.le_refl 0) h0
  unfold Fits
  omega

set_option maxRecDepth 100000 in
set_option maxHeartbeats 2000000 in
theorem ref4Wide_neg (a : Int) (ha : Fits a) (h0 : a < 0) (w : World) : Calls Tryz.prog 77 #[W a] w fun e w' => e = .returned (.tuple #[.int .u64 0, .bool false]) ∧ Below w.heap.size w w' := by
  have h1 : hi a < 0 := by unfold Fits at ha; unfold hi; omega
  have h2 := hi_lo a
  go_enter Tryz.func77, Tryz.ntmps77
  go_wp2
  go_ret2
  exact ⟨rfl, by go_grown⟩
set_option maxRecDepth 100000 in
set_option maxHeartbeats 4000000 in
theorem ref4Wide_pos (a : Int) (ha : Fits a) (h0 : 0 ≤ a) (w : World) : Calls Tryz.prog 77 #[W a] w fun e w' => e = .returned (.tuple #[.int .u64 (root a), .bool true]) ∧ Below w.heap.size w w' := by
  have h1 : ¬ hi a < 0 := by unfold Fits at ha; unfold hi; omega
  have h2 := hi_lo a
  have h3 := hi_hi a
  have HA := Lib.hid ha
  have H0 := Lib.hid h0
  have hA := Holds.new w a 56
  have hB : Below w.heap.size w (w.alloc (.cells #[.int .i64 (hi a), .int .u64 (lo a)] 56)) := by go_grown
  have hH := Halves.start h0 ha.2
  clear ha h0
  go_enter Tryz.func77, Tryz.ntmps77
  go_wp2
  go_loopw [4, 5, 6] (fun vl vh vi wr => ∃ (k : Nat) (l h : Int), k ≤ 64 ∧ vi = .int .i64 k ∧ vl = .int .u64 l ∧ vh = .int .u64 h ∧ Halves a k l h ∧ Holds wr w.heap.size a ∧ Below w.heap.size w wr) (fun _ _ vi _ => 65 - (intOf vi).toNat)
  case atStart => exact ⟨0, 0, 13043817825332782212, Nat.zero_le _, rfl, rfl, rfl, hH, hA, hB⟩
  case round =>
    clear hH hA hB
    obtain ⟨k, l, h, hk, rfl, rfl, rfl, H, hA, hB⟩ := hrel
    obtain ⟨l0, l1, l2, -, -, -⟩ := (id H : Halves a k l h)
    by_cases hlt : l < h
    · have hk4 := H.lt hlt
      have j1 : (k : Int) < 65 := by omega
      have j3 : 0 ≤ (h - l) / 2 := by omega
      have j4 : 0 ≤ l + (h - l) / 2 := by omega
      have j5 : l + (h - l) / 2 ≤ 18446744073709551615 := by omega
      obtain ⟨m, hm⟩ : ∃ m, l + (h - l) / 2 + (h - l) % 2 = m := ⟨_, rfl⟩
      have m0 : 1 ≤ m := by omega
      have m1 : m ≤ 13043817825332782212 := by omega
      have d1 := Lib.hid (fun W1 : World => ref4Square m (by omega) (by omega) W1)
      have d2 := Lib.hid (fun W1 : World => refLess a (m * m) HA.out (mid_fits (by omega) m1) W1)
      have y1 := Lib.hid (fun hc => H.down hlt hm hc)
      have y2 := Lib.hid (fun hc => H.up hlt hm hc)
      obtain ⟨q, hq⟩ : ∃ q, Hid (m * m = q) := ⟨_, rfl⟩
      rw [hq.out] at d1 d2 y1 y2
      obtain ⟨c, hc⟩ : ∃ c, Hid (decide (a < q) = c) := ⟨_, rfl⟩
      rw [hc.out] at d2
      have hx := hA
      obtain ⟨al, a0, a1, a2, a3⟩ := hx
      clear H
      go_wp2_with fail
      refine wp_region_quiet_below (by kernel_rfl) (by kernel_rfl) ?_
      repeat (go_big_quiet_step (first | (go_at_call 76; exact Calls.regrown_of (d1.out _)) | (go_at_call 100; exact Calls.regrown_of (d2.out _))))
      refine wpQuiet_nil ?_
      intro wq hwq
      have hbq := below_of_re hwq
      clear hwq
      replace hA := hA.call hbq
      replace hB := below_then hB hbq
      have hm' := Lib.hid hm
      clear hbq hm a0 a1 a2 a3 al
      cases c
      · replace y2 := y2.out (Int.not_lt.mp (of_decide_eq_false hc.out))
        go_wp2
        go_roundw
        case rel => exact ⟨k + 1, m, h, by omega, by go_num, rfl, rfl, y2, hA, hB⟩
        case measure => simp [intOf]; omega
      · replace y1 := y1.out (of_decide_eq_true hc.out)
        go_wp2
        go_roundw
        case rel => exact ⟨k + 1, l, m - 1, by omega, by go_num, rfl, rfl, y1, hA, hB⟩
        case measure => simp [intOf]; omega
    · have hfin := Lib.hid (H.done hlt H0.out HA.out.2)
      have j1 : (k : Int) < 65 := by omega
      clear H
      go_wp2
      go_ret2
      exact ⟨by rw [hfin.out]; rfl, hB⟩

/-- The root of a wide number, in the document's answers, and whether there is one. -/
def root4Ok (a : Int) : Value := if a < 0 then .tuple #[.int .u64 0, .bool false] else .tuple #[.int .u64 (root a), .bool true]
theorem ref4Wide (a : Int) (ha : Fits a) (w : World) : Calls Tryz.prog 77 #[W a] w fun e w' => e = .returned (root4Ok a) ∧ Below w.heap.size w w' := by
  unfold root4Ok
  by_cases h : a < 0
  · rw [if_pos h]; exact ref4Wide_neg a ha h w
  · rw [if_neg h]; exact ref4Wide_pos a ha (by omega) w
/-- The root of a number with a point, in the document's answers. -/
def rootFix4 (a : Int) : Value := if a < 0 then .tuple #[.int .i64 0, .bool false] else .tuple #[.int .i64 (root (a * 4294967296)), .bool true]
end Go.Proofs.YtodfcbpcgcgijaaGreatDoor
