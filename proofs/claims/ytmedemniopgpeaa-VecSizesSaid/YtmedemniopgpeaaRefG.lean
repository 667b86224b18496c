/- What Right of the document's answers gives: a number over a power of 2, rounding down. -/
import Derived.Test.YtmedemniopgpeaaRefF
import Derived.ArgAppend
import Derived.WalkSpells
namespace Go.Proofs.Ytmedemniopgpeaa
open Go.RowKit
attribute [local go_sem] cell_re eqW_self
attribute [local go_sem ↓] run_eqlW run_neqW

theorem bit_shift (a : Int) (k j : Nat) : bit (a / 2 ^ k) (j + 1) = bit (a / 2 ^ (k + 1)) j := by
  unfold bit
  rw [Int.ediv_ediv_of_nonneg (Int.le_of_lt (pow_pos' _)), Int.ediv_ediv_of_nonneg (Int.le_of_lt (pow_pos' _)), ← Int.pow_add, ← Int.pow_add, show k + (j + 1) = k + 1 + j by omega]
theorem sign_div (a : Int) (ha : Fits a) (n : Nat) : a / 2 ^ (127 + n) = a / 2 ^ 127 := by
  unfold Fits at ha
  have hp := pow_pos' n
  rw [Int.pow_add, ← Int.ediv_ediv_of_nonneg (Int.le_of_lt (pow_pos' 127))]
  have h : a / 2 ^ 127 = -1 ∨ a / 2 ^ 127 = 0 := by
    rw [show (2 : Int) ^ 127 = 170141183460469231731687303715884105728 from rfl]
    omega
  rcases h with h | h <;> rw [h]
  · generalize (2 : Int) ^ n = p at hp
    have e : (-1 : Int) = (p - 1) + p * (-1) := by omega
    rw [e, Int.add_mul_ediv_left _ _ (Int.ne_of_gt hp), Int.ediv_eq_zero_of_lt (by omega) (by omega)]
    omega
  · exact Int.zero_ediv _
theorem bit_sign (a : Int) (ha : Fits a) (k : Nat) : bit (a / 2 ^ k) 127 = bit a 127 := by
  unfold bit
  rw [Int.ediv_ediv_of_nonneg (Int.le_of_lt (pow_pos' _)), ← Int.pow_add, Nat.add_comm, sign_div a ha]

/-- A slice of 128 integers, from off on in block g, and what lies behind them up to its capacity. -/
structure Win (w : World) (B g off cap : Nat) (f : Nat → Int) : Prop where
  ge : B ≤ g
  le : 128 ≤ cap
  max : cap ≤ maxLen
  row : ∃ cur, w.heap[g]? = some (.cells cur 3 (0, 0)) ∧ off + cap ≤ cur.size ∧ ∀ j, j < 128 → cur[off + j]? = some (.int .i64 (f j))
theorem Win.lt {w : World} {B g off cap : Nat} {f : Nat → Int} (h : Win w B g off cap f) : g < w.heap.size := by
  obtain ⟨cur, hc, _⟩ := h.row
  rcases Nat.lt_or_ge g w.heap.size with hlt | hge
  · exact hlt
  · rw [Array.getElem?_eq_none hge] at hc; cases hc
theorem Win.ints {w : World} {B g off cap : Nat} {f : Nat → Int} (h : Win w B g off cap f) : Ints w g off f :=
  ⟨h.lt, fun j hj => by obtain ⟨cur, hc, _, hf⟩ := h.row; rw [cell_of_row w g (off + j) cur _ _ hc]; exact hf j hj⟩
theorem Win.below {w w' : World} {B B' g off cap : Nat} {f : Nat → Int} (h : Win w B g off cap f) (hb : Below B' w w') (hg : g < B') : Win w' B g off cap f :=
  ⟨h.ge, h.le, h.max, by obtain ⟨cur, hc, h2⟩ := h.row; exact ⟨cur, (hb.block g hg).trans hc, h2⟩⟩
theorem Win.alloc {w : World} {B g off cap : Nat} {f : Nat → Int} (h : Win w B g off cap f) (o : Obj) : Win (w.alloc o) B g off cap f := h.below ((Below.refl w.heap.size w).alloc (Nat.le_refl _) o) h.lt
theorem Win.spare {w : World} {B g off cap : Nat} {f : Nat → Int} (h : Win w B g off cap f) (j : Nat) (hj : j < cap) : (w.cell? ⟨g, off + j, none⟩).isSome = true ∧ w.frozen? ⟨g, off + j, none⟩ = false := by
  obtain ⟨cur, hc, hs, _⟩ := h.row
  exact ⟨by rw [cell_of_row w g (off + j) cur _ _ hc, Array.getElem?_eq_getElem (by omega)]; rfl, frozen_of_row w g (off + j) cur _ hc⟩
theorem Win.of_row {w : World} {B g cap : Nat} {f : Nat → Int} {xs : List Value} (h : w.ownsRow B 3 1 (.slice (some ⟨g, 0, none⟩) 128 cap) 128 xs) (hx : ∀ j, j < 128 → xs[j]? = some (.int .i64 (f j))) : Win w B g 0 cap f := by
  rcases h.2 with ⟨h', _⟩ | ⟨g', cap', cur, h', hb, hg, hnc, hcm, hcs, htake⟩
  · simp at h'
  · simp only [Value.slice.injEq, Option.some.injEq, Addr.mk.injEq, and_true, true_and] at h'
    obtain ⟨rfl, rfl⟩ := h'
    refine ⟨hb, hnc, hcm, cur, hg, by omega, fun j hj => ?_⟩
    have := hx j hj
    rw [← htake, List.getElem?_take, if_pos (by omega)] at this
    rw [Nat.zero_add]
    simpa using this

theorem Win.congr {w : World} {B g off cap : Nat} {f f' : Nat → Int} (h : Win w B g off cap f) (hf : ∀ j, j < 128 → f j = f' j) : Win w B g off cap f' :=
  ⟨h.ge, h.le, h.max, by obtain ⟨cur, hc, hs, hx⟩ := h.row; exact ⟨cur, hc, hs, fun j hj => by rw [← hf j hj]; exact hx j hj⟩⟩
theorem Win.mono {w : World} {B B' g off cap : Nat} {f : Nat → Int} (h : Win w B g off cap f) (hB : B' ≤ B) : Win w B' g off cap f := ⟨Nat.le_trans hB h.ge, h.le, h.max, h.row⟩
theorem Win.room {w : World} {B g off cap : Nat} {f : Nat → Int} (h : Win w B g off cap f) (hc : 128 ≤ cap - 1) (d : Int) :
    Win (w.setCells g (off + 1 + 127 * 1) [.int .i64 d]) B g (off + 1) (cap - 1) (fun j => if j < 127 then f (j + 1) else d) := by
  obtain ⟨cur, hcur, hs, hx⟩ := h.row
  have hm := h.max
  refine ⟨h.ge, hc, by omega, cur.setIfInBounds (off + 128) (.int .i64 d), ?_, by simp; omega, fun j hj => ?_⟩
  · show (w.setCell ⟨g, off + 1 + 127 * 1, none⟩ (.int .i64 d)).heap[g]? = _
    rw [show off + 1 + 127 * 1 = off + 128 by omega]
    exact heap_setCell_same w g (off + 128) cur 3 _ hcur
  · rw [Array.getElem?_setIfInBounds]
    by_cases h7 : j < 127
    · rw [if_neg (by omega), if_pos h7, show off + 1 + j = off + (j + 1) by omega]
      exact hx (j + 1) (by omega)
    · obtain rfl : j = 127 := by omega
      rw [if_pos (by omega), if_pos (by omega), if_neg (by omega)]
theorem Below.cells1 {B : Nat} {a w : World} (h : Below B a w) {g : Nat} (hg : B ≤ g) (o : Nat) (u : Value) : Below B a (w.setCells g o [u]) := h.setCell (p := ⟨g, o, none⟩) hg u
theorem Holds.cells1 {w : World} {k g : Nat} {v : Int} (h : Holds w k v) (hk : k < g) (o : Nat) (u : Value) : Holds (w.setCells g o [u]) k v :=
  h.below (B := g) ((Below.refl g w).setCell (p := ⟨g, o, none⟩) (Nat.le_refl g) u) hk
theorem shifted (a : Int) (ha : Fits a) (k j : Nat) (hj : j < 128) : (if j < 127 then bit (a / 2 ^ k) (j + 1) else bit a 127) = bit (a / 2 ^ (k + 1)) j := by
  by_cases h : j < 127
  · rw [if_pos h, bit_shift]
  · obtain rfl : j = 127 := by omega
    rw [if_neg (by omega), bit_sign a ha]

/-- What holds at a round's head. -/
structure RightAt (a : Int) (w : World) (k : Nat) (v : Value) (wr : World) : Prop where
  win : ∃ g off cap, v = .slice (some ⟨g, off, none⟩) 128 cap ∧ Win wr (w.heap.size + 2) g off cap (bit (a / 2 ^ k))
  res : Holds wr (w.heap.size + 1) 0
  old : Below w.heap.size w wr

def olds (a : Int) (k : Nat) : List Value := (List.range 127).map fun j => Value.int .i64 (bit (a / 2 ^ k) (j + 1))
theorem olds_at (a : Int) (k j : Nat) (h : j < 127) : (olds a k)[j]? = some (Value.int .i64 (bit (a / 2 ^ k) (j + 1))) := by unfold olds; simp [h]
theorem olds_len (a : Int) (k : Nat) : (olds a k).length = 127 := by unfold olds; simp
theorem olds_ok {a : Int} {w : World} {B k g off c : Nat} (hW : Win w B g off c (bit (a / 2 ^ k))) {j : Nat} {u : Value} (hj : (olds a k)[j]? = some u) : w.cell? ⟨g, off + 1 + j, none⟩ = some u := by
  have hj7 : j < 127 := by
    rcases Nat.lt_or_ge j 127 with h | h
    · exact h
    · rw [List.getElem?_eq_none (by rw [olds_len]; exact h)] at hj; cases hj
  rw [olds_at a k j hj7] at hj
  injection hj with hj
  subst hj
  rw [show off + 1 + j = off + (j + 1) by omega]
  exact hW.ints.at_ (j + 1) (by omega)
theorem right_room {a : Int} {w wr : World} (ha : Fits a) {k g off c : Nat} {d : Int} (hd : bit a 127 = d) (hW : Win wr (w.heap.size + 2) g off c (bit (a / 2 ^ k))) (hR : Holds wr (w.heap.size + 1) 0) (hB : Below w.heap.size w wr) (hc : 128 ≤ c - 1) :
    RightAt a w (k + 1) (.slice (some ⟨g, off + 1, none⟩) 128 (c - 1)) ((wr.alloc (.cells #[.int .i64 d] 3)).setCells g (off + 1 + 127 * 1) [.int .i64 d]) := by
  have hg := hW.ge
  refine ⟨⟨g, off + 1, c - 1, rfl, ((hW.alloc _).room hc d).congr fun j hj => ?_⟩, (hR.alloc _).cells1 (by omega) _ _, Below.cells1 (hB.alloc hB.size _) (by omega) _ _⟩
  rw [← hd]
  exact shifted a ha k j hj
theorem right_grow {a : Int} {w wr w' : World} (ha : Fits a) {k : Nat} {d : Int} {v : Value} (hd : bit a 127 = d) (hR : Holds wr (w.heap.size + 1) 0) (hB : Below w.heap.size w wr)
    (hown : w'.ownsRow (wr.heap.size + 1) 3 1 v 128 (olds a k ++ [.int .i64 d])) (hg : (wr.alloc (.cells #[.int .i64 d] 3)).grownBy w' none) : RightAt a w (k + 1) v w' := by
  have hs := hR.lt
  have hb : Below (wr.alloc (.cells #[.int .i64 d] 3)).heap.size (wr.alloc (.cells #[.int .i64 d] 3)) w' := (Below.refl _ _).grown hg (Nat.le_refl _) (fun _ h => by cases h)
  obtain ⟨g, cap, rfl, _⟩ := hown.form (by omega)
  refine ⟨⟨g, 0, cap, rfl, (Win.of_row (f := bit (a / 2 ^ (k + 1))) hown fun j hj => ?_).mono (by omega)⟩, (hR.alloc _).call hb, below_then (hB.alloc hB.size _) hb⟩
  rw [← shifted a ha k j hj]
  by_cases h : j < 127
  · rw [List.getElem?_append_left (by rw [olds_len]; exact h), olds_at a k j h, if_pos h]
  · obtain rfl : j = 127 := by omega
    rw [List.getElem?_append_right (by rw [olds_len]; omega), olds_len, if_neg (by omega), hd]
    rfl

set_option maxRecDepth 100000 in
set_option maxHeartbeats 1000000 in
theorem refRight_m (a n : Int) (ha : Fits a) (m : Nat) (hm : m ≤ 127) (hn : n ≤ 9223372036854775807) (hn2 : -9223372036854775808 ≤ n) (hmn : (n ≤ 0 ∧ m = 0) ∨ (0 < n ∧ n ≤ 127 ∧ (m : Int) = n) ∨ (127 < n ∧ m = 127)) (w : World) :
    Calls Try.prog 70 #[W a, .int .i64 n] w fun e w' => e = .returned (W (a / 2 ^ m)) ∧ Below w.heap.size w w' := by
  obtain ⟨i0, hi0, hz0, hz1, hz2⟩ := info_parts Try.infoInt
  obtain ⟨z1, z2⟩ := zero_halves
  have hz : ((w.alloc (.cells #[.int .i64 (hi a), .int .u64 (lo a)] 39)).alloc (.cells #[.int .i64 0, .int .u64 0] 39)) = (w.alloc (.cells #[.int .i64 (hi a), .int .u64 (lo a)] 39)).alloc (.cells #[.int .i64 (hi 0), .int .u64 (lo 0)] 39) := by rw [z1, z2]
  have hR : Holds ((w.alloc (.cells #[.int .i64 (hi a), .int .u64 (lo a)] 39)).alloc (.cells #[.int .i64 0, .int .u64 0] 39)) (w.heap.size + 1) 0 := by
    rw [hz]
    have := Holds.new (w.alloc (.cells #[.int .i64 (hi a), .int .u64 (lo a)] 39)) 0 39
    rw [World.size_alloc] at this
    exact this
  have hB : Below w.heap.size w ((w.alloc (.cells #[.int .i64 (hi a), .int .u64 (lo a)] 39)).alloc (.cells #[.int .i64 0, .int .u64 0] 39)) := by go_grown
  clear hz z1 z2
  have hmn' := Lib.hid hmn
  clear hmn
  go_enter Try.func70, Try.ntmps70
  go_wp2_with fail
  refine (refDigits a _).mono ?_
  rintro e w1 ⟨g, cap, rfl, hown, hb1⟩
  replace hR := hR.call hb1
  replace hB := below_then hB hb1
  have hW : Win w1 (w.heap.size + 2) g 0 cap (bit (a / 2 ^ 0)) := by
    rw [show a / 2 ^ 0 = a by simp]
    exact (Win.of_row hown (fun j hj => bits_at a 128 j hj)).mono (by simp)
  have hc7 : w1.cell? ⟨g, 127, none⟩ = some (.int .i64 (bit a 127)) := (row_cell hown (Below.refl _ _)).2 127 (by omega)
  have hM0 : RightAt a w 0 (.slice (some ⟨g, 0, none⟩) 128 cap) w1 := ⟨⟨g, 0, cap, rfl, hW⟩, hR, hB⟩
  obtain ⟨d, hd⟩ : ∃ d, Hid (bit a 127 = d) := ⟨_, rfl⟩
  rw [hd.out] at hc7
  clear hown hb1 hW hR hB
  go_wp2
  go_loopw [5, 7] (fun v5 v7 wr => ∃ k : Nat, k ≤ m ∧ v7 = .int .i64 k ∧ RightAt a w k v5 wr) (fun _ v7 _ => 127 - (intOf v7).toNat)
  case atStart => exact ⟨0, Nat.zero_le _, rfl, hM0⟩
  case round =>
    clear hM0 hc7
    obtain ⟨k, hk, rfl, ⟨⟨g', off, c, rfl, hW⟩, hR, hB⟩⟩ := hrel
    have hWc := hW.le
    have hWm := hW.max
    unfold maxLen at hWm
    have hg2 := hW.ge
    have gl := hW.lt
    have hsz := hR.lt
    by_cases hlt : k < m
    · have j0 : (0 : Int) ≤ (k : Int) := by omega
      have j1 : (k : Int) < 127 := by omega
      have j4 : (1 : Int) ≤ (c : Int) := by omega
      have j5 : (128 : Int) ≤ (c : Int) := by omega
      have hn0 : 0 < n := by have := hmn'.out; omega
      have hW1 := hW.alloc (.cells #[.int .i64 d] 3)
      have hi1 := hW1.ints.at_
      have hi2 := Lib.hid hi1
      clear hi1
      by_cases hbig : n ≤ 127
      · have j2 : (k : Int) < n := by have := hmn'.out; omega
        go_wp2_with (at_builtin; refine wpList_append_arg _ rfl _ _ 58 rfl 3 i0 (.int .i64 0) 1 8 Try.underlying58 hi0 hz0 hz1 hz2 rfl (by decide) g' (off + 1) 127 (c - 1) (olds a k) rfl ?lo ?olds ⟨wr.heap.size, 0, none⟩ 1 1 [.int .i64 d] rfl rfl ?c1 ?c2 ?spare ?b1 ?b2 ?room ?grow)
        case lo => rw [olds_len]
        case olds =>
          intro j u hj
          have hj7 : j < 127 := by
            rcases Nat.lt_or_ge j 127 with h | h
            · exact h
            · rw [List.getElem?_eq_none (by rw [olds_len]; exact h)] at hj; cases hj
          rw [olds_at a k j hj7] at hj
          injection hj with hj
          subst hj
          rw [show off + 1 + j = off + (j + 1) by omega]
          exact hi2.out (j + 1) (by omega)
        case c1 =>
          intro j u hj
          match j, hj with
          | 0, hj => simp at hj; subst hj; simp [Addr.add]
        case c2 => intro u hu; simp at hu; subst hu; rfl
        case spare =>
          intro hr j hj
          simp at hj
          subst hj
          have := hW1.spare 128 (by omega)
          rw [show off + 1 + 127 * 1 + 0 = off + 128 by omega]
          exact this
        case b1 => unfold maxLen; omega
        case b2 => omega
        case room =>
          intro hr
          have hM := right_room ha hd.out hW hR hB (by omega)
          clear hW hR hB hW1 hi2
          go_wp2
          go_roundw
          case rel => exact ⟨k + 1, by omega, by go_num, hM⟩
          case measure => simp [intOf]; omega
        case grow =>
          intro hr v' w' hown' hgrow
          have hM := right_grow ha hd.out hR hB hown' hgrow
          clear hown' hgrow hW hR hB hW1 hi2
          go_wp2
          go_roundw
          case rel => exact ⟨k + 1, by omega, by go_num, hM⟩
          case measure => simp [intOf]; omega
      · have j3 : 127 < n := by omega
        go_wp2_with (at_builtin; refine wpList_append_arg _ rfl _ _ 58 rfl 3 i0 (.int .i64 0) 1 8 Try.underlying58 hi0 hz0 hz1 hz2 rfl (by decide) g' (off + 1) 127 (c - 1) (olds a k) rfl ?loZ ?oldsZ ⟨wr.heap.size, 0, none⟩ 1 1 [.int .i64 d] rfl rfl ?c1Z ?c2Z ?spareZ ?b1Z ?b2Z ?roomZ ?growZ)
        case roomZ =>
          intro hr
          have hM := right_room ha hd.out hW hR hB (by omega)
          clear hW hR hB hW1 hi2
          go_wp2
          go_roundw
          case rel => exact ⟨k + 1, by omega, by go_num, hM⟩
          case measure => simp [intOf]; omega
        case growZ =>
          intro hr v' w' hown' hgrow
          have hM := right_grow ha hd.out hR hB hown' hgrow
          clear hown' hgrow hW hR hB hW1 hi2
          go_wp2
          go_roundw
          case rel => exact ⟨k + 1, by omega, by go_num, hM⟩
          case measure => simp [intOf]; omega
        all_goals first
          | exact olds_len _ _
          | (unfold maxLen; omega)
          | omega
          | rfl
          | (intro hr; exact hW.spare 128 (by omega))
          | (intro u hu; simp at hu; subst hu; rfl)
          | (intro j u hj; exact olds_ok hW hj)
    · have hkm : Hid (k = m) := by show k = m; omega
      have hnum : Hid (Ints wr g' off (bit (a / 2 ^ m))) := by
        have h := hW.ints
        rw [hkm.out] at h
        exact h
      by_cases hbig : n ≤ 127
      · have j2 : ¬ (k : Int) < n := by have := hmn'.out; omega
        go_wp2_with fail
        refine (number_ints (a / 2 ^ m) hnum.out).mono ?_
        rintro e w6 ⟨rfl, hb6⟩
        have hR6 := hR.call hb6
        have hB6 := below_then hB hb6
        obtain ⟨rl, r0, r1, r2, r3⟩ := hR6
        clear hR hB hb6 hW
        go_wp2
        refine bodyPost_ret (by simp [results, Try.results70, go_sem, r0, r1]; try rfl) rfl ?_
        exact ⟨rfl, below_put hB6 (show w.heap.size ≤ w.heap.size + 1 by omega) _⟩
      · have j3 : 127 < n := by omega
        have j4 : ¬ (k : Int) < 127 := by have := hmn'.out; omega
        go_wp2_with fail
        refine (number_ints (a / 2 ^ m) hnum.out).mono ?_
        rintro e w6 ⟨rfl, hb6⟩
        have hR6 := hR.call hb6
        have hB6 := below_then hB hb6
        obtain ⟨rl, r0, r1, r2, r3⟩ := hR6
        clear hR hB hb6 hW
        go_wp2
        refine bodyPost_ret (by simp [results, Try.results70, go_sem, r0, r1]; try rfl) rfl ?_
        exact ⟨rfl, below_put hB6 (show w.heap.size ≤ w.heap.size + 1 by omega) _⟩

end Go.Proofs.Ytmedemniopgpeaa
