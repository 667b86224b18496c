import Derived.Test.YtodfcbpcgcgijaaDoorJE
import Derived.ArgAppend
import Derived.WalkSpells
import Derived.Laws.MakeOwn
import Derived.Test.YtodfcbpcgcgijaaDoorJC
import Derived.Test.YtodfcbpcgcgijaaDoorJD
import Derived.Test.YtodfcbpcgcgijaaDoorJA
/- What Right of the document's answers gives: a number over a power of 2, rounding down. -/
namespace Go.Proofs.YtodfcbpcgcgijaaDoor
set_option maxRecDepth 100000
open Go.RowKit
attribute [local go_sem] cell_re eqW_self
attribute [local go_sem ↓] run_eqlW run_neqW

theorem bit_shift (a : Int) (k j : Nat) : bit (a / 2 ^ k) (j + 1) = bit (a / 2 ^ (k + 1)) j := by
  unfold bit
  rw [Int.ediv_ediv_of_nonneg (Int.le_of_lt (pow_pos' _)), Int.ediv_ediv_of_nonneg (Int.le_of_lt (pow_pos' _)), ← Int.pow_add, ← Int.pow_add, show k + (j + 1) = k + 1 + j by omega]
theorem sign_div (a : Int) (ha : Fits a) (n : Nat) : a / 2 ^ (127 + n) = a / 2 ^ 127 := by
  unfold Fits at ha
  have hp := pow_pos' n
  rw [Int.pow_add, ← Int.ediv_ediv_of_nonneg (Int.le_of_lt (pow_pos' 127))]
  have h : a / 2 ^ 127 = -1 ∨ a / 2 ^ 127 = 0 := by
    rw [show (2 : Int) ^ 127 = 170141183460469231731687303715884105728 from rfl]
    omega
  rcases h with h | h <;> rw [h]
  · generalize (2 : Int) ^ n = p at hp
    have e : (-1 : Int) = (p - 1) + p * (-1) := by omega
    rw [e, Int.add_mul_ediv_left _ _ (Int.ne_of_gt hp), Int.ediv_eq_zero_of_lt (by omega) (by omega)]
    omega
  · exact Int.zero_ediv _
theorem bit_sign (a : Int) (ha : Fits a) (k : Nat) : bit (a / 2 ^ k) 127 = bit a 127 := by
  unfold bit
  rw [Int.ediv_ediv_of_nonneg (Int.le_of_lt (pow_pos' _)), ← Int.pow_add, Nat.add_comm, sign_div a ha]

/-- A slice of 128 integers, from off on in block g, and what lies behind them up to its capacity. -/
structure Win (w : World) (B g off cap : Nat) (f : Nat → Int) : Prop where
  ge : B ≤ g
  le : 128 ≤ cap
  max : cap ≤ maxLen
  row : ∃ cur, w.heap[g]? = some (.cells cur 3 (0, 0)) ∧ off + cap ≤ cur.size ∧ ∀ j, j < 128 → cur[off + j]? = some (.int .i64 (f j))
theorem Win.lt {w : World} {B g off cap : Nat} {f : Nat → Int} (h : Win w B g off cap f) : g < w.heap.size := by
  obtain ⟨cur, hc, _⟩ := h.row
  rcases Nat.lt_or_ge g w.heap.size with hlt | hge
  · exact hlt
  · rw [Array.getElem?_eq_none hge] at hc; cases hc
theorem Win.ints {w : World} {B g off cap : Nat} {f : Nat → Int} (h : Win w B g off cap f) : Ints w g off f :=
  ⟨h.lt, fun j hj => by obtain ⟨cur, hc, _, hf⟩ := h.row; rw [cell_of_row w g (off + j) cur _ _ hc]; exact hf j hj⟩
theorem Win.below {w w' : World} {B B' g off cap : Nat} {f : Nat → Int} (h : Win w B g off cap f) (hb : Below B' w w') (hg : g < B') : Win w' B g off cap f :=
  ⟨h.ge, h.le, h.max, by obtain ⟨cur, hc, h2⟩ := h.row; exact ⟨cur, (hb.block g hg).trans hc, h2⟩⟩
theorem Win.alloc {w : World} {B g off cap : Nat} {f : Nat → Int} (h : Win w B g off cap f) (o : Obj) : Win (w.alloc o) B g off cap f := h.below ((Below.refl w.heap.size w).alloc (Nat.le_refl _) o) h.lt
theorem Win.spare {w : World} {B g off cap : Nat} {f : Nat → Int} (h : Win w B g off cap f) (j : Nat) (hj : j < cap) : (w.cell? ⟨g, off + j, none⟩).isSome = true ∧ w.frozen? ⟨g, off + j, none⟩ = false := by
  obtain ⟨cur, hc, hs, _⟩ := h.row
  exact ⟨by rw [cell_of_row w g (off + j) cur _ _ hc, Array.getElem?_eq_getElem (by omega)]; rfl, frozen_of_row w g (off + j) cur _ hc⟩
theorem Win.of_row {w : World} {B g cap : Nat} {f : Nat → Int} {xs : List Value} (h : w.ownsRow B 3 1 (.slice (some ⟨g, 0, none⟩) 128 cap) 128 xs) (hx : ∀ j, j < 128 → xs[j]? = some (.int .i64 (f j))) : Win w B g 0 cap f := by
  rcases h.2 with ⟨h', _⟩ | ⟨g', cap', cur, h', hb, hg, hnc, hcm, hcs, htake⟩
  · simp at h'
  · simp only [Value.slice.injEq, Option.some.injEq, Addr.mk.injEq, and_true, true_and] at h'
    obtain ⟨rfl, rfl⟩ := h'
    refine ⟨hb, hnc, hcm, cur, hg, by omega, fun j hj => ?_⟩
    have := hx j hj
    rw [← htake, List.getElem?_take, if_pos (by omega)] at this
    rw [Nat.zero_add]
    simpa using this

theorem Win.congr {w : World} {B g off cap : Nat} {f f' : Nat → Int} (h : Win w B g off cap f) (hf : ∀ j, j < 128 → f j = f' j) : Win w B g off cap f' :=
  ⟨h.ge, h.le, h.max, by obtain ⟨cur, hc, hs, hx⟩ := h.row; exact ⟨cur, hc, hs, fun j hj => by rw [← hf j hj]; exact hx j hj⟩⟩
theorem Win.mono {w : World} {B B' g off cap : Nat} {f : Nat → Int} (h : Win w B g off cap f) (hB : B' ≤ B) : Win w B' g off cap f := ⟨Nat.le_trans hB h.ge, h.le, h.max, h.row⟩
theorem Win.room {w : World} {B g off cap : Nat} {f : Nat → Int} (h : Win w B g off cap f) (hc : 128 ≤ cap - 1) (d : Int) :
    Win (w.setCells g (off + 1 + 127 * 1) [.int .i64 d]) B g (off + 1) (cap - 1) (fun j => if j < 127 then f (j + 1) else d) := by
  obtain ⟨cur, hcur, hs, hx⟩ := h.row
  have hm := h.max
  refine ⟨h.ge, hc, by omega, cur.setIfInBounds (off + 128) (.int .i64 d), ?_, by simp; omega, fun j hj => ?_⟩
  · show (w.setCell ⟨g, off + 1 + 127 * 1, none⟩ (.int .i64 d)).heap[g]? = _
    rw [show off + 1 + 127 * 1 = off + 128 by omega]
    exact heap_setCell_same w g (off + 128) cur 3 _ hcur
  · rw [Array.getElem?_setIfInBounds]
    by_cases h7 : j < 127
    · rw [if_neg (by omega), if_pos h7, show off + 1 + j = off + (j + 1) by omega]
      exact hx (j + 1) (by omega)
    · obtain rfl : j = 127 := by omega
      rw [if_pos (by omega), if_pos (by omega), if_neg (by omega)]
theorem Below.cells1 {B : Nat} {a w : World} (h : Below B a w) {g : Nat} (hg : B ≤ g) (o : Nat) (u : Value) : Below B a (w.setCells g o [u]) := h.setCell (p := ⟨g, o, none⟩) hg u
theorem Holds.cells1 {w : World} {k g : Nat} {v : Int} (h : Holds w k v) (hk : k < g) (o : Nat) (u : Value) : Holds (w.setCells g o [u]) k v :=
  h.below (B := g) ((Below.refl g w).setCell (p := ⟨g, o, none⟩) (Nat.le_refl g) u) hk
theorem shifted (a : Int) (ha : Fits a) (k j : Nat) (hj : j < 128) : (if j < 127 then bit (a / 2 ^ k) (j + 1) else bit a 127) = bit (a / 2 ^ (k + 1)) j := by
  by_cases h : j < 127
  · rw [if_pos h, bit_shift]
  · obtain rfl : j = 127 := by omega
    rw [if_neg (by omega), bit_sign a ha]

/-- What holds at a round's head. -/
structure RightAt (a : Int) (w : World) (k : Nat) (v : Value) (wr : World) : Prop where
  win : ∃ g off cap, v = .slice (some ⟨g, off, none⟩) 128 cap ∧ Win wr (w.heap.size + 2) g off cap (bit (a / 2 ^ k))
  res : Holds wr (w.heap.size + 1) 0
  old : Below w.heap.size w wr

def olds (a : Int) (k : Nat) : List Value := (List.range 127).map fun j => Value.int .i64 (bit (a / 2 ^ k) (j + 1))
theorem olds_at (a : Int) (k j : Nat) (h : j < 127) : (olds a k)[j]? = some (Value.int .i64 (bit (a / 2 ^ k) (j + 1))) := by unfold olds; simp [h]
theorem olds_len (a : Int) (k : Nat) : (olds a k).length = 127 := by unfold olds; simp
theorem olds_ok {a : Int} {w : World} {B k g off c : Nat} (hW : Win w B g off c (bit (a / 2 ^ k))) {j : Nat} {u : Value} (hj : (olds a k)[j]? = some u) : w.cell? ⟨g, off + 1 + j, none⟩ = some u := by
  have hj7 : j < 127 := by
    rcases Nat.lt_or_ge j 127 with h | h
    · exact h
    · rw [List.getElem?_eq_none (by rw [olds_len]; exact h)] at hj; cases hj
  rw [olds_at a k j hj7] at hj
  injection hj with hj
  subst hj
  rw [show off + 1 + j = off + (j + 1) by omega]
  exact hW.ints.at_ (j + 1) (by omega)
theorem right_room {a : Int} {w wr : World} (ha : Fits a) {k g off c : Nat} {d : Int} (hd : bit a 127 = d) (hW : Win wr (w.heap.size + 2) g off c (bit (a / 2 ^ k))) (hR : Holds wr (w.heap.size + 1) 0) (hB : Below w.heap.size w wr) (hc : 128 ≤ c - 1) :
    RightAt a w (k + 1) (.slice (some ⟨g, off + 1, none⟩) 128 (c - 1)) ((wr.alloc (.cells #[.int .i64 d] 3)).setCells g (off + 1 + 127 * 1) [.int .i64 d]) := by
  have hg := hW.ge
  refine ⟨⟨g, off + 1, c - 1, rfl, ((hW.alloc _).room hc d).congr fun j hj => ?_⟩, (hR.alloc _).cells1 (by omega) _ _, Below.cells1 (hB.alloc hB.size _) (by omega) _ _⟩
  rw [← hd]
  exact shifted a ha k j hj
theorem right_grow {a : Int} {w wr w' : World} (ha : Fits a) {k : Nat} {d : Int} {v : Value} (hd : bit a 127 = d) (hR : Holds wr (w.heap.size + 1) 0) (hB : Below w.heap.size w wr)
    (hown : w'.ownsRow (wr.heap.size + 1) 3 1 v 128 (olds a k ++ [.int .i64 d])) (hg : (wr.alloc (.cells #[.int .i64 d] 3)).grownBy w' none) : RightAt a w (k + 1) v w' := by
  have hs := hR.lt
  have hb : Below (wr.alloc (.cells #[.int .i64 d] 3)).heap.size (wr.alloc (.cells #[.int .i64 d] 3)) w' := (Below.refl _ _).grown hg (Nat.le_refl _) (fun _ h => by cases h)
  obtain ⟨g, cap, rfl, _⟩ := hown.form (by omega)
  refine ⟨⟨g, 0, cap, rfl, (Win.of_row (f := bit (a / 2 ^ (k + 1))) hown fun j hj => ?_).mono (by omega)⟩, (hR.alloc _).call hb, below_then (hB.alloc hB.size _) hb⟩
  rw [← shifted a ha k j hj]
  by_cases h : j < 127
  · rw [List.getElem?_append_left (by rw [olds_len]; exact h), olds_at a k j h, if_pos h]
  · obtain rfl : j = 127 := by omega
    rw [List.getElem?_append_right (by rw [olds_len]; omega), olds_len, if_neg (by omega), hd]
    rfl

set_option maxRecDepth 100000 in
set_option maxHeartbeats 1000000 in
theorem refRight_m (a n : Int) (ha : Fits a) (m : Nat) (hm : m ≤ 127) (hn : n ≤ 9223372036854775807) (hn2 : -9223372036854775808 ≤ n) (hmn : (n ≤ 0 ∧ m = 0) ∨ (0 < n ∧ n ≤ 127 ∧ (m : Int) = n) ∨ (127 < n ∧ m = 127)) (w : World) :
    Calls Tryd.prog 82 #[W a, .int .i64 n] w fun e w' => e = .returned (W (a / 2 ^ m)) ∧ Below w.heap.size w w' := by
  obtain ⟨i0, hi0, hz0, hz1, hz2⟩ := info_parts Tryd.infoInt
  obtain ⟨z1, z2⟩ := zero_halves
  have hz : ((w.alloc (.cells #[.int .i64 (hi a), .int .u64 (lo a)] 58)).alloc (.cells #[.int .i64 0, .int .u64 0] 58)) = (w.alloc (.cells #[.int .i64 (hi a), .int .u64 (lo a)] 58)).alloc (.cells #[.int .i64 (hi 0), .int .u64 (lo 0)] 58) := by rw [z1, z2]
  have hR : Holds ((w.alloc (.cells #[.int .i64 (hi a), .int .u64 (lo a)] 58)).alloc (.cells #[.int .i64 0, .int .u64 0] 58)) (w.heap.size + 1) 0 := by
    rw [hz]
    have := Holds.new (w.alloc (.cells #[.int .i64 (hi a), .int .u64 (lo a)] 58)) 0 58
    rw [World.size_alloc] at this
    exact this
  have hB : Below w.heap.size w ((w.alloc (.cells #[.int .i64 (hi a), .int .u64 (lo a)] 58)).alloc (.cells #[.int .i64 0, .int .u64 0] 58)) := by go_grown
  clear hz z1 z2
  have hmn' := Lib.hid hmn
  clear hmn
  go_enter Tryd.func82, Tryd.ntmps82
  go_wp2_with fail
  refine (refDigits a _).mono ?_
  rintro e w1 ⟨g, cap, rfl, hown, hb1⟩
  replace hR := hR.call hb1
  replace hB := below_then hB hb1
  have hW : Win w1 (w.heap.size + 2) g 0 cap (bit (a / 2 ^ 0)) := by
    rw [show a / 2 ^ 0 = a by simp]
    exact (Win.of_row hown (fun j hj => bits_at a 128 j hj)).mono (by simp)
  have hc7 : w1.cell? ⟨g, 127, none⟩ = some (.int .i64 (bit a 127)) := (row_cell hown (Below.refl _ _)).2 127 (by omega)
  have hM0 : RightAt a w 0 (.slice (some ⟨g, 0, none⟩) 128 cap) w1 := ⟨⟨g, 0, cap, rfl, hW⟩, hR, hB⟩
  obtain ⟨d, hd⟩ : ∃ d, Hid (bit a 127 = d) := ⟨_, rfl⟩
  rw [hd.out] at hc7
  clear hown hb1 hW hR hB
  go_wp2
  go_loopw [5, 7] (fun v5 v7 wr => ∃ k : Nat, k ≤ m ∧ v7 = .int .i64 k ∧ RightAt a w k v5 wr) (fun _ v7 _ => 127 - (intOf v7).toNat)
  case atStart => exact ⟨0, Nat.zero_le _, rfl, hM0⟩
  case round =>
    clear hM0 hc7
    obtain ⟨k, hk, rfl, ⟨⟨g', off, c, rfl, hW⟩, hR, hB⟩⟩ := hrel
    have hWc := hW.le
    have hWm := hW.max
    unfold maxLen at hWm
    have hg2 := hW.ge
    have gl := hW.lt
    have hsz := hR.lt
    by_cases hlt : k < m
    · have j0 : (0 : Int) ≤ (k : Int) := by omega
      have j1 : (k : Int) < 127 := by omega
      have j4 : (1 : Int) ≤ (c : Int) := by omega
      have j5 : (128 : Int) ≤ (c : Int) := by omega
      have hn0 : 0 < n := by have := hmn'.out; omega
      have hW1 := hW.alloc (.cells #[.int .i64 d] 3)
      have hi1 := hW1.ints.at_
      have hi2 := Lib.hid hi1
      clear hi1
      by_cases hbig : n ≤ 127
      · have j2 : (k : Int) < n := by have := hmn'.out; omega
        go_wp2_with (at_builtin; refine wpList_append_arg _ rfl _ _ 80 rfl 3 i0 (.int .i64 0) 1 8 Tryd.underlying80 hi0 hz0 hz1 hz2 rfl (by decide) g' (off + 1) 127 (c - 1) (olds a k) rfl ?lo ?olds ⟨wr.heap.size, 0, none⟩ 1 1 [.int .i64 d] rfl rfl ?c1 ?c2 ?spare ?b1 ?b2 ?room ?grow)
        case lo => rw [olds_len]
        case olds =>
          intro j u hj
          have hj7 : j < 127 := by
            rcases Nat.lt_or_ge j 127 with h | h
            · exact h
            · rw [List.getElem?_eq_none (by rw [olds_len]; exact h)] at hj; cases hj
          rw [olds_at a k j hj7] at hj
          injection hj with hj
          subst hj
          rw [show off + 1 + j = off + (j + 1) by omega]
          exact hi2.out (j + 1) (by omega)
        case c1 =>
          intro j u hj
          match j, hj with
          | 0, hj => simp at hj; subst hj; simp [Addr.add]
        case c2 => intro u hu; simp at hu; subst hu; rfl
        case spare =>
          intro hr j hj
          simp at hj
          subst hj
          have := hW1.spare 128 (by omega)
          rw [show off + 1 + 127 * 1 + 0 = off + 128 by omega]
          exact this
        case b1 => unfold maxLen; omega
        case b2 => omega
        case room =>
          intro hr
          have hM := right_room ha hd.out hW hR hB (by omega)
          clear hW hR hB hW1 hi2
          go_wp2
          go_roundw
          case rel => exact ⟨k + 1, by omega, by go_num, hM⟩
          case measure => simp [intOf]; omega
        case grow =>
          intro hr v' w' hown' hgrow
          have hM := right_grow ha hd.out hR hB hown' hgrow
          clear hown' hgrow hW hR hB hW1 hi2
          go_wp2
          go_roundw
          case rel => exact ⟨k + 1, by omega, by go_num, hM⟩
          case measure => simp [intOf]; omega
      · have j3 : 127 < n := by omega
        go_wp2_with (at_builtin; refine wpList_append_arg _ rfl _ _ 80 rfl 3 i0 (.int .i64 0) 1 8 Tryd.underlying80 hi0 hz0 hz1 hz2 rfl (by decide) g' (off + 1) 127 (c - 1) (olds a k) rfl ?loZ ?oldsZ ⟨wr.heap.size, 0, none⟩ 1 1 [.int .i64 d] rfl rfl ?c1Z ?c2Z ?spareZ ?b1Z ?b2Z ?roomZ ?growZ)
        case roomZ =>
          intro hr
          have hM := right_room ha hd.out hW hR hB (by omega)
          clear hW hR hB hW1 hi2
          go_wp2
          go_roundw
          case rel => exact ⟨k + 1, by omega, by go_num, hM⟩
          case measure => simp [intOf]; omega
        case growZ =>
          intro hr v' w' hown' hgrow
          have hM := right_grow ha hd.out hR hB hown' hgrow
          clear hown' hgrow hW hR hB hW1 hi2
          go_wp2
          go_roundw
          case rel => exact ⟨k + 1, by omega, by go_num, hM⟩
          case measure => simp [intOf]; omega
        all_goals first
          | exact olds_len _ _
          | (unfold maxLen; omega)
          | omega
          | rfl
          | (intro hr; exact hW.spare 128 (by omega))
          | (intro u hu; simp at hu; subst hu; rfl)
          | (intro j u hj; exact olds_ok hW hj)
    · have hkm : Hid (k = m) := by show k = m; omega
      have hnum : Hid (Ints wr g' off (bit (a / 2 ^ m))) := by
        have h := hW.ints
        rw [hkm.out] at h
        exact h
      by_cases hbig : n ≤ 127
      · have j2 : ¬ (k : Int) < n := by have := hmn'.out; omega
        go_wp2_with fail
        refine (number_ints (a / 2 ^ m) hnum.out).mono ?_
        rintro e w6 ⟨rfl, hb6⟩
        have hR6 := hR.call hb6
        have hB6 := below_then hB hb6
        obtain ⟨rl, r0, r1, r2, r3⟩ := hR6
        clear hR hB hb6 hW
        go_wp2
        refine bodyPost_ret (by simp [results, Tryd.results82, go_sem, r0, r1]; try rfl) rfl ?_
        exact ⟨rfl, below_put hB6 (show w.heap.size ≤ w.heap.size + 1 by omega) _⟩
      · have j3 : 127 < n := by omega
        have j4 : ¬ (k : Int) < 127 := by have := hmn'.out; omega
        go_wp2_with fail
        refine (number_ints (a / 2 ^ m) hnum.out).mono ?_
        rintro e w6 ⟨rfl, hb6⟩
        have hR6 := hR.call hb6
        have hB6 := below_then hB hb6
        obtain ⟨rl, r0, r1, r2, r3⟩ := hR6
        clear hR hB hb6 hW
        go_wp2
        refine bodyPost_ret (by simp [results, Tryd.results82, go_sem, r0, r1]; try rfl) rfl ?_
        exact ⟨rfl, below_put hB6 (show w.heap.size ≤ w.heap.size + 1 by omega) _⟩

end Go.Proofs.YtodfcbpcgcgijaaDoor

/- What Near and Clip of the document's answers give. -/
namespace Go.Proofs.YtodfcbpcgcgijaaDoor
set_option maxRecDepth 100000
open Go.RowKit
attribute [local go_sem] cell_re eqW_self
attribute [local go_sem ↓] run_eqlW run_neqW

theorem refRight (a : Int) (ha : Fits a) (n : Int) (hn : Half n) (k : Nat) (pn : places n = (k : Int)) (w : World) :
    Calls Tryd.prog 82 #[W a, .int .i64 n] w fun e w' => e = .returned (W (a / 2 ^ k)) ∧ Below w.heap.size w w' := by
  obtain ⟨n0, n1⟩ := hn
  exact refRight_m a n ha k (by unfold places at pn; omega) n1 n0 (by unfold places at pn; omega) w

set_option maxRecDepth 100000 in
set_option maxHeartbeats 1000000 in
theorem refNear_in (a : Int) (ha : Fits a) (k : Nat) (hk : k ≤ 126) (w : World) :
    Calls Tryd.prog 64 #[W a, .int .i64 ((k : Int) + 1)] w fun e w' => e = .returned (W (a / 2 ^ (k + 1) + bit a k)) ∧ Below w.heap.size w w' := by
  obtain ⟨z1, z2⟩ := zero_halves
  have hz : ((w.alloc (.cells #[.int .i64 (hi a), .int .u64 (lo a)] 58)).alloc (.cells #[.int .i64 0, .int .u64 0] 58)) = (w.alloc (.cells #[.int .i64 (hi a), .int .u64 (lo a)] 58)).alloc (.cells #[.int .i64 (hi 0), .int .u64 (lo 0)] 58) := by rw [z1, z2]
  have hA : Holds ((w.alloc (.cells #[.int .i64 (hi a), .int .u64 (lo a)] 58)).alloc (.cells #[.int .i64 0, .int .u64 0] 58)) w.heap.size a := (Holds.new w a 58).alloc _
  have hR : Holds ((w.alloc (.cells #[.int .i64 (hi a), .int .u64 (lo a)] 58)).alloc (.cells #[.int .i64 0, .int .u64 0] 58)) (w.heap.size + 1) 0 := by
    rw [hz]
    have := Holds.new (w.alloc (.cells #[.int .i64 (hi a), .int .u64 (lo a)] 58)) 0 58
    rw [World.size_alloc] at this
    exact this
  have hB : Below w.heap.size w ((w.alloc (.cells #[.int .i64 (hi a), .int .u64 (lo a)] 58)).alloc (.cells #[.int .i64 0, .int .u64 0] 58)) := by go_grown
  clear hz z1 z2
  have j0 : (0 : Int) ≤ (k : Int) := by omega
  have j1 : (k : Int) ≤ 126 := by omega
  have j2 : (k : Int) < 128 := by omega
  go_enter Tryd.func64, Tryd.ntmps64
  go_wp2_with fail
  refine (refDigits a _).mono ?_
  rintro e w1 ⟨g, cap, rfl, hown, hb1⟩
  have hc := (row_cell hown (Below.refl _ _)).2 k (by omega)
  obtain ⟨d, hd, d0, d1⟩ : ∃ d, Hid (bit a k = d) ∧ 0 ≤ d ∧ d ≤ 1 := ⟨_, rfl, bit_lo a k, bit_hi a k⟩
  rw [hd.out] at hc
  replace hA := hA.call hb1
  replace hR := hR.call hb1
  replace hB := below_then hB hb1
  have hx := hA
  obtain ⟨xl, x0, x1, x2, x3⟩ := hx
  clear hown hb1
  go_wp2_with fail
  refine (refRight a ha ((k : Int) + 1) (by unfold Half; omega) (k + 1) (by unfold places; omega) _).mono ?_
  rintro e w3 ⟨rfl, hb3⟩
  replace hR := hR.call hb3
  replace hB := below_then hB hb3
  clear hA hb3 xl x0 x1 x2 x3 hc
  go_wp2_with fail
  refine (refOf d (by unfold Half; omega) _).mono ?_
  rintro e w4 ⟨rfl, hb4⟩
  replace hR := hR.call hb4
  replace hB := below_then hB hb4
  clear hb4
  go_wp2_with fail
  refine (refAdd _ d _).mono ?_
  rintro e w5 ⟨rfl, hb5⟩
  replace hR := hR.call hb5
  replace hB := below_then hB hb5
  clear hb5
  obtain ⟨rl, r0, r1, r2, r3⟩ := hR
  go_wp2
  refine bodyPost_ret (by simp [results, Tryd.results64, go_sem, r0, r1]; try rfl) rfl ?_
  exact ⟨by rw [hd.out] <;> simp, below_put hB (show w.heap.size ≤ w.heap.size + 1 by omega) _⟩

set_option maxRecDepth 100000 in
set_option maxHeartbeats 1000000 in
theorem refNear_far (a : Int) (ha : Fits a) (n : Int) (h0 : 127 < n) (w : World) :
    Calls Tryd.prog 64 #[W a, .int .i64 n] w fun e w' => e = .returned (W (a / 2 ^ (126 + 1) + bit a 126)) ∧ Below w.heap.size w w' := by
  obtain ⟨z1, z2⟩ := zero_halves
  have hz : ((w.alloc (.cells #[.int .i64 (hi a), .int .u64 (lo a)] 58)).alloc (.cells #[.int .i64 0, .int .u64 0] 58)) = (w.alloc (.cells #[.int .i64 (hi a), .int .u64 (lo a)] 58)).alloc (.cells #[.int .i64 (hi 0), .int .u64 (lo 0)] 58) := by rw [z1, z2]
  have hA : Holds ((w.alloc (.cells #[.int .i64 (hi a), .int .u64 (lo a)] 58)).alloc (.cells #[.int .i64 0, .int .u64 0] 58)) w.heap.size a := (Holds.new w a 58).alloc _
  have hR : Holds ((w.alloc (.cells #[.int .i64 (hi a), .int .u64 (lo a)] 58)).alloc (.cells #[.int .i64 0, .int .u64 0] 58)) (w.heap.size + 1) 0 := by
    rw [hz]
    have := Holds.new (w.alloc (.cells #[.int .i64 (hi a), .int .u64 (lo a)] 58)) 0 58
    rw [World.size_alloc] at this
    exact this
  have hB : Below w.heap.size w ((w.alloc (.cells #[.int .i64 (hi a), .int .u64 (lo a)] 58)).alloc (.cells #[.int .i64 0, .int .u64 0] 58)) := by go_grown
  clear hz z1 z2
  go_enter Tryd.func64, Tryd.ntmps64
  go_wp2_with fail
  refine (refDigits a _).mono ?_
  rintro e w1 ⟨g, cap, rfl, hown, hb1⟩
  have hc := (row_cell hown (Below.refl _ _)).2 126 (by omega)
  obtain ⟨d, hd, d0, d1⟩ : ∃ d, Hid (bit a 126 = d) ∧ 0 ≤ d ∧ d ≤ 1 := ⟨_, rfl, bit_lo a 126, bit_hi a 126⟩
  rw [hd.out] at hc
  replace hA := hA.call hb1
  replace hR := hR.call hb1
  replace hB := below_then hB hb1
  have hx := hA
  obtain ⟨xl, x0, x1, x2, x3⟩ := hx
  clear hown hb1
  go_wp2_with fail
  refine (refRight a ha 127 (by unfold Half; omega) (126 + 1) (by unfold places; omega) _).mono ?_
  rintro e w3 ⟨rfl, hb3⟩
  replace hR := hR.call hb3
  replace hB := below_then hB hb3
  clear hA hb3 xl x0 x1 x2 x3 hc
  go_wp2_with fail
  refine (refOf d (by unfold Half; omega) _).mono ?_
  rintro e w4 ⟨rfl, hb4⟩
  replace hR := hR.call hb4
  replace hB := below_then hB hb4
  clear hb4
  go_wp2_with fail
  refine (refAdd _ d _).mono ?_
  rintro e w5 ⟨rfl, hb5⟩
  replace hR := hR.call hb5
  replace hB := below_then hB hb5
  clear hb5
  obtain ⟨rl, r0, r1, r2, r3⟩ := hR
  go_wp2
  refine bodyPost_ret (by simp [results, Tryd.results64, go_sem, r0, r1]; try rfl) rfl ?_
  exact ⟨by rw [hd.out] <;> simp, below_put hB (show w.heap.size ≤ w.heap.size + 1 by omega) _⟩

set_option maxRecDepth 100000 in
set_option maxHeartbeats 1000000 in
theorem refNear_low (a : Int) (n : Int) (h0 : n ≤ 0) (w : World) :
    Calls Tryd.prog 64 #[W a, .int .i64 n] w fun e w' => e = .returned (W a) ∧ Below w.heap.size w w' := by
  have h2 : n ≤ 127 := by omega
  go_enter Tryd.func64, Tryd.ntmps64
  go_wp2
  go_returns
  exact ⟨rfl, by go_grown⟩
theorem refNear (a n : Int) (ha : Fits a) (hn : Half n) (w : World) :
    Calls Tryd.prog 64 #[W a, .int .i64 n] w fun e w' => e = .returned (W (near a n)) ∧ Below w.heap.size w w' := by
  obtain ⟨n0, n1⟩ := hn
  rcases Int.lt_or_le 0 n with h | h
  · obtain ⟨k, hk⟩ : ∃ k : Nat, places n = (k : Int) + 1 := ⟨(places n).toNat - 1, by unfold places; omega⟩
    have e : near a n = a / 2 ^ (k + 1) + bit a k := by
      unfold near
      rw [if_neg (by omega), hk, show ((k : Int) + 1).toNat = k + 1 by omega, near_half a (k + 1) (by omega), show k + 1 - 1 = k by omega]
      rfl
    rw [e]
    by_cases hb : n ≤ 127
    · obtain rfl : n = (k : Int) + 1 := by unfold places at hk; omega
      exact refNear_in a ha k (by omega) w
    · obtain rfl : k = 126 := by unfold places at hk; omega
      exact refNear_far a ha n (by omega) w
  · have e : near a n = a := by unfold near; rw [if_pos h]
    rw [e]
    exact refNear_low a n h w


end Go.Proofs.YtodfcbpcgcgijaaDoor

/- What Clip and Div of the document's answers give. -/
namespace Go.Proofs.YtodfcbpcgcgijaaDoor
set_option maxRecDepth 100000
open Go.RowKit
attribute [local go_sem] cell_re eqW_self
attribute [local go_sem ↓] run_eqlW run_neqW

theorem refLess_v (a b : Int) (ha : Fits a) (hb : Fits b) (c : Bool) (h : decide (a < b) = c) (w : World) : Calls Tryd.prog 80 #[W a, W b] w fun e w' => e = .returned (.bool c) ∧ Below w.heap.size w w' := by
  subst h
  exact refLess a b ha hb w

set_option maxHeartbeats 1000000 in
theorem refClip_lo (a : Int) (ha : Fits a) (h : a < -9223372036854775808) (w : World) :
    Calls Tryd.prog 61 #[W a] w fun e w' => e = .returned (.tuple #[.int .i64 (clipped a), .bool (cut a)]) ∧ Below w.heap.size w w' := by
  have hha := hi_lo a
  have hga := hi_hi a
  have hla := lo_lo a
  have hka := lo_hi a
  have c1 := Lib.hid (show decide (a < -9223372036854775808) = true by simp; omega)
  have c2 := Lib.hid (show decide (9223372036854775807 < a) = false by simp; omega)
  have f1 := Lib.hid (show Fits (-9223372036854775808) by unfold Fits; omega)
  have f2 := Lib.hid (show Fits 9223372036854775807 by unfold Fits; omega)
  go_enter Tryd.func61, Tryd.ntmps61
  go_wp2_with fail
  refine wp_region_quiet_below (by kernel_rfl) (by kernel_rfl) ?_
  repeat (go_big_quiet_step ((first | (go_at_call 81; first | (with_reducible exact Calls.regrown_of (refOf (-9223372036854775808) (by unfold Half; omega) _))) | (go_at_call 80; first | (with_reducible exact Calls.regrown_of (refLess_v a (-9223372036854775808) ha f1.out true c1.out _))))))
  refine wpQuiet_nil ?_
  intro w1 hw1
  have hb1 := below_of_re hw1
  clear hw1
  obtain ⟨hc1, hf1⟩ := bcell hb1
  have hz1 := hb1.size
  have ht1 : Below w.heap.size w w1 := Below.trans (by go_grown) (hb1.mono (by simp <;> omega))
  go_wp2
  go_returns
  refine ⟨retIB ?_ ?_, by assumption⟩
  · unfold clipped; omega
  · unfold cut; first | (symm; exact decide_eq_true (by omega)) | (symm; exact decide_eq_false (by omega))

set_option maxHeartbeats 1000000 in
theorem refClip_hi (a : Int) (ha : Fits a) (h : 9223372036854775807 < a) (w : World) :
    Calls Tryd.prog 61 #[W a] w fun e w' => e = .returned (.tuple #[.int .i64 (clipped a), .bool (cut a)]) ∧ Below w.heap.size w w' := by
  have hha := hi_lo a
  have hga := hi_hi a
  have hla := lo_lo a
  have hka := lo_hi a
  have c1 := Lib.hid (show decide (a < -9223372036854775808) = false by simp; omega)
  have c2 := Lib.hid (show decide (9223372036854775807 < a) = true by simp; omega)
  have f1 := Lib.hid (show Fits (-9223372036854775808) by unfold Fits; omega)
  have f2 := Lib.hid (show Fits 9223372036854775807 by unfold Fits; omega)
  go_enter Tryd.func61, Tryd.ntmps61
  go_wp2_with fail
  refine wp_region_quiet_below (by kernel_rfl) (by kernel_rfl) ?_
  repeat (go_big_quiet_step ((first | (go_at_call 81; first | (with_reducible exact Calls.regrown_of (refOf (-9223372036854775808) (by unfold Half; omega) _))) | (go_at_call 80; first | (with_reducible exact Calls.regrown_of (refLess_v a (-9223372036854775808) ha f1.out false c1.out _))))))
  refine wpQuiet_nil ?_
  intro w1 hw1
  have hb1 := below_of_re hw1
  clear hw1
  obtain ⟨hc1, hf1⟩ := bcell hb1
  have hz1 := hb1.size
  have ht1 : Below w.heap.size w w1 := Below.trans (by go_grown) (hb1.mono (by simp <;> omega))
  have d0 : w1.cell? ⟨w.heap.size, 0, none⟩ = some (.int .i64 (hi a)) := (hc1 _ _ (by simp)).trans (by simp [go_sem])
  have d1 : w1.cell? ⟨w.heap.size, 1, none⟩ = some (.int .u64 (lo a)) := (hc1 _ _ (by simp)).trans (by simp [go_sem])
  have e0 := cell_regrown d0
  have e1 := cell_regrown d1
  clear hc1 hf1 hz1 hb1
  go_wp2_with fail
  refine wp_region_quiet_below (by kernel_rfl) (by kernel_rfl) ?_
  repeat (go_big_quiet_step ((first | (go_at_call 81; first | (with_reducible exact Calls.regrown_of (refOf 9223372036854775807 (by unfold Half; omega) _))) | (go_at_call 80; first | (with_reducible exact Calls.regrown_of (refLess_v 9223372036854775807 a f2.out ha true c2.out _))))))
  refine wpQuiet_nil ?_
  intro w2 hw2
  have hb2 := below_of_re hw2
  clear hw2
  obtain ⟨hc2, hf2⟩ := bcell hb2
  have hz2 := hb2.size
  have ht2 : Below w.heap.size w w2 := Below.trans ht1 (hb2.mono ht1.size)
  go_wp2
  go_returns
  refine ⟨retIB ?_ ?_, by assumption⟩
  · unfold clipped; omega
  · unfold cut; first | (symm; exact decide_eq_true (by omega)) | (symm; exact decide_eq_false (by omega))

set_option maxHeartbeats 1000000 in
theorem refClip_in (a : Int) (ha : Fits a) (h : -9223372036854775808 ≤ a ∧ a ≤ 9223372036854775807) (w : World) :
    Calls Tryd.prog 61 #[W a] w fun e w' => e = .returned (.tuple #[.int .i64 (clipped a), .bool (cut a)]) ∧ Below w.heap.size w w' := by
  have hha := hi_lo a
  have hga := hi_hi a
  have hla := lo_lo a
  have hka := lo_hi a
  have c1 := Lib.hid (show decide (a < -9223372036854775808) = false by simp; omega)
  have c2 := Lib.hid (show decide (9223372036854775807 < a) = false by simp; omega)
  have f1 := Lib.hid (show Fits (-9223372036854775808) by unfold Fits; omega)
  have f2 := Lib.hid (show Fits 9223372036854775807 by unfold Fits; omega)
  go_enter Tryd.func61, Tryd.ntmps61
  go_wp2_with fail
  refine wp_region_quiet_below (by kernel_rfl) (by kernel_rfl) ?_
  repeat (go_big_quiet_step ((first | (go_at_call 81; first | (with_reducible exact Calls.regrown_of (refOf (-9223372036854775808) (by unfold Half; omega) _))) | (go_at_call 80; first | (with_reducible exact Calls.regrown_of (refLess_v a (-9223372036854775808) ha f1.out false c1.out _))))))
  refine wpQuiet_nil ?_
  intro w1 hw1
  have hb1 := below_of_re hw1
  clear hw1
  obtain ⟨hc1, hf1⟩ := bcell hb1
  have hz1 := hb1.size
  have ht1 : Below w.heap.size w w1 := Below.trans (by go_grown) (hb1.mono (by simp <;> omega))
  have d0 : w1.cell? ⟨w.heap.size, 0, none⟩ = some (.int .i64 (hi a)) := (hc1 _ _ (by simp)).trans (by simp [go_sem])
  have d1 : w1.cell? ⟨w.heap.size, 1, none⟩ = some (.int .u64 (lo a)) := (hc1 _ _ (by simp)).trans (by simp [go_sem])
  have e0 := cell_regrown d0
  have e1 := cell_regrown d1
  clear hc1 hf1 hz1 hb1
  go_wp2_with fail
  refine wp_region_quiet_below (by kernel_rfl) (by kernel_rfl) ?_
  repeat (go_big_quiet_step ((first | (go_at_call 81; first | (with_reducible exact Calls.regrown_of (refOf 9223372036854775807 (by unfold Half; omega) _))) | (go_at_call 80; first | (with_reducible exact Calls.regrown_of (refLess_v 9223372036854775807 a f2.out ha false c2.out _))))))
  refine wpQuiet_nil ?_
  intro w2 hw2
  have hb2 := below_of_re hw2
  clear hw2
  obtain ⟨hc2, hf2⟩ := bcell hb2
  have hz2 := hb2.size
  have ht2 : Below w.heap.size w w2 := Below.trans ht1 (hb2.mono ht1.size)
  have g1 : w2.cell? ⟨w.heap.size, 1, none⟩ = some (.int .u64 (lo a)) := (hb2.cell (p := ⟨w.heap.size, 1, none⟩) (World.block_lt_of_cell? w1 _ d1)).trans d1
  go_wp2
  go_returns
  refine ⟨retIB ?_ ?_, by assumption⟩
  · unfold clipped; (unfold wrap64 lo; omega)
  · unfold cut; first | (symm; exact decide_eq_true (by omega)) | (symm; exact decide_eq_false (by omega))

theorem refClip (a : Int) (ha : Fits a) (w : World) : Calls Tryd.prog 61 #[W a] w fun e w' => e = .returned (.tuple #[.int .i64 (clipped a), .bool (cut a)]) ∧ Below w.heap.size w w' := by
  by_cases h : a < -9223372036854775808
  · exact refClip_lo a ha h w
  · by_cases h2 : 9223372036854775807 < a
    · exact refClip_hi a ha h2 w
    · exact refClip_in a ha (by omega) w

end Go.Proofs.YtodfcbpcgcgijaaDoor

/- What Div of the document's answers gives: the quotient, rounding towards 0, and the rest. -/
namespace Go.Proofs.YtodfcbpcgcgijaaDoor
set_option maxRecDepth 100000
open Go.RowKit
attribute [local go_sem] cell_re eqW_self
attribute [local go_sem ↓] run_eqlW run_neqW

/-- One bit more of a quotient. -/
theorem div_bit (U y : Int) (hy : 1 ≤ y) (i : Nat) :
    bit (U / y) i = (2 * (U / 2 ^ (i + 1) % y) + bit U i) / y ∧ U / 2 ^ i % y = (2 * (U / 2 ^ (i + 1) % y) + bit U i) % y := by
  have e1 : U / 2 ^ i = 2 * (U / 2 ^ (i + 1)) + bit U i := by rw [div_succ]; unfold bit; omega
  have h1 := Int.mul_ediv_add_emod (U / 2 ^ (i + 1)) y
  have h2 := Int.emod_nonneg (U / 2 ^ (i + 1)) (show y ≠ 0 by omega)
  have h3 := Int.emod_lt_of_pos (U / 2 ^ (i + 1)) (show 0 < y by omega)
  have b0 := bit_lo U i
  have b1 := bit_hi U i
  have e2 : U / 2 ^ i = (2 * (U / 2 ^ (i + 1) % y) + bit U i) + y * (2 * (U / 2 ^ (i + 1) / y)) := by rw [Int.mul_left_comm]; omega
  have e3 : U / 2 ^ i / y = (2 * (U / 2 ^ (i + 1) % y) + bit U i) / y + 2 * (U / 2 ^ (i + 1) / y) := by rw [e2, Int.add_mul_ediv_left _ _ (by omega)]
  refine ⟨?_, by rw [e2, Int.add_mul_emod_self_left]⟩
  have e4 : bit (U / y) i = U / 2 ^ i / y % 2 := by
    unfold bit
    rw [Int.ediv_ediv_of_nonneg (by omega), Int.ediv_ediv_of_nonneg (Int.le_of_lt (pow_pos' i)), Int.mul_comm]
  rw [e4, e3]
  generalize U / 2 ^ (i + 1) % y = r at *
  have h5 : (2 * r + bit U i) / y < 2 := Int.ediv_lt_of_lt_mul (by omega) (by omega)
  have h6 : 0 ≤ (2 * r + bit U i) / y := Int.ediv_nonneg (by omega) (by omega)
  omega
/-- The quotient's bits from i on; below them nothing yet. -/
def outs (q : Int) (i : Nat) : List Value := (List.range 128).map fun j => Value.int .i64 (if j < i then 0 else bit q j)
theorem outs_at (q : Int) (i j : Nat) (h : j < 128) : (outs q i)[j]? = some (Value.int .i64 (if j < i then 0 else bit q j)) := by unfold outs; simp [h]
theorem outs_start (q : Int) : List.replicate 128 (Value.int .i64 0) = outs q 128 := by
  apply List.ext_getElem?
  intro j
  by_cases hj : j < 128
  · rw [outs_at q 128 j hj, if_pos hj, List.getElem?_replicate, if_pos hj]
  · rw [List.getElem?_eq_none (by simp; omega), List.getElem?_eq_none (by unfold outs; simp; omega)]
theorem outs_end (q : Int) : outs q 0 = bits_ q 128 := by unfold outs bits_; simp
theorem outs_one (q : Int) (i : Nat) (hi : i < 128) (h : bit q i = 1) : (outs q (i + 1)).set i (.int .i64 1) = outs q i := by
  apply List.ext_getElem?
  intro j
  by_cases hj : j < 128
  · rw [List.getElem?_set, outs_at q i j hj]
    by_cases hji : i = j
    · subst hji
      rw [if_pos rfl, if_pos (by unfold outs; simpa using hi), if_neg (by omega), h]
    · rw [if_neg hji, outs_at q (i + 1) j hj]
      by_cases h2 : j < i
      · rw [if_pos h2, if_pos (by omega)]
      · rw [if_neg h2, if_neg (by omega)]
  · rw [List.getElem?_eq_none (by unfold outs; simp; omega), List.getElem?_eq_none (by unfold outs; simp; omega)]
theorem outs_none (q : Int) (i : Nat) (h : bit q i = 0) : outs q (i + 1) = outs q i := by
  apply List.ext_getElem?
  intro j
  by_cases hj : j < 128
  · rw [outs_at q (i + 1) j hj, outs_at q i j hj]
    by_cases hji : i = j
    · subst hji
      rw [if_pos (by omega), if_neg (by omega), h]
    · by_cases h2 : j < i
      · rw [if_pos (by omega), if_pos h2]
      · rw [if_neg (by omega), if_neg h2]
  · rw [List.getElem?_eq_none (by unfold outs; simp; omega), List.getElem?_eq_none (by unfold outs; simp; omega)]

theorem make128 (w : World) : (Instr.makeSlice 80 (.int .i64 128) (.int .i64 128)).run Tryd.prog w = .ok (.slice (some ⟨w.heap.size, 0, none⟩) 128 128) (w.alloc (.cells (madeCells #[.int .i64 0] 128) 3)) := by
  obtain ⟨i0, hi0, hz0, hz1, hz2⟩ := info_parts Tryd.infoInt
  have h := run_make (P := Tryd.prog) w 80 3 i0 (.int .i64 0) Tryd.underlying80 hi0 hz0 .i64 .i64 128 128 (by omega) (by omega) (by rw [hz2]; omega) (by omega)
  rw [hz1] at h
  exact h
theorem made_row (q : Int) (w : World) : (w.alloc (.cells (madeCells #[.int .i64 0] 128) 3)).ownsRow w.heap.size 3 1 (.slice (some ⟨w.heap.size, 0, none⟩) 128 128) 128 (outs q 128) := by
  have h := World.ownsRow_lit (base := w.heap.size) (e := 3) (size := 1) w (madeCells #[.int .i64 0] 128) 128 (Nat.le_refl _) (by unfold maxLen; omega) (size_madeCells _ _)
  rw [toList_madeCells_one, outs_start q] at h
  exact h

/-- What holds before bit number i - 1 is looked at. -/
structure DivAt (U y a : Int) (w : World) (g o i : Nat) (rest : Int) (wr : World) : Prop where
  arg : Holds wr w.heap.size a
  res : Holds wr (w.heap.size + 1) 0
  ys : Ints wr g 0 (bit U)
  row : wr.ownsRow o 3 1 (.slice (some ⟨o, 0, none⟩) 128 128) 128 (outs (U / y) i)
  old : Below w.heap.size w wr
  rest : rest = U / 2 ^ i % y

end Go.Proofs.YtodfcbpcgcgijaaDoor

/- What the document's answers on numbers with a point are, each for every number that its parameters can hold. -/
namespace Go.Proofs.YtodfcbpcgcgijaaDoor
set_option maxRecDepth 100000
open Go.RowKit
attribute [local go_sem] cell_re eqW_self
attribute [local go_sem ↓] run_eqlW run_neqW

end Go.Proofs.YtodfcbpcgcgijaaDoor

/- Roots, in the document's answers. -/
namespace Go.Proofs.YtodfcbpcgcgijaaDoor
set_option maxRecDepth 100000
open Go.RowKit
set_option linter.unusedVariables false
attribute [local go_sem] cell_re eqW_self
attribute [local go_sem ↓] run_eqlW run_neqW

/-- What holds of both ends, of what lies between, in round k. -/
def Halves (a : Int) (k : Nat) (l h : Int) : Prop := 0 ≤ l ∧ l ≤ h ∧ h ≤ 13043817825332782212 ∧ l * l ≤ a ∧ a < (h + 1) * (h + 1) ∧ (h - l) * 2 ^ k < 18446744073709551616
theorem Halves.start {a : Int} (h0 : 0 ≤ a) (h1 : a < 170141183460469231731687303715884105728) : Halves a 0 0 13043817825332782212 :=
  ⟨by decide, by decide, by decide, by omega, by omega, by decide⟩
theorem Halves.lt {a l h : Int} {k : Nat} (H : Halves a k l h) (hlh : l < h) : k < 64 := by
  obtain ⟨-, -, -, -, -, h6⟩ := H
  rcases Nat.lt_or_ge k 64 with c | c
  · exact c
  · obtain ⟨j, rfl⟩ : ∃ j, k = 64 + j := ⟨k - 64, by omega⟩
    rw [Int.pow_add, show (2 : Int) ^ 64 = 18446744073709551616 from rfl] at h6
    have p := pow_pos' j
    have h1 := Int.mul_le_mul_of_nonneg_right (show (1 : Int) ≤ h - l by omega) (show 0 ≤ 18446744073709551616 * (2 : Int) ^ j by omega)
    omega
theorem Halves.half {d e : Int} {k : Nat} (h0 : 0 ≤ e) (h : 2 * e ≤ d) (hd : d * 2 ^ k < 18446744073709551616) : e * 2 ^ (k + 1) < 18446744073709551616 := by
  rw [Int.pow_succ, Int.mul_comm ((2 : Int) ^ k), ← Int.mul_assoc, Int.mul_comm e]
  have := Int.mul_le_mul_of_nonneg_right h (Int.le_of_lt (pow_pos' k))
  omega
theorem Halves.down {a l h m : Int} {k : Nat} (H : Halves a k l h) (hlh : l < h) (hm : l + (h - l) / 2 + (h - l) % 2 = m) (hc : a < m * m) : Halves a (k + 1) l (m - 1) := by
  obtain ⟨h1, h2, h3, h4, h5, h6⟩ := H
  exact ⟨h1, by omega, by omega, h4, by rw [Int.sub_add_cancel]; exact hc, Halves.half (by omega) (by omega) h6⟩
theorem Halves.up {a l h m : Int} {k : Nat} (H : Halves a k l h) (hlh : l < h) (hm : l + (h - l) / 2 + (h - l) % 2 = m) (hc : ¬ a < m * m) : Halves a (k + 1) m h := by
  obtain ⟨h1, h2, h3, h4, h5, h6⟩ := H
  exact ⟨by omega, by omega, h3, by omega, h5, Halves.half (by omega) (by omega) h6⟩
theorem Halves.done {a l h : Int} {k : Nat} (H : Halves a k l h) (hlh : ¬ l < h) (h0 : 0 ≤ a) (h1 : a < 170141183460469231731687303715884105728) : l = root a := by
  obtain ⟨k1, k2, k3, k4, k5, k6⟩ := H
  obtain rfl : l = h := by omega
  exact IsRoot.unique ⟨k1, k4, k5⟩ (isRoot_root h0 (by omega))
theorem mid_fits {m : Int} (h0 : 0 ≤ m) (h1 : m ≤ 13043817825332782212) : Fits (m * m) := by
  have := sq_le h0 h1
  have := sq_le (Int.le_refl 0) h0
  unfold Fits
  omega

/-- The root of a wide number, in the document's answers, and whether there is one. -/
def root4Ok (a : Int) : Value := if a < 0 then .tuple #[.int .u64 0, .bool false] else .tuple #[.int .u64 (root a), .bool true]
/-- The root of a number with a point, in the document's answers. -/
def rootFix4 (a : Int) : Value := if a < 0 then .tuple #[.int .i64 0, .bool false] else .tuple #[.int .i64 (root (a * 4294967296)), .bool true]
end Go.Proofs.YtodfcbpcgcgijaaDoor
