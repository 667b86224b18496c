/- What Div of the document's answers gives: the quotient, rounding towards 0, and the rest. -/
import Derived.Test.YtmedemniopgpeaaRefI
import Derived.Test.YtmedemniopgpeaaWideD
namespace Go.Proofs.Ytmedemniopgpeaa
open Go.RowKit
attribute [local go_sem] cell_re eqW_self
attribute [local go_sem ↓] run_eqlW run_neqW

/-- One bit more of a quotient. -/
theorem div_bit (U y : Int) (hy : 1 ≤ y) (i : Nat) :
    bit (U / y) i = (2 * (U / 2 ^ (i + 1) % y) + bit U i) / y ∧ U / 2 ^ i % y = (2 * (U / 2 ^ (i + 1) % y) + bit U i) % y := by
  have e1 : U / 2 ^ i = 2 * (U / 2 ^ (i + 1)) + bit U i := by rw [div_succ]; unfold bit; omega
  have h1 := Int.mul_ediv_add_emod (U / 2 ^ (i + 1)) y
  have h2 := Int.emod_nonneg (U / 2 ^ (i + 1)) (show y ≠ 0 by omega)
  have h3 := Int.emod_lt_of_pos (U / 2 ^ (i + 1)) (show 0 < y by omega)
  have b0 := bit_lo U i
  have b1 := bit_hi U i
  have e2 : U / 2 ^ i = (2 * (U / 2 ^ (i + 1) % y) + bit U i) + y * (2 * (U / 2 ^ (i + 1) / y)) := by rw [Int.mul_left_comm]; omega
  have e3 : U / 2 ^ i / y = (2 * (U / 2 ^ (i + 1) % y) + bit U i) / y + 2 * (U / 2 ^ (i + 1) / y) := by rw [e2, Int.add_mul_ediv_left _ _ (by omega)]
  refine ⟨?_, by rw [e2, Int.add_mul_emod_self_left]⟩
  have e4 : bit (U / y) i = U / 2 ^ i / y % 2 := by
    unfold bit
    rw [Int.ediv_ediv_of_nonneg (by omega), Int.ediv_ediv_of_nonneg (Int.le_of_lt (pow_pos' i)), Int.mul_comm]
  rw [e4, e3]
  generalize U / 2 ^ (i + 1) % y = r at *
  have h5 : (2 * r + bit U i) / y < 2 := Int.ediv_lt_of_lt_mul (by omega) (by omega)
  have h6 : 0 ≤ (2 * r + bit U i) / y := Int.ediv_nonneg (by omega) (by omega)
  omega
/-- The quotient's bits from i on; below them nothing yet. -/
def outs (q : Int) (i : Nat) : List Value := (List.range 128).map fun j => Value.int .i64 (if j < i then 0 else bit q j)
theorem outs_at (q : Int) (i j : Nat) (h : j < 128) : (outs q i)[j]? = some (Value.int .i64 (if j < i then 0 else bit q j)) := by unfold outs; simp [h]
theorem outs_start (q : Int) : List.replicate 128 (Value.int .i64 0) = outs q 128 := by
  apply List.ext_getElem?
  intro j
  by_cases hj : j < 128
  · rw [outs_at q 128 j hj, if_pos hj, List.getElem?_replicate, if_pos hj]
  · rw [List.getElem?_eq_none (by simp; omega), List.getElem?_eq_none (by unfold outs; simp; omega)]
theorem outs_end (q : Int) : outs q 0 = bits_ q 128 := by unfold outs bits_; simp
theorem outs_one (q : Int) (i : Nat) (hi : i < 128) (h : bit q i = 1) : (outs q (i + 1)).set i (.int .i64 1) = outs q i := by
  apply List.ext_getElem?
  intro j
  by_cases hj : j < 128
  · rw [List.getElem?_set, outs_at q i j hj]
    by_cases hji : i = j
    · subst hji
      rw [if_pos rfl, if_pos (by unfold outs; simpa using hi), if_neg (by omega), h]
    · rw [if_neg hji, outs_at q (i + 1) j hj]
      by_cases h2 : j < i
      · rw [if_pos h2, if_pos (by omega)]
      · rw [if_neg h2, if_neg (by omega)]
  · rw [List.getElem?_eq_none (by unfold outs; simp; omega), List.getElem?_eq_none (by unfold outs; simp; omega)]
theorem outs_none (q : Int) (i : Nat) (h : bit q i = 0) : outs q (i + 1) = outs q i := by
  apply List.ext_getElem?
  intro j
  by_cases hj : j < 128
  · rw [outs_at q (i + 1) j hj, outs_at q i j hj]
    by_cases hji : i = j
    · subst hji
      rw [if_pos (by omega), if_neg (by omega), h]
    · by_cases h2 : j < i
      · rw [if_pos (by omega), if_pos h2]
      · rw [if_neg (by omega), if_neg h2]
  · rw [List.getElem?_eq_none (by unfold outs; simp; omega), List.getElem?_eq_none (by unfold outs; simp; omega)]

theorem make128 (w : World) : (Instr.makeSlice 58 (.int .i64 128) (.int .i64 128)).run Try.prog w = .ok (.slice (some ⟨w.heap.size, 0, none⟩) 128 128) (w.alloc (.cells (madeCells #[.int .i64 0] 128) 3)) := by
  obtain ⟨i0, hi0, hz0, hz1, hz2⟩ := info_parts Try.infoInt
  have h := run_make (P := Try.prog) w 58 3 i0 (.int .i64 0) Try.underlying58 hi0 hz0 .i64 .i64 128 128 (by omega) (by omega) (by rw [hz2]; omega) (by omega)
  rw [hz1] at h
  exact h
theorem made_row (q : Int) (w : World) : (w.alloc (.cells (madeCells #[.int .i64 0] 128) 3)).ownsRow w.heap.size 3 1 (.slice (some ⟨w.heap.size, 0, none⟩) 128 128) 128 (outs q 128) := by
  have h := World.ownsRow_lit (base := w.heap.size) (e := 3) (size := 1) w (madeCells #[.int .i64 0] 128) 128 (Nat.le_refl _) (by unfold maxLen; omega) (size_madeCells _ _)
  rw [toList_madeCells_one, outs_start q] at h
  exact h

/-- What holds before bit number i - 1 is looked at. -/
structure DivAt (U y a : Int) (w : World) (g o i : Nat) (rest : Int) (wr : World) : Prop where
  arg : Holds wr w.heap.size a
  res : Holds wr (w.heap.size + 1) 0
  ys : Ints wr g 0 (bit U)
  row : wr.ownsRow o 3 1 (.slice (some ⟨o, 0, none⟩) 128 128) 128 (outs (U / y) i)
  old : Below w.heap.size w wr
  rest : rest = U / 2 ^ i % y

set_option maxHeartbeats 400000 in
theorem refDiv_zero (a : Int) (w : World) : Calls Try.prog 63 #[W a, .int .i64 0] w fun e w' => e = .returned (.tuple #[.agg #[.int .i64 0, .int .u64 0], .int .i64 0, .bool false]) ∧ Below w.heap.size w w' := by
  go_enter Try.func63, Try.ntmps63
  go_wp2
  go_returns
  exact ⟨rfl, by go_grown⟩

set_option maxRecDepth 100000 in
set_option maxHeartbeats 2000000 in
theorem refDiv_pp (a b : Int) (ha : Fits a) (hb : Half b) (h0 : 0 ≤ a) (h1 : 0 < b) (w : World) :
    Calls Try.prog 63 #[W a, .int .i64 b] w fun e w' => e = .returned (.tuple #[W (a.tdiv b), .int .i64 (a.tmod b), .bool true]) ∧ Below w.heap.size w w' := by
  have hha := hi_lo a
  have hga := hi_hi a
  have hla := lo_lo a
  have hka := lo_hi a
  obtain ⟨hb0', hb1'⟩ := hb
  have hq := halves ha
  obtain ⟨ha0, ha1⟩ := ha
  have h2 : 0 ≤ hi a := by omega
  clear hq
  have y0 : 1 ≤ b := by omega
  have y1 : b ≤ 9223372036854775808 := by omega
  have y2 : IntKind.u64.wrap b = b := by rw [IntKind.wrap_u64]; omega
  have U0 : 0 ≤ a := h0
  have U1 : a ≤ 170141183460469231731687303715884105728 := by omega
  obtain ⟨z1, z2⟩ := zero_halves
  have hz : ((w.alloc (.cells #[.int .i64 (hi a), .int .u64 (lo a)] 39)).alloc (.cells #[.int .i64 0, .int .u64 0] 39)) = (w.alloc (.cells #[.int .i64 (hi a), .int .u64 (lo a)] 39)).alloc (.cells #[.int .i64 (hi 0), .int .u64 (lo 0)] 39) := by rw [z1, z2]
  have hA : Holds ((w.alloc (.cells #[.int .i64 (hi a), .int .u64 (lo a)] 39)).alloc (.cells #[.int .i64 0, .int .u64 0] 39)) w.heap.size a := (Holds.new w a 39).alloc _
  have hR : Holds ((w.alloc (.cells #[.int .i64 (hi a), .int .u64 (lo a)] 39)).alloc (.cells #[.int .i64 0, .int .u64 0] 39)) (w.heap.size + 1) 0 := by
    rw [hz]
    have := Holds.new (w.alloc (.cells #[.int .i64 (hi a), .int .u64 (lo a)] 39)) 0 39
    rw [World.size_alloc] at this
    exact this
  have hB : Below w.heap.size w ((w.alloc (.cells #[.int .i64 (hi a), .int .u64 (lo a)] 39)).alloc (.cells #[.int .i64 0, .int .u64 0] 39)) := by go_grown
  replace hA := hA.alloc (.cells #[.int .i64 (hi a), .int .u64 (lo a)] 39)
  replace hR := hR.alloc (.cells #[.int .i64 (hi a), .int .u64 (lo a)] 39)
  replace hB := hB.alloc (by simp; omega) (.cells #[.int .i64 (hi a), .int .u64 (lo a)] 39)
  have hX : Holds (((w.alloc (.cells #[.int .i64 (hi a), .int .u64 (lo a)] 39)).alloc (.cells #[.int .i64 0, .int .u64 0] 39)).alloc (.cells #[.int .i64 (hi a), .int .u64 (lo a)] 39)) (w.heap.size + 2) a := by
    have := Holds.new ((w.alloc (.cells #[.int .i64 (hi a), .int .u64 (lo a)] 39)).alloc (.cells #[.int .i64 0, .int .u64 0] 39)) a 39
    simp only [World.size_alloc] at this
    exact this
  have mk := make128
  clear hz z1 z2
  go_enter Try.func63, Try.ntmps63
  go_wp2_with fail
  clear hX
  refine (refDigits a _).mono ?_
  rintro e w4 ⟨g, cap, rfl, hown, hb4⟩
  replace hA := (hA.call hb4)
  replace hR := (hR.call hb4)
  replace hB := below_then hB hb4
  have hg := (hown.lt g rfl).2
  have hs4 : w.heap.size + 1 < w4.heap.size := hR.lt
  have hM0 : DivAt a b a w g w4.heap.size 128 0 (w4.alloc (.cells (madeCells #[.int .i64 0] 128) 3)) :=
    ⟨hA.alloc _, hR.alloc _, (Ints.of_row hown).alloc _, made_row _ _, hB.alloc hB.size _, by rw [Int.ediv_eq_zero_of_lt U0 (by rw [show (2 : Int) ^ 128 = 340282366920938463463374607431768211456 from rfl]; omega), Int.zero_emod]⟩
  clear hA hR hB hown hb4
  go_wp2
  go_loopw [11, 12] (fun v11 v12 wr => ∃ (i : Nat) (c r : Int), i ≤ 128 ∧ Hid (c = (i : Int) - 1) ∧ v12 = .int .i64 c ∧ v11 = .int .u64 r ∧ DivAt a b a w g w4.heap.size i r wr) (fun _ v12 _ => (intOf v12 + 1).toNat)
  case atStart => exact ⟨128, 127, 0, by omega, rfl, rfl, rfl, hM0⟩
  case round =>
    clear hM0 mk
    obtain ⟨i, c, r, hi8, hc, rfl, rfl, hM⟩ := hrel
    have hA := hM.arg
    have hR := hM.res
    have hY := hM.ys
    have hO := hM.row
    have hB := hM.old
    have hr := Lib.hid hM.rest
    clear hM
    have r0 : 0 ≤ r := by rw [hr.out]; exact Int.emod_nonneg _ (by omega)
    have r1 : r < b := by rw [hr.out]; exact Int.emod_lt_of_pos _ (by omega)
    rcases Nat.eq_zero_or_pos i with hi0 | hi0
    · subst hi0
      have hc1 : c = -1 := by have := hc.out; omega
      subst hc1
      rw [outs_end] at hO
      obtain ⟨q, hq⟩ : ∃ q, Hid (a / b = q) := ⟨_, rfl⟩
      have hrr : r = a % b := by have := hr.out; rw [show (2 : Int) ^ 0 = 1 from rfl, Int.ediv_one] at this; exact this
      have hrr' := Lib.hid hrr
      clear hrr
      rw [hq.out] at hO
      have hN := Ints.of_row hO
      have hx := hA
      obtain ⟨al, a0, a1, a2, a3⟩ := hx
      have hrm : r ≤ 9223372036854775807 := by omega
      clear hY hO
      go_wp2_with fail
      refine (number_ints q hN).mono ?_
      rintro e w6 ⟨rfl, hb6⟩
      have hA6 := hA.call hb6
      have hR6 := hR.call hb6
      have hB6 := below_then hB hb6
      have hQ := Holds.new w6 q 39
      have rQ : w.heap.size + 1 < w6.heap.size := hR6.lt
      have aQ : w.heap.size < w6.heap.size := hA6.lt
      have t1 : decide (hi a < 0) = false := decide_eq_false (by omega)
      have t2 : decide (b < 0) = false := decide_eq_false (by omega)
      clear hN hb6 al a0 a1 a2 a3 hA hR hB
      have hx := hA6
      obtain ⟨al, a0, a1, a2, a3⟩ := hx
      have hx := hR6
      obtain ⟨rl, s0, s1, s2, s3⟩ := hx
      go_wp2
      refine bodyPost_ret (by simp [results, Try.results63, go_sem, s0, s1, rQ]; try rfl) rfl ?_
      refine ⟨?_, (below_put hB6 (show w.heap.size ≤ w.heap.size + 1 by omega) q).alloc (by rw [put_size]; omega) _⟩
      obtain ⟨e1, e2⟩ := (tdiv_cases a b).1 h0 h1
      rw [e1, e2, hq.out, ← hrr'.out]
    · obtain ⟨j, rfl⟩ : ∃ j, i = j + 1 := ⟨i - 1, by omega⟩
      have hcj : c = (j : Int) := by have := hc.out; omega
      subst hcj
      have j7 : j < 128 := by omega
      have hcy := hY.at_ j j7
      rw [Nat.zero_add] at hcy
      obtain ⟨d, hd, d0, d1⟩ : ∃ d, Hid (bit a j = d) ∧ 0 ≤ d ∧ d ≤ 1 := ⟨_, rfl, bit_lo a j, bit_hi a j⟩
      rw [hd.out] at hcy
      have hdb : Hid (bit (a / b) j = (2 * r + d) / b ∧ a / 2 ^ j % b = (2 * r + d) % b) := by
        have := div_bit a b y0 j
        rw [← hr.out, hd.out] at this
        exact this
      have j0 : (0 : Int) ≤ (j : Int) := by omega
      have j1 : (j : Int) < 128 := by omega
      have r2 : ¬ (9223372036854775808 : Int) ≤ r := by omega
      by_cases hge : b ≤ 2 * r + d
      · have q1 : bit (a / b) j = 1 := by
          rw [hdb.out.1, show 2 * r + d = (2 * r + d - b) + b * 1 by omega, Int.add_mul_ediv_left _ _ (by omega), Int.ediv_eq_zero_of_lt (by omega) (by omega), Int.zero_add]
        have q2 : 2 * r + d - b = a / 2 ^ j % b := by
          rw [hdb.out.2, show 2 * r + d = (2 * r + d - b) + b * 1 by omega, Int.add_mul_emod_self_left, Int.emod_eq_of_lt (by omega) (by omega)]
          omega
        have hoc : wr.cell? ⟨w4.heap.size, j, none⟩ = some (.int .i64 0) := by rw [hO.cellAt j (by omega), outs_at _ _ _ j7, if_pos (by omega)]
        have hof : wr.frozen? ⟨w4.heap.size, j, none⟩ = false := hO.frozenAt j
        obtain ⟨hO', _⟩ := hO.stored j (.int .i64 1)
        rw [outs_one _ _ j7 q1] at hO'
        have hM' : DivAt a b a w g w4.heap.size j (2 * r + d - b) (wr.setCell ⟨w4.heap.size, j, none⟩ (.int .i64 1)) :=
          ⟨hA.below ((Below.refl w4.heap.size wr).setCell (p := ⟨w4.heap.size, j, none⟩) (Nat.le_refl _) _) (by omega), hR.below ((Below.refl w4.heap.size wr).setCell (p := ⟨w4.heap.size, j, none⟩) (Nat.le_refl _) _) hs4, hY.below ((Below.refl w4.heap.size wr).setCell (p := ⟨w4.heap.size, j, none⟩) (Nat.le_refl _) _) hg, hO', hB.setCell (p := ⟨w4.heap.size, j, none⟩) (by show w.heap.size ≤ w4.heap.size; omega) _, q2⟩
        clear q1 q2 hO hO' hA hR hY hB
        go_wp2
        go_roundw
        case rel => exact ⟨j, (j : Int) - 1, _, by omega, rfl, rfl, rfl, hM'⟩
        case measure => simp [intOf] <;> omega
      · have q1 : bit (a / b) j = 0 := by rw [hdb.out.1]; exact Int.ediv_eq_zero_of_lt (by omega) (by omega)
        have q2 : 2 * r + d = a / 2 ^ j % b := by rw [hdb.out.2, Int.emod_eq_of_lt (by omega) (by omega)]
        rw [outs_none _ _ q1] at hO
        have hM' : DivAt a b a w g w4.heap.size j (2 * r + d) wr := ⟨hA, hR, hY, hO, hB, q2⟩
        clear q1 q2 hO hA hR hY hB
        go_wp2
        go_roundw
        case rel => exact ⟨j, (j : Int) - 1, _, by omega, rfl, rfl, rfl, hM'⟩
        case measure => simp [intOf] <;> omega

set_option maxRecDepth 100000 in
set_option maxHeartbeats 2000000 in
theorem refDiv_pn (a b : Int) (ha : Fits a) (hb : Half b) (h0 : 0 ≤ a) (h1 : b < 0) (w : World) :
    Calls Try.prog 63 #[W a, .int .i64 b] w fun e w' => e = .returned (.tuple #[W (a.tdiv b), .int .i64 (a.tmod b), .bool true]) ∧ Below w.heap.size w w' := by
  have hha := hi_lo a
  have hga := hi_hi a
  have hla := lo_lo a
  have hka := lo_hi a
  obtain ⟨hb0', hb1'⟩ := hb
  have hq := halves ha
  obtain ⟨ha0, ha1⟩ := ha
  have h2 : 0 ≤ hi a := by omega
  clear hq
  obtain ⟨y, hy, y0, y1⟩ : ∃ y, Hid (-b = y) ∧ 1 ≤ y ∧ y ≤ 9223372036854775808 := ⟨_, rfl, by omega, by omega⟩
  have y2 : IntKind.u64.wrap (-(b + 1)) = y - 1 := by rw [IntKind.wrap_u64, ← hy.out]; omega
  have y3 : IntKind.u64.wrap (wrap64 (-(b + 1))) = y - 1 := by rw [IntKind.wrap_u64, ← hy.out]; unfold wrap64; omega
  have y4 : y - 1 + 1 = y := by omega
  have U0 : 0 ≤ a := h0
  have U1 : a ≤ 170141183460469231731687303715884105728 := by omega
  obtain ⟨z1, z2⟩ := zero_halves
  have hz : ((w.alloc (.cells #[.int .i64 (hi a), .int .u64 (lo a)] 39)).alloc (.cells #[.int .i64 0, .int .u64 0] 39)) = (w.alloc (.cells #[.int .i64 (hi a), .int .u64 (lo a)] 39)).alloc (.cells #[.int .i64 (hi 0), .int .u64 (lo 0)] 39) := by rw [z1, z2]
  have hA : Holds ((w.alloc (.cells #[.int .i64 (hi a), .int .u64 (lo a)] 39)).alloc (.cells #[.int .i64 0, .int .u64 0] 39)) w.heap.size a := (Holds.new w a 39).alloc _
  have hR : Holds ((w.alloc (.cells #[.int .i64 (hi a), .int .u64 (lo a)] 39)).alloc (.cells #[.int .i64 0, .int .u64 0] 39)) (w.heap.size + 1) 0 := by
    rw [hz]
    have := Holds.new (w.alloc (.cells #[.int .i64 (hi a), .int .u64 (lo a)] 39)) 0 39
    rw [World.size_alloc] at this
    exact this
  have hB : Below w.heap.size w ((w.alloc (.cells #[.int .i64 (hi a), .int .u64 (lo a)] 39)).alloc (.cells #[.int .i64 0, .int .u64 0] 39)) := by go_grown
  replace hA := hA.alloc (.cells #[.int .i64 (hi a), .int .u64 (lo a)] 39)
  replace hR := hR.alloc (.cells #[.int .i64 (hi a), .int .u64 (lo a)] 39)
  replace hB := hB.alloc (by simp; omega) (.cells #[.int .i64 (hi a), .int .u64 (lo a)] 39)
  have hX : Holds (((w.alloc (.cells #[.int .i64 (hi a), .int .u64 (lo a)] 39)).alloc (.cells #[.int .i64 0, .int .u64 0] 39)).alloc (.cells #[.int .i64 (hi a), .int .u64 (lo a)] 39)) (w.heap.size + 2) a := by
    have := Holds.new ((w.alloc (.cells #[.int .i64 (hi a), .int .u64 (lo a)] 39)).alloc (.cells #[.int .i64 0, .int .u64 0] 39)) a 39
    simp only [World.size_alloc] at this
    exact this
  have mk := make128
  clear hz z1 z2
  go_enter Try.func63, Try.ntmps63
  go_wp2_with fail
  clear hX
  refine (refDigits a _).mono ?_
  rintro e w4 ⟨g, cap, rfl, hown, hb4⟩
  replace hA := (hA.call hb4)
  replace hR := (hR.call hb4)
  replace hB := below_then hB hb4
  have hg := (hown.lt g rfl).2
  have hs4 : w.heap.size + 1 < w4.heap.size := hR.lt
  have hM0 : DivAt a y a w g w4.heap.size 128 0 (w4.alloc (.cells (madeCells #[.int .i64 0] 128) 3)) :=
    ⟨hA.alloc _, hR.alloc _, (Ints.of_row hown).alloc _, made_row _ _, hB.alloc hB.size _, by rw [Int.ediv_eq_zero_of_lt U0 (by rw [show (2 : Int) ^ 128 = 340282366920938463463374607431768211456 from rfl]; omega), Int.zero_emod]⟩
  clear hA hR hB hown hb4
  go_wp2
  go_loopw [11, 12] (fun v11 v12 wr => ∃ (i : Nat) (c r : Int), i ≤ 128 ∧ Hid (c = (i : Int) - 1) ∧ v12 = .int .i64 c ∧ v11 = .int .u64 r ∧ DivAt a y a w g w4.heap.size i r wr) (fun _ v12 _ => (intOf v12 + 1).toNat)
  case atStart => exact ⟨128, 127, 0, by omega, rfl, rfl, rfl, hM0⟩
  case round =>
    clear hM0 mk
    obtain ⟨i, c, r, hi8, hc, rfl, rfl, hM⟩ := hrel
    have hA := hM.arg
    have hR := hM.res
    have hY := hM.ys
    have hO := hM.row
    have hB := hM.old
    have hr := Lib.hid hM.rest
    clear hM
    have r0 : 0 ≤ r := by rw [hr.out]; exact Int.emod_nonneg _ (by omega)
    have r1 : r < y := by rw [hr.out]; exact Int.emod_lt_of_pos _ (by omega)
    rcases Nat.eq_zero_or_pos i with hi0 | hi0
    · subst hi0
      have hc1 : c = -1 := by have := hc.out; omega
      subst hc1
      rw [outs_end] at hO
      obtain ⟨q, hq⟩ : ∃ q, Hid (a / y = q) := ⟨_, rfl⟩
      have hrr : r = a % y := by have := hr.out; rw [show (2 : Int) ^ 0 = 1 from rfl, Int.ediv_one] at this; exact this
      have hrr' := Lib.hid hrr
      clear hrr
      rw [hq.out] at hO
      have hN := Ints.of_row hO
      have hx := hA
      obtain ⟨al, a0, a1, a2, a3⟩ := hx
      have hrm : r ≤ 9223372036854775807 := by omega
      clear hY hO
      go_wp2_with fail
      refine (number_ints q hN).mono ?_
      rintro e w6 ⟨rfl, hb6⟩
      have hA6 := hA.call hb6
      have hR6 := hR.call hb6
      have hB6 := below_then hB hb6
      have hQ := Holds.new w6 q 39
      have rQ : w.heap.size + 1 < w6.heap.size := hR6.lt
      have aQ : w.heap.size < w6.heap.size := hA6.lt
      have t1 : decide (hi a < 0) = false := decide_eq_false (by omega)
      have t2 : decide (b < 0) = true := decide_eq_true (by omega)
      clear hN hb6 al a0 a1 a2 a3 hA hR hB
      have hx := hA6
      obtain ⟨al, a0, a1, a2, a3⟩ := hx
      go_wp2_with fail
      refine (refNeg q _).mono ?_
      rintro e w7 ⟨rfl, hb7⟩
      have hA7 := (hA6.alloc (.cells #[.int .i64 (hi q), .int .u64 (lo q)] 39)).call hb7
      have hR7 := (hR6.alloc (.cells #[.int .i64 (hi q), .int .u64 (lo q)] 39)).call hb7
      have hQ7 := hQ.call hb7
      have hB7 := below_then (hB6.alloc hB6.size (.cells #[.int .i64 (hi q), .int .u64 (lo q)] 39)) hb7
      have rQ7 : w.heap.size + 1 < w7.heap.size := hR7.lt
      have n1 : w.heap.size ≠ w6.heap.size := by omega
      have n2 : w.heap.size + 1 ≠ w6.heap.size := by omega
      have hA8 := hA7.other n1 (-q)
      have hR8 := hR7.other n2 (-q)
      have hQ8 := hQ7.same (-q)
      have hB8 := below_put hB7 (show w.heap.size ≤ w6.heap.size by omega) (-q)
      clear al a0 a1 a2 a3 hb7 hQ
      obtain ⟨al, a0, a1, a2, a3⟩ := hA8
      obtain ⟨rl, s0, s1, s2, s3⟩ := hR8
      obtain ⟨ql, q0, q1, q2, q3⟩ := hQ7
      obtain ⟨ql', q0', q1', q2', q3'⟩ := hQ8
      go_wp2
      refine bodyPost_ret (by simp [results, Try.results63, go_sem, s0, s1]; try rfl) rfl ?_
      refine ⟨?_, below_put hB8 (show w.heap.size ≤ w.heap.size + 1 by omega) _⟩
      obtain ⟨e1, e2⟩ := (tdiv_cases a b).2.1 h0 h1
      rw [e1, e2, hy.out, hq.out, ← hrr'.out]
    · obtain ⟨j, rfl⟩ : ∃ j, i = j + 1 := ⟨i - 1, by omega⟩
      have hcj : c = (j : Int) := by have := hc.out; omega
      subst hcj
      have j7 : j < 128 := by omega
      have hcy := hY.at_ j j7
      rw [Nat.zero_add] at hcy
      obtain ⟨d, hd, d0, d1⟩ : ∃ d, Hid (bit a j = d) ∧ 0 ≤ d ∧ d ≤ 1 := ⟨_, rfl, bit_lo a j, bit_hi a j⟩
      rw [hd.out] at hcy
      have hdb : Hid (bit (a / y) j = (2 * r + d) / y ∧ a / 2 ^ j % y = (2 * r + d) % y) := by
        have := div_bit a y y0 j
        rw [← hr.out, hd.out] at this
        exact this
      have j0 : (0 : Int) ≤ (j : Int) := by omega
      have j1 : (j : Int) < 128 := by omega
      have r2 : ¬ (9223372036854775808 : Int) ≤ r := by omega
      by_cases hge : y ≤ 2 * r + d
      · have q1 : bit (a / y) j = 1 := by
          rw [hdb.out.1, show 2 * r + d = (2 * r + d - y) + y * 1 by omega, Int.add_mul_ediv_left _ _ (by omega), Int.ediv_eq_zero_of_lt (by omega) (by omega), Int.zero_add]
        have q2 : 2 * r + d - y = a / 2 ^ j % y := by
          rw [hdb.out.2, show 2 * r + d = (2 * r + d - y) + y * 1 by omega, Int.add_mul_emod_self_left, Int.emod_eq_of_lt (by omega) (by omega)]
          omega
        have hoc : wr.cell? ⟨w4.heap.size, j, none⟩ = some (.int .i64 0) := by rw [hO.cellAt j (by omega), outs_at _ _ _ j7, if_pos (by omega)]
        have hof : wr.frozen? ⟨w4.heap.size, j, none⟩ = false := hO.frozenAt j
        obtain ⟨hO', _⟩ := hO.stored j (.int .i64 1)
        rw [outs_one _ _ j7 q1] at hO'
        have hM' : DivAt a y a w g w4.heap.size j (2 * r + d - y) (wr.setCell ⟨w4.heap.size, j, none⟩ (.int .i64 1)) :=
          ⟨hA.below ((Below.refl w4.heap.size wr).setCell (p := ⟨w4.heap.size, j, none⟩) (Nat.le_refl _) _) (by omega), hR.below ((Below.refl w4.heap.size wr).setCell (p := ⟨w4.heap.size, j, none⟩) (Nat.le_refl _) _) hs4, hY.below ((Below.refl w4.heap.size wr).setCell (p := ⟨w4.heap.size, j, none⟩) (Nat.le_refl _) _) hg, hO', hB.setCell (p := ⟨w4.heap.size, j, none⟩) (by show w.heap.size ≤ w4.heap.size; omega) _, q2⟩
        clear q1 q2 hO hO' hA hR hY hB
        go_wp2
        go_roundw
        case rel => exact ⟨j, (j : Int) - 1, _, by omega, rfl, rfl, rfl, hM'⟩
        case measure => simp [intOf] <;> omega
      · have q1 : bit (a / y) j = 0 := by rw [hdb.out.1]; exact Int.ediv_eq_zero_of_lt (by omega) (by omega)
        have q2 : 2 * r + d = a / 2 ^ j % y := by rw [hdb.out.2, Int.emod_eq_of_lt (by omega) (by omega)]
        rw [outs_none _ _ q1] at hO
        have hM' : DivAt a y a w g w4.heap.size j (2 * r + d) wr := ⟨hA, hR, hY, hO, hB, q2⟩
        clear q1 q2 hO hA hR hY hB
        go_wp2
        go_roundw
        case rel => exact ⟨j, (j : Int) - 1, _, by omega, rfl, rfl, rfl, hM'⟩
        case measure => simp [intOf] <;> omega

set_option maxRecDepth 100000 in
set_option maxHeartbeats 2000000 in
theorem refDiv_np (a b : Int) (ha : Fits a) (hb : Half b) (h0 : a < 0) (h1 : 0 < b) (w : World) :
    Calls Try.prog 63 #[W a, .int .i64 b] w fun e w' => e = .returned (.tuple #[W (a.tdiv b), .int .i64 (a.tmod b), .bool true]) ∧ Below w.heap.size w w' := by
  have hha := hi_lo a
  have hga := hi_hi a
  have hla := lo_lo a
  have hka := lo_hi a
  obtain ⟨hb0', hb1'⟩ := hb
  have hq := halves ha
  obtain ⟨ha0, ha1⟩ := ha
  have h2 : hi a < 0 := by omega
  clear hq
  have y0 : 1 ≤ b := by omega
  have y1 : b ≤ 9223372036854775808 := by omega
  have y2 : IntKind.u64.wrap b = b := by rw [IntKind.wrap_u64]; omega
  obtain ⟨U, hU, U0, U1⟩ : ∃ U, Hid (-a = U) ∧ 0 ≤ U ∧ U ≤ 170141183460469231731687303715884105728 := ⟨_, rfl, by omega, by omega⟩
  obtain ⟨z1, z2⟩ := zero_halves
  have hz : ((w.alloc (.cells #[.int .i64 (hi a), .int .u64 (lo a)] 39)).alloc (.cells #[.int .i64 0, .int .u64 0] 39)) = (w.alloc (.cells #[.int .i64 (hi a), .int .u64 (lo a)] 39)).alloc (.cells #[.int .i64 (hi 0), .int .u64 (lo 0)] 39) := by rw [z1, z2]
  have hA : Holds ((w.alloc (.cells #[.int .i64 (hi a), .int .u64 (lo a)] 39)).alloc (.cells #[.int .i64 0, .int .u64 0] 39)) w.heap.size a := (Holds.new w a 39).alloc _
  have hR : Holds ((w.alloc (.cells #[.int .i64 (hi a), .int .u64 (lo a)] 39)).alloc (.cells #[.int .i64 0, .int .u64 0] 39)) (w.heap.size + 1) 0 := by
    rw [hz]
    have := Holds.new (w.alloc (.cells #[.int .i64 (hi a), .int .u64 (lo a)] 39)) 0 39
    rw [World.size_alloc] at this
    exact this
  have hB : Below w.heap.size w ((w.alloc (.cells #[.int .i64 (hi a), .int .u64 (lo a)] 39)).alloc (.cells #[.int .i64 0, .int .u64 0] 39)) := by go_grown
  replace hA := hA.alloc (.cells #[.int .i64 (hi a), .int .u64 (lo a)] 39)
  replace hR := hR.alloc (.cells #[.int .i64 (hi a), .int .u64 (lo a)] 39)
  replace hB := hB.alloc (by simp; omega) (.cells #[.int .i64 (hi a), .int .u64 (lo a)] 39)
  have hX : Holds (((w.alloc (.cells #[.int .i64 (hi a), .int .u64 (lo a)] 39)).alloc (.cells #[.int .i64 0, .int .u64 0] 39)).alloc (.cells #[.int .i64 (hi a), .int .u64 (lo a)] 39)) (w.heap.size + 2) a := by
    have := Holds.new ((w.alloc (.cells #[.int .i64 (hi a), .int .u64 (lo a)] 39)).alloc (.cells #[.int .i64 0, .int .u64 0] 39)) a 39
    simp only [World.size_alloc] at this
    exact this
  have mk := make128
  clear hz z1 z2
  go_enter Try.func63, Try.ntmps63
  go_wp2_with fail
  refine (refNeg a _).mono ?_
  rintro e w1 ⟨rfl, hb1⟩
  rw [hU.out]
  have aX : w.heap.size ≠ w.heap.size + 2 := by omega
  have rX : w.heap.size + 1 ≠ w.heap.size + 2 := by omega
  have hX1 := hX.call hb1
  have hX2 := hX1.same U
  replace hA := (hA.call hb1).other aX U
  replace hR := (hR.call hb1).other rX U
  replace hB := below_put (below_then hB hb1) (show w.heap.size ≤ w.heap.size + 2 by omega) U
  obtain ⟨xl, x0, x1, x2, x3⟩ := hX1
  obtain ⟨xl', x0', x1', x2', x3'⟩ := hX2
  clear hX hb1
  go_wp2_with fail
  refine (refDigits U _).mono ?_
  rintro e w4 ⟨g, cap, rfl, hown, hb4⟩
  replace hA := (hA.call hb4)
  replace hR := (hR.call hb4)
  replace hB := below_then hB hb4
  have hg := (hown.lt g rfl).2
  have hs4 : w.heap.size + 1 < w4.heap.size := hR.lt
  have hM0 : DivAt U b a w g w4.heap.size 128 0 (w4.alloc (.cells (madeCells #[.int .i64 0] 128) 3)) :=
    ⟨hA.alloc _, hR.alloc _, (Ints.of_row hown).alloc _, made_row _ _, hB.alloc hB.size _, by rw [Int.ediv_eq_zero_of_lt U0 (by rw [show (2 : Int) ^ 128 = 340282366920938463463374607431768211456 from rfl]; omega), Int.zero_emod]⟩
  clear hA hR hB hown hb4
  go_wp2
  go_loopw [11, 12] (fun v11 v12 wr => ∃ (i : Nat) (c r : Int), i ≤ 128 ∧ Hid (c = (i : Int) - 1) ∧ v12 = .int .i64 c ∧ v11 = .int .u64 r ∧ DivAt U b a w g w4.heap.size i r wr) (fun _ v12 _ => (intOf v12 + 1).toNat)
  case atStart => exact ⟨128, 127, 0, by omega, rfl, rfl, rfl, hM0⟩
  case round =>
    clear hM0 mk
    obtain ⟨i, c, r, hi8, hc, rfl, rfl, hM⟩ := hrel
    have hA := hM.arg
    have hR := hM.res
    have hY := hM.ys
    have hO := hM.row
    have hB := hM.old
    have hr := Lib.hid hM.rest
    clear hM
    have r0 : 0 ≤ r := by rw [hr.out]; exact Int.emod_nonneg _ (by omega)
    have r1 : r < b := by rw [hr.out]; exact Int.emod_lt_of_pos _ (by omega)
    rcases Nat.eq_zero_or_pos i with hi0 | hi0
    · subst hi0
      have hc1 : c = -1 := by have := hc.out; omega
      subst hc1
      rw [outs_end] at hO
      obtain ⟨q, hq⟩ : ∃ q, Hid (U / b = q) := ⟨_, rfl⟩
      have hrr : r = U % b := by have := hr.out; rw [show (2 : Int) ^ 0 = 1 from rfl, Int.ediv_one] at this; exact this
      have hrr' := Lib.hid hrr
      clear hrr
      rw [hq.out] at hO
      have hN := Ints.of_row hO
      have hx := hA
      obtain ⟨al, a0, a1, a2, a3⟩ := hx
      have hrm : r ≤ 9223372036854775807 := by omega
      clear hY hO
      go_wp2_with fail
      refine (number_ints q hN).mono ?_
      rintro e w6 ⟨rfl, hb6⟩
      have hA6 := hA.call hb6
      have hR6 := hR.call hb6
      have hB6 := below_then hB hb6
      have hQ := Holds.new w6 q 39
      have rQ : w.heap.size + 1 < w6.heap.size := hR6.lt
      have aQ : w.heap.size < w6.heap.size := hA6.lt
      have t1 : decide (hi a < 0) = true := decide_eq_true (by omega)
      have t2 : decide (b < 0) = false := decide_eq_false (by omega)
      clear hN hb6 al a0 a1 a2 a3 hA hR hB
      have hx := hA6
      obtain ⟨al, a0, a1, a2, a3⟩ := hx
      go_wp2_with fail
      refine (refNeg q _).mono ?_
      rintro e w7 ⟨rfl, hb7⟩
      have hA7 := (hA6.alloc (.cells #[.int .i64 (hi q), .int .u64 (lo q)] 39)).call hb7
      have hR7 := (hR6.alloc (.cells #[.int .i64 (hi q), .int .u64 (lo q)] 39)).call hb7
      have hQ7 := hQ.call hb7
      have hB7 := below_then (hB6.alloc hB6.size (.cells #[.int .i64 (hi q), .int .u64 (lo q)] 39)) hb7
      have rQ7 : w.heap.size + 1 < w7.heap.size := hR7.lt
      have n1 : w.heap.size ≠ w6.heap.size := by omega
      have n2 : w.heap.size + 1 ≠ w6.heap.size := by omega
      have hA8 := hA7.other n1 (-q)
      have hR8 := hR7.other n2 (-q)
      have hQ8 := hQ7.same (-q)
      have hB8 := below_put hB7 (show w.heap.size ≤ w6.heap.size by omega) (-q)
      clear al a0 a1 a2 a3 hb7 hQ
      obtain ⟨al, a0, a1, a2, a3⟩ := hA8
      obtain ⟨rl, s0, s1, s2, s3⟩ := hR8
      obtain ⟨ql, q0, q1, q2, q3⟩ := hQ7
      obtain ⟨ql', q0', q1', q2', q3'⟩ := hQ8
      go_wp2
      refine bodyPost_ret (by simp [results, Try.results63, go_sem, s0, s1]; try rfl) rfl ?_
      refine ⟨?_, below_put hB8 (show w.heap.size ≤ w.heap.size + 1 by omega) _⟩
      obtain ⟨e1, e2⟩ := (tdiv_cases a b).2.2.1 h0 h1
      rw [e1, e2, hU.out, hq.out, ← hrr'.out]
    · obtain ⟨j, rfl⟩ : ∃ j, i = j + 1 := ⟨i - 1, by omega⟩
      have hcj : c = (j : Int) := by have := hc.out; omega
      subst hcj
      have j7 : j < 128 := by omega
      have hcy := hY.at_ j j7
      rw [Nat.zero_add] at hcy
      obtain ⟨d, hd, d0, d1⟩ : ∃ d, Hid (bit U j = d) ∧ 0 ≤ d ∧ d ≤ 1 := ⟨_, rfl, bit_lo U j, bit_hi U j⟩
      rw [hd.out] at hcy
      have hdb : Hid (bit (U / b) j = (2 * r + d) / b ∧ U / 2 ^ j % b = (2 * r + d) % b) := by
        have := div_bit U b y0 j
        rw [← hr.out, hd.out] at this
        exact this
      have j0 : (0 : Int) ≤ (j : Int) := by omega
      have j1 : (j : Int) < 128 := by omega
      have r2 : ¬ (9223372036854775808 : Int) ≤ r := by omega
      by_cases hge : b ≤ 2 * r + d
      · have q1 : bit (U / b) j = 1 := by
          rw [hdb.out.1, show 2 * r + d = (2 * r + d - b) + b * 1 by omega, Int.add_mul_ediv_left _ _ (by omega), Int.ediv_eq_zero_of_lt (by omega) (by omega), Int.zero_add]
        have q2 : 2 * r + d - b = U / 2 ^ j % b := by
          rw [hdb.out.2, show 2 * r + d = (2 * r + d - b) + b * 1 by omega, Int.add_mul_emod_self_left, Int.emod_eq_of_lt (by omega) (by omega)]
          omega
        have hoc : wr.cell? ⟨w4.heap.size, j, none⟩ = some (.int .i64 0) := by rw [hO.cellAt j (by omega), outs_at _ _ _ j7, if_pos (by omega)]
        have hof : wr.frozen? ⟨w4.heap.size, j, none⟩ = false := hO.frozenAt j
        obtain ⟨hO', _⟩ := hO.stored j (.int .i64 1)
        rw [outs_one _ _ j7 q1] at hO'
        have hM' : DivAt U b a w g w4.heap.size j (2 * r + d - b) (wr.setCell ⟨w4.heap.size, j, none⟩ (.int .i64 1)) :=
          ⟨hA.below ((Below.refl w4.heap.size wr).setCell (p := ⟨w4.heap.size, j, none⟩) (Nat.le_refl _) _) (by omega), hR.below ((Below.refl w4.heap.size wr).setCell (p := ⟨w4.heap.size, j, none⟩) (Nat.le_refl _) _) hs4, hY.below ((Below.refl w4.heap.size wr).setCell (p := ⟨w4.heap.size, j, none⟩) (Nat.le_refl _) _) hg, hO', hB.setCell (p := ⟨w4.heap.size, j, none⟩) (by show w.heap.size ≤ w4.heap.size; omega) _, q2⟩
        clear q1 q2 hO hO' hA hR hY hB
        go_wp2
        go_roundw
        case rel => exact ⟨j, (j : Int) - 1, _, by omega, rfl, rfl, rfl, hM'⟩
        case measure => simp [intOf] <;> omega
      · have q1 : bit (U / b) j = 0 := by rw [hdb.out.1]; exact Int.ediv_eq_zero_of_lt (by omega) (by omega)
        have q2 : 2 * r + d = U / 2 ^ j % b := by rw [hdb.out.2, Int.emod_eq_of_lt (by omega) (by omega)]
        rw [outs_none _ _ q1] at hO
        have hM' : DivAt U b a w g w4.heap.size j (2 * r + d) wr := ⟨hA, hR, hY, hO, hB, q2⟩
        clear q1 q2 hO hA hR hY hB
        go_wp2
        go_roundw
        case rel => exact ⟨j, (j : Int) - 1, _, by omega, rfl, rfl, rfl, hM'⟩
        case measure => simp [intOf] <;> omega

set_option maxRecDepth 100000 in
set_option maxHeartbeats 2000000 in
theorem refDiv_nn (a b : Int) (ha : Fits a) (hb : Half b) (h0 : a < 0) (h1 : b < 0) (w : World) :
    Calls Try.prog 63 #[W a, .int .i64 b] w fun e w' => e = .returned (.tuple #[W (a.tdiv b), .int .i64 (a.tmod b), .bool true]) ∧ Below w.heap.size w w' := by
  have hha := hi_lo a
  have hga := hi_hi a
  have hla := lo_lo a
  have hka := lo_hi a
  obtain ⟨hb0', hb1'⟩ := hb
  have hq := halves ha
  obtain ⟨ha0, ha1⟩ := ha
  have h2 : hi a < 0 := by omega
  clear hq
  obtain ⟨y, hy, y0, y1⟩ : ∃ y, Hid (-b = y) ∧ 1 ≤ y ∧ y ≤ 9223372036854775808 := ⟨_, rfl, by omega, by omega⟩
  have y2 : IntKind.u64.wrap (-(b + 1)) = y - 1 := by rw [IntKind.wrap_u64, ← hy.out]; omega
  have y3 : IntKind.u64.wrap (wrap64 (-(b + 1))) = y - 1 := by rw [IntKind.wrap_u64, ← hy.out]; unfold wrap64; omega
  have y4 : y - 1 + 1 = y := by omega
  obtain ⟨U, hU, U0, U1⟩ : ∃ U, Hid (-a = U) ∧ 0 ≤ U ∧ U ≤ 170141183460469231731687303715884105728 := ⟨_, rfl, by omega, by omega⟩
  obtain ⟨z1, z2⟩ := zero_halves
  have hz : ((w.alloc (.cells #[.int .i64 (hi a), .int .u64 (lo a)] 39)).alloc (.cells #[.int .i64 0, .int .u64 0] 39)) = (w.alloc (.cells #[.int .i64 (hi a), .int .u64 (lo a)] 39)).alloc (.cells #[.int .i64 (hi 0), .int .u64 (lo 0)] 39) := by rw [z1, z2]
  have hA : Holds ((w.alloc (.cells #[.int .i64 (hi a), .int .u64 (lo a)] 39)).alloc (.cells #[.int .i64 0, .int .u64 0] 39)) w.heap.size a := (Holds.new w a 39).alloc _
  have hR : Holds ((w.alloc (.cells #[.int .i64 (hi a), .int .u64 (lo a)] 39)).alloc (.cells #[.int .i64 0, .int .u64 0] 39)) (w.heap.size + 1) 0 := by
    rw [hz]
    have := Holds.new (w.alloc (.cells #[.int .i64 (hi a), .int .u64 (lo a)] 39)) 0 39
    rw [World.size_alloc] at this
    exact this
  have hB : Below w.heap.size w ((w.alloc (.cells #[.int .i64 (hi a), .int .u64 (lo a)] 39)).alloc (.cells #[.int .i64 0, .int .u64 0] 39)) := by go_grown
  replace hA := hA.alloc (.cells #[.int .i64 (hi a), .int .u64 (lo a)] 39)
  replace hR := hR.alloc (.cells #[.int .i64 (hi a), .int .u64 (lo a)] 39)
  replace hB := hB.alloc (by simp; omega) (.cells #[.int .i64 (hi a), .int .u64 (lo a)] 39)
  have hX : Holds (((w.alloc (.cells #[.int .i64 (hi a), .int .u64 (lo a)] 39)).alloc (.cells #[.int .i64 0, .int .u64 0] 39)).alloc (.cells #[.int .i64 (hi a), .int .u64 (lo a)] 39)) (w.heap.size + 2) a := by
    have := Holds.new ((w.alloc (.cells #[.int .i64 (hi a), .int .u64 (lo a)] 39)).alloc (.cells #[.int .i64 0, .int .u64 0] 39)) a 39
    simp only [World.size_alloc] at this
    exact this
  have mk := make128
  clear hz z1 z2
  go_enter Try.func63, Try.ntmps63
  go_wp2_with fail
  refine (refNeg a _).mono ?_
  rintro e w1 ⟨rfl, hb1⟩
  rw [hU.out]
  have aX : w.heap.size ≠ w.heap.size + 2 := by omega
  have rX : w.heap.size + 1 ≠ w.heap.size + 2 := by omega
  have hX1 := hX.call hb1
  have hX2 := hX1.same U
  replace hA := (hA.call hb1).other aX U
  replace hR := (hR.call hb1).other rX U
  replace hB := below_put (below_then hB hb1) (show w.heap.size ≤ w.heap.size + 2 by omega) U
  obtain ⟨xl, x0, x1, x2, x3⟩ := hX1
  obtain ⟨xl', x0', x1', x2', x3'⟩ := hX2
  clear hX hb1
  go_wp2_with fail
  refine (refDigits U _).mono ?_
  rintro e w4 ⟨g, cap, rfl, hown, hb4⟩
  replace hA := (hA.call hb4)
  replace hR := (hR.call hb4)
  replace hB := below_then hB hb4
  have hg := (hown.lt g rfl).2
  have hs4 : w.heap.size + 1 < w4.heap.size := hR.lt
  have hM0 : DivAt U y a w g w4.heap.size 128 0 (w4.alloc (.cells (madeCells #[.int .i64 0] 128) 3)) :=
    ⟨hA.alloc _, hR.alloc _, (Ints.of_row hown).alloc _, made_row _ _, hB.alloc hB.size _, by rw [Int.ediv_eq_zero_of_lt U0 (by rw [show (2 : Int) ^ 128 = 340282366920938463463374607431768211456 from rfl]; omega), Int.zero_emod]⟩
  clear hA hR hB hown hb4
  go_wp2
  go_loopw [11, 12] (fun v11 v12 wr => ∃ (i : Nat) (c r : Int), i ≤ 128 ∧ Hid (c = (i : Int) - 1) ∧ v12 = .int .i64 c ∧ v11 = .int .u64 r ∧ DivAt U y a w g w4.heap.size i r wr) (fun _ v12 _ => (intOf v12 + 1).toNat)
  case atStart => exact ⟨128, 127, 0, by omega, rfl, rfl, rfl, hM0⟩
  case round =>
    clear hM0 mk
    obtain ⟨i, c, r, hi8, hc, rfl, rfl, hM⟩ := hrel
    have hA := hM.arg
    have hR := hM.res
    have hY := hM.ys
    have hO := hM.row
    have hB := hM.old
    have hr := Lib.hid hM.rest
    clear hM
    have r0 : 0 ≤ r := by rw [hr.out]; exact Int.emod_nonneg _ (by omega)
    have r1 : r < y := by rw [hr.out]; exact Int.emod_lt_of_pos _ (by omega)
    rcases Nat.eq_zero_or_pos i with hi0 | hi0
    · subst hi0
      have hc1 : c = -1 := by have := hc.out; omega
      subst hc1
      rw [outs_end] at hO
      obtain ⟨q, hq⟩ : ∃ q, Hid (U / y = q) := ⟨_, rfl⟩
      have hrr : r = U % y := by have := hr.out; rw [show (2 : Int) ^ 0 = 1 from rfl, Int.ediv_one] at this; exact this
      have hrr' := Lib.hid hrr
      clear hrr
      rw [hq.out] at hO
      have hN := Ints.of_row hO
      have hx := hA
      obtain ⟨al, a0, a1, a2, a3⟩ := hx
      have hrm : r ≤ 9223372036854775807 := by omega
      clear hY hO
      go_wp2_with fail
      refine (number_ints q hN).mono ?_
      rintro e w6 ⟨rfl, hb6⟩
      have hA6 := hA.call hb6
      have hR6 := hR.call hb6
      have hB6 := below_then hB hb6
      have hQ := Holds.new w6 q 39
      have rQ : w.heap.size + 1 < w6.heap.size := hR6.lt
      have aQ : w.heap.size < w6.heap.size := hA6.lt
      have t1 : decide (hi a < 0) = true := decide_eq_true (by omega)
      have t2 : decide (b < 0) = true := decide_eq_true (by omega)
      clear hN hb6 al a0 a1 a2 a3 hA hR hB
      have hx := hA6
      obtain ⟨al, a0, a1, a2, a3⟩ := hx
      have hx := hR6
      obtain ⟨rl, s0, s1, s2, s3⟩ := hx
      go_wp2
      refine bodyPost_ret (by simp [results, Try.results63, go_sem, s0, s1, rQ]; try rfl) rfl ?_
      refine ⟨?_, (below_put hB6 (show w.heap.size ≤ w.heap.size + 1 by omega) q).alloc (by rw [put_size]; omega) _⟩
      obtain ⟨e1, e2⟩ := (tdiv_cases a b).2.2.2 h0 h1
      rw [e1, e2, hU.out, hy.out, hq.out, ← hrr'.out]
    · obtain ⟨j, rfl⟩ : ∃ j, i = j + 1 := ⟨i - 1, by omega⟩
      have hcj : c = (j : Int) := by have := hc.out; omega
      subst hcj
      have j7 : j < 128 := by omega
      have hcy := hY.at_ j j7
      rw [Nat.zero_add] at hcy
      obtain ⟨d, hd, d0, d1⟩ : ∃ d, Hid (bit U j = d) ∧ 0 ≤ d ∧ d ≤ 1 := ⟨_, rfl, bit_lo U j, bit_hi U j⟩
      rw [hd.out] at hcy
      have hdb : Hid (bit (U / y) j = (2 * r + d) / y ∧ U / 2 ^ j % y = (2 * r + d) % y) := by
        have := div_bit U y y0 j
        rw [← hr.out, hd.out] at this
        exact this
      have j0 : (0 : Int) ≤ (j : Int) := by omega
      have j1 : (j : Int) < 128 := by omega
      have r2 : ¬ (9223372036854775808 : Int) ≤ r := by omega
      by_cases hge : y ≤ 2 * r + d
      · have q1 : bit (U / y) j = 1 := by
          rw [hdb.out.1, show 2 * r + d = (2 * r + d - y) + y * 1 by omega, Int.add_mul_ediv_left _ _ (by omega), Int.ediv_eq_zero_of_lt (by omega) (by omega), Int.zero_add]
        have q2 : 2 * r + d - y = U / 2 ^ j % y := by
          rw [hdb.out.2, show 2 * r + d = (2 * r + d - y) + y * 1 by omega, Int.add_mul_emod_self_left, Int.emod_eq_of_lt (by omega) (by omega)]
          omega
        have hoc : wr.cell? ⟨w4.heap.size, j, none⟩ = some (.int .i64 0) := by rw [hO.cellAt j (by omega), outs_at _ _ _ j7, if_pos (by omega)]
        have hof : wr.frozen? ⟨w4.heap.size, j, none⟩ = false := hO.frozenAt j
        obtain ⟨hO', _⟩ := hO.stored j (.int .i64 1)
        rw [outs_one _ _ j7 q1] at hO'
        have hM' : DivAt U y a w g w4.heap.size j (2 * r + d - y) (wr.setCell ⟨w4.heap.size, j, none⟩ (.int .i64 1)) :=
          ⟨hA.below ((Below.refl w4.heap.size wr).setCell (p := ⟨w4.heap.size, j, none⟩) (Nat.le_refl _) _) (by omega), hR.below ((Below.refl w4.heap.size wr).setCell (p := ⟨w4.heap.size, j, none⟩) (Nat.le_refl _) _) hs4, hY.below ((Below.refl w4.heap.size wr).setCell (p := ⟨w4.heap.size, j, none⟩) (Nat.le_refl _) _) hg, hO', hB.setCell (p := ⟨w4.heap.size, j, none⟩) (by show w.heap.size ≤ w4.heap.size; omega) _, q2⟩
        clear q1 q2 hO hO' hA hR hY hB
        go_wp2
        go_roundw
        case rel => exact ⟨j, (j : Int) - 1, _, by omega, rfl, rfl, rfl, hM'⟩
        case measure => simp [intOf] <;> omega
      · have q1 : bit (U / y) j = 0 := by rw [hdb.out.1]; exact Int.ediv_eq_zero_of_lt (by omega) (by omega)
        have q2 : 2 * r + d = U / 2 ^ j % y := by rw [hdb.out.2, Int.emod_eq_of_lt (by omega) (by omega)]
        rw [outs_none _ _ q1] at hO
        have hM' : DivAt U y a w g w4.heap.size j (2 * r + d) wr := ⟨hA, hR, hY, hO, hB, q2⟩
        clear q1 q2 hO hA hR hY hB
        go_wp2
        go_roundw
        case rel => exact ⟨j, (j : Int) - 1, _, by omega, rfl, rfl, rfl, hM'⟩
        case measure => simp [intOf] <;> omega

theorem refDiv (a b : Int) (ha : Fits a) (hb : Half b) (w : World) :
    Calls Try.prog 63 #[W a, .int .i64 b] w fun e w' => e = .returned (divided a b) ∧ Below w.heap.size w w' := by
  unfold divided
  by_cases hz : b = 0
  · subst hz
    rw [if_pos rfl]
    exact refDiv_zero a w
  · rw [if_neg hz]
    rcases Int.lt_or_le a 0 with h | h <;> rcases Int.lt_or_le b 0 with h' | h'
    · exact refDiv_nn a b ha hb h h' w
    · exact refDiv_np a b ha hb h (by omega) w
    · exact refDiv_pn a b ha hb h h' w
    · exact refDiv_pp a b ha hb h (by omega) w

end Go.Proofs.Ytmedemniopgpeaa
