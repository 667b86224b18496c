import Derived.Test.YtodfcbpcgcgijaaGreatDoorJG
import Derived.Test.YtodfcbpcgcgijaaGreatDoorJI
import Derived.Test.YtodfcbpcgcgijaaGreatDoorJL
import Derived.Test.YtodfcbpcgcgijaaGreatDoorJK
import Derived.Deep.RegionHeld3
/- What the calls of package vec answer, each for every number that its parameters can hold. -/
namespace Go.Proofs.YtodfcbpcgcgijaaGreatDoor
set_option maxRecDepth 100000
open Go.RowKit
set_option linter.unusedVariables false
attribute [local go_sem] cell_re eqW_self eqV_self
attribute [local go_sem ↓] run_eqlW run_neqW run_eqlV

/-- What is clamped, and whether one axis was. -/
def clampV (a b c m : Int) : Value := .tuple #[V (clamp a (-m) m) (clamp b (-m) m) (clamp c (-m) m), .bool (clamped a (-m) m || clamped b (-m) m || clamped c (-m) m)]
end Go.Proofs.YtodfcbpcgcgijaaGreatDoor

/- The length, and the greatest axis. -/
namespace Go.Proofs.YtodfcbpcgcgijaaGreatDoor
set_option maxRecDepth 100000
open Go.RowKit
set_option linter.unusedVariables false
attribute [local go_sem] cell_re eqW_self eqV_self
attribute [local go_sem ↓] run_eqlW run_neqW run_eqlV

theorem run_indexV0 (x y z : Int) (w : World) : (Instr.index 24 (V x y z) (.int .i64 0)).run Tryz.prog w = .ok (.int .i64 x) w := by
  simp [Instr.index, run_underlying Tryz.underlying24, asIntOf, go_sem]
theorem run_indexV1 (x y z : Int) (w : World) : (Instr.index 24 (V x y z) (.int .i64 1)).run Tryz.prog w = .ok (.int .i64 y) w := by
  simp [Instr.index, run_underlying Tryz.underlying24, asIntOf, go_sem]
theorem run_indexV2 (x y z : Int) (w : World) : (Instr.index 24 (V x y z) (.int .i64 2)).run Tryz.prog w = .ok (.int .i64 z) w := by
  simp [Instr.index, run_underlying Tryz.underlying24, asIntOf, go_sem]
attribute [local go_sem ↓] run_indexV0 run_indexV1 run_indexV2
theorem clip_over {x : Int} (h : 9223372036854775807 < x) : sat x = .tuple #[.int .i64 9223372036854775807, .bool true] := by
  have h1 : clipped x = 9223372036854775807 := by unfold clipped; omega
  have h2 : cut x = true := by unfold cut; exact decide_eq_true (by omega)
  unfold sat
  rw [h1, h2]
/-- The root of a sum of squares, told in three ways: there is none (it went round), it is too much, or it is the length. -/
theorem len_ways {a b c : Int} (ha : Half a) (hb : Half b) (hc : Half c) : ∃ (L : Int) (k : Bool), (∀ W1 : World, Calls Tryz.prog 66 #[W (squares a b c)] W1 fun e w' => e = .returned (.tuple #[.int .u64 L, .bool k]) ∧ Below W1.heap.size W1 w') ∧
    ((k = false ∧ 0 = L ∧ sat (len a b c) = .tuple #[.int .i64 9223372036854775807, .bool true]) ∨ (k = true ∧ (9223372036854775807 < L ∧ L ≤ 18446744073709551615) ∧ sat (len a b c) = .tuple #[.int .i64 9223372036854775807, .bool true]) ∨
      (k = true ∧ (0 ≤ L ∧ L ≤ 9223372036854775807) ∧ sat (len a b c) = .tuple #[.int .i64 L, .bool false])) := by
  have hb0 := squares_bd ha hb hc
  have l0 := len_lo ha hb hc
  have l1 := len_hi ha hb hc
  rcases Int.lt_or_le (squares a b c) 170141183460469231731687303715884105728 with h | h
  · refine ⟨len a b c, true, fun W1 => rootWide_pos _ (by unfold Fits; omega) hb0.1 W1, ?_⟩
    rcases Int.lt_or_le 9223372036854775807 (len a b c) with h2 | h2
    · exact Or.inr (Or.inl ⟨rfl, ⟨h2, l1⟩, clip_over h2⟩)
    · exact Or.inr (Or.inr ⟨rfl, ⟨l0, h2⟩, sat_in _ (by unfold Half; omega)⟩)
  · refine ⟨0, false, fun W1 => ?_, Or.inl ⟨rfl, rfl, clip_over (len_over ha hb hc h)⟩⟩
    have hn : sw (squares a b c) < 0 := by unfold sw; omega
    have := rootWide (sw (squares a b c)) (fits_sw _) W1
    rw [rootOk, if_pos hn, W, hi_sw, lo_sw] at this
    exact this
set_option maxRecDepth 100000 in
set_option maxHeartbeats 2000000 in
theorem vecLength (a b c : Int) (ha : Half a) (hb : Half b) (hc : Half c) (w : World) :
    Calls Tryz.prog 32 #[V a b c] w fun e w' => e = .returned (sat (len a b c)) ∧ Below w.heap.size w w' := by
  have d1 := Lib.hid (fun W1 : World => wideMul a a ha ha W1)
  have d2 := Lib.hid (fun W1 : World => wideMul b b hb hb W1)
  have d3 := Lib.hid (fun W1 : World => wideMul c c hc hc W1)
  obtain ⟨L, k, d7, hk⟩ := len_ways ha hb hc
  replace d7 := Lib.hid d7
  rw [squares] at d7
  obtain ⟨R, hR⟩ : ∃ R, sat (len a b c) = R := ⟨_, rfl⟩
  rw [hR] at hk ⊢
  clear hR
  replace hk := Lib.hid hk
  obtain ⟨p, hp⟩ : ∃ p, Hid (a * a = p) := ⟨_, rfl⟩
  obtain ⟨q, hq⟩ : ∃ q, Hid (b * b = q) := ⟨_, rfl⟩
  obtain ⟨r, hr⟩ : ∃ r, Hid (c * c = r) := ⟨_, rfl⟩
  rw [hp.out] at d1
  rw [hq.out] at d2
  rw [hr.out] at d3
  rw [hp.out, hq.out, hr.out] at d7
  have d4 : Hid (∀ W1 : World, Calls Tryz.prog 40 #[W 0, W p] W1 fun e w' => e = .returned (W p) ∧ Below W1.heap.size W1 w') := fun W1 => by
    have := wideAdd 0 p W1
    rw [Int.zero_add] at this
    exact this
  have d5 := Lib.hid (fun W1 : World => wideAdd p q W1)
  have d6 := Lib.hid (fun W1 : World => wideAdd (p + q) r W1)
  clear hp hq hr
  have z0 : hi 0 = 0 := by decide
  have z1 : lo 0 = 0 := by decide
  have hS := Holds.new (w.alloc (.cells #[.int .i64 a, .int .i64 b, .int .i64 c] 24)) 0 56
  rw [z0, z1] at hS
  rw [World.size_alloc] at hS
  have hO : Below w.heap.size w ((w.alloc (.cells #[.int .i64 a, .int .i64 b, .int .i64 c] 24)).alloc (.cells #[.int .i64 0, .int .u64 0] 56)) := by go_grown
  have gO : w.heap.size ≤ w.heap.size + 1 := by omega
  clear z0 z1 ha hb hc
  go_enter Tryz.func32, Tryz.ntmps32
  go_wp2
  go_loopw [10] (fun v10 wr => ∃ i s : Int, v10 = .int .i64 i ∧ Step p q r i s ∧ Holds wr (w.heap.size + 1) s ∧ Below w.heap.size w wr) (fun v10 _ => 3 - (intOf v10).toNat)
  case atStart => exact ⟨0, 0, rfl, Or.inl ⟨rfl, rfl⟩, hS, hO⟩
  case round =>
    clear hS hO
    obtain ⟨i, s, rfl, hst, hS, hO⟩ := hrel
    rcases hst with ⟨rfl, rfl⟩ | ⟨rfl, rfl⟩ | ⟨rfl, rfl⟩ | ⟨rfl, rfl⟩
    · obtain ⟨sl, s0, s1, s2, s3⟩ := (id hS : Holds wr (w.heap.size + 1) (0))
      go_wp2_with fail
      go_region_with (first
        | (go_at_call 65; refine (d1.out _).mono ?_; rintro e w4 ⟨rfl, hb4⟩; have hS4 := hS.drew.call hb4; have hO4 := below_then hO.drew hb4; obtain ⟨tl, t0, t1, t2, t3⟩ := (id hS4 : Holds w4 (w.heap.size + 1) (0)))
        | (go_at_call 40; refine (d4.out _).mono ?_; rintro e w5 ⟨rfl, hb5⟩; have hS5 := hS4.call hb5; have hS6 := hS5.same (p); have hO5 := below_put (below_then hO4 hb5) gO (p); obtain ⟨ul, u0, u1, u2, u3⟩ := hS5))
      all_goals
        clear hS hO hS4 hO4 hb4 hb5
        go_wp2
        go_roundw
        case rel => exact ⟨1, p, by go_num, Or.inr (Or.inl ⟨rfl, rfl⟩), hS6, hO5⟩
        case measure => simp [intOf]
    · obtain ⟨sl, s0, s1, s2, s3⟩ := (id hS : Holds wr (w.heap.size + 1) (p))
      go_wp2_with fail
      go_region_with (first
        | (go_at_call 65; refine (d2.out _).mono ?_; rintro e w4 ⟨rfl, hb4⟩; have hS4 := hS.drew.call hb4; have hO4 := below_then hO.drew hb4; obtain ⟨tl, t0, t1, t2, t3⟩ := (id hS4 : Holds w4 (w.heap.size + 1) (p)))
        | (go_at_call 40; refine (d5.out _).mono ?_; rintro e w5 ⟨rfl, hb5⟩; have hS5 := hS4.call hb5; have hS6 := hS5.same (p + q); have hO5 := below_put (below_then hO4 hb5) gO (p + q); obtain ⟨ul, u0, u1, u2, u3⟩ := hS5))
      all_goals
        clear hS hO hS4 hO4 hb4 hb5
        go_wp2
        go_roundw
        case rel => exact ⟨2, p + q, by go_num, Or.inr (Or.inr (Or.inl ⟨rfl, rfl⟩)), hS6, hO5⟩
        case measure => simp [intOf]
    · obtain ⟨sl, s0, s1, s2, s3⟩ := (id hS : Holds wr (w.heap.size + 1) (p + q))
      go_wp2_with fail
      go_region_with (first
        | (go_at_call 65; refine (d3.out _).mono ?_; rintro e w4 ⟨rfl, hb4⟩; have hS4 := hS.drew.call hb4; have hO4 := below_then hO.drew hb4; obtain ⟨tl, t0, t1, t2, t3⟩ := (id hS4 : Holds w4 (w.heap.size + 1) (p + q)))
        | (go_at_call 40; refine (d6.out _).mono ?_; rintro e w5 ⟨rfl, hb5⟩; have hS5 := hS4.call hb5; have hS6 := hS5.same (p + q + r); have hO5 := below_put (below_then hO4 hb5) gO (p + q + r); obtain ⟨ul, u0, u1, u2, u3⟩ := hS5))
      all_goals
        clear hS hO hS4 hO4 hb4 hb5
        go_wp2
        go_roundw
        case rel => exact ⟨3, p + q + r, by go_num, Or.inr (Or.inr (Or.inr ⟨rfl, rfl⟩)), hS6, hO5⟩
        case measure => simp [intOf]
    · obtain ⟨sl, s0, s1, s2, s3⟩ := hS
      rcases hk.out with ⟨rfl, rfl, rfl⟩ | ⟨rfl, ⟨k1, k2⟩, rfl⟩ | ⟨rfl, ⟨k1, k2⟩, rfl⟩
      all_goals
        clear hk
        go_wp2_with fail
        refine (d7.out _).mono ?_
        rintro e w1 ⟨rfl, hb1⟩
        replace hO := below_then hO hb1
        go_wp2
        go_ret2
        exact ⟨rfl, hO⟩

/-- The greatest of the axes that have been looked at by round i. -/
def Most (p q r i m : Int) : Prop := (i = 0 ∧ 0 = m) ∨ (i = 1 ∧ max 0 p = m) ∨ (i = 2 ∧ max (max 0 p) q = m) ∨ (i = 3 ∧ max (max (max 0 p) q) r = m)
theorem most_greatest {a b c : Int} (ha : Half a) (hb : Half b) (hc : Half c) : max (max (max 0 (clipped (bare a))) (clipped (bare b))) (clipped (bare c)) = greatest a b c := by
  have := bare_bd ha
  have := bare_bd hb
  have := bare_bd hc
  unfold greatest clipped
  omega
set_option maxRecDepth 100000 in
set_option maxHeartbeats 2000000 in
theorem vecGreatest (a b c : Int) (ha : Half a) (hb : Half b) (hc : Half c) (w : World) :
    Calls Tryz.prog 24 #[V a b c] w fun e w' => e = .returned (.int .i64 (greatest a b c)) ∧ Below w.heap.size w w' := by
  have d1 : Hid (∀ W1 : World, Calls Tryz.prog 53 #[.int .i64 a] W1 fun e w' => e = .returned (.tuple #[.int .i64 (clipped (bare a)), .bool (cut (bare a))]) ∧ Below W1.heap.size W1 w') := fun W1 => fixAbs a ha W1
  have d2 : Hid (∀ W1 : World, Calls Tryz.prog 53 #[.int .i64 b] W1 fun e w' => e = .returned (.tuple #[.int .i64 (clipped (bare b)), .bool (cut (bare b))]) ∧ Below W1.heap.size W1 w') := fun W1 => fixAbs b hb W1
  have d3 : Hid (∀ W1 : World, Calls Tryz.prog 53 #[.int .i64 c] W1 fun e w' => e = .returned (.tuple #[.int .i64 (clipped (bare c)), .bool (cut (bare c))]) ∧ Below W1.heap.size W1 w') := fun W1 => fixAbs c hc W1
  rw [← most_greatest ha hb hc]
  obtain ⟨p, hp⟩ : ∃ p, Hid (clipped (bare a) = p) := ⟨_, rfl⟩
  obtain ⟨q, hq⟩ : ∃ q, Hid (clipped (bare b) = q) := ⟨_, rfl⟩
  obtain ⟨r, hr⟩ : ∃ r, Hid (clipped (bare c) = r) := ⟨_, rfl⟩
  obtain ⟨cp, hcp⟩ : ∃ p, Hid (cut (bare a) = p) := ⟨_, rfl⟩
  obtain ⟨cq, hcq⟩ : ∃ p, Hid (cut (bare b) = p) := ⟨_, rfl⟩
  obtain ⟨cr, hcr⟩ : ∃ p, Hid (cut (bare c) = p) := ⟨_, rfl⟩
  rw [hp.out, hcp.out] at d1
  rw [hq.out, hcq.out] at d2
  rw [hr.out, hcr.out] at d3
  rw [hp.out, hq.out, hr.out]
  obtain ⟨M, hM⟩ : ∃ M, Hid (max (max (max 0 p) q) r = M) := ⟨_, rfl⟩
  rw [hM.out]
  clear hp hq hr hcp hcq hcr ha hb hc
  have hO : Below w.heap.size w (w.alloc (.cells #[.int .i64 a, .int .i64 b, .int .i64 c] 24)) := by go_grown
  go_enter Tryz.func24, Tryz.ntmps24
  go_wp2
  go_loopw [3, 9] (fun v3 v9 wr => ∃ i m : Int, v9 = .int .i64 i ∧ v3 = .int .i64 m ∧ Most p q r i m ∧ Below w.heap.size w wr) (fun _ v9 _ => 3 - (intOf v9).toNat)
  case atStart => exact ⟨0, 0, rfl, rfl, Or.inl ⟨rfl, rfl⟩, hO⟩
  case round =>
    clear hO
    obtain ⟨i, m, rfl, rfl, hst, hO⟩ := hrel
    rcases hst with ⟨rfl, hm⟩ | ⟨rfl, hm⟩ | ⟨rfl, hm⟩ | ⟨rfl, hm⟩
    · have hm' := Lib.hid hm
      clear hm
      rcases Int.lt_trichotomy m p with h | h | h
      · go_wp2_with fail
        refine (d1.out _).mono ?_
        rintro e w1 ⟨rfl, hb1⟩
        replace hO := below_then hO hb1
        clear hb1
        go_wp2
        go_roundw
        case rel => exact ⟨1, p, by go_num, rfl, Or.inr (Or.inl ⟨rfl, by have := hm'.out; omega⟩), hO⟩
        case measure => simp [intOf]
      · have he : p = m := h.symm
        rw [he] at d1
        go_wp2_with fail
        refine (d1.out _).mono ?_
        rintro e w1 ⟨rfl, hb1⟩
        replace hO := below_then hO hb1
        clear hb1
        have h' := Lib.hid h
        clear h he
        go_wp2
        go_roundw
        case rel => exact ⟨1, m, by go_num, rfl, Or.inr (Or.inl ⟨rfl, by have := hm'.out; have := h'.out; omega⟩), hO⟩
        case measure => simp [intOf]
      · go_wp2_with fail
        refine (d1.out _).mono ?_
        rintro e w1 ⟨rfl, hb1⟩
        replace hO := below_then hO hb1
        clear hb1
        go_wp2
        go_roundw
        case rel => exact ⟨1, m, by go_num, rfl, Or.inr (Or.inl ⟨rfl, by have := hm'.out; omega⟩), hO⟩
        case measure => simp [intOf]
    · have hm' := Lib.hid hm
      clear hm
      rcases Int.lt_trichotomy m q with h | h | h
      · go_wp2_with fail
        refine (d2.out _).mono ?_
        rintro e w1 ⟨rfl, hb1⟩
        replace hO := below_then hO hb1
        clear hb1
        go_wp2
        go_roundw
        case rel => exact ⟨2, q, by go_num, rfl, Or.inr (Or.inr (Or.inl ⟨rfl, by have := hm'.out; omega⟩)), hO⟩
        case measure => simp [intOf]
      · have he : q = m := h.symm
        rw [he] at d2
        go_wp2_with fail
        refine (d2.out _).mono ?_
        rintro e w1 ⟨rfl, hb1⟩
        replace hO := below_then hO hb1
        clear hb1
        have h' := Lib.hid h
        clear h he
        go_wp2
        go_roundw
        case rel => exact ⟨2, m, by go_num, rfl, Or.inr (Or.inr (Or.inl ⟨rfl, by have := hm'.out; have := h'.out; omega⟩)), hO⟩
        case measure => simp [intOf]
      · go_wp2_with fail
        refine (d2.out _).mono ?_
        rintro e w1 ⟨rfl, hb1⟩
        replace hO := below_then hO hb1
        clear hb1
        go_wp2
        go_roundw
        case rel => exact ⟨2, m, by go_num, rfl, Or.inr (Or.inr (Or.inl ⟨rfl, by have := hm'.out; omega⟩)), hO⟩
        case measure => simp [intOf]
    · have hm' := Lib.hid hm
      clear hm
      rcases Int.lt_trichotomy m r with h | h | h
      · go_wp2_with fail
        refine (d3.out _).mono ?_
        rintro e w1 ⟨rfl, hb1⟩
        replace hO := below_then hO hb1
        clear hb1
        go_wp2
        go_roundw
        case rel => exact ⟨3, r, by go_num, rfl, Or.inr (Or.inr (Or.inr ⟨rfl, by have := hm'.out; omega⟩)), hO⟩
        case measure => simp [intOf]
      · have he : r = m := h.symm
        rw [he] at d3
        go_wp2_with fail
        refine (d3.out _).mono ?_
        rintro e w1 ⟨rfl, hb1⟩
        replace hO := below_then hO hb1
        clear hb1
        have h' := Lib.hid h
        clear h he
        go_wp2
        go_roundw
        case rel => exact ⟨3, m, by go_num, rfl, Or.inr (Or.inr (Or.inr ⟨rfl, by have := hm'.out; have := h'.out; omega⟩)), hO⟩
        case measure => simp [intOf]
      · go_wp2_with fail
        refine (d3.out _).mono ?_
        rintro e w1 ⟨rfl, hb1⟩
        replace hO := below_then hO hb1
        clear hb1
        go_wp2
        go_roundw
        case rel => exact ⟨3, m, by go_num, rfl, Or.inr (Or.inr (Or.inr ⟨rfl, by have := hm'.out; omega⟩)), hO⟩
        case measure => simp [intOf]
    · have hm' := Lib.hid (hm.symm.trans hM.out)
      clear hm
      go_wp2
      go_ret
      exact ⟨by rw [hm'.out]; rfl, hO⟩


end Go.Proofs.YtodfcbpcgcgijaaGreatDoor
