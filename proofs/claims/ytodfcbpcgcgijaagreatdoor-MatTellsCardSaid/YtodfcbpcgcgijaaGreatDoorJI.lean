import Derived.Test.YtodfcbpcgcgijaaGreatDoorJB
import Derived.Test.YtodfcbpcgcgijaaGreatDoorJA
import Derived.Test.YtodfcbpcgcgijaaGreatDoorJD
import Derived.Deep.RegionHeld3
import Derived.Deep.DeepCutAuto
/- What the calls of package root answer. -/
namespace Go.Proofs.YtodfcbpcgcgijaaGreatDoor
set_option maxRecDepth 100000
open Go.RowKit
set_option linter.unusedVariables false
attribute [local go_sem] cell_re eqW_self
attribute [local go_sem ↓] run_eqlW run_neqW


set_option maxHeartbeats 1000000 in
theorem rootSquare_low (n : Int) (h0 : 0 ≤ n) (h1 : n ≤ 9223372036854775807) (w : World) : Calls Tryz.prog 93 #[.int .u64 n] w fun e w' => e = .returned (W (n * n)) ∧ Below w.heap.size w w' := by
  have d1 := Lib.hid (fun W1 : World => wideMul n n (by unfold Half; omega) (by unfold Half; omega) W1)
  obtain ⟨s, hs⟩ : ∃ s, Hid (n * n = s) := ⟨_, rfl⟩
  rw [hs.out] at d1 ⊢
  have l1 := hi_lo s
  have l2 := hi_hi s
  have l3 := lo_lo s
  have l4 := lo_hi s
  go_enter Tryz.func93, Tryz.ntmps93
  go_wp2_with fail
  refine (d1.out _).mono ?_
  rintro e w1 ⟨rfl, hb⟩
  obtain ⟨hc, hf⟩ := bcell hb
  have hz := hb.size
  simp at hz
  have hlt : w.heap.size < w1.heap.size := by omega
  have ht : Below w.heap.size w w1 := Below.trans (by go_grown) (hb.mono (by simp))
  go_wp2
  refine bodyPost_ret (by simp [results, Tryz.results93, go_sem, hc, hlt]; try rfl) rfl ?_
  exact ⟨rfl, by go_grown⟩

set_option maxRecDepth 100000 in
set_option maxHeartbeats 2000000 in
theorem rootSquare_high (n m : Int) (hm : n = m + 18446744073709551616) (h0 : -9223372036854775808 ≤ m) (h1 : m < 0) (w : World) : Calls Tryz.prog 93 #[.int .u64 n] w fun e w' => e = .returned (W (n * n)) ∧ Below w.heap.size w w' := by
  have d1 := Lib.hid (fun W1 : World => wideMul m m (by unfold Half; omega) (by unfold Half; omega) W1)
  have d2 := Lib.hid (fun W1 : World => wideOf m (by unfold Half; omega) W1)
  have d3 := Lib.hid (fun W1 : World => wideLeft m 65 (by unfold Half; omega) W1)
  have e0 := Lib.hid (sw_congr (square_round n m hm))
  rw [show (65 : Int).toNat = 65 from rfl] at d3
  obtain ⟨s, hs⟩ : ∃ s, Hid (m * m = s) := ⟨_, rfl⟩
  obtain ⟨t, ht0⟩ : ∃ t, m * 2 ^ 65 = t := ⟨_, rfl⟩
  have ht := Lib.hid ht0
  clear ht0
  have d4 := Lib.hid (fun W1 : World => wideAdd s t W1)
  have e1 : Hid (W (n * n) = W (s + t)) := by show W _ = W _; rw [← hs.out, ← ht.out, W, W, e0.out.1, e0.out.2]
  rw [e1.out]
  rw [hs.out] at d1
  rw [ht.out] at d3
  have c1 : IntKind.i64.wrap n = m := by rw [IntKind.wrap_i64]; omega
  have c2 : wrap64 n = m := by unfold wrap64; omega
  clear e0 e1 hs ht
  have n0 : 0 ≤ n := by omega
  have n1 : n ≤ 18446744073709551615 := by omega
  have HM := Lib.hid hm
  clear hm
  have hR : Holds (w.alloc (.cells #[.int .i64 0, .int .u64 0] 56)) w.heap.size 0 := by
    have := Holds.new w 0 56
    rw [show hi 0 = 0 by decide, show lo 0 = 0 by decide] at this
    exact this
  have hB : Below w.heap.size w (w.alloc (.cells #[.int .i64 0, .int .u64 0] 56)) := by go_grown
  go_enter Tryz.func93, Tryz.ntmps93
  go_wp2_with fail
  refine (d1.out _).mono ?_
  rintro e w1 ⟨rfl, hb1⟩
  have gS : w.heap.size < w1.heap.size := (hR.call hb1).lt
  have gS' : w.heap.size ≠ w1.heap.size := by omega
  replace hR := (hR.call hb1).alloc (.cells #[.int .i64 (hi s), .int .u64 (lo s)] 56)
  replace hB := (below_then hB hb1).alloc (by have := (below_then hB hb1).size; omega) (.cells #[.int .i64 (hi s), .int .u64 (lo s)] 56)
  have hS := Holds.new w1 s 56
  clear hb1
  have hss := hS
  obtain ⟨sl, s0, s1, s2, s3⟩ := hss
  go_wp2_with fail
  go_region_with (first
    | (go_at_call 97; refine (d2.out _).mono ?_; rintro e w4 ⟨rfl, hb4⟩; have hS4 := hS.drew.call hb4; have hR4 := hR.drew.call hb4; have hB4 := below_then hB.drew hb4; have hx := hS4; obtain ⟨tl, t0, t1, t2, t3⟩ := hx)
    | (go_at_call 68; refine (d3.out _).mono ?_; rintro e w5 ⟨rfl, hb5⟩; have hS5 := hS4.call hb5; have hR5 := hR4.call hb5; have hB5 := below_then hB4 hb5; have hx := hS5; obtain ⟨ul, u0, u1, u2, u3⟩ := hx)
    | (go_at_call 40; refine (d4.out _).mono ?_; rintro e w6 ⟨rfl, hb6⟩; have hS6 := hS5.call hb6; have hR6 := (hR5.call hb6).other gS' (s + t); have hS7 := hS6.same (s + t); have hB6 := below_put (below_then hB5 hb6) (Nat.le_of_lt gS) (s + t); obtain ⟨vl, v0, v1, v2, v3⟩ := hS6))
  all_goals
    clear hS hB hS4 hB4 hb4 hb5 hR hR4 hS5 hR5 hB5 hb6
    obtain ⟨xl, x0, x1, x2, x3⟩ := hS7
    obtain ⟨yl, y0, y1, y2, y3⟩ := hR6
    go_wp2
    refine bodyPost_ret (by simp [results, Tryz.results93, go_sem, y0, y1]; try rfl) rfl ?_
    exact ⟨rfl, below_put hB6 (Nat.le_refl _) _⟩
theorem rootSquare (n : Int) (h0 : 0 ≤ n) (h1 : n ≤ 18446744073709551615) (w : World) : Calls Tryz.prog 93 #[.int .u64 n] w fun e w' => e = .returned (W (n * n)) ∧ Below w.heap.size w w' := by
  rcases Int.lt_or_le 9223372036854775807 n with h | h
  · exact rootSquare_high n (n - 18446744073709551616) (by omega) (by omega) (by omega) w
  · exact rootSquare_low n h0 h w

theorem sgn_low {s : Int} (h : s < 0) : sgn s = -1 := if_pos h
set_option maxRecDepth 100000 in
set_option maxHeartbeats 2000000 in
theorem rootWideFits (a : Int) (ha : Fits a) (r : Int) (c : Bool) (hc : decide (r * r ≤ a) = c) (h0 : 0 ≤ r) (h1 : r ≤ 18446744073709551615) (g : Nat) (w : World) (hg : Holds w g a) :
    Calls Tryz.prog 92 #[.int .u64 r, .pointer (some ⟨g, 0, none⟩)] w fun e w' => e = .returned (.bool c) ∧ Below w.heap.size w w' := by
  obtain ⟨s, hs⟩ : ∃ s, sw (r * r) = s := ⟨_, rfl⟩
  have fs : Fits s := hs ▸ fits_sw _
  have hcs := sw_square hs h0 h1
  have d1 : Hid (∀ W1 : World, Calls Tryz.prog 93 #[.int .u64 r] W1 fun e w' => e = .returned (W s) ∧ Below W1.heap.size W1 w') := fun W1 => by
    have := rootSquare r h0 h1 W1
    rw [W, ← hi_sw, ← lo_sw, hs] at this
    exact this
  have d2 := Lib.hid (fun W1 : World => wideSign s fs W1)
  have d3 := Lib.hid (fun W1 : World => wideLess a s ha fs W1)
  have HG := Lib.hid hg
  have hB : Below w.heap.size w w := Below.refl _ _
  have HC := Lib.hid hc
  have hS0 := Lib.hid fs
  clear hs hg hc fs
  rcases hcs with ⟨s0, s1⟩ | ⟨s0, s1⟩
  · have hc' : c = false := by rw [← HC.out]; exact decide_eq_false (by have := ha.2; omega)
    subst hc'
    rw [sgn_low s0] at d2
    clear s0 s1
    go_enter Tryz.func92, Tryz.ntmps92
    go_wp2_with fail
    refine (d1.out _).mono ?_
    rintro e w1 ⟨rfl, hb1⟩
    have hS := Holds.new w1 s 56
    replace hB := (below_then hB hb1).alloc (below_then hB hb1).size (.cells #[.int .i64 (hi s), .int .u64 (lo s)] 56)
    obtain ⟨sl, t0, t1, t2, t3⟩ := hS
    go_wp2_with fail
    refine (d2.out _).mono ?_
    rintro e w2 ⟨rfl, hb2⟩
    replace hB := below_then hB hb2
    go_wp2
    go_ret
    exact ⟨rfl, hB⟩
  · have hg0 : 0 ≤ sgn s := by unfold sgn; split <;> (try split) <;> omega
    obtain ⟨z, hz⟩ : ∃ z, Hid (sgn s = z) := ⟨_, rfl⟩
    obtain ⟨y, hy⟩ : ∃ y, Hid (decide (a < s) = y) := ⟨_, rfl⟩
    have hcy : c = !y := by
      rw [← HC.out, ← hy.out, ← s1, Bool.eq_iff_iff]
      simp
    rw [hz.out] at d2 hg0
    rw [hy.out] at d3
    subst hcy
    have hs1 := Lib.hid s1
    clear s1
    go_enter Tryz.func92, Tryz.ntmps92
    go_wp2_with fail
    refine (d1.out _).mono ?_
    rintro e w1 ⟨rfl, hb1⟩
    have hS := Holds.new w1 s 56
    have hA := (HG.out.call hb1).alloc (.cells #[.int .i64 (hi s), .int .u64 (lo s)] 56)
    replace hB := (below_then hB hb1).alloc (below_then hB hb1).size (.cells #[.int .i64 (hi s), .int .u64 (lo s)] 56)
    have hx := hS
    obtain ⟨sl, t0, t1, t2, t3⟩ := hx
    go_wp2_with fail
    refine (d2.out _).mono ?_
    rintro e w2 ⟨rfl, hb2⟩
    replace hB := below_then hB hb2
    replace hS := hS.call hb2
    replace hA := hA.call hb2
    obtain ⟨ul, u0, u1, u2, u3⟩ := hS
    obtain ⟨al, a0, a1, a2, a3⟩ := hA
    go_wp2_with fail
    refine (d3.out _).mono ?_
    rintro e w3 ⟨rfl, hb3⟩
    replace hB := below_then hB hb3
    go_wp2
    go_ret
    exact ⟨rfl, hB⟩

set_option maxRecDepth 100000 in
set_option maxHeartbeats 2000000 in
theorem rootClimb64 (a : Int) (ha : Fits a) (g : Nat) (w : World) (hg : Holds w g a) :
    Calls Tryz.prog 91 #[.int .i64 64, .func (.func 92) #[] #[.pointer (some ⟨g, 0, none⟩)]] w fun e w' => e = .returned (.int .u64 (root a)) ∧ Below w.heap.size w w' := by
  have HG := Lib.hid hg
  have HA := Lib.hid ha
  have hB0 : Below w.heap.size w w := Below.refl _ _
  have hend : Hid (climb (fun r => decide (r * r ≤ a)) 64 64 = root a) := rfl
  clear hg ha
  go_enter Tryz.func91, Tryz.ntmps91
  go_wp2
  go_loopw [5, 9] (fun v i wr => ∃ k : Nat, k ≤ 64 ∧ i = .int .i64 k ∧ v = .int .u64 (climb (fun r => decide (r * r ≤ a)) 64 k) ∧ Below w.heap.size w wr) (fun _ i _ => 64 - (intOf i).toNat)
  case atStart => exact ⟨0, Nat.zero_le _, rfl, rfl, hB0⟩
  case round =>
    clear hB0
    obtain ⟨k, hk, rfl, rfl, hB⟩ := hrel
    by_cases hlt : k < 64
    · have j1 : (k : Int) < 64 := by omega
      have j2 : ((63 : Int) - k).toNat = 63 - k := by omega
      have j3 : min (63 - k) 64 = 63 - k := by omega
      obtain ⟨r, t, hr, ht, b0, t0, b2, o1, y1, y2⟩ := climb_facts (fun r => decide (r * r ≤ a)) 64 k (by decide) hlt
      replace y1 := Lib.hid y1
      replace y2 := Lib.hid y2
      rw [hr]
      have ht : (2 : Int) ^ (63 - k) = t := ht
      have b3 : r + t ≤ 18446744073709551615 := by rw [show (2 : Int) ^ 64 = 18446744073709551616 from rfl] at b2; omega
      have b4 : 0 ≤ r + t := by omega
      obtain ⟨c, hc⟩ : ∃ c, Hid (decide ((r + t) * (r + t) ≤ a) = c) := ⟨_, rfl⟩
      have d1 := Lib.hid (fun (W1 : World) => rootWideFits a HA.out (r + t) c hc.out b4 b3 g W1)
      obtain ⟨s, hs⟩ : ∃ s, r + t = s := ⟨_, rfl⟩
      rw [hs] at d1 hc y1 y2
      clear b2 hr
      go_wp2_with fail
      refine (d1.out _ (HG.out.below hB HG.out.lt)).mono ?_
      rintro e w1 ⟨rfl, hb1⟩
      replace hB := below_then hB hb1
      have hs' := Lib.hid hs
      clear hs hb1
      cases c
      all_goals
        go_wp2
        go_roundw
        case rel => exact ⟨k + 1, by omega, by go_num, by first | rw [y1.out hc.out] | rw [y2.out hc.out], hB⟩
        case measure => simp [intOf]; omega
    · obtain rfl : k = 64 := by omega
      go_wp2
      go_ret
      exact ⟨by rw [hend.out]; rfl, hB⟩

set_option maxHeartbeats 2000000 in
theorem rootWide_neg (a : Int) (ha : Fits a) (h0 : a < 0) (w : World) : Calls Tryz.prog 66 #[W a] w fun e w' => e = .returned (.tuple #[.int .u64 0, .bool false]) ∧ Below w.heap.size w w' := by
  have d1 := Lib.hid (fun W1 : World => wideSign a ha W1)
  rw [sgn_low h0] at d1
  clear ha h0
  go_enter Tryz.func66, Tryz.ntmps66
  go_wp2_with fail
  refine (d1.out _).mono ?_
  rintro e w1 ⟨rfl, hb1⟩
  have hB := below_then (show Below w.heap.size w (w.alloc (.cells #[.int .i64 (hi a), .int .u64 (lo a)] 56)) by go_grown) hb1
  go_wp2
  go_ret2
  exact ⟨rfl, hB⟩
set_option maxHeartbeats 2000000 in
theorem rootWide_pos (a : Int) (ha : Fits a) (h0 : 0 ≤ a) (w : World) : Calls Tryz.prog 66 #[W a] w fun e w' => e = .returned (.tuple #[.int .u64 (root a), .bool true]) ∧ Below w.heap.size w w' := by
  have d1 := Lib.hid (fun W1 : World => wideSign a ha W1)
  have d2 := Lib.hid (fun (g : Nat) (W1 : World) => rootClimb64 a ha g W1)
  have hg0 : 0 ≤ sgn a := by unfold sgn; split <;> (try split) <;> omega
  obtain ⟨z, hz⟩ : ∃ z, Hid (sgn a = z) := ⟨_, rfl⟩
  rw [hz.out] at d1 hg0
  obtain ⟨r, hr⟩ : ∃ r, Hid (root a = r) := ⟨_, rfl⟩
  rw [hr.out] at d2 ⊢
  clear ha h0
  have hA := Holds.new w a 56
  go_enter Tryz.func66, Tryz.ntmps66
  go_wp2_with fail
  refine (d1.out _).mono ?_
  rintro e w1 ⟨rfl, hb1⟩
  have hB := below_then (show Below w.heap.size w (w.alloc (.cells #[.int .i64 (hi a), .int .u64 (lo a)] 56)) by go_grown) hb1
  replace hA := hA.call hb1
  go_wp2_with fail
  refine (d2.out _ _ hA).mono ?_
  rintro e w2 ⟨rfl, hb2⟩
  replace hB := below_then hB hb2
  go_wp2
  go_ret2
  exact ⟨rfl, hB⟩
/-- The root of a wide number and whether there is one. -/
def rootOk (a : Int) : Value := if a < 0 then .tuple #[.int .u64 0, .bool false] else .tuple #[.int .u64 (root a), .bool true]
theorem rootWide (a : Int) (ha : Fits a) (w : World) : Calls Tryz.prog 66 #[W a] w fun e w' => e = .returned (rootOk a) ∧ Below w.heap.size w w' := by
  unfold rootOk
  by_cases h : a < 0
  · rw [if_pos h]; exact rootWide_neg a ha h w
  · rw [if_neg h]; exact rootWide_pos a ha (by omega) w
/-- The root of a number with a point. -/
def rootFixOf (a : Int) : Value := if a < 0 then .tuple #[.int .i64 0, .bool false] else .tuple #[.int .i64 (root (a * 4294967296)), .bool true]
end Go.Proofs.YtodfcbpcgcgijaaGreatDoor
