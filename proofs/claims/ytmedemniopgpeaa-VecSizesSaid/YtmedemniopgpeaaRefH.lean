/- What Near and Clip of the document's answers give. -/
import Derived.Test.YtmedemniopgpeaaRefG
namespace Go.Proofs.Ytmedemniopgpeaa
open Go.RowKit
attribute [local go_sem] cell_re eqW_self
attribute [local go_sem ↓] run_eqlW run_neqW

theorem refRight (a : Int) (ha : Fits a) (n : Int) (hn : Half n) (k : Nat) (pn : places n = (k : Int)) (w : World) :
    Calls Try.prog 70 #[W a, .int .i64 n] w fun e w' => e = .returned (W (a / 2 ^ k)) ∧ Below w.heap.size w w' := by
  obtain ⟨n0, n1⟩ := hn
  exact refRight_m a n ha k (by unfold places at pn; omega) n1 n0 (by unfold places at pn; omega) w

set_option maxRecDepth 100000 in
set_option maxHeartbeats 1000000 in
theorem refNear_in (a : Int) (ha : Fits a) (k : Nat) (hk : k ≤ 126) (w : World) :
    Calls Try.prog 48 #[W a, .int .i64 ((k : Int) + 1)] w fun e w' => e = .returned (W (a / 2 ^ (k + 1) + bit a k)) ∧ Below w.heap.size w w' := by
  obtain ⟨z1, z2⟩ := zero_halves
  have hz : ((w.alloc (.cells #[.int .i64 (hi a), .int .u64 (lo a)] 39)).alloc (.cells #[.int .i64 0, .int .u64 0] 39)) = (w.alloc (.cells #[.int .i64 (hi a), .int .u64 (lo a)] 39)).alloc (.cells #[.int .i64 (hi 0), .int .u64 (lo 0)] 39) := by rw [z1, z2]
  have hA : Holds ((w.alloc (.cells #[.int .i64 (hi a), .int .u64 (lo a)] 39)).alloc (.cells #[.int .i64 0, .int .u64 0] 39)) w.heap.size a := (Holds.new w a 39).alloc _
  have hR : Holds ((w.alloc (.cells #[.int .i64 (hi a), .int .u64 (lo a)] 39)).alloc (.cells #[.int .i64 0, .int .u64 0] 39)) (w.heap.size + 1) 0 := by
    rw [hz]
    have := Holds.new (w.alloc (.cells #[.int .i64 (hi a), .int .u64 (lo a)] 39)) 0 39
    rw [World.size_alloc] at this
    exact this
  have hB : Below w.heap.size w ((w.alloc (.cells #[.int .i64 (hi a), .int .u64 (lo a)] 39)).alloc (.cells #[.int .i64 0, .int .u64 0] 39)) := by go_grown
  clear hz z1 z2
  have j0 : (0 : Int) ≤ (k : Int) := by omega
  have j1 : (k : Int) ≤ 126 := by omega
  have j2 : (k : Int) < 128 := by omega
  go_enter Try.func48, Try.ntmps48
  go_wp2_with fail
  refine (refDigits a _).mono ?_
  rintro e w1 ⟨g, cap, rfl, hown, hb1⟩
  have hc := (row_cell hown (Below.refl _ _)).2 k (by omega)
  obtain ⟨d, hd, d0, d1⟩ : ∃ d, Hid (bit a k = d) ∧ 0 ≤ d ∧ d ≤ 1 := ⟨_, rfl, bit_lo a k, bit_hi a k⟩
  rw [hd.out] at hc
  replace hA := hA.call hb1
  replace hR := hR.call hb1
  replace hB := below_then hB hb1
  have hx := hA
  obtain ⟨xl, x0, x1, x2, x3⟩ := hx
  clear hown hb1
  go_wp2_with fail
  refine (refRight a ha ((k : Int) + 1) (by unfold Half; omega) (k + 1) (by unfold places; omega) _).mono ?_
  rintro e w3 ⟨rfl, hb3⟩
  replace hR := hR.call hb3
  replace hB := below_then hB hb3
  clear hA hb3 xl x0 x1 x2 x3 hc
  go_wp2_with fail
  refine (refOf d (by unfold Half; omega) _).mono ?_
  rintro e w4 ⟨rfl, hb4⟩
  replace hR := hR.call hb4
  replace hB := below_then hB hb4
  clear hb4
  go_wp2_with fail
  refine (refAdd _ d _).mono ?_
  rintro e w5 ⟨rfl, hb5⟩
  replace hR := hR.call hb5
  replace hB := below_then hB hb5
  clear hb5
  obtain ⟨rl, r0, r1, r2, r3⟩ := hR
  go_wp2
  refine bodyPost_ret (by simp [results, Try.results48, go_sem, r0, r1]; try rfl) rfl ?_
  exact ⟨by rw [hd.out] <;> simp, below_put hB (show w.heap.size ≤ w.heap.size + 1 by omega) _⟩

set_option maxRecDepth 100000 in
set_option maxHeartbeats 1000000 in
theorem refNear_far (a : Int) (ha : Fits a) (n : Int) (h0 : 127 < n) (w : World) :
    Calls Try.prog 48 #[W a, .int .i64 n] w fun e w' => e = .returned (W (a / 2 ^ (126 + 1) + bit a 126)) ∧ Below w.heap.size w w' := by
  obtain ⟨z1, z2⟩ := zero_halves
  have hz : ((w.alloc (.cells #[.int .i64 (hi a), .int .u64 (lo a)] 39)).alloc (.cells #[.int .i64 0, .int .u64 0] 39)) = (w.alloc (.cells #[.int .i64 (hi a), .int .u64 (lo a)] 39)).alloc (.cells #[.int .i64 (hi 0), .int .u64 (lo 0)] 39) := by rw [z1, z2]
  have hA : Holds ((w.alloc (.cells #[.int .i64 (hi a), .int .u64 (lo a)] 39)).alloc (.cells #[.int .i64 0, .int .u64 0] 39)) w.heap.size a := (Holds.new w a 39).alloc _
  have hR : Holds ((w.alloc (.cells #[.int .i64 (hi a), .int .u64 (lo a)] 39)).alloc (.cells #[.int .i64 0, .int .u64 0] 39)) (w.heap.size + 1) 0 := by
    rw [hz]
    have := Holds.new (w.alloc (.cells #[.int .i64 (hi a), .int .u64 (lo a)] 39)) 0 39
    rw [World.size_alloc] at this
    exact this
  have hB : Below w.heap.size w ((w.alloc (.cells #[.int .i64 (hi a), .int .u64 (lo a)] 39)).alloc (.cells #[.int .i64 0, .int .u64 0] 39)) := by go_grown
  clear hz z1 z2
  go_enter Try.func48, Try.ntmps48
  go_wp2_with fail
  refine (refDigits a _).mono ?_
  rintro e w1 ⟨g, cap, rfl, hown, hb1⟩
  have hc := (row_cell hown (Below.refl _ _)).2 126 (by omega)
  obtain ⟨d, hd, d0, d1⟩ : ∃ d, Hid (bit a 126 = d) ∧ 0 ≤ d ∧ d ≤ 1 := ⟨_, rfl, bit_lo a 126, bit_hi a 126⟩
  rw [hd.out] at hc
  replace hA := hA.call hb1
  replace hR := hR.call hb1
  replace hB := below_then hB hb1
  have hx := hA
  obtain ⟨xl, x0, x1, x2, x3⟩ := hx
  clear hown hb1
  go_wp2_with fail
  refine (refRight a ha 127 (by unfold Half; omega) (126 + 1) (by unfold places; omega) _).mono ?_
  rintro e w3 ⟨rfl, hb3⟩
  replace hR := hR.call hb3
  replace hB := below_then hB hb3
  clear hA hb3 xl x0 x1 x2 x3 hc
  go_wp2_with fail
  refine (refOf d (by unfold Half; omega) _).mono ?_
  rintro e w4 ⟨rfl, hb4⟩
  replace hR := hR.call hb4
  replace hB := below_then hB hb4
  clear hb4
  go_wp2_with fail
  refine (refAdd _ d _).mono ?_
  rintro e w5 ⟨rfl, hb5⟩
  replace hR := hR.call hb5
  replace hB := below_then hB hb5
  clear hb5
  obtain ⟨rl, r0, r1, r2, r3⟩ := hR
  go_wp2
  refine bodyPost_ret (by simp [results, Try.results48, go_sem, r0, r1]; try rfl) rfl ?_
  exact ⟨by rw [hd.out] <;> simp, below_put hB (show w.heap.size ≤ w.heap.size + 1 by omega) _⟩

set_option maxRecDepth 100000 in
set_option maxHeartbeats 1000000 in
theorem refNear_low (a : Int) (n : Int) (h0 : n ≤ 0) (w : World) :
    Calls Try.prog 48 #[W a, .int .i64 n] w fun e w' => e = .returned (W a) ∧ Below w.heap.size w w' := by
  have h2 : n ≤ 127 := by omega
  go_enter Try.func48, Try.ntmps48
  go_wp2
  go_returns
  exact ⟨rfl, by go_grown⟩
theorem refNear (a n : Int) (ha : Fits a) (hn : Half n) (w : World) :
    Calls Try.prog 48 #[W a, .int .i64 n] w fun e w' => e = .returned (W (near a n)) ∧ Below w.heap.size w w' := by
  obtain ⟨n0, n1⟩ := hn
  rcases Int.lt_or_le 0 n with h | h
  · obtain ⟨k, hk⟩ : ∃ k : Nat, places n = (k : Int) + 1 := ⟨(places n).toNat - 1, by unfold places; omega⟩
    have e : near a n = a / 2 ^ (k + 1) + bit a k := by
      unfold near
      rw [if_neg (by omega), hk, show ((k : Int) + 1).toNat = k + 1 by omega, near_half a (k + 1) (by omega), show k + 1 - 1 = k by omega]
      rfl
    rw [e]
    by_cases hb : n ≤ 127
    · obtain rfl : n = (k : Int) + 1 := by unfold places at hk; omega
      exact refNear_in a ha k (by omega) w
    · obtain rfl : k = 126 := by unfold places at hk; omega
      exact refNear_far a ha n (by omega) w
  · have e : near a n = a := by unfold near; rw [if_pos h]
    rw [e]
    exact refNear_low a n h w


end Go.Proofs.Ytmedemniopgpeaa
