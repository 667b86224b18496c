/- What Sum of package fix answers. -/
import Derived.Test.YtbedmkingceepaaFixP
import Derived.Test.YtbedmkingceepaaRefE
namespace Go.Proofs.Ytbedmkingceepaa
open Go.RowKit
attribute [local go_sem] cell_re eqW_self
attribute [local go_sem ↓] run_eqlW run_neqW

set_option maxRecDepth 100000 in
set_option maxHeartbeats 1000000 in
theorem fixSum_some (f : Nat → Int) (hf : Hid (∀ j, Half (f j))) (n : Nat) (hn : n ≤ 60) (g off cap : Nat) (w : World) (hg : g < w.heap.size)
    (hc : Hid (∀ j, j < n → w.cell? ⟨g, off + j, none⟩ = some (.int .i64 (f j)))) :
    Calls Try.prog 24 #[.slice (some ⟨g, off, none⟩) n cap] w fun e w' => e = .returned (sat (total f n)) ∧ Below w.heap.size w w' := by
  obtain ⟨z1, z2⟩ := zero_halves
  have hz : w.alloc (.cells #[.int .i64 0, .int .u64 0] 40) = w.alloc (.cells #[.int .i64 (hi 0), .int .u64 (lo 0)] 40) := by rw [z1, z2]
  have hS0 : Holds (w.alloc (.cells #[.int .i64 0, .int .u64 0] 40)) w.heap.size 0 := by rw [hz]; exact Holds.new w 0 40
  have hB0 : Below w.heap.size w (w.alloc (.cells #[.int .i64 0, .int .u64 0] 40)) := by go_grown
  clear hz z1 z2
  go_enter Try.func24, Try.ntmps24
  go_wp2
  go_loopw [6, 9] (fun v6 v5 wr => ∃ k : Nat, k ≤ n ∧ v5 = .int .i64 k ∧ Holds wr w.heap.size (total f k) ∧ Below w.heap.size w wr) (fun _ v5 _ => n - (intOf v5).toNat)
  case atStart => exact ⟨0, by omega, rfl, hS0, hB0⟩
  case round =>
    clear hS0 hB0
    obtain ⟨k, hk, rfl, hS, hB⟩ := hrel
    by_cases hlt : k < n
    · have j0 : (0 : Int) ≤ (k : Int) := by omega
      have j1 : (k : Int) < (n : Int) := by omega
      have hcy := (hB.cell (p := ⟨g, off + k, none⟩) hg).trans (hc.out k hlt)
      have hfk := Lib.hid (hf.out k)
      obtain ⟨d, hd⟩ : ∃ d, Hid (f k = d) := ⟨_, rfl⟩
      obtain ⟨s, hs⟩ : ∃ s, Hid (total f k = s) := ⟨_, rfl⟩
      have hst : Hid (total f (k + 1) = s + d) := by show _ = _; rw [← hs.out, ← hd.out]; rfl
      rw [hd.out] at hcy hfk
      rw [hs.out] at hS
      have hss := hS
      obtain ⟨sl, s0, s1, s2, s3⟩ := hss
      go_wp2_with fail
      go_region_with (first
        | (go_at_call 36; refine (fixWiden d hfk.out _).mono ?_; rintro e w4 ⟨rfl, hb4⟩; have hS4 := hS.drew.call hb4; have hB4 := below_then hB.drew hb4; have hx := hS4; obtain ⟨tl, t0, t1, t2, t3⟩ := hx)
        | (go_at_call 35; refine (wideAdd s d _).mono ?_; rintro e w5 ⟨rfl, hb5⟩; have hS5 := hS4.call hb5; have hS6 := hS5.same (s + d); have hB6 := below_put (below_then hB4 hb5) (Nat.le_refl _) (s + d); obtain ⟨ul, u0, u1, u2, u3⟩ := hS5))
      all_goals
        clear hS hB hS4 hB4 hb4 hb5
        go_wp2
        go_roundw
        case rel => exact ⟨k + 1, by omega, by go_num, by rw [hst.out]; exact hS6, hB6⟩
        case measure => simp [intOf]; omega
    · have j1 : ¬ (k : Int) < (n : Int) := by omega
      obtain rfl : k = n := by omega
      have f1 := Lib.hid (total_fits f hf.out k hn)
      obtain ⟨s, hs⟩ : ∃ s, Hid (total f k = s) := ⟨_, rfl⟩
      rw [hs.out] at hS f1
      obtain ⟨sl, s0, s1, s2, s3⟩ := hS
      go_wp2_with fail
      refine (fixSat s f1.out _).mono ?_
      rintro e w6 ⟨rfl, hb6⟩
      go_wp2
      go_ret2
      exact ⟨by rw [hs.out]; rfl, below_then hB hb6⟩

set_option maxRecDepth 100000 in
set_option maxHeartbeats 1000000 in
theorem fixSum_empty (p : Option Addr) (cap : Nat) (w : World) :
    Calls Try.prog 24 #[.slice p 0 cap] w fun e w' => e = .returned (sat 0) ∧ Below w.heap.size w w' := by
  obtain ⟨z1, z2⟩ := zero_halves
  have hz : w.alloc (.cells #[.int .i64 0, .int .u64 0] 40) = w.alloc (.cells #[.int .i64 (hi 0), .int .u64 (lo 0)] 40) := by rw [z1, z2]
  have hS0 : Holds (w.alloc (.cells #[.int .i64 0, .int .u64 0] 40)) w.heap.size 0 := by rw [hz]; exact Holds.new w 0 40
  have hB0 : Below w.heap.size w (w.alloc (.cells #[.int .i64 0, .int .u64 0] 40)) := by go_grown
  clear hz z1 z2
  go_enter Try.func24, Try.ntmps24
  go_wp2
  go_loopw [6, 9] (fun v6 v5 wr => v5 = .int .i64 0 ∧ Holds wr w.heap.size 0 ∧ Below w.heap.size w wr) (fun _ _ _ => 0)
  case atStart => exact ⟨rfl, hS0, hB0⟩
  case round =>
    clear hS0 hB0
    obtain ⟨rfl, hS, hB⟩ := hrel
    have f1 := Lib.hid (show Fits 0 by unfold Fits; omega)
    obtain ⟨sl, s0, s1, s2, s3⟩ := hS
    go_wp2_with fail
    refine (fixSat 0 f1.out _).mono ?_
    rintro e w6 ⟨rfl, hb6⟩
    go_wp2
    go_ret2
    exact ⟨rfl, below_then hB hb6⟩
theorem fixSum (f : Nat → Int) (hf : ∀ j, Half (f j)) (n : Nat) (hn : n ≤ 60) (p : Option Addr) (cap : Nat) (w : World)
    (hc : n = 0 ∨ ∃ g off, p = some ⟨g, off, none⟩ ∧ g < w.heap.size ∧ ∀ j, j < n → w.cell? ⟨g, off + j, none⟩ = some (.int .i64 (f j))) :
    Calls Try.prog 24 #[.slice p n cap] w fun e w' => e = .returned (sat (total f n)) ∧ Below w.heap.size w w' := by
  rcases hc with rfl | ⟨g, off, rfl, hg, hc⟩
  · exact fixSum_empty p cap w
  · exact fixSum_some f hf n hn g off cap w hg hc

theorem total_two (a b : Int) : total (fun j => if j = 0 then a else b) 2 = a + b := by simp [total]
set_option maxRecDepth 100000 in
set_option maxHeartbeats 1000000 in
theorem fixAdd (a b : Int) (ha : Half a) (hb : Half b) (w : World) :
    Calls Try.prog 11 #[.int .i64 a, .int .i64 b] w fun e w' => e = .returned (sat (a + b)) ∧ Below w.heap.size w w' := by
  have hh : ∀ j : Nat, Half (if j = 0 then a else b) := fun j => by by_cases h : j = 0 <;> simp [h, ha, hb]
  have d1 := Lib.hid (fun W1 : World => fixSum (fun j => if j = 0 then a else b) hh 2 (by omega) (some ⟨w.heap.size, 0, none⟩) 2 W1)
  rw [total_two] at d1
  clear hh ha hb
  go_enter Try.func11, Try.ntmps11
  go_wp2_with fail
  refine (d1.out _ ?_).mono ?_
  · refine Or.inr ⟨_, _, rfl, by simp, fun j hj => ?_⟩
    obtain rfl | rfl : j = 0 ∨ j = 1 := by omega
    · simp [go_sem]
    · simp [go_sem]
  rintro e w1 ⟨rfl, hb1⟩
  go_wp2
  go_ret2
  exact ⟨rfl, below_then ((Below.refl _ _).alloc (Nat.le_refl _) _) hb1⟩

/-- One times One is One; the greatest number and a part more is cut; minus three. -/
theorem works (w : World) : Calls Try.prog 19 #[] w fun e w' => e = .returned (.bool true) ∧ Below w.heap.size w w' := by
  have e1 : sat (near (4294967296 * 4294967296) 32) = .tuple #[.int .i64 4294967296, .bool false] := sat_eq (by decide) (by decide)
  have e2 : sat (9223372036854775807 + 1) = .tuple #[.int .i64 9223372036854775807, .bool true] := sat_eq (by decide) (by decide)
  have e3 : sat (-3 * 4294967296) = .tuple #[.int .i64 (-12884901888), .bool false] := sat_eq (by decide) (by decide)
  have d1 := Lib.hid (fun W1 : World => fixMul 4294967296 4294967296 (by unfold Half; omega) (by unfold Half; omega) W1)
  have d2 := Lib.hid (fun W1 : World => fixAdd 9223372036854775807 1 (by unfold Half; omega) (by unfold Half; omega) W1)
  have d3 := Lib.hid (fun W1 : World => fixInt (-3) (by unfold Half; omega) W1)
  rw [e1] at d1
  rw [e2] at d2
  rw [e3] at d3
  clear e1 e2 e3
  have hB : Below w.heap.size w w := Below.refl _ _
  go_enter Try.func19, Try.ntmps19
  go_wp2_with fail
  refine (d1.out _).mono ?_
  rintro e w1 ⟨rfl, hb1⟩
  replace hB := below_then hB hb1
  clear hb1
  go_wp2_with fail
  refine (d2.out _).mono ?_
  rintro e w2 ⟨rfl, hb2⟩
  replace hB := below_then hB hb2
  clear hb2
  go_wp2_with fail
  refine (d3.out _).mono ?_
  rintro e w3 ⟨rfl, hb3⟩
  replace hB := below_then hB hb3
  clear hb3
  go_wp2
  go_ret
  exact ⟨rfl, hB⟩
end Go.Proofs.Ytbedmkingceepaa
