/- What Left of the document's answers gives: a number times a power of 2, modulo 2^128. -/
import Derived.Test.YtmdmkofiddkikaaRefE
namespace Go.Proofs.Ytmdmkofiddkikaa
open Go.RowKit
attribute [local go_sem] cell_re eqW_self
attribute [local go_sem ↓] run_eqlW run_neqW

theorem W_far (a : Int) (n : Nat) (h : 128 ≤ n) : W (a * 2 ^ n) = W (a * 2 ^ 128) := by
  have e : a * 2 ^ n = 340282366920938463463374607431768211456 * (a * 2 ^ (n - 128)) := by
    rw [show (340282366920938463463374607431768211456 : Int) = 2 ^ 128 from rfl, ← Int.mul_assoc, Int.mul_comm (2 ^ 128) a, Int.mul_assoc, pow_split h]
  have h0 : ∀ t : Int, hi (340282366920938463463374607431768211456 * t) = 0 ∧ lo (340282366920938463463374607431768211456 * t) = 0 := fun t => by unfold hi lo; omega
  have e2 : a * 2 ^ 128 = 340282366920938463463374607431768211456 * a := by rw [show (2 : Int) ^ 128 = 340282366920938463463374607431768211456 from rfl, Int.mul_comm]
  rw [W, W, e, e2, (h0 _).1, (h0 _).2, (h0 _).1, (h0 _).2]

set_option maxRecDepth 100000 in
set_option maxHeartbeats 1000000 in
theorem refLeft_m (a n : Int) (m : Nat) (hm : m ≤ 128) (hn : n ≤ 9223372036854775807) (hn2 : -9223372036854775808 ≤ n) (hmn : (n ≤ 0 ∧ m = 0) ∨ (0 < n ∧ n ≤ 128 ∧ (m : Int) = n) ∨ (128 < n ∧ m = 128)) (w : World) :
    Calls Try.prog 17 #[W a, .int .i64 n] w fun e w' => e = .returned (W (a * 2 ^ m)) ∧ Below w.heap.size w w' := by
  obtain ⟨z1, z2⟩ := zero_halves
  have hz : ((w.alloc (.cells #[.int .i64 (hi a), .int .u64 (lo a)] 24)).alloc (.cells #[.int .i64 0, .int .u64 0] 24)) = (w.alloc (.cells #[.int .i64 (hi a), .int .u64 (lo a)] 24)).alloc (.cells #[.int .i64 (hi 0), .int .u64 (lo 0)] 24) := by rw [z1, z2]
  have hA : Holds ((w.alloc (.cells #[.int .i64 (hi a), .int .u64 (lo a)] 24)).alloc (.cells #[.int .i64 0, .int .u64 0] 24)) w.heap.size a := (Holds.new w a 24).alloc _
  have hR : Holds ((w.alloc (.cells #[.int .i64 (hi a), .int .u64 (lo a)] 24)).alloc (.cells #[.int .i64 0, .int .u64 0] 24)) (w.heap.size + 1) 0 := by
    rw [hz]
    have := Holds.new (w.alloc (.cells #[.int .i64 (hi a), .int .u64 (lo a)] 24)) 0 24
    rw [World.size_alloc] at this
    exact this
  have hB : Below w.heap.size w ((w.alloc (.cells #[.int .i64 (hi a), .int .u64 (lo a)] 24)).alloc (.cells #[.int .i64 0, .int .u64 0] 24)) := by go_grown
  have hA0 : Holds ((w.alloc (.cells #[.int .i64 (hi a), .int .u64 (lo a)] 24)).alloc (.cells #[.int .i64 0, .int .u64 0] 24)) w.heap.size (a * 2 ^ 0) := by rw [show a * 2 ^ 0 = a by simp]; exact hA
  have aR : w.heap.size ≠ w.heap.size + 1 := by omega
  clear hz z1 z2 hA
  have hmn' := Lib.hid hmn
  have hA0' := Lib.hid hA0
  have hR' := Lib.hid hR
  have hB' := Lib.hid hB
  clear hmn hA0 hR hB
  go_enter Try.func17, Try.ntmps17
  go_wp2
  go_loopw [5] (fun v5 wr => ∃ k : Nat, k ≤ m ∧ v5 = .int .i64 k ∧ Holds wr w.heap.size (a * 2 ^ k) ∧ Holds wr (w.heap.size + 1) 0 ∧ Below w.heap.size w wr) (fun v5 _ => 128 - (intOf v5).toNat)
  case atStart => exact ⟨0, Nat.zero_le _, rfl, hA0'.out, hR'.out, hB'.out⟩
  case round =>
    clear hA0' hR' hB'
    obtain ⟨k, hk, rfl, hA, hR, hB⟩ := hrel
    obtain ⟨f, hf⟩ : ∃ f, Hid (a * 2 ^ k = f) := ⟨_, rfl⟩
    rw [hf.out] at hA
    by_cases hlt : k < m
    · have hff : Hid (f + f = a * 2 ^ (k + 1)) := by show f + f = _; rw [← hf.out]; exact dbl a k
      have j0 : (0 : Int) ≤ (k : Int) := by omega
      have j1 : (k : Int) < 128 := by omega
      have hxx := hA
      obtain ⟨xl, x0, x1, x2, x3⟩ := hxx
      have hn0 : 0 < n := by have := hmn'.out; omega
      by_cases hbig : n ≤ 128
      · have j2 : (k : Int) < n := by have := hmn'.out; omega
        go_wp2_with fail
        refine (refAdd f f _).mono ?_
        rintro e w6 ⟨rfl, hb6⟩
        have hA6 := hA.call hb6
        have hA7 : Holds (put w6 w.heap.size (f + f)) w.heap.size (a * 2 ^ (k + 1)) := by rw [← hff.out]; exact hA6.same _
        have hR7 := (hR.call hb6).other aR.symm (f + f)
        have hB7 := below_put (below_then hB hb6) (Nat.le_refl _) (f + f)
        obtain ⟨xl, x0, x1, x2, x3⟩ := hA6
        clear hA hR hB hb6
        go_wp2
        go_roundw
        case rel => exact ⟨k + 1, by omega, by go_num, hA7, hR7, hB7⟩
        case measure => simp [intOf]; omega
      · have j3 : 128 < n := by omega
        go_wp2_with fail
        refine (refAdd f f _).mono ?_
        rintro e w6 ⟨rfl, hb6⟩
        have hA6 := hA.call hb6
        have hA7 : Holds (put w6 w.heap.size (f + f)) w.heap.size (a * 2 ^ (k + 1)) := by rw [← hff.out]; exact hA6.same _
        have hR7 := (hR.call hb6).other aR.symm (f + f)
        have hB7 := below_put (below_then hB hb6) (Nat.le_refl _) (f + f)
        obtain ⟨xl, x0, x1, x2, x3⟩ := hA6
        clear hA hR hB hb6
        go_wp2
        go_roundw
        case rel => exact ⟨k + 1, by omega, by go_num, hA7, hR7, hB7⟩
        case measure => simp [intOf]; omega
    · have hkm : Hid (k = m) := by show k = m; omega
      have e : f = a * 2 ^ m := by rw [← hf.out, hkm.out]
      rw [e] at hA
      clear e
      obtain ⟨xl, x0, x1, x2, x3⟩ := hA
      obtain ⟨rl, r0, r1, r2, r3⟩ := hR
      by_cases hbig : n ≤ 128
      · have j2 : ¬ (k : Int) < n := by have := hmn'.out; omega
        go_wp2
        refine bodyPost_ret (by simp [results, Try.results17, go_sem, r0, r1]; try rfl) rfl ?_
        exact ⟨rfl, below_put hB (show w.heap.size ≤ w.heap.size + 1 by omega) _⟩
      · have j3 : 128 < n := by omega
        have j4 : ¬ (k : Int) < 128 := by have := hmn'.out; omega
        go_wp2
        refine bodyPost_ret (by simp [results, Try.results17, go_sem, r0, r1]; try rfl) rfl ?_
        exact ⟨rfl, below_put hB (show w.heap.size ≤ w.heap.size + 1 by omega) _⟩

theorem refLeft (a n : Int) (hn : Half n) (w : World) : Calls Try.prog 17 #[W a, .int .i64 n] w fun e w' => e = .returned (W (a * 2 ^ n.toNat)) ∧ Below w.heap.size w w' := by
  obtain ⟨n0, n1⟩ := hn
  by_cases h : n ≤ 128
  · exact refLeft_m a n n.toNat (by omega) n1 n0 (by omega) w
  · rw [W_far a n.toNat (by omega)]
    exact refLeft_m a n 128 (by omega) n1 n0 (by omega) w

end Go.Proofs.Ytmdmkofiddkikaa
