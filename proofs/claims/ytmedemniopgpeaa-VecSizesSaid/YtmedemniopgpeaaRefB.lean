/- What Number of the document's answers gives of 128 bits. -/
import Derived.Test.YtmedemniopgpeaaRefA
namespace Go.Proofs.Ytmedemniopgpeaa
open Go.RowKit
attribute [local go_sem] cell_re eqW_self
attribute [local go_sem ↓] run_eqlW run_neqW

theorem pow_lt {k n : Nat} (h : k < n) : (2 : Int) ^ k < 2 ^ n := by
  have h1 := pow_pos' k
  have h2 := pow_pos' (n - k - 1)
  have e : (2 : Int) ^ n = 2 ^ k * (2 * 2 ^ (n - k - 1)) := by
    rw [Int.mul_left_comm, ← Int.pow_add, Int.mul_comm, ← Int.pow_succ, show (k + (n - k - 1)).succ = n by omega]
  have := Int.mul_le_mul_of_nonneg_left (show (2 : Int) ≤ 2 * 2 ^ (n - k - 1) by omega) (Int.le_of_lt h1)
  omega
theorem pow_le {k n : Nat} (h : k ≤ n) : (2 : Int) ^ k ≤ 2 ^ n := by
  rcases Nat.lt_or_ge k n with h' | h'
  · exact Int.le_of_lt (pow_lt h')
  · rw [show k = n by omega]; exact Int.le_refl _

set_option maxRecDepth 100000 in
set_option maxHeartbeats 1000000 in
theorem refNumber (f : Nat → Int) (hf : Hid (∀ i, 0 ≤ f i ∧ f i ≤ 1)) (a : Int) (h : Hid (sumBits f 128 = a % 340282366920938463463374607431768211456)) (g off cap : Nat) (w : World)
    (hc : Hid (∀ j, j < 128 → w.cell? ⟨g, off + j, none⟩ = some (.int .i64 (f j)))) :
    Calls Try.prog 47 #[.slice (some ⟨g, off, none⟩) 128 cap] w fun e w' => e = .returned (W a) ∧ Below w.heap.size w w' := by
  go_enter Try.func47, Try.ntmps47
  go_wp2
  go_loop [3, 5, 6] (fun vs vp vi => ∃ (k i : Nat) (s p : Int), k ≤ 64 ∧ Hid (i = k) ∧ vi = .int .i64 i ∧ vs = .int .u64 s ∧ vp = .int .u64 p ∧ Hid (s = sumBits (f) k) ∧ Hid (p = 2 ^ k % 18446744073709551616))
    (fun _ _ vi => 64 - (intOf vi).toNat)
  case atStart => exact ⟨0, 0, 0, 1, by omega, rfl, rfl, rfl, rfl, rfl, rfl⟩
  case round =>
    obtain ⟨k, i, s, p, hk, hix, rfl, rfl, rfl, hs, hp⟩ := hrel
    have hs0 : 0 ≤ s := by rw [hs.out]; exact (sumBits_bd _ (fun i => hf.out _) k).1
    by_cases hlt : i < 64
    · have hlk : k < 64 := by have := hix.out; omega
      have hp' : Hid (p = 2 ^ k) := by
        show p = 2 ^ k
        rw [hp.out, Int.emod_eq_of_lt (Int.le_of_lt (pow_pos' k))]
        rw [show (18446744073709551616 : Int) = 2 ^ 64 from rfl]
        exact pow_lt hlk
      have p0 : 1 ≤ p := by have := pow_pos' k; rw [hp'.out]; omega
      have p1 : p ≤ 9223372036854775808 := by rw [hp'.out]; exact pow_le (n := 63) (by omega)
      have hs1 : s + p ≤ 18446744073709551615 := by
        have := (sumBits_bd (f) (fun i => hf.out _) k).2
        rw [← hs.out, ← hp'.out] at this
        omega
      obtain ⟨d, hd, d01⟩ : ∃ d, Hid (f k = d) ∧ (d = 0 ∨ d = 1) := ⟨_, rfl, by have := hf.out (k); omega⟩
      have hcell : (w.alloc (.cells #[.int .i64 0, .int .u64 0] 39)).cell? ⟨g, off + i, none⟩ = some (.int .i64 d) := by
        have h0 : w.cell? ⟨g, off + i, none⟩ = some (.int .i64 d) := by
          rw [hc.out i (by have := hix.out; omega), ← hd.out, hix.out]
        rw [World.cell?_alloc_lt _ _ _ (World.block_lt_of_cell? w _ h0)]
        exact h0
      have j0 : (0 : Int) ≤ (i : Int) := by omega
      have j1 : (i : Int) < 64 := by omega
      clear hlk
      rcases d01 with rfl | rfl
      · go_wp2
        go_round
        case rel =>
          refine ⟨k + 1, i + 1, s, _, by have := hix.out; omega, by have := hix.out; show i + 1 = _; omega, by go_num, rfl, rfl, ?_, ?_⟩
          · show s = _
            simp only [sumBits]
            rw [hd.out, hs.out, Int.zero_mul, Int.add_zero]
          · show IntKind.u64.wrap (2 * p) = _
            rw [IntKind.wrap_u64, hp'.out, Int.pow_succ, Int.mul_comm]
        case measure => simp [intOf]; omega
      · go_wp2
        go_round
        case rel =>
          refine ⟨k + 1, i + 1, s + p, _, by have := hix.out; omega, by have := hix.out; show i + 1 = _; omega, by go_num, rfl, rfl, ?_, ?_⟩
          · show s + p = _
            simp only [sumBits]
            rw [hd.out, hs.out, hp'.out, Int.one_mul]
          · show IntKind.u64.wrap (2 * p) = _
            rw [IntKind.wrap_u64, hp'.out, Int.pow_succ, Int.mul_comm]
        case measure => simp [intOf]; omega
    · have hk64 : Hid (k = 64) := by show k = 64; have := hix.out; omega
      have j2 : ¬ (i : Int) < 64 := by omega
      obtain ⟨L, hL, hL2, rfl⟩ : ∃ L, Hid (L = sumBits f 64) ∧ 0 ≤ L ∧ L = s := ⟨s, by show s = _; rw [hs.out, hk64.out], hs0, rfl⟩
      go_wp2
      go_loop [4, 5, 7] (fun vs vp vi => ∃ (k i : Nat) (s p : Int), k ≤ 64 ∧ Hid (i = 64 + k) ∧ vi = .int .i64 i ∧ vs = .int .u64 s ∧ vp = .int .u64 p ∧ Hid (s = sumBits (fun i => f (64 + i)) k) ∧ Hid (p = 2 ^ k % 18446744073709551616))
        (fun _ _ vi => 128 - (intOf vi).toNat)
      case atStart => exact ⟨0, 64, 0, 1, by omega, rfl, rfl, rfl, rfl, rfl, rfl⟩
      case round =>
        obtain ⟨k, i, s, p, hk, hix, rfl, rfl, rfl, hs, hp⟩ := hrel
        have hs0 : 0 ≤ s := by rw [hs.out]; exact (sumBits_bd _ (fun i => hf.out _) k).1
        by_cases hlt : i < 128
        · have hlk : k < 64 := by have := hix.out; omega
          have hp' : Hid (p = 2 ^ k) := by
            show p = 2 ^ k
            rw [hp.out, Int.emod_eq_of_lt (Int.le_of_lt (pow_pos' k))]
            rw [show (18446744073709551616 : Int) = 2 ^ 64 from rfl]
            exact pow_lt hlk
          have p0 : 1 ≤ p := by have := pow_pos' k; rw [hp'.out]; omega
          have p1 : p ≤ 9223372036854775808 := by rw [hp'.out]; exact pow_le (n := 63) (by omega)
          have hs1 : s + p ≤ 18446744073709551615 := by
            have := (sumBits_bd (fun i => f (64 + i)) (fun i => hf.out _) k).2
            rw [← hs.out, ← hp'.out] at this
            omega
          obtain ⟨d, hd, d01⟩ : ∃ d, Hid (f (64 + k) = d) ∧ (d = 0 ∨ d = 1) := ⟨_, rfl, by have := hf.out (64 + k); omega⟩
          have hcell : (w.alloc (.cells #[.int .i64 0, .int .u64 0] 39)).cell? ⟨g, off + i, none⟩ = some (.int .i64 d) := by
            have h0 : w.cell? ⟨g, off + i, none⟩ = some (.int .i64 d) := by
              rw [hc.out i (by have := hix.out; omega), ← hd.out, hix.out]
            rw [World.cell?_alloc_lt _ _ _ (World.block_lt_of_cell? w _ h0)]
            exact h0
          have j0 : (0 : Int) ≤ (i : Int) := by omega
          have j1 : (i : Int) < 128 := by omega
          clear hlk
          rcases d01 with rfl | rfl
          · go_wp2
            go_round
            case rel =>
              refine ⟨k + 1, i + 1, s, _, by have := hix.out; omega, by have := hix.out; show i + 1 = _; omega, by go_num, rfl, rfl, ?_, ?_⟩
              · show s = _
                simp only [sumBits]
                rw [hd.out, hs.out, Int.zero_mul, Int.add_zero]
              · show IntKind.u64.wrap (2 * p) = _
                rw [IntKind.wrap_u64, hp'.out, Int.pow_succ, Int.mul_comm]
            case measure => simp [intOf]; omega
          · go_wp2
            go_round
            case rel =>
              refine ⟨k + 1, i + 1, s + p, _, by have := hix.out; omega, by have := hix.out; show i + 1 = _; omega, by go_num, rfl, rfl, ?_, ?_⟩
              · show s + p = _
                simp only [sumBits]
                rw [hd.out, hs.out, hp'.out, Int.one_mul]
              · show IntKind.u64.wrap (2 * p) = _
                rw [IntKind.wrap_u64, hp'.out, Int.pow_succ, Int.mul_comm]
            case measure => simp [intOf]; omega
        · have hk64 : Hid (k = 64) := by show k = 64; have := hix.out; omega
          have j3 : ¬ (i : Int) < 128 := by omega
          have hL3 : L = lo a ∧ wrap64 s = hi a := by
            have := sum_parts f hf.out a h.out
            rw [hL.out, hs.out, hk64.out]
            exact ⟨this.2, this.1⟩
          go_wp2
          go_returns
          exact ⟨rfl, by go_grown⟩
end Go.Proofs.Ytmedemniopgpeaa
