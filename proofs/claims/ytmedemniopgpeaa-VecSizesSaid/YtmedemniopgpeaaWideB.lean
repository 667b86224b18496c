/- What Mul, Left, Right, Near and Div of package wide answer, each for every number that its parameters can hold; of what was in memory nothing has turned. -/
import Derived.Test.YtmedemniopgpeaaWide
import Derived.Test.YtmedemniopgpeaaBitsMath
import Derived.Deep.RegionHeld3
import Derived.Deep.DeepCutAuto
import Derived.Lib.Hide
namespace Go.Proofs.Ytmedemniopgpeaa
open Go.RowKit
attribute [local go_sem] cell_re eqW_self
attribute [local go_sem ↓] run_eqlW run_neqW

theorem left_far_hi' (a : Int) (n : Nat) (h : 64 ≤ n) : wrap64 (IntKind.u64.wrap (lo a * 2 ^ (min (n - 64) 64))) = hi (a * 2 ^ n) := by
  rw [← left_far_hi a n h, IntKind.wrap_i64]
  unfold wrap64
  omega
theorem quarter_in (a : Int) (k : Nat) (h0 : 0 < k) (h1 : k < 64) : IntKind.i64.wrap (lo a / 2 ^ (64 - k)) = lo a / 2 ^ (64 - k) := by
  have hr := pow_pos' (64 - k)
  have hs : (2 : Int) ^ (64 - k) = 2 * 2 ^ (63 - k) := by rw [Int.mul_comm, ← Int.pow_succ, show (63 - k).succ = 64 - k by omega]
  have hq := pow_pos' (63 - k)
  have h2 : lo a / 2 ^ (64 - k) ≤ lo a / 2 := by
    rw [hs, ← Int.ediv_ediv_of_nonneg (by decide)]
    exact Int.ediv_le_self _ (by have := lo_lo a; omega)
  have h3 : 0 ≤ lo a / 2 ^ (64 - k) := Int.ediv_nonneg (lo_lo a) (Int.le_of_lt hr)
  have h4 := lo_lt a
  rw [IntKind.wrap_i64]
  omega

set_option maxHeartbeats 400000 in
theorem wideProduct (x y p r : Int) (x0 : 0 ≤ x) (x1 : x ≤ 18446744073709551615) (y0 : 0 ≤ y) (y1 : y ≤ 18446744073709551615) (hp : x * y / 18446744073709551616 = p) (hr : x * y % 18446744073709551616 = r) (w : World) :
    Calls Try.prog 51 #[.int .u64 x, .int .u64 y] w fun e w' => e = .returned (.tuple #[.int .u64 p, .int .u64 r]) ∧ w = w' := by
  subst hp hr
  have m1 := and32 x x0 x1
  have m2 := and32 y y0 y1
  obtain ⟨ac, ad, bc, bd, e1, e2, e3, e4, ⟨l1, l2⟩, ⟨l3, l4⟩, ⟨l5, l6⟩, ⟨l7, l8⟩, exy⟩ := quarters x y x0 x1 y0 y1
  have m3 := and32 (ad + bd / 4294967296) (by omega) (by omega)
  have m4 := and32 bd (by omega) (by omega)
  have m5 : bits .or .u64 (IntKind.u64.wrap ((bc + (ad + bd / 4294967296) % 4294967296) * 4294967296)) (bd % 4294967296) = x * y % 18446744073709551616 := by
    rw [IntKind.wrap_u64, or_u64 32 _ _ (by omega) (by omega) (by rw [show (2 : Int) ^ 32 = 4294967296 from rfl]; omega) (by omega) (by omega) (by rw [show (2 : Int) ^ 32 = 4294967296 from rfl]; omega), exy]
    omega
  have m6 : ac + (ad + bd / 4294967296) / 4294967296 + (bc + (ad + bd / 4294967296) % 4294967296) / 4294967296 = x * y / 18446744073709551616 := by rw [exy]; omega
  have hexy := Lib.hid exy
  clear exy
  go_enter Try.func51, Try.ntmps51
  go_wp2
  go_ret2
  exact ⟨rfl, rfl⟩

set_option maxHeartbeats 400000 in
theorem wideLeft_mid (a : Int) (k : Nat) (k0 : 0 < k) (k1 : k < 64) (w : World) :
    Calls Try.prog 59 #[W a, .int .i64 (k : Int)] w fun e w' => e = .returned (W (a * 2 ^ k)) ∧ Below w.heap.size w w' := by
  have hha := hi_lo a
  have hga := hi_hi a
  have hla := lo_lo a
  have hka := lo_hi a
  have j0 : (0 : Int) < (k : Int) := by omega
  have j1 : (k : Int) < 64 := by omega
  have j2 : IntKind.i64.wrap (64 - (k : Int)) = 64 - (k : Int) := by rw [IntKind.wrap_i64]; omega
  have j3 : (0 : Int) ≤ 64 - (k : Int) := by omega
  have j4 : (64 - (k : Int)).toNat = 64 - k := by omega
  have j5 : min k 64 = k := by omega
  have j6 : min (64 - k) 64 = 64 - k := by omega
  have j7 : IntKind.i64.wrap (lo a / 2 ^ (64 - k)) = lo a / 2 ^ (64 - k) := quarter_in a k k0 k1
  go_enter Try.func59, Try.ntmps59
  go_wp2
  go_region_held3 (fun w' => w'.cell? ⟨w.heap.size, 0, none⟩ = some (.int .i64 (hi a)) ∧ w'.cell? ⟨w.heap.size, 1, none⟩ = some (.int .u64 (lo a))) (go_keep) (fail)
  go_wp2
  go_returns
  refine ⟨retW ?_ ?_, by go_grown⟩
  · exact left_hi a k k0 k1
  · exact left_lo a k

set_option maxHeartbeats 400000 in
theorem wideLeft_low (a n : Int) (n0 : n ≤ 0) (w : World) :
    Calls Try.prog 59 #[W a, .int .i64 n] w fun e w' => e = .returned (W a) ∧ Below w.heap.size w w' := by
  have hha := hi_lo a
  have hga := hi_hi a
  have hla := lo_lo a
  have hka := lo_hi a
  go_enter Try.func59, Try.ntmps59
  go_wp2
  go_returns
  exact ⟨rfl, by go_grown⟩

set_option maxHeartbeats 400000 in
theorem wideLeft_far (a : Int) (k : Nat) (k0 : 64 ≤ k) (k1 : k ≤ 9223372036854775807) (w : World) :
    Calls Try.prog 59 #[W a, .int .i64 (k : Int)] w fun e w' => e = .returned (W (a * 2 ^ k)) ∧ Below w.heap.size w w' := by
  have hha := hi_lo a
  have hga := hi_hi a
  have hla := lo_lo a
  have hka := lo_hi a
  have j0 : (64 : Int) ≤ (k : Int) := by omega
  have j1 : (k : Int) ≤ 9223372036854775807 := by omega
  have j2 : ¬ (k : Int) ≤ 0 := by omega
  go_enter Try.func59, Try.ntmps59
  go_wp2
  go_returns
  refine ⟨retW ?_ ?_, by go_grown⟩
  · exact (left_far_hi' a k k0)
  · exact (left_far_lo a k k0).symm

theorem wideLeft (a n : Int) (hn : Half n) (w : World) :
    Calls Try.prog 59 #[W a, .int .i64 n] w fun e w' => e = .returned (W (a * 2 ^ n.toNat)) ∧ Below w.heap.size w w' := by
  obtain ⟨n0, n1⟩ := hn
  rcases Int.lt_or_le 0 n with h | h
  · obtain ⟨k, rfl⟩ := Int.eq_ofNat_of_zero_le (Int.le_of_lt h)
    rw [Int.toNat_natCast]
    rcases Nat.lt_or_ge k 64 with hk | hk
    · exact wideLeft_mid a k (by omega) hk w
    · exact wideLeft_far a k hk (by omega) w
  · have h0 : n.toNat = 0 := by omega
    rw [h0, Int.pow_zero, Int.mul_one]
    exact wideLeft_low a n h w

set_option maxHeartbeats 400000 in
theorem wideRight_low (a : Int) (ha : Fits a) (n : Int) (hn : Half n) (k : Nat) (pn : places n = (k : Int)) (k1 : k < 64) (w : World) :
    Calls Try.prog 67 #[W a, .int .i64 n] w fun e w' => e = .returned (W (a / 2 ^ k)) ∧ Below w.heap.size w w' := by
  have hha := hi_lo a
  have hga := hi_hi a
  have hla := lo_lo a
  have hka := lo_hi a
  have j0 : (0 : Int) ≤ (k : Int) := by omega
  have j1 : (k : Int) < 64 := by omega
  have j2 : IntKind.i64.wrap (64 - (k : Int)) = 64 - (k : Int) := by rw [IntKind.wrap_i64]; omega
  have j3 : (0 : Int) ≤ 64 - (k : Int) := by omega
  have j4 : (64 - (k : Int)).toNat = 64 - k := by omega
  have j5 : min k 64 = k := by omega
  have j6 : min (64 - k) 64 = 64 - k := by omega
  go_enter Try.func67, Try.ntmps67
  go_wp2_with ((go_at_call 66; refine (widePlaces _ _ hn pn _).mono ?_; rintro e w' ⟨rfl, rfl⟩))
  go_region_held3 (fun w' => w'.cell? ⟨w.heap.size, 0, none⟩ = some (.int .i64 (hi a)) ∧ w'.cell? ⟨w.heap.size, 1, none⟩ = some (.int .u64 (lo a))) (go_keep) (fail)
  go_wp2
  go_returns
  refine ⟨retW ?_ ?_, by go_grown⟩
  · exact right_low_hi a ha k k1
  · exact right_low_lo a ha k k1

set_option maxHeartbeats 400000 in
theorem wideRight_far (a : Int) (ha : Fits a) (n : Int) (hn : Half n) (k : Nat) (pn : places n = (k : Int)) (k0 : 64 ≤ k) (k1 : k ≤ 127) (w : World) :
    Calls Try.prog 67 #[W a, .int .i64 n] w fun e w' => e = .returned (W (a / 2 ^ k)) ∧ Below w.heap.size w w' := by
  have hha := hi_lo a
  have hga := hi_hi a
  have hla := lo_lo a
  have hka := lo_hi a
  have j0 : (64 : Int) ≤ (k : Int) := by omega
  have j1 : (k : Int) ≤ 127 := by omega
  have j2 : IntKind.i64.wrap ((k : Int) - 64) = (k : Int) - 64 := by rw [IntKind.wrap_i64]; omega
  have j3 : (0 : Int) ≤ (k : Int) - 64 := by omega
  have j4 : ((k : Int) - 64).toNat = k - 64 := by omega
  have j5 : min (k - 64) 64 = k - 64 := by omega
  go_enter Try.func67, Try.ntmps67
  go_wp2_with ((go_at_call 66; refine (widePlaces _ _ hn pn _).mono ?_; rintro e w' ⟨rfl, rfl⟩))
  go_region_held3 (fun w' => w'.cell? ⟨w.heap.size, 0, none⟩ = some (.int .i64 (hi a)) ∧ w'.cell? ⟨w.heap.size, 1, none⟩ = some (.int .u64 (lo a))) (go_keep) (fail)
  go_wp2
  go_returns
  refine ⟨retW ?_ ?_, by go_grown⟩
  · exact right_far_hi a ha k k0
  · exact right_far_lo a ha k k0

theorem wideRight (a : Int) (ha : Fits a) (n : Int) (hn : Half n) (k : Nat) (pn : places n = (k : Int)) (w : World) :
    Calls Try.prog 67 #[W a, .int .i64 n] w fun e w' => e = .returned (W (a / 2 ^ k)) ∧ Below w.heap.size w w' := by
  have h : k ≤ 127 := by unfold places at pn; omega
  rcases Nat.lt_or_ge k 64 with hk | hk
  · exact wideRight_low a ha n hn k pn hk w
  · exact wideRight_far a ha n hn k pn hk h w

end Go.Proofs.Ytmedemniopgpeaa
