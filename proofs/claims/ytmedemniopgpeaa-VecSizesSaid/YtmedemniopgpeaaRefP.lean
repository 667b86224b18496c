/- Roots, in the document's answers. -/
import Derived.Test.YtmedemniopgpeaaRefE
import Derived.Test.YtmedemniopgpeaaRefF
import Derived.Test.YtmedemniopgpeaaRootMath
namespace Go.Proofs.Ytmedemniopgpeaa
open Go.RowKit
set_option linter.unusedVariables false
attribute [local go_sem] cell_re eqW_self
attribute [local go_sem ↓] run_eqlW run_neqW

set_option maxRecDepth 100000 in
set_option maxHeartbeats 2000000 in
theorem ref4Square (n : Int) (h0 : 0 ≤ n) (h1 : n ≤ 18446744073709551615) (w : World) : Calls Try.prog 33 #[.int .u64 n] w fun e w' => e = .returned (W (n * n)) ∧ Below w.heap.size w w' := by
  obtain ⟨z1, z2⟩ := zero_halves
  have n1 : hi n = 0 := by unfold hi; omega
  have n2 : lo n = n := by unfold lo; omega
  have hmod := Lib.hid (show n % 2 ^ 64 = n by rw [show (2 : Int) ^ 64 = 18446744073709551616 from rfl]; omega)
  have hR := Holds.new w 0 39
  have hS := Holds.new (w.alloc (.cells #[.int .i64 (hi 0), .int .u64 (lo 0)] 39)) 0 39
  have hX := Holds.new ((w.alloc (.cells #[.int .i64 (hi 0), .int .u64 (lo 0)] 39)).alloc (.cells #[.int .i64 (hi 0), .int .u64 (lo 0)] 39)) n 39
  replace hR := (hR.alloc (.cells #[.int .i64 (hi 0), .int .u64 (lo 0)] 39)).alloc (.cells #[.int .i64 (hi n), .int .u64 (lo n)] 39)
  replace hS := hS.alloc (.cells #[.int .i64 (hi n), .int .u64 (lo n)] 39)
  have hB : Below w.heap.size w (((w.alloc (.cells #[.int .i64 (hi 0), .int .u64 (lo 0)] 39)).alloc (.cells #[.int .i64 (hi 0), .int .u64 (lo 0)] 39)).alloc (.cells #[.int .i64 (hi n), .int .u64 (lo n)] 39)) := by go_grown
  have hD : Hid (∀ W1 : World, Calls Try.prog 46 #[.agg #[.int .i64 0, .int .u64 n]] W1 (Bits128 n W1)) := fun W1 => by
    have := refDigits n W1
    rw [W, n1, n2] at this
    exact this
  rw [World.size_alloc] at hS hX
  rw [World.size_alloc] at hX
  rw [n1, n2, z1, z2] at hX hR hS hB
  clear n1 n2 h0 h1
  go_enter Try.func33, Try.ntmps33
  go_wp2_with fail
  refine (hD.out _).mono ?_
  rintro e w3 ⟨g, cap, rfl, hown, hb3⟩
  have hg3 := hown.lt g rfl
  have hY := Ints.of_row hown
  have hlt := hX.lt
  replace hR := hR.call hb3
  replace hS := hS.call hb3
  replace hX := hX.call hb3
  replace hB := below_then hB hb3
  have hM0 : MulAt n n w (w.heap.size + 1 + 1) g 0 w3 :=
    ⟨by rw [show n * (n % 2 ^ 0) = 0 by simp]; exact hS, by rw [show n * 2 ^ 0 = n by simp]; exact hX, hR, hY, hB⟩
  have hgl : w.heap.size + 1 + 1 < g := by have := hg3.1; simp at this; omega
  have gR : g ≠ w.heap.size := by omega
  have gS : g ≠ w.heap.size + 1 := by omega
  have gX : g ≠ w.heap.size + 1 + 1 := by omega
  have rS : w.heap.size ≠ w.heap.size + 1 := by omega
  have rX : w.heap.size ≠ w.heap.size + 1 + 1 := by omega
  have sX : w.heap.size + 1 ≠ w.heap.size + 1 + 1 := by omega
  have hRX : w.heap.size ≤ w.heap.size + 1 + 1 := by omega
  clear hS hX hR hY hB hg3 hb3 hown hlt hgl z1 z2
  go_wp2
  go_loopw [6] (fun v6 wr => ∃ k : Nat, k ≤ 64 ∧ v6 = .int .i64 k ∧ MulAt n n w (w.heap.size + 1 + 1) g k wr) (fun v6 _ => 64 - (intOf v6).toNat)
  case atStart => exact ⟨0, by omega, rfl, hM0⟩
  case round =>
    clear hM0
    obtain ⟨k, hk, rfl, hM⟩ := hrel
    have hS := hM.sum
    have hX := hM.fac
    have hR := hM.res
    have hY := hM.ys
    have hB := hM.old
    clear hM
    by_cases hlt : k < 64
    · have j0 : (0 : Int) ≤ (k : Int) := by omega
      have j1 : (k : Int) < 64 := by omega
      have hcy := hY.at_ k (by omega)
      rw [Nat.zero_add] at hcy
      obtain ⟨d, hd, d01⟩ : ∃ d, Hid (bit n k = d) ∧ (d = 0 ∨ d = 1) := ⟨_, rfl, by have := bit_lo n k; have := bit_hi n k; omega⟩
      rw [hd.out] at hcy
      obtain ⟨s, hs⟩ : ∃ s, Hid (n * (n % 2 ^ k) = s) := ⟨_, rfl⟩
      obtain ⟨f, hf⟩ : ∃ f, Hid (n * 2 ^ k = f) := ⟨_, rfl⟩
      have hff : f + f = n * 2 ^ (k + 1) := by rw [← hf.out]; exact dbl n k
      have hff' := Lib.hid hff
      clear hff
      have hst : Hid (n * (n % 2 ^ (k + 1)) = s + d * f) := by show _ = s + d * f; rw [mul_step, hs.out, hd.out, hf.out]
      rw [hs.out] at hS
      rw [hf.out] at hX
      rcases d01 with rfl | rfl
      · have hxx := hX
        obtain ⟨xl, x0, x1, x2, x3⟩ := hxx
        go_wp2_with fail
        refine (refAdd f f _).mono ?_
        rintro e w6 ⟨rfl, hb6⟩
        have hX6 := hX.call hb6
        have hM6 : MulAt n n w (w.heap.size + 1 + 1) g (k + 1) (put w6 (w.heap.size + 1 + 1) (f + f)) :=
          ⟨by rw [hst.out, Int.zero_mul, Int.add_zero]; exact (hS.call hb6).other sX _, by rw [← hff'.out]; exact hX6.same _, (hR.call hb6).other rX _, (hY.call hb6).other gX _, below_put (below_then hB hb6) hRX _⟩
        obtain ⟨xl, x0, x1, x2, x3⟩ := hX6
        clear hb6 hS hX hR hY hB
        go_wp2
        go_roundw
        case rel => exact ⟨k + 1, by omega, by go_num, hM6⟩
        case measure => simp [intOf]; omega
      · have hss := hS
        have hxx := hX
        obtain ⟨sl, s0, s1, s2, s3⟩ := hss
        obtain ⟨xl, x0, x1, x2, x3⟩ := hxx
        go_wp2_with fail
        refine (refAdd s f _).mono ?_
        rintro e w4 ⟨rfl, hb4⟩
        replace hS := hS.call hb4
        replace hX := (hX.call hb4).other sX.symm (s + f)
        replace hR := (hR.call hb4).other rS (s + f)
        replace hY := (hY.call hb4).other gS (s + f)
        replace hB := below_put (below_then hB hb4) (show w.heap.size ≤ w.heap.size + 1 by omega) (s + f)
        have hS5 := hS.same (s + f)
        obtain ⟨sl, s0, s1, s2, s3⟩ := hS
        have hxx := hX
        obtain ⟨xl, x0, x1, x2, x3⟩ := hxx
        clear hb4
        go_wp2_with fail
        refine (refAdd f f _).mono ?_
        rintro e w6 ⟨rfl, hb6⟩
        have hX6 := hX.call hb6
        have hM6 : MulAt n n w (w.heap.size + 1 + 1) g (k + 1) (put w6 (w.heap.size + 1 + 1) (f + f)) :=
          ⟨by rw [hst.out, Int.one_mul]; exact (hS5.call hb6).other sX _, by rw [← hff'.out]; exact hX6.same _, (hR.call hb6).other rX _, (hY.call hb6).other gX _, below_put (below_then hB hb6) hRX _⟩
        obtain ⟨xl, x0, x1, x2, x3⟩ := hX6
        clear hb6 hS5 hX hR hY hB
        go_wp2
        go_roundw
        case rel => exact ⟨k + 1, by omega, by go_num, hM6⟩
        case measure => simp [intOf]; omega
    · have hk6 : Hid (k = 64) := by show k = 64; omega
      have j1 : ¬ (k : Int) < 64 := by omega
      rw [hk6.out, hmod.out] at hS
      obtain ⟨t, ht0⟩ : ∃ t, n * n = t := ⟨_, rfl⟩
      have ht := Lib.hid ht0
      clear ht0
      rw [ht.out] at hS
      obtain ⟨sl, s0, s1, s2, s3⟩ := hS
      obtain ⟨rl, r0, r1, r2, r3⟩ := hR
      go_wp2
      refine bodyPost_ret (by simp [results, Try.results33, go_sem, r0, r1]; try rfl) rfl ?_
      exact ⟨by rw [ht.out], below_put hB (Nat.le_refl _) _⟩

/-- What holds of both ends, of what lies between, in round k. -/
def Halves (a : Int) (k : Nat) (l h : Int) : Prop := 0 ≤ l ∧ l ≤ h ∧ h ≤ 13043817825332782212 ∧ l * l ≤ a ∧ a < (h + 1) * (h + 1) ∧ (h - l) * 2 ^ k < 18446744073709551616
theorem Halves.start {a : Int} (h0 : 0 ≤ a) (h1 : a < 170141183460469231731687303715884105728) : Halves a 0 0 13043817825332782212 :=
  ⟨by decide, by decide, by decide, by omega, by omega, by decide⟩
theorem Halves.lt {a l h : Int} {k : Nat} (H : Halves a k l h) (hlh : l < h) : k < 64 := by
  obtain ⟨-, -, -, -, -, h6⟩ := H
  rcases Nat.lt_or_ge k 64 with c | c
  · exact c
  · obtain ⟨j, rfl⟩ : ∃ j, k = 64 + j := ⟨k - 64, by omega⟩
    rw [Int.pow_add, show (2 : Int) ^ 64 = 18446744073709551616 from rfl] at h6
    have p := pow_pos' j
    have h1 := Int.mul_le_mul_of_nonneg_right (show (1 : Int) ≤ h - l by omega) (show 0 ≤ 18446744073709551616 * (2 : Int) ^ j by omega)
    omega
theorem Halves.half {d e : Int} {k : Nat} (h0 : 0 ≤ e) (h : 2 * e ≤ d) (hd : d * 2 ^ k < 18446744073709551616) : e * 2 ^ (k + 1) < 18446744073709551616 := by
  rw [Int.pow_succ, Int.mul_comm ((2 : Int) ^ k), ← Int.mul_assoc, Int.mul_comm e]
  have := Int.mul_le_mul_of_nonneg_right h (Int.le_of_lt (pow_pos' k))
  omega
theorem Halves.down {a l h m : Int} {k : Nat} (H : Halves a k l h) (hlh : l < h) (hm : l + (h - l) / 2 + (h - l) % 2 = m) (hc : a < m * m) : Halves a (k + 1) l (m - 1) := by
  obtain ⟨h1, h2, h3, h4, h5, h6⟩ := H
  exact ⟨h1, by omega, by omega, h4, by rw [Int.sub_add_cancel]; exact hc, Halves.half (by omega) (by omega) h6⟩
theorem Halves.up {a l h m : Int} {k : Nat} (H : Halves a k l h) (hlh : l < h) (hm : l + (h - l) / 2 + (h - l) % 2 = m) (hc : ¬ a < m * m) : Halves a (k + 1) m h := by
  obtain ⟨h1, h2, h3, h4, h5, h6⟩ := H
  exact ⟨by omega, by omega, h3, by omega, h5, Halves.half (by omega) (by omega) h6⟩
theorem Halves.done {a l h : Int} {k : Nat} (H : Halves a k l h) (hlh : ¬ l < h) (h0 : 0 ≤ a) (h1 : a < 170141183460469231731687303715884105728) : l = root a := by
  obtain ⟨k1, k2, k3, k4, k5, k6⟩ := H
  obtain rfl : l = h := by omega
  exact IsRoot.unique ⟨k1, k4, k5⟩ (isRoot_root h0 (by omega))
theorem mid_fits {m : Int} (h0 : 0 ≤ m) (h1 : m ≤ 13043817825332782212) : Fits (m * m) := by
  have := sq_le h0 h1
  have := sq_le (Int.le_refl 0) h0
  unfold Fits
  omega

set_option maxRecDepth 100000 in
set_option maxHeartbeats 2000000 in
theorem ref4Wide_neg (a : Int) (ha : Fits a) (h0 : a < 0) (w : World) : Calls Try.prog 35 #[W a] w fun e w' => e = .returned (.tuple #[.int .u64 0, .bool false]) ∧ Below w.heap.size w w' := by
  have h1 : hi a < 0 := by unfold Fits at ha; unfold hi; omega
  have h2 := hi_lo a
  go_enter Try.func35, Try.ntmps35
  go_wp2
  go_ret2
  exact ⟨rfl, by go_grown⟩
set_option maxRecDepth 100000 in
set_option maxHeartbeats 4000000 in
theorem ref4Wide_pos (a : Int) (ha : Fits a) (h0 : 0 ≤ a) (w : World) : Calls Try.prog 35 #[W a] w fun e w' => e = .returned (.tuple #[.int .u64 (root a), .bool true]) ∧ Below w.heap.size w w' := by
  have h1 : ¬ hi a < 0 := by unfold Fits at ha; unfold hi; omega
  have h2 := hi_lo a
  have h3 := hi_hi a
  have HA := Lib.hid ha
  have H0 := Lib.hid h0
  have hA := Holds.new w a 39
  have hB : Below w.heap.size w (w.alloc (.cells #[.int .i64 (hi a), .int .u64 (lo a)] 39)) := by go_grown
  have hH := Halves.start h0 ha.2
  clear ha h0
  go_enter Try.func35, Try.ntmps35
  go_wp2
  go_loopw [4, 5, 6] (fun vl vh vi wr => ∃ (k : Nat) (l h : Int), k ≤ 64 ∧ vi = .int .i64 k ∧ vl = .int .u64 l ∧ vh = .int .u64 h ∧ Halves a k l h ∧ Holds wr w.heap.size a ∧ Below w.heap.size w wr) (fun _ _ vi _ => 65 - (intOf vi).toNat)
  case atStart => exact ⟨0, 0, 13043817825332782212, Nat.zero_le _, rfl, rfl, rfl, hH, hA, hB⟩
  case round =>
    clear hH hA hB
    obtain ⟨k, l, h, hk, rfl, rfl, rfl, H, hA, hB⟩ := hrel
    obtain ⟨l0, l1, l2, -, -, -⟩ := (id H : Halves a k l h)
    by_cases hlt : l < h
    · have hk4 := H.lt hlt
      have j1 : (k : Int) < 65 := by omega
      have j3 : 0 ≤ (h - l) / 2 := by omega
      have j4 : 0 ≤ l + (h - l) / 2 := by omega
      have j5 : l + (h - l) / 2 ≤ 18446744073709551615 := by omega
      obtain ⟨m, hm⟩ : ∃ m, l + (h - l) / 2 + (h - l) % 2 = m := ⟨_, rfl⟩
      have m0 : 1 ≤ m := by omega
      have m1 : m ≤ 13043817825332782212 := by omega
      have d1 := Lib.hid (fun W1 : World => ref4Square m (by omega) (by omega) W1)
      have d2 := Lib.hid (fun W1 : World => refLess a (m * m) HA.out (mid_fits (by omega) m1) W1)
      have y1 := Lib.hid (fun hc => H.down hlt hm hc)
      have y2 := Lib.hid (fun hc => H.up hlt hm hc)
      obtain ⟨q, hq⟩ : ∃ q, Hid (m * m = q) := ⟨_, rfl⟩
      rw [hq.out] at d1 d2 y1 y2
      obtain ⟨c, hc⟩ : ∃ c, Hid (decide (a < q) = c) := ⟨_, rfl⟩
      rw [hc.out] at d2
      have hx := hA
      obtain ⟨al, a0, a1, a2, a3⟩ := hx
      clear H
      go_wp2_with fail
      refine wp_region_quiet_below (by kernel_rfl) (by kernel_rfl) ?_
      repeat (go_big_quiet_step (first | (go_at_call 33; exact Calls.regrown_of (d1.out _)) | (go_at_call 57; exact Calls.regrown_of (d2.out _))))
      refine wpQuiet_nil ?_
      intro wq hwq
      have hbq := below_of_re hwq
      clear hwq
      replace hA := hA.call hbq
      replace hB := below_then hB hbq
      have hm' := Lib.hid hm
      clear hbq hm a0 a1 a2 a3 al
      cases c
      · replace y2 := y2.out (Int.not_lt.mp (of_decide_eq_false hc.out))
        go_wp2
        go_roundw
        case rel => exact ⟨k + 1, m, h, by omega, by go_num, rfl, rfl, y2, hA, hB⟩
        case measure => simp [intOf]; omega
      · replace y1 := y1.out (of_decide_eq_true hc.out)
        go_wp2
        go_roundw
        case rel => exact ⟨k + 1, l, m - 1, by omega, by go_num, rfl, rfl, y1, hA, hB⟩
        case measure => simp [intOf]; omega
    · have hfin := Lib.hid (H.done hlt H0.out HA.out.2)
      have j1 : (k : Int) < 65 := by omega
      clear H
      go_wp2
      go_ret2
      exact ⟨by rw [hfin.out]; rfl, hB⟩

/-- The root of a wide number, in the document's answers, and whether there is one. -/
def root4Ok (a : Int) : Value := if a < 0 then .tuple #[.int .u64 0, .bool false] else .tuple #[.int .u64 (root a), .bool true]
theorem ref4Wide (a : Int) (ha : Fits a) (w : World) : Calls Try.prog 35 #[W a] w fun e w' => e = .returned (root4Ok a) ∧ Below w.heap.size w w' := by
  unfold root4Ok
  by_cases h : a < 0
  · rw [if_pos h]; exact ref4Wide_neg a ha h w
  · rw [if_neg h]; exact ref4Wide_pos a ha (by omega) w
/-- The root of a number with a point, in the document's answers. -/
def rootFix4 (a : Int) : Value := if a < 0 then .tuple #[.int .i64 0, .bool false] else .tuple #[.int .i64 (root (a * 4294967296)), .bool true]
end Go.Proofs.Ytmedemniopgpeaa
