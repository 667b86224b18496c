/- What Mul, Near and Div of package wide answer, each for every number that its parameters can hold; of what was in memory nothing has turned. -/
import Derived.Test.YtmedemniopgpeaaWideB
import Derived.Test.YtmedemniopgpeaaDivMath
namespace Go.Proofs.Ytmedemniopgpeaa
open Go.RowKit
attribute [local go_sem] cell_re eqW_self
attribute [local go_sem ↓] run_eqlW run_neqW

set_option maxHeartbeats 400000 in
theorem wideMul (x y : Int) (hx : Half x) (hy : Half y) (w : World) :
    Calls Try.prog 31 #[.int .i64 x, .int .i64 y] w fun e w' => e = .returned (W (x * y)) ∧ Below w.heap.size w w' := by
  obtain ⟨hx0, hx1⟩ := hx
  obtain ⟨hy0, hy1⟩ := hy
  obtain ⟨X, wx, X0, X1, X2⟩ : ∃ X, IntKind.u64.wrap x = X ∧ 0 ≤ X ∧ X ≤ 18446744073709551615 ∧ ((0 ≤ x ∧ X = x) ∨ (x < 0 ∧ X = x + 18446744073709551616)) := ⟨_, rfl, by rw [IntKind.wrap_u64]; omega, by rw [IntKind.wrap_u64]; omega, by rw [IntKind.wrap_u64]; omega⟩
  obtain ⟨Y, wy, Y0, Y1, Y2⟩ : ∃ Y, IntKind.u64.wrap y = Y ∧ 0 ≤ Y ∧ Y ≤ 18446744073709551615 ∧ ((0 ≤ y ∧ Y = y) ∨ (y < 0 ∧ Y = y + 18446744073709551616)) := ⟨_, rfl, by rw [IntKind.wrap_u64]; omega, by rw [IntKind.wrap_u64]; omega, by rw [IntKind.wrap_u64]; omega⟩
  have X3 := Lib.hid X2
  have Y3 := Lib.hid Y2
  clear X2 Y2
  obtain ⟨p, r, hp, hr, p0, r0, r1⟩ : ∃ p r, X * Y / 18446744073709551616 = p ∧ X * Y % 18446744073709551616 = r ∧ 0 ≤ p ∧ 0 ≤ r ∧ r ≤ 18446744073709551615 := ⟨_, _, rfl, rfl, Int.ediv_nonneg (Int.mul_nonneg X0 Y0) (by decide), by omega, by omega⟩
  have hp3 := Lib.hid hp
  have hr3 := Lib.hid hr
  clear hp hr
  go_enter Try.func31, Try.ntmps31
  go_wp2_with ((go_at_call 51; refine (wideProduct _ _ p r X0 X1 Y0 Y1 hp3.out hr3.out _).mono ?_; rintro e w' ⟨rfl, rfl⟩))
  all_goals
    go_returns
    refine ⟨?_, by go_grown⟩
    have hp := hp3.out
    have hr := hr3.out
    have hm := mul_signs x y X Y X3.out Y3.out
    refine retW ?_ ?_
    · refine mul_hi hp hr hm ?_ ?_ ?_
      all_goals (try simp only [IntKind.wrap_u64])
      all_goals unfold wrap64
      all_goals (repeat' split)
      all_goals omega
    · exact mul_lo hr hm

set_option maxHeartbeats 400000 in
theorem wideSigned_yes (q : Int) (c : Bool) (h : c = true) (w : World) :
    Calls Try.prog 72 #[W q, .bool c] w fun e w' => e = .returned (W (-q)) ∧ Below w.heap.size w w' := by
  subst h
  have hhq := hi_lo q
  have hgq := hi_hi q
  have hlq := lo_lo q
  have hkq := lo_hi q
  go_enter Try.func72, Try.ntmps72
  go_wp2_with ((go_at_call 29; refine (wideNeg _ _).mono ?_; rintro e w' ⟨rfl, hb⟩; obtain ⟨hc, hf⟩ := bcell hb; have hz := hb.size; have ht := (Below.trans (by go_grown) (hb.mono (by simp; try omega)) : Below w.heap.size w w')))
  refine bodyPost_ret (by simp [results, Try.results72, go_sem, hc]; try rfl) rfl ?_
  exact ⟨rfl, by go_grown⟩

set_option maxHeartbeats 400000 in
theorem wideSigned_no (q : Int) (c : Bool) (h : c = false) (w : World) :
    Calls Try.prog 72 #[W q, .bool c] w fun e w' => e = .returned (W q) ∧ Below w.heap.size w w' := by
  subst h
  have hhq := hi_lo q
  have hgq := hi_hi q
  have hlq := lo_lo q
  have hkq := lo_hi q
  go_enter Try.func72, Try.ntmps72
  go_wp2
  go_returns
  exact ⟨rfl, by go_grown⟩

set_option maxRecDepth 100000 in
set_option maxHeartbeats 400000 in
theorem wideQuotient (A b U H Q R : Int) (hb0 : 1 ≤ b) (hb1 : b ≤ 9223372036854775808) (hU : U = H * 18446744073709551616 + lo A) (hH : IntKind.u64.wrap (hi A) = H) (hQ : U / b = Q) (hR : U % b = R) (w : World) :
    Calls Try.prog 71 #[W A, .int .u64 b] w fun e w' => e = .returned (.tuple #[W Q, .int .u64 R]) ∧ Below w.heap.size w w' := by
  subst hQ hR
  have hhA := hi_lo A
  have hgA := hi_hi A
  have hlA := lo_lo A
  have hkA := lo_hi A
  have H0 : 0 ≤ H ∧ H ≤ 18446744073709551615 := by rw [← hH, IntKind.wrap_u64]; omega
  obtain ⟨hH0, hH1⟩ := H0
  have hS : Hid (QInv U b 0 H (lo A) 0) := QInv.start hU hH0 hH1 (lo_lo A) (lo_hi A) hb0
  clear hU
  go_enter Try.func71, Try.ntmps71
  go_wp2
  go_region_held3 (fun w' => w'.cell? ⟨w.heap.size, 0, none⟩ = some (.int .i64 (hi A)) ∧ w'.cell? ⟨w.heap.size, 1, none⟩ = some (.int .u64 (lo A))) (go_keep) (fail)
  go_wp2
  go_loop [8, 6, 7, 14] (fun v8 v6 v7 v14 => ∃ (k : Nat) (h l r : Int), k ≤ 128 ∧ v14 = .int .i64 k ∧ v6 = .int .u64 h ∧ v7 = .int .u64 l ∧ v8 = .int .u64 r ∧ QInv U b k h l r) (fun _ _ _ v14 => 128 - (intOf v14).toNat)
  case atStart => exact ⟨0, H, lo A, 0, by omega, rfl, rfl, rfl, rfl, hS.out⟩
  case round =>
    obtain ⟨k, h, l, r, hk, rfl, rfl, rfl, rfl, hq⟩ := hrel
    obtain ⟨h0, h1, l0, l1, r0, r1⟩ := hq.bounds
    have hQ := Lib.hid hq
    clear hq
    by_cases hlt : k < 128
    · obtain ⟨t, et, t0, t1⟩ : ∃ t, h / 9223372036854775808 = t ∧ 0 ≤ t ∧ t ≤ 1 := ⟨_, rfl, by omega, by omega⟩
      obtain ⟨s, es, s0, s1⟩ : ∃ s, l / 9223372036854775808 = s ∧ 0 ≤ s ∧ s ≤ 1 := ⟨_, rfl, by omega, by omega⟩
      obtain ⟨R, eR, R0, R1⟩ : ∃ R, 2 * r + t = R ∧ 0 ≤ R ∧ R ≤ 18446744073709551615 := ⟨_, rfl, by omega, by omega⟩
      have o1 : bits .or .u64 (r * 2) t = R := by rw [← eR]; exact or_dbl r t r0 (by omega) t0 t1
      have hR := Lib.hid eR
      clear eR
      obtain ⟨G, eG, G0, G1⟩ : ∃ G, 2 * h % 18446744073709551616 + s = G ∧ 0 ≤ G ∧ G ≤ 18446744073709551615 := ⟨_, rfl, by omega, by omega⟩
      have o2 : bits .or .u64 (IntKind.u64.wrap (h * 2)) s = G := by rw [← eG]; exact or_dbl' h s s0 s1
      have hG := Lib.hid eG
      clear eG
      obtain ⟨L, eL, L0, L1⟩ : ∃ L, 2 * l % 18446744073709551616 = L ∧ 0 ≤ L ∧ L ≤ 18446744073709551614 := ⟨_, rfl, by omega, by omega⟩
      have o3 : IntKind.u64.wrap (l * 2) = L := by rw [← eL, IntKind.wrap_u64]; omega
      have hL := Lib.hid eL
      clear eL
      go_wp2
      · go_round
        case rel =>
          have hge : b ≤ R := by assumption
          refine ⟨k + 1, G, L + 1, R - b, by omega, by go_num, rfl, rfl, rfl, ?_⟩
          have := hQ.out.step hlt 1 (.inr rfl) (by rw [et]; have := hR.out; omega) (by rw [et]; have := hR.out; omega)
          rw [et, es, hG.out, hL.out, hR.out, Int.one_mul] at this
          exact this
        case measure => simp [intOf]; omega
      · go_round
        case rel =>
          have hge : R < b := by assumption
          refine ⟨k + 1, G, L, R, by omega, by go_num, rfl, rfl, rfl, ?_⟩
          have := hQ.out.step hlt 0 (.inl rfl) (by rw [et]; have := hR.out; omega) (by rw [et]; have := hR.out; omega)
          rw [et, es, hG.out, hL.out, hR.out, Int.zero_mul, Int.add_zero, Int.sub_zero] at this
          exact this
        case measure => simp [intOf]; omega
    · obtain rfl : k = 128 := by omega
      go_wp2
      obtain ⟨e1, e2⟩ := hQ.out.stop
      go_returns
      refine ⟨?_, by go_grown⟩
      rw [← e1, ← e2]
      have e3 : hi (h * 18446744073709551616 + l) = wrap64 h := by unfold hi wrap64; omega
      have e4 : lo (h * 18446744073709551616 + l) = l := by unfold lo; omega
      rw [W, e3, e4]

end Go.Proofs.Ytmedemniopgpeaa
