import Derived.Test.YtodfcbpcgcgijaaGreatDoorJU
import Derived.Test.YtodfcbpcgcgijaaGreatDoorJK
import Derived.Test.YtodfcbpcgcgijaaGreatDoorJV
import Derived.Test.YtodfcbpcgcgijaaGreatDoorJM
import Derived.Test.YtodfcbpcgcgijaaGreatDoorJO
import Derived.Test.YtodfcbpcgcgijaaGreatDoorJP
import Derived.Deep.RegionHeld3
import Derived.Deep.DeepCutAuto
/- Package mat: Ortho. -/
namespace Go.Proofs.YtodfcbpcgcgijaaGreatDoor
set_option maxRecDepth 100000
open Go.RowKit
set_option linter.unusedVariables false
attribute [local go_sem] cell_re eqW_self eqV_self eqM_self
attribute [local go_sem ↓] run_eqlW run_neqW run_eqlV run_eqlM

attribute [local go_sem ↓] run_indexM0 run_indexM1 run_indexM2 run_indexV0 run_indexV1 run_indexV2
/-- What is left of q behind what of it lies along x: n is the dot product; whether anything saturated. -/
def woF (q x n : Int) : Int := clipped (q + -clipped (prod x n))
def woK (d e f x0 x1 x2 n : Int) (k : Bool) : Bool := (k || (cut (prod x0 n) || cut (prod x1 n) || cut (prod x2 n))) || (cut (d + -clipped (prod x0 n)) || cut (e + -clipped (prod x1 n)) || cut (f + -clipped (prod x2 n)))
def woN (d e f x0 x1 x2 : Int) : Int := clipped (dot d e f x0 x1 x2)
theorem orthoX_is (x0 x1 x2 d e f : Int) : orthoX x0 x1 x2 d e f = orthoY x0 x1 x2 (woF d x0 (woN d e f x0 x1 x2)) (woF e x1 (woN d e f x0 x1 x2)) (woF f x2 (woN d e f x0 x1 x2)) (woK d e f x0 x1 x2 (woN d e f x0 x1 x2) (cut (dot d e f x0 x1 x2))) := rfl
/-- An axis of a vector of length One is One at most. -/
theorem uax_bd {a b c v : Int} (ha : Half a) (hb : Half b) (hc : Half c) (hv : bare v ≤ len a b c) : -4294967296 ≤ uax a b c v ∧ uax a b c v ≤ 4294967296 := by
  unfold uax
  split
  · have h0 := len_lo ha hb hc
    generalize len a b c = L at *
    have hq : -4294967296 ≤ (v * 4294967296).tdiv L ∧ (v * 4294967296).tdiv L ≤ 4294967296 := by
      rcases Int.lt_or_eq_of_le h0 with h | h
      · have e := Int.mul_tdiv_add_tmod (v * 4294967296) L
        have m1 := Int.tmod_lt_of_pos (v * 4294967296) h
        have m2 := Int.lt_tmod_of_pos (v * 4294967296) h
        generalize (v * 4294967296).tdiv L = q at *
        generalize (v * 4294967296).tmod L = r at *
        have hv' : -L ≤ v ∧ v ≤ L := by unfold bare at hv; split at hv <;> omega
        constructor
        · rcases Int.lt_or_le q (-4294967296) with h' | h'
          · have : L * (q + 4294967297) ≤ L * 0 := Int.mul_le_mul_of_nonneg_left (by omega) h0
            rw [Int.mul_add] at this
            omega
          · exact h'
        · rcases Int.lt_or_le 4294967296 q with h' | h'
          · have : L * 4294967297 ≤ L * q := Int.mul_le_mul_of_nonneg_left (by omega) h0
            omega
          · exact h'
      · rw [← h, Int.tdiv_zero]; omega
    unfold clipped
    omega
  · omega
theorem prodOne_bd {x y : Int} (hx : -4294967296 ≤ x ∧ x ≤ 4294967296) (hy : -4294967296 ≤ y ∧ y ≤ 4294967296) : -4294967297 ≤ prod x y ∧ prod x y ≤ 4294967297 := by
  have h1 : -18446744073709551616 ≤ x * y ∧ x * y ≤ 18446744073709551616 := by
    have a1 : (4294967296 + x) * (4294967296 + y) ≥ 0 := Int.mul_nonneg (by omega) (by omega)
    have a2 : (4294967296 - x) * (4294967296 - y) ≥ 0 := Int.mul_nonneg (by omega) (by omega)
    have a3 : (4294967296 + x) * (4294967296 - y) ≥ 0 := Int.mul_nonneg (by omega) (by omega)
    have a4 : (4294967296 - x) * (4294967296 + y) ≥ 0 := Int.mul_nonneg (by omega) (by omega)
    simp only [Int.add_mul, Int.mul_add, Int.sub_mul, Int.mul_sub] at a1 a2 a3 a4
    generalize x * y = p at *
    omega
  unfold prod
  rw [near32]
  generalize x * y = p at *
  omega
theorem areaCut_no {a b : Int} (h1 : -4294967297 ≤ a ∧ a ≤ 4294967297) (h2 : -4294967297 ≤ b ∧ b ≤ 4294967297) : cut (a + -b) = false := by
  unfold cut; exact decide_eq_false (by omega)
theorem orthoZ_free {x0 x1 x2 y0 y1 y2 : Int} (hx0 : -4294967296 ≤ x0 ∧ x0 ≤ 4294967296) (hx1 : -4294967296 ≤ x1 ∧ x1 ≤ 4294967296) (hx2 : -4294967296 ≤ x2 ∧ x2 ≤ 4294967296) (hy0 : -4294967296 ≤ y0 ∧ y0 ≤ 4294967296) (hy1 : -4294967296 ≤ y1 ∧ y1 ≤ 4294967296) (hy2 : -4294967296 ≤ y2 ∧ y2 ≤ 4294967296) : orthoZ x0 x1 x2 y0 y1 y2 = .tuple #[M9 x0 x1 x2 y0 y1 y2 (clipped (prod x1 y2 + -prod x2 y1)) (clipped (prod x2 y0 + -prod x0 y2)) (clipped (prod x0 y1 + -prod x1 y0)), .bool true] := by
  unfold orthoZ
  rw [areaCut_no (prodOne_bd hx1 hy2) (prodOne_bd hx2 hy1), areaCut_no (prodOne_bd hx2 hy0) (prodOne_bd hx0 hy2), areaCut_no (prodOne_bd hx0 hy1) (prodOne_bd hx1 hy0)]
  rfl
set_option maxRecDepth 100000 in
set_option maxHeartbeats 8000000 in
theorem matWithout (d e f x0 x1 x2 : Int) (hd : Half d) (he : Half e) (hf : Half f) (hx0 : Half x0) (hx1 : Half x1) (hx2 : Half x2) (w : World) :
    Calls Tryz.prog 13 #[V d e f, V x0 x1 x2] w fun e' w' => e' = .returned (.tuple #[V (woF d x0 (woN d e f x0 x1 x2)) (woF e x1 (woN d e f x0 x1 x2)) (woF f x2 (woN d e f x0 x1 x2)), .bool (woK d e f x0 x1 x2 (woN d e f x0 x1 x2) (cut (dot d e f x0 x1 x2)))]) ∧ Below w.heap.size w w' := by
  have d1 := Lib.hid (fun W1 : World => vecDot d e f x0 x1 x2 hd he hf hx0 hx1 hx2 W1)
  unfold sat at d1
  have hn := half_clipped (dot d e f x0 x1 x2)
  unfold woK woF woN
  obtain ⟨n, hn_1⟩ : ∃ n, Hid ((clipped (dot d e f x0 x1 x2)) = n) := ⟨_, rfl⟩
  obtain ⟨k2, hk2⟩ : ∃ k2, Hid ((cut (dot d e f x0 x1 x2)) = k2) := ⟨_, rfl⟩
  rw [hn_1.out, hk2.out] at d1
  rw [hn_1.out, hk2.out]
  rw [hn_1.out] at hn
  clear hn_1 hk2
  have d2 := Lib.hid (fun W1 : World => vecScale x0 x1 x2 n hx0 hx1 hx2 hn W1)
  have he0 := half_clipped (prod x0 n)
  have he1 := half_clipped (prod x1 n)
  have he2 := half_clipped (prod x2 n)
  obtain ⟨e0, he0_1⟩ : ∃ e0, Hid ((clipped (prod x0 n)) = e0) := ⟨_, rfl⟩
  obtain ⟨e1, he1_1⟩ : ∃ e1, Hid ((clipped (prod x1 n)) = e1) := ⟨_, rfl⟩
  obtain ⟨e2, he2_1⟩ : ∃ e2, Hid ((clipped (prod x2 n)) = e2) := ⟨_, rfl⟩
  obtain ⟨k3, hk3⟩ : ∃ k3, Hid ((cut (prod x0 n) || cut (prod x1 n) || cut (prod x2 n)) = k3) := ⟨_, rfl⟩
  rw [he0_1.out, he1_1.out, he2_1.out, hk3.out] at d2
  rw [he0_1.out, he1_1.out, he2_1.out, hk3.out]
  rw [he0_1.out] at he0
  rw [he1_1.out] at he1
  rw [he2_1.out] at he2
  clear he0_1 he1_1 he2_1 hk3
  have d3 := Lib.hid (fun W1 : World => vecSub d e f e0 e1 e2 hd he hf he0 he1 he2 W1)
  obtain ⟨f0, hf0_1⟩ : ∃ f0, Hid ((clipped (d + -e0)) = f0) := ⟨_, rfl⟩
  obtain ⟨f1, hf1_1⟩ : ∃ f1, Hid ((clipped (e + -e1)) = f1) := ⟨_, rfl⟩
  obtain ⟨f2, hf2_1⟩ : ∃ f2, Hid ((clipped (f + -e2)) = f2) := ⟨_, rfl⟩
  obtain ⟨k4, hk4⟩ : ∃ k4, Hid ((cut (d + -e0) || cut (e + -e1) || cut (f + -e2)) = k4) := ⟨_, rfl⟩
  rw [hf0_1.out, hf1_1.out, hf2_1.out, hk4.out] at d3
  rw [hf0_1.out, hf1_1.out, hf2_1.out, hk4.out]
  clear hf0_1 hf1_1 hf2_1 hk4 he0 he1 he2 hn hd he hf hx0 hx1 hx2
  have hQ := ((Tri.new w d e f 24).alloc (.cells #[.int .i64 x0, .int .i64 x1, .int .i64 x2] 24)).alloc (.cells #[.int .i64 0, .int .i64 0, .int .i64 0] 24)
  have hX := (Tri.new (w.alloc (.cells #[.int .i64 d, .int .i64 e, .int .i64 f] 24)) x0 x1 x2 24).alloc (.cells #[.int .i64 0, .int .i64 0, .int .i64 0] 24)
  have hR := Tri.new ((w.alloc (.cells #[.int .i64 d, .int .i64 e, .int .i64 f] 24)).alloc (.cells #[.int .i64 x0, .int .i64 x1, .int .i64 x2] 24)) 0 0 0 24
  rw [World.size_alloc] at hX hR
  rw [World.size_alloc] at hR
  have hO : Below w.heap.size w (((w.alloc (.cells #[.int .i64 d, .int .i64 e, .int .i64 f] 24)).alloc (.cells #[.int .i64 x0, .int .i64 x1, .int .i64 x2] 24)).alloc (.cells #[.int .i64 0, .int .i64 0, .int .i64 0] 24)) := by go_grown
  have gO : w.heap.size ≤ w.heap.size + 1 + 1 := by omega
  cases k2
  all_goals
    cases k3
    all_goals
      go_enter Tryz.func13, Tryz.ntmps13
      obtain ⟨ql, q0, q1, q2, -, -, -⟩ := (id hQ : Tri _ _ d e f)
      obtain ⟨x'l, x'0, x'1, x'2, -, -, -⟩ := (id hX : Tri _ _ x0 x1 x2)
      go_wp2_with fail
      refine (d1.out _).mono ?_
      rintro e' w1 ⟨rfl, hb1⟩
      replace hQ := hQ.call hb1
      replace hX := hX.call hb1
      replace hR := hR.call hb1
      replace hO := below_then hO hb1
      clear hb1
      obtain ⟨x'l, x'0, x'1, x'2, -, -, -⟩ := (id hX : Tri _ _ x0 x1 x2)
      go_wp2_with fail
      refine (d2.out _).mono ?_
      rintro e' w2 ⟨rfl, hb1⟩
      replace hQ := hQ.call hb1
      replace hX := hX.call hb1
      replace hR := hR.call hb1
      replace hO := below_then hO hb1
      clear hb1
      have hE := Tri.new w2 e0 e1 e2 24
      replace hQ := hQ.alloc (.cells #[.int .i64 e0, .int .i64 e1, .int .i64 e2] 24)
      replace hR := hR.alloc (.cells #[.int .i64 e0, .int .i64 e1, .int .i64 e2] 24)
      replace hO := hO.alloc hO.size (.cells #[.int .i64 e0, .int .i64 e1, .int .i64 e2] 24)
      obtain ⟨ql, q0, q1, q2, -, -, -⟩ := (id hQ : Tri _ _ d e f)
      obtain ⟨e'l, e'0, e'1, e'2, -, -, -⟩ := (id hE : Tri _ _ e0 e1 e2)
      go_wp2_with fail
      refine (d3.out _).mono ?_
      rintro e' w3 ⟨rfl, hb1⟩
      replace hR := hR.call hb1
      replace hO := below_then hO hb1
      clear hb1
      have hF := Tri.new w3 f0 f1 f2 24
      replace hR := hR.alloc (.cells #[.int .i64 f0, .int .i64 f1, .int .i64 f2] 24)
      replace hO := hO.alloc hO.size (.cells #[.int .i64 f0, .int .i64 f1, .int .i64 f2] 24)
      obtain ⟨f'l, f'0, f'1, f'2, -, -, -⟩ := (id hF : Tri _ _ f0 f1 f2)
      obtain ⟨rl, r0, r1, r2, r3, r4, r5⟩ := hR
      go_wp2
      refine bodyPost_ret (by simp [results, Tryz.results13, go_sem, r0, r1, r2]; try rfl) rfl ?_
      exact ⟨rfl, below_putV hO gO _ _ _⟩

set_option maxRecDepth 100000 in
set_option maxHeartbeats 8000000 in
theorem matOrtho (a b c d e f g h i : Int) (ha : Half a) (hb : Half b) (hc : Half c) (hd : Half d) (he : Half e) (hf : Half f) (hg : Half g) (hh : Half h) (hi : Half i) (w : World) :
    Calls Tryz.prog 4 #[M9 a b c d e f g h i] w fun e' w' => e' = .returned (orthoOf a b c d e f) ∧ Below w.heap.size w w' := by
  have u1 := Lib.hid (fun W1 : World => vecUnit a b c ha hb hc W1)
  have s1 := Lib.hid (fun W1 : World => matSame W1)
  rw [unitOf_is] at u1
  have hx0 := uax_half a b c a
  have hx1 := uax_half a b c b
  have hx2 := uax_half a b c c
  obtain ⟨lx0, lx1, lx2⟩ := bare_le_len ha hb hc
  replace lx0 := uax_bd ha hb hc lx0
  replace lx1 := uax_bd ha hb hc lx1
  replace lx2 := uax_bd ha hb hc lx2
  have hA := (Nine.new w a b c d e f g h i 26).alloc (.cells #[.int .i64 0, .int .i64 0, .int .i64 0, .int .i64 0, .int .i64 0, .int .i64 0, .int .i64 0, .int .i64 0, .int .i64 0] 26)
  have hR := Nine.new (w.alloc (.cells #[.int .i64 a, .int .i64 b, .int .i64 c, .int .i64 d, .int .i64 e, .int .i64 f, .int .i64 g, .int .i64 h, .int .i64 i] 26)) 0 0 0 0 0 0 0 0 0 26
  rw [World.size_alloc] at hR
  have hO : Below w.heap.size w ((w.alloc (.cells #[.int .i64 a, .int .i64 b, .int .i64 c, .int .i64 d, .int .i64 e, .int .i64 f, .int .i64 g, .int .i64 h, .int .i64 i] 26)).alloc (.cells #[.int .i64 0, .int .i64 0, .int .i64 0, .int .i64 0, .int .i64 0, .int .i64 0, .int .i64 0, .int .i64 0, .int .i64 0] 26)) := by go_grown
  have gO : w.heap.size ≤ w.heap.size + 1 := by omega
  unfold orthoOf
  obtain ⟨x0, hx0_1⟩ : ∃ x0, Hid ((uax a b c a) = x0) := ⟨_, rfl⟩
  obtain ⟨x1, hx1_1⟩ : ∃ x1, Hid ((uax a b c b) = x1) := ⟨_, rfl⟩
  obtain ⟨x2, hx2_1⟩ : ∃ x2, Hid ((uax a b c c) = x2) := ⟨_, rfl⟩
  obtain ⟨k1, hk1⟩ : ∃ k1, Hid ((uok a b c) = k1) := ⟨_, rfl⟩
  rw [hx0_1.out, hx1_1.out, hx2_1.out, hk1.out] at u1
  rw [hx0_1.out, hx1_1.out, hx2_1.out, hk1.out]
  rw [hx0_1.out] at hx0 lx0
  rw [hx1_1.out] at hx1 lx1
  rw [hx2_1.out] at hx2 lx2
  clear hx0_1 hx1_1 hx2_1 hk1
  cases k1
  · rw [if_neg (by decide)]
    clear hx0 hx1 hx2 lx0 lx1 lx2 ha hb hc hd he hf hg hh hi
    go_enter Tryz.func4, Tryz.ntmps4
    obtain ⟨al, a0, a1, a2, a3, a4, a5, a6, a7, a8, -, -, -, -, -, -, -, -, -⟩ := (id hA : Nine _ _ a b c d e f g h i)
    go_wp2_with fail
    refine (u1.out _).mono ?_
    rintro e' w1 ⟨rfl, hb1⟩
    replace hA := hA.call hb1
    replace hR := hR.call hb1
    replace hO := below_then hO hb1
    clear hb1
    have hX := Tri.new w1 x0 x1 x2 24
    replace hA := hA.alloc (.cells #[.int .i64 x0, .int .i64 x1, .int .i64 x2] 24)
    replace hR := hR.alloc (.cells #[.int .i64 x0, .int .i64 x1, .int .i64 x2] 24)
    replace hO := hO.alloc hO.size (.cells #[.int .i64 x0, .int .i64 x1, .int .i64 x2] 24)
    go_wp2_with fail
    refine (s1.out _).mono ?_
    rintro e' w2 ⟨rfl, hb1⟩
    replace hA := hA.call hb1
    replace hR := hR.call hb1
    replace hO := below_then hO hb1
    clear hb1
    obtain ⟨rl, r0, r1, r2, r3, r4, r5, r6, r7, r8, r9, r10, r11, r12, r13, r14, r15, r16, r17⟩ := hR
    go_wp2
    refine bodyPost_ret (by simp [results, Tryz.results4, go_sem, r0, r1, r2, r3, r4, r5, r6, r7, r8]; try rfl) rfl ?_
    exact ⟨rfl, below_putM hO gO _ _ _ _ _ _ _ _ _⟩
  · rw [if_pos rfl, orthoX_is]
    have o1 := Lib.hid (fun W1 : World => matWithout d e f x0 x1 x2 hd he hf hx0 hx1 hx2 W1)
    obtain ⟨n, hn⟩ : ∃ n, woN d e f x0 x1 x2 = n := ⟨_, rfl⟩
    rw [hn] at o1 ⊢
    clear hn
    have hf0 : Half (woF d x0 n) := half_clipped _
    have hf1 : Half (woF e x1 n) := half_clipped _
    have hf2 : Half (woF f x2 n) := half_clipped _
    obtain ⟨f0, hf0_1⟩ : ∃ f0, Hid ((woF d x0 n) = f0) := ⟨_, rfl⟩
    obtain ⟨f1, hf1_1⟩ : ∃ f1, Hid ((woF e x1 n) = f1) := ⟨_, rfl⟩
    obtain ⟨f2, hf2_1⟩ : ∃ f2, Hid ((woF f x2 n) = f2) := ⟨_, rfl⟩
    obtain ⟨k4, hk4⟩ : ∃ k4, Hid ((woK d e f x0 x1 x2 n (cut (dot d e f x0 x1 x2))) = k4) := ⟨_, rfl⟩
    rw [hf0_1.out, hf1_1.out, hf2_1.out, hk4.out] at o1
    rw [hf0_1.out, hf1_1.out, hf2_1.out, hk4.out]
    rw [hf0_1.out] at hf0
    rw [hf1_1.out] at hf1
    rw [hf2_1.out] at hf2
    clear hf0_1 hf1_1 hf2_1 hk4
    have u2 := Lib.hid (fun W1 : World => vecUnit f0 f1 f2 hf0 hf1 hf2 W1)
    rw [unitOf_is] at u2
    have hy0 := uax_half f0 f1 f2 f0
    have hy1 := uax_half f0 f1 f2 f1
    have hy2 := uax_half f0 f1 f2 f2
    obtain ⟨ly0, ly1, ly2⟩ := bare_le_len hf0 hf1 hf2
    replace ly0 := uax_bd hf0 hf1 hf2 ly0
    replace ly1 := uax_bd hf0 hf1 hf2 ly1
    replace ly2 := uax_bd hf0 hf1 hf2 ly2
    unfold orthoY
    obtain ⟨y0, hy0_1⟩ : ∃ y0, Hid ((uax f0 f1 f2 f0) = y0) := ⟨_, rfl⟩
    obtain ⟨y1, hy1_1⟩ : ∃ y1, Hid ((uax f0 f1 f2 f1) = y1) := ⟨_, rfl⟩
    obtain ⟨y2, hy2_1⟩ : ∃ y2, Hid ((uax f0 f1 f2 f2) = y2) := ⟨_, rfl⟩
    obtain ⟨k5, hk5⟩ : ∃ k5, Hid ((uok f0 f1 f2) = k5) := ⟨_, rfl⟩
    rw [hy0_1.out, hy1_1.out, hy2_1.out, hk5.out] at u2
    rw [hy0_1.out, hy1_1.out, hy2_1.out, hk5.out]
    rw [hy0_1.out] at hy0 ly0
    rw [hy1_1.out] at hy1 ly1
    rw [hy2_1.out] at hy2 ly2
    clear hy0_1 hy1_1 hy2_1 hk5
    rw [orthoZ_free lx0 lx1 lx2 ly0 ly1 ly2]
    have d4 := Lib.hid (fun W1 : World => vecCross x0 x1 x2 y0 y1 y2 hx0 hx1 hx2 hy0 hy1 hy2 W1)
    obtain ⟨z0, hz0⟩ : ∃ z0, Hid ((clipped (prod x1 y2 + -prod x2 y1)) = z0) := ⟨_, rfl⟩
    obtain ⟨z1, hz1⟩ : ∃ z1, Hid ((clipped (prod x2 y0 + -prod x0 y2)) = z1) := ⟨_, rfl⟩
    obtain ⟨z2, hz2⟩ : ∃ z2, Hid ((clipped (prod x0 y1 + -prod x1 y0)) = z2) := ⟨_, rfl⟩
    obtain ⟨k6, hk6⟩ : ∃ k6, Hid ((cut (prod x1 y2 + -prod x2 y1) || cut (prod x2 y0 + -prod x0 y2) || cut (prod x0 y1 + -prod x1 y0)) = k6) := ⟨_, rfl⟩
    rw [hz0.out, hz1.out, hz2.out, hk6.out] at d4
    rw [hz0.out, hz1.out, hz2.out]
    clear hz0 hz1 hz2 hk6 hx0 hx1 hx2 hy0 hy1 hy2 hf0 hf1 hf2 lx0 lx1 lx2 ly0 ly1 ly2 ha hb hc hd he hf hg hh hi
    obtain ⟨R, hQ⟩ : ∃ R, Hid (((if (k4 || !k5) = true then .tuple #[M9 4294967296 0 0 0 4294967296 0 0 0 4294967296, .bool false] else .tuple #[M9 x0 x1 x2 y0 y1 y2 z0 z1 z2, .bool true]) : Value) = R) := ⟨_, rfl⟩
    rw [hQ.out]
    go_enter Tryz.func4, Tryz.ntmps4
    obtain ⟨al, a0, a1, a2, a3, a4, a5, a6, a7, a8, -, -, -, -, -, -, -, -, -⟩ := (id hA : Nine _ _ a b c d e f g h i)
    go_wp2_with fail
    refine (u1.out _).mono ?_
    rintro e' w1 ⟨rfl, hb1⟩
    replace hA := hA.call hb1
    replace hR := hR.call hb1
    replace hO := below_then hO hb1
    clear hb1
    have hX := Tri.new w1 x0 x1 x2 24
    replace hA := hA.alloc (.cells #[.int .i64 x0, .int .i64 x1, .int .i64 x2] 24)
    replace hR := hR.alloc (.cells #[.int .i64 x0, .int .i64 x1, .int .i64 x2] 24)
    replace hO := hO.alloc hO.size (.cells #[.int .i64 x0, .int .i64 x1, .int .i64 x2] 24)
    obtain ⟨al, a0, a1, a2, a3, a4, a5, a6, a7, a8, -, -, -, -, -, -, -, -, -⟩ := (id hA : Nine _ _ a b c d e f g h i)
    obtain ⟨x'l, x'0, x'1, x'2, -, -, -⟩ := (id hX : Tri _ _ x0 x1 x2)
    go_wp2_with fail
    refine (o1.out _).mono ?_
    rintro e' w2 ⟨rfl, hb1⟩
    replace hX := hX.call hb1
    replace hR := hR.call hb1
    replace hO := below_then hO hb1
    clear hb1
    have hF := Tri.new w2 f0 f1 f2 24
    replace hX := hX.alloc (.cells #[.int .i64 f0, .int .i64 f1, .int .i64 f2] 24)
    replace hR := hR.alloc (.cells #[.int .i64 f0, .int .i64 f1, .int .i64 f2] 24)
    replace hO := hO.alloc hO.size (.cells #[.int .i64 f0, .int .i64 f1, .int .i64 f2] 24)
    obtain ⟨f'l, f'0, f'1, f'2, -, -, -⟩ := (id hF : Tri _ _ f0 f1 f2)
    go_wp2_with fail
    refine (u2.out _).mono ?_
    rintro e' w3 ⟨rfl, hb1⟩
    replace hX := hX.call hb1
    replace hR := hR.call hb1
    replace hO := below_then hO hb1
    clear hb1
    have hY := Tri.new w3 y0 y1 y2 24
    replace hX := hX.alloc (.cells #[.int .i64 y0, .int .i64 y1, .int .i64 y2] 24)
    replace hR := hR.alloc (.cells #[.int .i64 y0, .int .i64 y1, .int .i64 y2] 24)
    replace hO := hO.alloc hO.size (.cells #[.int .i64 y0, .int .i64 y1, .int .i64 y2] 24)
    obtain ⟨x'l, x'0, x'1, x'2, -, -, -⟩ := (id hX : Tri _ _ x0 x1 x2)
    obtain ⟨y'l, y'0, y'1, y'2, -, -, -⟩ := (id hY : Tri _ _ y0 y1 y2)
    cases k4 <;> cases k5
    · skip
      go_wp2_with fail
      refine (s1.out _).mono ?_
      rintro e' w4 ⟨rfl, hb1⟩
      replace hR := hR.call hb1
      replace hO := below_then hO hb1
      clear hb1
      obtain ⟨rl, r0, r1, r2, r3, r4, r5, r6, r7, r8, r9, r10, r11, r12, r13, r14, r15, r16, r17⟩ := hR
      go_wp2
      refine bodyPost_ret (by simp [results, Tryz.results4, go_sem, r0, r1, r2, r3, r4, r5, r6, r7, r8]; try rfl) rfl ?_
      exact ⟨by rw [← hQ.out]; rfl, below_putM hO gO _ _ _ _ _ _ _ _ _⟩
    · skip
      go_wp2_with fail
      refine (d4.out _).mono ?_
      rintro e' w4 ⟨rfl, hb1⟩
      replace hX := hX.call hb1
      replace hY := hY.call hb1
      replace hR := hR.call hb1
      replace hO := below_then hO hb1
      clear hb1
      have hZ := Tri.new w4 z0 z1 z2 24
      replace hX := hX.alloc (.cells #[.int .i64 z0, .int .i64 z1, .int .i64 z2] 24)
      replace hY := hY.alloc (.cells #[.int .i64 z0, .int .i64 z1, .int .i64 z2] 24)
      replace hR := hR.alloc (.cells #[.int .i64 z0, .int .i64 z1, .int .i64 z2] 24)
      replace hO := hO.alloc hO.size (.cells #[.int .i64 z0, .int .i64 z1, .int .i64 z2] 24)
      obtain ⟨x'l, x'0, x'1, x'2, -, -, -⟩ := (id hX : Tri _ _ x0 x1 x2)
      obtain ⟨y'l, y'0, y'1, y'2, -, -, -⟩ := (id hY : Tri _ _ y0 y1 y2)
      obtain ⟨z'l, z'0, z'1, z'2, -, -, -⟩ := (id hZ : Tri _ _ z0 z1 z2)
      obtain ⟨rl, r0, r1, r2, r3, r4, r5, r6, r7, r8, r9, r10, r11, r12, r13, r14, r15, r16, r17⟩ := hR
      go_wp2
      refine bodyPost_ret (by simp [results, Tryz.results4, go_sem, r0, r1, r2, r3, r4, r5, r6, r7, r8]; try rfl) rfl ?_
      exact ⟨by rw [← hQ.out]; rfl, below_putM hO gO _ _ _ _ _ _ _ _ _⟩
    · skip
      go_wp2_with fail
      refine (s1.out _).mono ?_
      rintro e' w4 ⟨rfl, hb1⟩
      replace hR := hR.call hb1
      replace hO := below_then hO hb1
      clear hb1
      obtain ⟨rl, r0, r1, r2, r3, r4, r5, r6, r7, r8, r9, r10, r11, r12, r13, r14, r15, r16, r17⟩ := hR
      go_wp2
      refine bodyPost_ret (by simp [results, Tryz.results4, go_sem, r0, r1, r2, r3, r4, r5, r6, r7, r8]; try rfl) rfl ?_
      exact ⟨by rw [← hQ.out]; rfl, below_putM hO gO _ _ _ _ _ _ _ _ _⟩
    · skip
      go_wp2_with fail
      refine (s1.out _).mono ?_
      rintro e' w4 ⟨rfl, hb1⟩
      replace hR := hR.call hb1
      replace hO := below_then hO hb1
      clear hb1
      obtain ⟨rl, r0, r1, r2, r3, r4, r5, r6, r7, r8, r9, r10, r11, r12, r13, r14, r15, r16, r17⟩ := hR
      go_wp2
      refine bodyPost_ret (by simp [results, Tryz.results4, go_sem, r0, r1, r2, r3, r4, r5, r6, r7, r8]; try rfl) rfl ?_
      exact ⟨by rw [← hQ.out]; rfl, below_putM hO gO _ _ _ _ _ _ _ _ _⟩


end Go.Proofs.YtodfcbpcgcgijaaGreatDoor
