import Derived.Test.YtodfcbpcgcgijaaGreatDoorJS
import Derived.Test.YtodfcbpcgcgijaaGreatDoorJR
import Derived.Test.YtodfcbpcgcgijaaGreatDoorJQ
import Derived.Deep.RegionHeld3
import Derived.Deep.DeepCutAuto
import Derived.Test.YtodfcbpcgcgijaaGreatDoorJT
import Derived.Test.YtodfcbpcgcgijaaGreatDoorJA
/- Matrices, in the document's answers: rows made upright. -/
namespace Go.Proofs.YtodfcbpcgcgijaaGreatDoor
set_option maxRecDepth 100000
open Go.RowKit
set_option linter.unusedVariables false
attribute [local go_sem] cell_re eqW_self eqV_self eqM_self
attribute [local go_sem ↓] run_eqlW run_neqW run_eqlV run_eqlM

/-- Whether there is a vector over its length, and its axis that was v. -/
def uok (a b c : Int) : Bool := !(decide (9223372036854775807 < len a b c ∨ len a b c = 0))
def uax (a b c v : Int) : Int := if uok a b c = true then clipped ((v * 4294967296).tdiv (len a b c)) else 0
theorem unitOf_is (a b c : Int) : unitOf a b c = .tuple #[V (uax a b c a) (uax a b c b) (uax a b c c), .bool (uok a b c)] := by
  unfold unitOf uax uok
  by_cases h : 9223372036854775807 < len a b c ∨ len a b c = 0
  · rw [if_pos h, decide_eq_true h]; rfl
  · rw [if_neg h, decide_eq_false h]; rfl
theorem uax_half (a b c v : Int) : Half (uax a b c v) := by
  unfold uax
  split
  · exact half_clipped _
  · unfold Half; omega
/-- Rows made upright: the third one; the second one and the third one; all three. -/
def orthoZ (x0 x1 x2 y0 y1 y2 : Int) : Value := if (cut (prod x1 y2 + -prod x2 y1) || cut (prod x2 y0 + -prod x0 y2) || cut (prod x0 y1 + -prod x1 y0)) = true then .tuple #[M9 4294967296 0 0 0 4294967296 0 0 0 4294967296, .bool false] else .tuple #[M9 x0 x1 x2 y0 y1 y2 (clipped (prod x1 y2 + -prod x2 y1)) (clipped (prod x2 y0 + -prod x0 y2)) (clipped (prod x0 y1 + -prod x1 y0)), .bool true]
def orthoY (x0 x1 x2 f0 f1 f2 : Int) (told : Bool) : Value := if (told || !uok f0 f1 f2) = true then .tuple #[M9 4294967296 0 0 0 4294967296 0 0 0 4294967296, .bool false] else orthoZ x0 x1 x2 (uax f0 f1 f2 f0) (uax f0 f1 f2 f1) (uax f0 f1 f2 f2)
def orthoF (x0 x1 x2 q0 q1 q2 e0 e1 e2 : Int) (told : Bool) : Value := orthoY x0 x1 x2 (clipped (q0 + -e0)) (clipped (q1 + -e1)) (clipped (q2 + -e2)) (told || (cut (q0 + -e0) || cut (q1 + -e1) || cut (q2 + -e2)))
def orthoE (x0 x1 x2 q0 q1 q2 d : Int) (told : Bool) : Value := orthoF x0 x1 x2 q0 q1 q2 (clipped (prod x0 d)) (clipped (prod x1 d)) (clipped (prod x2 d)) (told || (cut (prod x0 d) || cut (prod x1 d) || cut (prod x2 d)))
def orthoX (x0 x1 x2 q0 q1 q2 : Int) : Value := orthoE x0 x1 x2 q0 q1 q2 (clipped (dot q0 q1 q2 x0 x1 x2)) (cut (dot q0 q1 q2 x0 x1 x2))
def orthoOf (p0 p1 p2 q0 q1 q2 : Int) : Value := if uok p0 p1 p2 = true then orthoX (uax p0 p1 p2 p0) (uax p0 p1 p2 p1) (uax p0 p1 p2 p2) q0 q1 q2 else .tuple #[M9 4294967296 0 0 0 4294967296 0 0 0 4294967296, .bool false]
set_option maxRecDepth 100000 in
set_option maxHeartbeats 8000000 in
theorem ref7Ortho (a b c d e f g h i : Int) (ha : Half a) (hb : Half b) (hc : Half c) (hd : Half d) (he : Half e) (hf : Half f) (hg : Half g) (hh : Half h) (hi : Half i) (w : World) :
    Calls Tryz.prog 5 #[M9 a b c d e f g h i] w fun e' w' => e' = .returned (orthoOf a b c d e f) ∧ Below w.heap.size w w' := by
  have u1 := Lib.hid (fun W1 : World => ref6Unit a b c ha hb hc W1)
  have s1 := Lib.hid (fun W1 : World => ref7Same W1)
  rw [unitOf_is] at u1
  have hx0 := uax_half a b c a
  have hx1 := uax_half a b c b
  have hx2 := uax_half a b c c
  have hA := (Nine.new w a b c d e f g h i 26).alloc (.cells #[.int .i64 0, .int .i64 0, .int .i64 0, .int .i64 0, .int .i64 0, .int .i64 0, .int .i64 0, .int .i64 0, .int .i64 0] 26)
  have hR := Nine.new (w.alloc (.cells #[.int .i64 a, .int .i64 b, .int .i64 c, .int .i64 d, .int .i64 e, .int .i64 f, .int .i64 g, .int .i64 h, .int .i64 i] 26)) 0 0 0 0 0 0 0 0 0 26
  rw [World.size_alloc] at hR
  have hO : Below w.heap.size w ((w.alloc (.cells #[.int .i64 a, .int .i64 b, .int .i64 c, .int .i64 d, .int .i64 e, .int .i64 f, .int .i64 g, .int .i64 h, .int .i64 i] 26)).alloc (.cells #[.int .i64 0, .int .i64 0, .int .i64 0, .int .i64 0, .int .i64 0, .int .i64 0, .int .i64 0, .int .i64 0, .int .i64 0] 26)) := by go_grown
  have gO : w.heap.size ≤ w.heap.size + 1 := by omega
  unfold orthoOf orthoX
  obtain ⟨x0, hx0_1⟩ : ∃ x0, Hid ((uax a b c a) = x0) := ⟨_, rfl⟩
  obtain ⟨x1, hx1_1⟩ : ∃ x1, Hid ((uax a b c b) = x1) := ⟨_, rfl⟩
  obtain ⟨x2, hx2_1⟩ : ∃ x2, Hid ((uax a b c c) = x2) := ⟨_, rfl⟩
  obtain ⟨k1, hk1⟩ : ∃ k1, Hid ((uok a b c) = k1) := ⟨_, rfl⟩
  rw [hx0_1.out, hx1_1.out, hx2_1.out, hk1.out] at u1
  rw [hx0_1.out, hx1_1.out, hx2_1.out, hk1.out]
  rw [hx0_1.out] at hx0
  rw [hx1_1.out] at hx1
  rw [hx2_1.out] at hx2
  clear hx0_1 hx1_1 hx2_1 hk1
  cases k1
  · rw [if_neg (by decide)]
    clear hx0 hx1 hx2 ha hb hc hd he hf hg hh hi
    go_enter Tryz.func5, Tryz.ntmps5
    obtain ⟨al, a0, a1, a2, a3, a4, a5, a6, a7, a8, -, -, -, -, -, -, -, -, -⟩ := (id hA : Nine _ _ a b c d e f g h i)
    go_wp2_with fail
    refine (u1.out _).mono ?_
    rintro e' w1 ⟨rfl, hb1⟩
    replace hA := hA.call hb1
    replace hR := hR.call hb1
    replace hO := below_then hO hb1
    clear hb1
    have hX := Tri.new w1 x0 x1 x2 24
    replace hA := hA.alloc (.cells #[.int .i64 x0, .int .i64 x1, .int .i64 x2] 24)
    replace hR := hR.alloc (.cells #[.int .i64 x0, .int .i64 x1, .int .i64 x2] 24)
    replace hO := hO.alloc hO.size (.cells #[.int .i64 x0, .int .i64 x1, .int .i64 x2] 24)
    go_wp2_with fail
    refine (s1.out _).mono ?_
    rintro e' w2 ⟨rfl, hb1⟩
    replace hA := hA.call hb1
    replace hR := hR.call hb1
    replace hO := below_then hO hb1
    clear hb1
    obtain ⟨rl, r0, r1, r2, r3, r4, r5, r6, r7, r8, r9, r10, r11, r12, r13, r14, r15, r16, r17⟩ := hR
    go_wp2
    refine bodyPost_ret (by simp [results, Tryz.results5, go_sem, r0, r1, r2, r3, r4, r5, r6, r7, r8]; try rfl) rfl ?_
    exact ⟨rfl, below_putM hO gO _ _ _ _ _ _ _ _ _⟩
  · rw [if_pos rfl]
    have d1 := Lib.hid (fun W1 : World => ref6Dot d e f x0 x1 x2 hd he hf hx0 hx1 hx2 W1)
    unfold sat at d1
    have hn := half_clipped (dot d e f x0 x1 x2)
    unfold orthoE
    obtain ⟨n, hn_1⟩ : ∃ n, Hid ((clipped (dot d e f x0 x1 x2)) = n) := ⟨_, rfl⟩
    obtain ⟨k2, hk2⟩ : ∃ k2, Hid ((cut (dot d e f x0 x1 x2)) = k2) := ⟨_, rfl⟩
    rw [hn_1.out, hk2.out] at d1
    rw [hn_1.out, hk2.out]
    rw [hn_1.out] at hn
    clear hn_1 hk2
    have d2 := Lib.hid (fun W1 : World => ref6Scale x0 x1 x2 n hx0 hx1 hx2 hn W1)
    have he0 := half_clipped (prod x0 n)
    have he1 := half_clipped (prod x1 n)
    have he2 := half_clipped (prod x2 n)
    unfold orthoF
    obtain ⟨e0, he0_1⟩ : ∃ e0, Hid ((clipped (prod x0 n)) = e0) := ⟨_, rfl⟩
    obtain ⟨e1, he1_1⟩ : ∃ e1, Hid ((clipped (prod x1 n)) = e1) := ⟨_, rfl⟩
    obtain ⟨e2, he2_1⟩ : ∃ e2, Hid ((clipped (prod x2 n)) = e2) := ⟨_, rfl⟩
    obtain ⟨k3, hk3⟩ : ∃ k3, Hid ((cut (prod x0 n) || cut (prod x1 n) || cut (prod x2 n)) = k3) := ⟨_, rfl⟩
    rw [he0_1.out, he1_1.out, he2_1.out, hk3.out] at d2
    rw [he0_1.out, he1_1.out, he2_1.out, hk3.out]
    rw [he0_1.out] at he0
    rw [he1_1.out] at he1
    rw [he2_1.out] at he2
    clear he0_1 he1_1 he2_1 hk3
    have d3 := Lib.hid (fun W1 : World => ref6Sub d e f e0 e1 e2 hd he hf he0 he1 he2 W1)
    have hf0 := half_clipped (d + -e0)
    have hf1 := half_clipped (e + -e1)
    have hf2 := half_clipped (f + -e2)
    unfold orthoY
    obtain ⟨f0, hf0_1⟩ : ∃ f0, Hid ((clipped (d + -e0)) = f0) := ⟨_, rfl⟩
    obtain ⟨f1, hf1_1⟩ : ∃ f1, Hid ((clipped (e + -e1)) = f1) := ⟨_, rfl⟩
    obtain ⟨f2, hf2_1⟩ : ∃ f2, Hid ((clipped (f + -e2)) = f2) := ⟨_, rfl⟩
    obtain ⟨k4, hk4⟩ : ∃ k4, Hid ((cut (d + -e0) || cut (e + -e1) || cut (f + -e2)) = k4) := ⟨_, rfl⟩
    rw [hf0_1.out, hf1_1.out, hf2_1.out, hk4.out] at d3
    rw [hf0_1.out, hf1_1.out, hf2_1.out, hk4.out]
    rw [hf0_1.out] at hf0
    rw [hf1_1.out] at hf1
    rw [hf2_1.out] at hf2
    clear hf0_1 hf1_1 hf2_1 hk4
    have u2 := Lib.hid (fun W1 : World => ref6Unit f0 f1 f2 hf0 hf1 hf2 W1)
    rw [unitOf_is] at u2
    have hy0 := uax_half f0 f1 f2 f0
    have hy1 := uax_half f0 f1 f2 f1
    have hy2 := uax_half f0 f1 f2 f2
    unfold orthoZ
    obtain ⟨y0, hy0_1⟩ : ∃ y0, Hid ((uax f0 f1 f2 f0) = y0) := ⟨_, rfl⟩
    obtain ⟨y1, hy1_1⟩ : ∃ y1, Hid ((uax f0 f1 f2 f1) = y1) := ⟨_, rfl⟩
    obtain ⟨y2, hy2_1⟩ : ∃ y2, Hid ((uax f0 f1 f2 f2) = y2) := ⟨_, rfl⟩
    obtain ⟨k5, hk5⟩ : ∃ k5, Hid ((uok f0 f1 f2) = k5) := ⟨_, rfl⟩
    rw [hy0_1.out, hy1_1.out, hy2_1.out, hk5.out] at u2
    rw [hy0_1.out, hy1_1.out, hy2_1.out, hk5.out]
    rw [hy0_1.out] at hy0
    rw [hy1_1.out] at hy1
    rw [hy2_1.out] at hy2
    clear hy0_1 hy1_1 hy2_1 hk5
    have d4 := Lib.hid (fun W1 : World => ref6Cross x0 x1 x2 y0 y1 y2 hx0 hx1 hx2 hy0 hy1 hy2 W1)
    obtain ⟨z0, hz0⟩ : ∃ z0, Hid ((clipped (prod x1 y2 + -prod x2 y1)) = z0) := ⟨_, rfl⟩
    obtain ⟨z1, hz1⟩ : ∃ z1, Hid ((clipped (prod x2 y0 + -prod x0 y2)) = z1) := ⟨_, rfl⟩
    obtain ⟨z2, hz2⟩ : ∃ z2, Hid ((clipped (prod x0 y1 + -prod x1 y0)) = z2) := ⟨_, rfl⟩
    obtain ⟨k6, hk6⟩ : ∃ k6, Hid ((cut (prod x1 y2 + -prod x2 y1) || cut (prod x2 y0 + -prod x0 y2) || cut (prod x0 y1 + -prod x1 y0)) = k6) := ⟨_, rfl⟩
    rw [hz0.out, hz1.out, hz2.out, hk6.out] at d4
    rw [hz0.out, hz1.out, hz2.out, hk6.out]
    clear hz0 hz1 hz2 hk6 hx0 hx1 hx2 hy0 hy1 hy2 hf0 hf1 hf2 he0 he1 he2 hn ha hb hc hd he hf hg hh hi
    obtain ⟨K, hK⟩ : ∃ K, (k2 || k3 || k4 || !k5) = K := ⟨_, rfl⟩
    rw [hK]
    obtain ⟨R, hQ⟩ : ∃ R, Hid (((if K = true then .tuple #[M9 4294967296 0 0 0 4294967296 0 0 0 4294967296, .bool false] else if k6 = true then .tuple #[M9 4294967296 0 0 0 4294967296 0 0 0 4294967296, .bool false] else .tuple #[M9 x0 x1 x2 y0 y1 y2 z0 z1 z2, .bool true]) : Value) = R) := ⟨_, rfl⟩
    rw [hQ.out]
    go_enter Tryz.func5, Tryz.ntmps5
    obtain ⟨al, a0, a1, a2, a3, a4, a5, a6, a7, a8, -, -, -, -, -, -, -, -, -⟩ := (id hA : Nine _ _ a b c d e f g h i)
    go_wp2_with fail
    refine (u1.out _).mono ?_
    rintro e' w1 ⟨rfl, hb1⟩
    replace hA := hA.call hb1
    replace hR := hR.call hb1
    replace hO := below_then hO hb1
    clear hb1
    have hX := Tri.new w1 x0 x1 x2 24
    replace hA := hA.alloc (.cells #[.int .i64 x0, .int .i64 x1, .int .i64 x2] 24)
    replace hR := hR.alloc (.cells #[.int .i64 x0, .int .i64 x1, .int .i64 x2] 24)
    replace hO := hO.alloc hO.size (.cells #[.int .i64 x0, .int .i64 x1, .int .i64 x2] 24)
    obtain ⟨al, a0, a1, a2, a3, a4, a5, a6, a7, a8, -, -, -, -, -, -, -, -, -⟩ := (id hA : Nine _ _ a b c d e f g h i)
    obtain ⟨x'l, x'0, x'1, x'2, -, -, -⟩ := (id hX : Tri _ _ x0 x1 x2)
    go_wp2_with fail
    refine (d1.out _).mono ?_
    rintro e' w2 ⟨rfl, hb1⟩
    replace hA := hA.call hb1
    replace hR := hR.call hb1
    replace hX := hX.call hb1
    replace hO := below_then hO hb1
    clear hb1
    obtain ⟨x'l, x'0, x'1, x'2, -, -, -⟩ := (id hX : Tri _ _ x0 x1 x2)
    go_wp2_with fail
    refine (d2.out _).mono ?_
    rintro e' w3 ⟨rfl, hb1⟩
    replace hA := hA.call hb1
    replace hR := hR.call hb1
    replace hX := hX.call hb1
    replace hO := below_then hO hb1
    clear hb1
    have hE := Tri.new w3 e0 e1 e2 24
    replace hA := hA.alloc (.cells #[.int .i64 e0, .int .i64 e1, .int .i64 e2] 24)
    replace hR := hR.alloc (.cells #[.int .i64 e0, .int .i64 e1, .int .i64 e2] 24)
    replace hX := hX.alloc (.cells #[.int .i64 e0, .int .i64 e1, .int .i64 e2] 24)
    replace hO := hO.alloc hO.size (.cells #[.int .i64 e0, .int .i64 e1, .int .i64 e2] 24)
    obtain ⟨al, a0, a1, a2, a3, a4, a5, a6, a7, a8, -, -, -, -, -, -, -, -, -⟩ := (id hA : Nine _ _ a b c d e f g h i)
    obtain ⟨e'l, e'0, e'1, e'2, -, -, -⟩ := (id hE : Tri _ _ e0 e1 e2)
    go_wp2_with fail
    refine (d3.out _).mono ?_
    rintro e' w4 ⟨rfl, hb1⟩
    replace hX := hX.call hb1
    replace hR := hR.call hb1
    replace hO := below_then hO hb1
    clear hb1
    have hF := Tri.new w4 f0 f1 f2 24
    replace hX := hX.alloc (.cells #[.int .i64 f0, .int .i64 f1, .int .i64 f2] 24)
    replace hR := hR.alloc (.cells #[.int .i64 f0, .int .i64 f1, .int .i64 f2] 24)
    replace hO := hO.alloc hO.size (.cells #[.int .i64 f0, .int .i64 f1, .int .i64 f2] 24)
    obtain ⟨f'l, f'0, f'1, f'2, -, -, -⟩ := (id hF : Tri _ _ f0 f1 f2)
    go_wp2_with fail
    refine (u2.out _).mono ?_
    rintro e' w5 ⟨rfl, hb1⟩
    replace hX := hX.call hb1
    replace hR := hR.call hb1
    replace hO := below_then hO hb1
    clear hb1
    have hY := Tri.new w5 y0 y1 y2 24
    replace hX := hX.alloc (.cells #[.int .i64 y0, .int .i64 y1, .int .i64 y2] 24)
    replace hR := hR.alloc (.cells #[.int .i64 y0, .int .i64 y1, .int .i64 y2] 24)
    replace hO := hO.alloc hO.size (.cells #[.int .i64 y0, .int .i64 y1, .int .i64 y2] 24)
    obtain ⟨x'l, x'0, x'1, x'2, -, -, -⟩ := (id hX : Tri _ _ x0 x1 x2)
    obtain ⟨y'l, y'0, y'1, y'2, -, -, -⟩ := (id hY : Tri _ _ y0 y1 y2)
    cases K
    · obtain ⟨rfl, rfl, rfl, rfl⟩ : k2 = false ∧ k3 = false ∧ k4 = false ∧ k5 = true := by revert hK; cases k2 <;> cases k3 <;> cases k4 <;> cases k5 <;> simp
      clear hK
      go_wp2_with fail
      refine (d4.out _).mono ?_
      rintro e' w6 ⟨rfl, hb1⟩
      replace hX := hX.call hb1
      replace hY := hY.call hb1
      replace hR := hR.call hb1
      replace hO := below_then hO hb1
      clear hb1
      have hZ := Tri.new w6 z0 z1 z2 24
      replace hX := hX.alloc (.cells #[.int .i64 z0, .int .i64 z1, .int .i64 z2] 24)
      replace hY := hY.alloc (.cells #[.int .i64 z0, .int .i64 z1, .int .i64 z2] 24)
      replace hR := hR.alloc (.cells #[.int .i64 z0, .int .i64 z1, .int .i64 z2] 24)
      replace hO := hO.alloc hO.size (.cells #[.int .i64 z0, .int .i64 z1, .int .i64 z2] 24)
      obtain ⟨x'l, x'0, x'1, x'2, -, -, -⟩ := (id hX : Tri _ _ x0 x1 x2)
      obtain ⟨y'l, y'0, y'1, y'2, -, -, -⟩ := (id hY : Tri _ _ y0 y1 y2)
      obtain ⟨z'l, z'0, z'1, z'2, -, -, -⟩ := (id hZ : Tri _ _ z0 z1 z2)
      cases k6
      · skip
        obtain ⟨rl, r0, r1, r2, r3, r4, r5, r6, r7, r8, r9, r10, r11, r12, r13, r14, r15, r16, r17⟩ := hR
        go_wp2
        refine bodyPost_ret (by simp [results, Tryz.results5, go_sem, r0, r1, r2, r3, r4, r5, r6, r7, r8]; try rfl) rfl ?_
        exact ⟨by rw [← hQ.out]; rfl, below_putM hO gO _ _ _ _ _ _ _ _ _⟩
      · skip
        go_wp2_with fail
        refine (s1.out _).mono ?_
        rintro e' w7 ⟨rfl, hb1⟩
        replace hR := hR.call hb1
        replace hO := below_then hO hb1
        clear hb1
        obtain ⟨rl, r0, r1, r2, r3, r4, r5, r6, r7, r8, r9, r10, r11, r12, r13, r14, r15, r16, r17⟩ := hR
        go_wp2
        refine bodyPost_ret (by simp [results, Tryz.results5, go_sem, r0, r1, r2, r3, r4, r5, r6, r7, r8]; try rfl) rfl ?_
        exact ⟨by rw [← hQ.out]; rfl, below_putM hO gO _ _ _ _ _ _ _ _ _⟩
    · cases k2 <;> cases k3 <;> cases k4 <;> cases k5
      all_goals first | (exact absurd hK (by decide)) | skip
      all_goals
        clear hK
        go_wp2_with fail
        refine (s1.out _).mono ?_
        rintro e' w7 ⟨rfl, hb1⟩
        replace hR := hR.call hb1
        replace hO := below_then hO hb1
        clear hb1
        obtain ⟨rl, r0, r1, r2, r3, r4, r5, r6, r7, r8, r9, r10, r11, r12, r13, r14, r15, r16, r17⟩ := hR
        go_wp2
        refine bodyPost_ret (by simp [results, Tryz.results5, go_sem, r0, r1, r2, r3, r4, r5, r6, r7, r8]; try rfl) rfl ?_
        exact ⟨by rw [← hQ.out]; rfl, below_putM hO gO _ _ _ _ _ _ _ _ _⟩


end Go.Proofs.YtodfcbpcgcgijaaGreatDoor

/- What the calls of package mat answer, as one word; what the statements' walks ask of them. -/
namespace Go.Proofs.YtodfcbpcgcgijaaGreatDoor
set_option maxRecDepth 100000
open Go.RowKit Go.ChangeShapes Go.WideShapes Go.ChangeAt
set_option linter.unusedVariables false

/-- The matrix that changes nothing. -/
def same (i j : Nat) : Int := if i = j then 4294967296 else 0
/-- The calls of package mat. -/
structure MatC : Prop where
  same : ∀ w : World, Calls Tryz.prog 12 #[] w fun e' w' => e' = .returned (M9 4294967296 0 0 0 4294967296 0 0 0 4294967296) ∧ Below w.heap.size w w'
  back : ∀ (a b c d e f g h i : Int) (w : World), Calls Tryz.prog 22 #[M9 a b c d e f g h i] w fun e' w' => e' = .returned (M9 a d g b e h c f i) ∧ Below w.heap.size w w'
  apply : ∀ (a b c d e f g h i : Int), Half a → Half b → Half c → Half d → Half e → Half f → Half g → Half h → Half i → ∀ (x y z : Int), Half x → Half y → Half z → ∀ w : World, Calls Tryz.prog 31 #[M9 a b c d e f g h i, V x y z] w fun e' w' =>
    e' = .returned (.tuple #[V (clipped (dot a b c x y z)) (clipped (dot d e f x y z)) (clipped (dot g h i x y z)), .bool (cut (dot a b c x y z) || cut (dot d e f x y z) || cut (dot g h i x y z))]) ∧ Below w.heap.size w w'
  mul : ∀ A B : Nat → Nat → Int, HalfM A → HalfM B → ∀ w : World, Calls Tryz.prog 21 #[Mx A, Mx B] w fun e' w' => e' = .returned (.tuple #[Mx (mulC A B), .bool (mulCut A B)]) ∧ Below w.heap.size w w'
  about : ∀ k a : Int, Half k → Word32 a → ∀ w : World, Steps w → Calls Tryz.prog 30 #[.int .i64 k, .int .u32 a] w fun e' w' => e' = .returned (aboutOf k (cosA a) (sinA a)) ∧ Below w.heap.size w w'
  ortho : ∀ (a b c d e f g h i : Int), Half a → Half b → Half c → Half d → Half e → Half f → Half g → Half h → Half i → ∀ w : World, Calls Tryz.prog 4 #[M9 a b c d e f g h i] w fun e' w' => e' = .returned (orthoOf a b c d e f) ∧ Below w.heap.size w w'
  off : ∀ A : Nat → Nat → Int, HalfM A → ∀ w : World, Calls Tryz.prog 6 #[Mx A] w fun e' w' => e' = .returned (.int .i64 (offOf A)) ∧ Below w.heap.size w w'
  heading : ∀ (a b c d e f g h i : Int), Half a → Half d → ∀ w : World, Steps w → Calls Tryz.prog 8 #[M9 a b c d e f g h i] w fun e' w' => e' = .returned (.int .u32 (angA d a)) ∧ Below w.heap.size w w'

/-- A matrix of nine letters, as a function of row and axis. -/
def of9 (a b c d e f g h i : Int) : Nat → Nat → Int
  | 0, 0 => a | 0, 1 => b | 0, 2 => c | 1, 0 => d | 1, 1 => e | 1, 2 => f | 2, 0 => g | 2, 1 => h | 2, 2 => i | _, _ => 0
theorem of9_half {a b c d e f g h i : Int} (ha : (Half a ∧ Half b ∧ Half c) ∧ (Half d ∧ Half e ∧ Half f) ∧ (Half g ∧ Half h ∧ Half i)) : HalfM (of9 a b c d e f g h i) := fun r j hr hj => by
  rcases three hr with rfl | rfl | rfl <;> rcases three hj with rfl | rfl | rfl
  · exact ha.1.1
  · exact ha.1.2.1
  · exact ha.1.2.2
  · exact ha.2.1.1
  · exact ha.2.1.2.1
  · exact ha.2.1.2.2
  · exact ha.2.2.1
  · exact ha.2.2.2.1
  · exact ha.2.2.2.2
section
variable {H : Type} {enc : TypeId × Value → H} {w : World} {base : Nat} {spare : Nat → Bool} {held : Bool}
theorem open_MF {r : Reach} {b0 : Nat} {v : Value} {d' : DataW H} {p : List MemPlace} (hv : Value.okWide Tryz.prog w r b0 26 v) (h' : DataW.Trod enc Tryz.prog w base spare held 26 v d' p) :
    ∃ A : Nat → Nat → Int, HalfM A ∧ v = Mx A := by
  obtain ⟨a, b, c, d, e, f, g, h, i, hh, rfl⟩ := open_M hv h'
  exact ⟨of9 a b c d e f g h i, of9_half hh, rfl⟩
end

theorem same_half : HalfM same := fun i j _ _ => by unfold same; split <;> (unfold Half; omega)
theorem clip_half {x : Int} (h : Half x) : clipped x = x := by unfold Half at h; unfold clipped; omega
theorem cut_half {x : Int} (h : Half x) : cut x = false := by unfold Half at h; unfold cut; exact decide_eq_false (by omega)
/-- Same on the left, on the right, and before a vector. -/
theorem same_mulM (A : Nat → Nat → Int) : mulM same A 0 0 = A 0 0 ∧ mulM same A 0 1 = A 0 1 ∧ mulM same A 0 2 = A 0 2 ∧ mulM same A 1 0 = A 1 0 ∧ mulM same A 1 1 = A 1 1 ∧ mulM same A 1 2 = A 1 2 ∧ mulM same A 2 0 = A 2 0 ∧ mulM same A 2 1 = A 2 1 ∧ mulM same A 2 2 = A 2 2 :=
  ⟨same_dot0 _ _ _, same_dot0 _ _ _, same_dot0 _ _ _, same_dot1 _ _ _, same_dot1 _ _ _, same_dot1 _ _ _, same_dot2 _ _ _, same_dot2 _ _ _, same_dot2 _ _ _⟩
theorem mulM_same (A : Nat → Nat → Int) : mulM A same 0 0 = A 0 0 ∧ mulM A same 0 1 = A 0 1 ∧ mulM A same 0 2 = A 0 2 ∧ mulM A same 1 0 = A 1 0 ∧ mulM A same 1 1 = A 1 1 ∧ mulM A same 1 2 = A 1 2 ∧ mulM A same 2 0 = A 2 0 ∧ mulM A same 2 1 = A 2 1 ∧ mulM A same 2 2 = A 2 2 :=
  ⟨dot_same0 _ _ _, dot_same1 _ _ _, dot_same2 _ _ _, dot_same0 _ _ _, dot_same1 _ _ _, dot_same2 _ _ _, dot_same0 _ _ _, dot_same1 _ _ _, dot_same2 _ _ _⟩
/-- A product whose numbers are those of a matrix that can be held. -/
theorem mulC_is {A B C : Nat → Nat → Int} (hC : HalfM C) (h : mulM A B 0 0 = C 0 0 ∧ mulM A B 0 1 = C 0 1 ∧ mulM A B 0 2 = C 0 2 ∧ mulM A B 1 0 = C 1 0 ∧ mulM A B 1 1 = C 1 1 ∧ mulM A B 1 2 = C 1 2 ∧ mulM A B 2 0 = C 2 0 ∧ mulM A B 2 1 = C 2 1 ∧ mulM A B 2 2 = C 2 2) :
    (.tuple #[Mx (mulC A B), .bool (mulCut A B)] : Value) = .tuple #[Mx C, .bool false] := by
  obtain ⟨h0, h1, h2, h3, h4, h5, h6, h7, h8⟩ := h
  have c := fun i j hi hj => clip_half (hC i j hi hj)
  have k := fun i j hi hj => cut_half (hC i j hi hj)
  unfold Mx mulC mulCut colCut
  rw [h0, h1, h2, h3, h4, h5, h6, h7, h8, c 0 0 (by decide) (by decide), c 0 1 (by decide) (by decide), c 0 2 (by decide) (by decide), c 1 0 (by decide) (by decide), c 1 1 (by decide) (by decide), c 1 2 (by decide) (by decide), c 2 0 (by decide) (by decide), c 2 1 (by decide) (by decide), c 2 2 (by decide) (by decide),
    k 0 0 (by decide) (by decide), k 0 1 (by decide) (by decide), k 0 2 (by decide) (by decide), k 1 0 (by decide) (by decide), k 1 1 (by decide) (by decide), k 1 2 (by decide) (by decide), k 2 0 (by decide) (by decide), k 2 1 (by decide) (by decide), k 2 2 (by decide) (by decide)]
  rfl
/-- What turns about an axis is one of the matrices of MatFront. -/
theorem about_spun (k : Nat) (hk : k < 3) (c s : Int) : aboutOf (k : Int) c s = .tuple #[Mx (spun k c s), .int .i64 0] := by
  rcases three hk with rfl | rfl | rfl <;> rfl
theorem spun_half {A : Nat → Nat → Int} (h : Spun A) : HalfM A := fun i j hi hj => ((h.bd i j hi hj).mono (by decide)).half
theorem spun_of (k : Nat) (hk : k < 3) (a : Int) (ha : Word32 a) : Spun (spun k (cosA a) (sinA a)) := by
  have h1 := cosA_bd a ha
  have h2 := cosA_unit a ha
  exact spun_is k hk (by unfold Within; omega) (by unfold Within; omega) (by unfold Within; omega)
/-- How far off a matrix is whose rows' rounded products are near Same's numbers. -/
theorem bare_within {x B : Int} (h : Within x B) : 0 ≤ bare x ∧ bare x ≤ B := by unfold Within at h; unfold bare; split <;> omega
theorem off_near {A : Nat → Nat → Int} {B : Int} (hB : 0 ≤ B ∧ B ≤ 4096) (h : ∀ i j, i < 3 → j < 3 → Within (dot (A i 0) (A i 1) (A i 2) (A j 0) (A j 1) (A j 2) - (if i = j then 4294967296 else 0)) B) : 0 ≤ offOf A ∧ offOf A ≤ B := by
  have one : ∀ i j, i < 3 → j < 3 → Within (clipped (mulC A (tr A) i j + -(if i = j then 4294967296 else 0))) B := fun i j hi hj => by
    have := h i j hi hj
    unfold mulC
    have e : mulM A (tr A) i j = dot (A i 0) (A i 1) (A i 2) (A j 0) (A j 1) (A j 2) := rfl
    rw [e]
    unfold Within at *
    unfold clipped
    split at this <;> split <;> omega
  have row : ∀ i, i < 3 → 0 ≤ offRow (mulC A (tr A)) i ∧ offRow (mulC A (tr A)) i ≤ B := fun i hi => by
    have h0 := bare_within (one i 0 hi (by decide))
    have h1 := bare_within (one i 1 hi (by decide))
    have h2 := bare_within (one i 2 hi (by decide))
    unfold offRow greatest
    omega
  have r0 := row 0 (by decide)
  have r1 := row 1 (by decide)
  have r2 := row 2 (by decide)
  unfold offOf
  omega

theorem uok_of {a b c L : Int} (hL : len a b c = L) (h0 : 0 < L) (h1 : L ≤ 4900000000) : uok a b c = true := by
  unfold uok
  rw [hL, decide_eq_false (by omega)]
  rfl
theorem uax_of {a b c L : Int} (hL : len a b c = L) (h0 : 0 < L) (h1 : L ≤ 4900000000) (v : Int) (h : Within ((v * 4294967296).tdiv L) 4300000000) : uax a b c v = (v * 4294967296).tdiv L := by
  unfold uax
  rw [uok_of hL h0 h1, if_pos rfl, hL]
  exact clip_half (h.mono (by decide)).half
/-- Two rows that are nearly upright are made upright, and what comes of them is hardly off. -/
theorem ortho_near {p0 p1 p2 q0 q1 q2 : Int} (hp : Within (ip p0 p1 p2 p0 p1 p2 - 18446744073709551616) 1537228668514161336) (hq : Within (ip q0 q1 q2 q0 q1 q2 - 18446744073709551616) 1537228668514161336) (hpq : Within (ip p0 p1 p2 q0 q1 q2) 1537228668514161336) :
    ∃ D : Nat → Nat → Int, HalfM D ∧ orthoOf p0 p1 p2 q0 q1 q2 = .tuple #[Mx D, .bool true] ∧ 0 ≤ offOf D ∧ offOf D ≤ 64 := by
  obtain ⟨L, hL⟩ : ∃ L, len p0 p1 p2 = L := ⟨_, rfl⟩
  obtain ⟨x0, hx0⟩ : ∃ x, (p0 * 4294967296).tdiv L = x := ⟨_, rfl⟩
  obtain ⟨x1, hx1⟩ : ∃ x, (p1 * 4294967296).tdiv L = x := ⟨_, rfl⟩
  obtain ⟨x2, hx2⟩ : ∃ x, (p2 * 4294967296).tdiv L = x := ⟨_, rfl⟩
  obtain ⟨d, hd⟩ : ∃ x, dot q0 q1 q2 x0 x1 x2 = x := ⟨_, rfl⟩
  obtain ⟨e0, he0⟩ : ∃ x, prod x0 d = x := ⟨_, rfl⟩
  obtain ⟨e1, he1⟩ : ∃ x, prod x1 d = x := ⟨_, rfl⟩
  obtain ⟨e2, he2⟩ : ∃ x, prod x2 d = x := ⟨_, rfl⟩
  obtain ⟨f0, hf0⟩ : ∃ x, q0 - e0 = x := ⟨_, rfl⟩
  obtain ⟨f1, hf1⟩ : ∃ x, q1 - e1 = x := ⟨_, rfl⟩
  obtain ⟨f2, hf2⟩ : ∃ x, q2 - e2 = x := ⟨_, rfl⟩
  obtain ⟨M, hM⟩ : ∃ L, len f0 f1 f2 = L := ⟨_, rfl⟩
  obtain ⟨y0, hy0⟩ : ∃ x, (f0 * 4294967296).tdiv M = x := ⟨_, rfl⟩
  obtain ⟨y1, hy1⟩ : ∃ x, (f1 * 4294967296).tdiv M = x := ⟨_, rfl⟩
  obtain ⟨y2, hy2⟩ : ∃ x, (f2 * 4294967296).tdiv M = x := ⟨_, rfl⟩
  obtain ⟨z0, hz0⟩ : ∃ x, prod x1 y2 + -prod x2 y1 = x := ⟨_, rfl⟩
  obtain ⟨z1, hz1⟩ : ∃ x, prod x2 y0 + -prod x0 y2 = x := ⟨_, rfl⟩
  obtain ⟨z2, hz2⟩ : ∃ x, prod x0 y1 + -prod x1 y0 = x := ⟨_, rfl⟩
  obtain ⟨-, ⟨L0, L1⟩, ⟨xb0, xb1, xb2⟩, db, ⟨eb0, eb1, eb2⟩, ⟨fb0, fb1, fb2⟩, ⟨M0, M1⟩, ⟨yb0, yb1, yb2⟩, ⟨zb0, zb1, zb2⟩, dxx, dyy, dzz, dxy, dzx, dzy⟩ := made_upright hp hq hpq hL hx0 hx1 hx2 hd he0 he1 he2 hf0 hf1 hf2 hM hy0 hy1 hy2 hz0 hz1 hz2
  have h43 : ∀ {a : Int}, Within a 4300000000 → Half a := fun h => (h.mono (by decide)).half
  have h86 : ∀ {a : Int}, Within a 8620000000 → Half a := fun h => (h.mono (by decide)).half
  have h85 : ∀ {a : Int}, Within a 8589934592 → Half a := fun h => (h.mono (by decide)).half
  have h53 : ∀ {a : Int}, Within a 538600000 → Half a := fun h => (h.mono (by decide)).half
  have hdh : Half d := (db.mono (by decide)).half
  have gf0 : q0 + -e0 = f0 := by omega
  have gf1 : q1 + -e1 = f1 := by omega
  have gf2 : q2 + -e2 = f2 := by omega
  have hD : HalfM (of9 x0 x1 x2 y0 y1 y2 z0 z1 z2) := of9_half ⟨⟨h43 xb0, h43 xb1, h43 xb2⟩, ⟨h43 yb0, h43 yb1, h43 yb2⟩, ⟨h86 zb0, h86 zb1, h86 zb2⟩⟩
  refine ⟨of9 x0 x1 x2 y0 y1 y2 z0 z1 z2, hD, ?_, off_near (B := 64) (by decide) fun i j hi hj => ?_⟩
  · have ex0 := uax_of hL L0 L1 p0 (by rw [hx0]; exact xb0)
    have ex1 := uax_of hL L0 L1 p1 (by rw [hx1]; exact xb1)
    have ex2 := uax_of hL L0 L1 p2 (by rw [hx2]; exact xb2)
    have ey0 := uax_of hM M0 M1 f0 (by rw [hy0]; exact yb0)
    have ey1 := uax_of hM M0 M1 f1 (by rw [hy1]; exact yb1)
    have ey2 := uax_of hM M0 M1 f2 (by rw [hy2]; exact yb2)
    unfold orthoOf
    rw [uok_of hL L0 L1, if_pos rfl, ex0, ex1, ex2, hx0, hx1, hx2]
    unfold orthoX
    rw [hd, clip_half hdh, cut_half hdh]
    unfold orthoE
    rw [he0, he1, he2, clip_half (h53 eb0), clip_half (h53 eb1), clip_half (h53 eb2), cut_half (h53 eb0), cut_half (h53 eb1), cut_half (h53 eb2)]
    unfold orthoF
    rw [gf0, gf1, gf2, clip_half (h85 fb0), clip_half (h85 fb1), clip_half (h85 fb2), cut_half (h85 fb0), cut_half (h85 fb1), cut_half (h85 fb2)]
    unfold orthoY
    rw [uok_of hM M0 M1, if_neg (by decide), ey0, ey1, ey2, hy0, hy1, hy2]
    unfold orthoZ
    rw [hz0, hz1, hz2, cut_half (h86 zb0), cut_half (h86 zb1), cut_half (h86 zb2), if_neg (by decide), clip_half (h86 zb0), clip_half (h86 zb1), clip_half (h86 zb2)]
    rfl
  · have c := fun a b c x y z => dot_comm a b c x y z
    rcases three hi with rfl | rfl | rfl <;> rcases three hj with rfl | rfl | rfl
    · exact dxx
    · exact (dxy.of_eq (show dot x0 x1 x2 y0 y1 y2 = dot x0 x1 x2 y0 y1 y2 - 0 by omega))
    · exact (dzx.of_eq (show dot z0 z1 z2 x0 x1 x2 = dot x0 x1 x2 z0 z1 z2 - 0 by rw [c z0]; omega))
    · exact (dxy.of_eq (show dot x0 x1 x2 y0 y1 y2 = dot y0 y1 y2 x0 x1 x2 - 0 by rw [c x0]; omega))
    · exact dyy
    · exact (dzy.of_eq (show dot z0 z1 z2 y0 y1 y2 = dot y0 y1 y2 z0 z1 z2 - 0 by rw [c z0]; omega))
    · exact (dzx.of_eq (show dot z0 z1 z2 x0 x1 x2 = dot z0 z1 z2 x0 x1 x2 - 0 by omega))
    · exact (dzy.of_eq (show dot z0 z1 z2 y0 y1 y2 = dot z0 z1 z2 y0 y1 y2 - 0 by omega))
    · exact dzz
/-- What turns about two axes, each number changed by 2 to the 24 parts at most, is made upright. -/
theorem moved_ortho {A B M : Nat → Nat → Int} (hA : Spun A) (hB : Spun B) (hM : ∀ i j, i < 3 → j < 3 → Within (M i j - mulM A B i j) 16777216) :
    ∃ D : Nat → Nat → Int, HalfM D ∧ orthoOf (M 0 0) (M 0 1) (M 0 2) (M 1 0) (M 1 1) (M 1 2) = .tuple #[Mx D, .bool true] ∧ 0 ≤ offOf D ∧ offOf D ≤ 64 := by
  have h00 := moved_rows hA hB hM (i := 0) (j := 0) (by decide) (by decide)
  have h11 := moved_rows hA hB hM (i := 1) (j := 1) (by decide) (by decide)
  have h01 := moved_rows hA hB hM (i := 0) (j := 1) (by decide) (by decide)
  rw [if_pos rfl] at h00 h11
  rw [if_neg (by decide)] at h01
  exact ortho_near h00 h11 (h01.of_eq (by unfold rows; omega))
/-- A product of two that turn does not saturate. -/
theorem spun_mul {A B : Nat → Nat → Int} (hA : Spun A) (hB : Spun B) : (.tuple #[Mx (mulC A B), .bool (mulCut A B)] : Value) = .tuple #[Mx (mulM A B), .bool false] ∧ ∀ i j, i < 3 → j < 3 → Within (mulM A B i j) 12884901894 := by
  have bd : ∀ i j, i < 3 → j < 3 → Within (mulM A B i j) 12884901894 := fun i j hi hj => by
    have h1 := dot_near (A i 0) (A i 1) (A i 2) (B 0 j) (B 1 j) (B 2 j)
    have h2 := ip_bd (hA.bd i 0 hi (by decide)) (hA.bd i 1 hi (by decide)) (hA.bd i 2 hi (by decide)) (hB.bd 0 j (by decide) hj) (hB.bd 1 j (by decide) hj) (hB.bd 2 j (by decide) hj)
    unfold mulM
    unfold Within at *
    omega
  exact ⟨mulC_is (C := mulM A B) (fun i j hi hj => ((bd i j hi hj).mono (by decide)).half) ⟨rfl, rfl, rfl, rfl, rfl, rfl, rfl, rfl, rfl⟩, bd⟩

end Go.Proofs.YtodfcbpcgcgijaaGreatDoor
