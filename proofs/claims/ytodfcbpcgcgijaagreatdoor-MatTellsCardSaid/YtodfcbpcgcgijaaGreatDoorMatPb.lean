import Derived.Test.YtodfcbpcgcgijaaGreatDoorJS
import Derived.Test.YtodfcbpcgcgijaaGreatDoorJK
import Derived.Test.YtodfcbpcgcgijaaGreatDoorJV
import Derived.Test.YtodfcbpcgcgijaaGreatDoorJL
import Derived.Test.YtodfcbpcgcgijaaGreatDoorJN
import Derived.Deep.RegionHeld3
import Derived.Deep.DeepCutAuto
/- Package mat: Apply, Mul. -/
namespace Go.Proofs.YtodfcbpcgcgijaaGreatDoor
set_option maxRecDepth 100000
open Go.RowKit
set_option linter.unusedVariables false
attribute [local go_sem] cell_re eqW_self eqV_self eqM_self
attribute [local go_sem ↓] run_eqlW run_neqW run_eqlV run_eqlM

attribute [local go_sem ↓] run_indexM0 run_indexM1 run_indexM2 run_indexV0 run_indexV1 run_indexV2
set_option maxRecDepth 100000 in
set_option maxHeartbeats 8000000 in
theorem matApply (a b c d e f g h i : Int) (ha : Half a) (hb : Half b) (hc : Half c) (hd : Half d) (he : Half e) (hf : Half f) (hg : Half g) (hh : Half h) (hi : Half i) (x y z : Int) (hx : Half x) (hy : Half y) (hz : Half z) (w : World) :
    Calls Tryz.prog 31 #[M9 a b c d e f g h i, V x y z] w fun e' w' => e' = .returned (.tuple #[V (clipped (dot a b c x y z)) (clipped (dot d e f x y z)) (clipped (dot g h i x y z)), .bool (cut (dot a b c x y z) || cut (dot d e f x y z) || cut (dot g h i x y z))]) ∧ Below w.heap.size w w' := by
  have d1 := Lib.hid (fun W1 : World => vecDot a b c x y z ha hb hc hx hy hz W1)
  have d2 := Lib.hid (fun W1 : World => vecDot d e f x y z hd he hf hx hy hz W1)
  have d3 := Lib.hid (fun W1 : World => vecDot g h i x y z hg hh hi hx hy hz W1)
  unfold sat at d1 d2 d3
  obtain ⟨p, hp⟩ : ∃ p, Hid ((clipped (dot a b c x y z)) = p) := ⟨_, rfl⟩
  obtain ⟨q, hq⟩ : ∃ q, Hid ((clipped (dot d e f x y z)) = q) := ⟨_, rfl⟩
  obtain ⟨r, hr⟩ : ∃ r, Hid ((clipped (dot g h i x y z)) = r) := ⟨_, rfl⟩
  obtain ⟨u, hu⟩ : ∃ u, Hid ((cut (dot a b c x y z)) = u) := ⟨_, rfl⟩
  obtain ⟨v, hv⟩ : ∃ v, Hid ((cut (dot d e f x y z)) = v) := ⟨_, rfl⟩
  obtain ⟨t, ht⟩ : ∃ t, Hid ((cut (dot g h i x y z)) = t) := ⟨_, rfl⟩
  rw [hp.out, hu.out] at d1 ⊢
  rw [hq.out, hv.out] at d2 ⊢
  rw [hr.out, ht.out] at d3 ⊢
  clear hp hq hr hu hv ht ha hb hc hd he hf hg hh hi hx hy hz
  have hA := (((Nine.new w a b c d e f g h i 26).alloc (.cells #[.int .i64 x, .int .i64 y, .int .i64 z] 24)).alloc (.cells #[.int .i64 0, .int .i64 0, .int .i64 0] 24)).alloc (.cells #[.int .i64 0, .int .i64 0, .int .i64 0] 24)
  have hX := ((Tri.new (w.alloc (.cells #[.int .i64 a, .int .i64 b, .int .i64 c, .int .i64 d, .int .i64 e, .int .i64 f, .int .i64 g, .int .i64 h, .int .i64 i] 26)) x y z 24).alloc (.cells #[.int .i64 0, .int .i64 0, .int .i64 0] 24)).alloc (.cells #[.int .i64 0, .int .i64 0, .int .i64 0] 24)
  have hR := (Tri.new ((w.alloc (.cells #[.int .i64 a, .int .i64 b, .int .i64 c, .int .i64 d, .int .i64 e, .int .i64 f, .int .i64 g, .int .i64 h, .int .i64 i] 26)).alloc (.cells #[.int .i64 x, .int .i64 y, .int .i64 z] 24)) 0 0 0 24).alloc (.cells #[.int .i64 0, .int .i64 0, .int .i64 0] 24)
  have hT := Tri.new (((w.alloc (.cells #[.int .i64 a, .int .i64 b, .int .i64 c, .int .i64 d, .int .i64 e, .int .i64 f, .int .i64 g, .int .i64 h, .int .i64 i] 26)).alloc (.cells #[.int .i64 x, .int .i64 y, .int .i64 z] 24)).alloc (.cells #[.int .i64 0, .int .i64 0, .int .i64 0] 24)) 0 0 0 24
  rw [World.size_alloc] at hX hR hT
  rw [World.size_alloc] at hR hT
  rw [World.size_alloc] at hT
  have hO : Below w.heap.size w ((((w.alloc (.cells #[.int .i64 a, .int .i64 b, .int .i64 c, .int .i64 d, .int .i64 e, .int .i64 f, .int .i64 g, .int .i64 h, .int .i64 i] 26)).alloc (.cells #[.int .i64 x, .int .i64 y, .int .i64 z] 24)).alloc (.cells #[.int .i64 0, .int .i64 0, .int .i64 0] 24)).alloc (.cells #[.int .i64 0, .int .i64 0, .int .i64 0] 24)) := by go_grown
  have gX : w.heap.size + 1 ≠ w.heap.size + 1 + 1 + 1 := by omega
  have gR : w.heap.size + 1 + 1 ≠ w.heap.size + 1 + 1 + 1 := by omega
  have gO : w.heap.size ≤ w.heap.size + 1 + 1 + 1 := by omega
  have gO2 : w.heap.size ≤ w.heap.size + 1 + 1 := by omega
  cases u
  all_goals
    cases v
    all_goals
      go_enter Tryz.func31, Tryz.ntmps31
      obtain ⟨a'l, a'0, a'1, a'2, a'3, a'4, a'5, a'6, a'7, a'8, -, -, -, -, -, -, -, -, -⟩ := (id hA : Nine _ _ a b c d e f g h i)
      clear hA
      go_wp2
      clear a'0 a'1 a'2 a'3 a'4 a'5 a'6 a'7 a'8 a'l
      refine wp_loop_rounds 4 ?_
      rw [rounds_succ]
      replace hX := hX.alloc (.cells #[.int .i64 a, .int .i64 b, .int .i64 c] 24)
      replace hR := hR.alloc (.cells #[.int .i64 a, .int .i64 b, .int .i64 c] 24)
      replace hT := hT.alloc (.cells #[.int .i64 a, .int .i64 b, .int .i64 c] 24)
      replace hO := hO.alloc hO.size (.cells #[.int .i64 a, .int .i64 b, .int .i64 c] 24)
      obtain ⟨x'l, x'0, x'1, x'2, -, -, -⟩ := (id hX : Tri _ _ x y z)
      go_wp2_with fail
      refine (d1.out _).mono ?_
      rintro e' w1 ⟨rfl, hb1⟩
      replace hX := (hX.call hb1).apart gX 0 (.int .i64 p)
      replace hR := (hR.call hb1).apart gR 0 (.int .i64 p)
      replace hT := hT.call hb1
      replace hO := (below_then hO hb1).setCell (p := ⟨w.heap.size + 1 + 1 + 1, 0, none⟩) gO (.int .i64 p)
      clear hb1 x'0 x'1 x'2 x'l
      obtain ⟨tl, t0, t1, t2, t3, t4, t5⟩ := (id hT : Tri w1 (w.heap.size + 1 + 1 + 1) 0 0 0)
      replace hT := hT.set0 p
      go_wp2
      clear t0 t1 t2 t3 t4 t5 tl
      rw [rounds_succ]
      replace hX := hX.alloc (.cells #[.int .i64 d, .int .i64 e, .int .i64 f] 24)
      replace hR := hR.alloc (.cells #[.int .i64 d, .int .i64 e, .int .i64 f] 24)
      replace hT := hT.alloc (.cells #[.int .i64 d, .int .i64 e, .int .i64 f] 24)
      replace hO := hO.alloc hO.size (.cells #[.int .i64 d, .int .i64 e, .int .i64 f] 24)
      obtain ⟨x'l, x'0, x'1, x'2, -, -, -⟩ := (id hX : Tri _ _ x y z)
      go_wp2_with fail
      refine (d2.out _).mono ?_
      rintro e' w2 ⟨rfl, hb1⟩
      replace hX := (hX.call hb1).apart gX 1 (.int .i64 q)
      replace hR := (hR.call hb1).apart gR 1 (.int .i64 q)
      replace hT := hT.call hb1
      replace hO := (below_then hO hb1).setCell (p := ⟨w.heap.size + 1 + 1 + 1, 1, none⟩) gO (.int .i64 q)
      clear hb1 x'0 x'1 x'2 x'l
      obtain ⟨tl, t0, t1, t2, t3, t4, t5⟩ := (id hT : Tri w2 (w.heap.size + 1 + 1 + 1) p 0 0)
      replace hT := hT.set1 q
      go_wp2
      clear t0 t1 t2 t3 t4 t5 tl
      rw [rounds_succ]
      replace hX := hX.alloc (.cells #[.int .i64 g, .int .i64 h, .int .i64 i] 24)
      replace hR := hR.alloc (.cells #[.int .i64 g, .int .i64 h, .int .i64 i] 24)
      replace hT := hT.alloc (.cells #[.int .i64 g, .int .i64 h, .int .i64 i] 24)
      replace hO := hO.alloc hO.size (.cells #[.int .i64 g, .int .i64 h, .int .i64 i] 24)
      obtain ⟨x'l, x'0, x'1, x'2, -, -, -⟩ := (id hX : Tri _ _ x y z)
      go_wp2_with fail
      refine (d3.out _).mono ?_
      rintro e' w3 ⟨rfl, hb1⟩
      replace hX := (hX.call hb1).apart gX 2 (.int .i64 r)
      replace hR := (hR.call hb1).apart gR 2 (.int .i64 r)
      replace hT := hT.call hb1
      replace hO := (below_then hO hb1).setCell (p := ⟨w.heap.size + 1 + 1 + 1, 2, none⟩) gO (.int .i64 r)
      clear hb1 x'0 x'1 x'2 x'l
      obtain ⟨tl, t0, t1, t2, t3, t4, t5⟩ := (id hT : Tri w3 (w.heap.size + 1 + 1 + 1) p q 0)
      replace hT := hT.set2 r
      go_wp2
      clear t0 t1 t2 t3 t4 t5 tl
      rw [rounds_succ]
      obtain ⟨tl, t0, t1, t2, t3, t4, t5⟩ := hT
      obtain ⟨rl, r0, r1, r2, r3, r4, r5⟩ := hR
      go_wp2
      refine bodyPost_ret (by simp [results, Tryz.results31, go_sem, r0, r1, r2]; try rfl) rfl ?_
      exact ⟨rfl, below_putV hO gO2 _ _ _⟩

theorem mulCut_rows (A B : Nat → Nat → Int) : mulCut A B = ((cut (dot (A 0 0) (A 0 1) (A 0 2) (B 0 0) (B 1 0) (B 2 0)) || cut (dot (A 0 0) (A 0 1) (A 0 2) (B 0 1) (B 1 1) (B 2 1)) || cut (dot (A 0 0) (A 0 1) (A 0 2) (B 0 2) (B 1 2) (B 2 2))) || (cut (dot (A 1 0) (A 1 1) (A 1 2) (B 0 0) (B 1 0) (B 2 0)) || cut (dot (A 1 0) (A 1 1) (A 1 2) (B 0 1) (B 1 1) (B 2 1)) || cut (dot (A 1 0) (A 1 1) (A 1 2) (B 0 2) (B 1 2) (B 2 2))) || (cut (dot (A 2 0) (A 2 1) (A 2 2) (B 0 0) (B 1 0) (B 2 0)) || cut (dot (A 2 0) (A 2 1) (A 2 2) (B 0 1) (B 1 1) (B 2 1)) || cut (dot (A 2 0) (A 2 1) (A 2 2) (B 0 2) (B 1 2) (B 2 2)))) := by
  unfold mulCut colCut mulM
  generalize cut (dot (A 0 0) (A 0 1) (A 0 2) (B 0 0) (B 1 0) (B 2 0)) = k00
  generalize cut (dot (A 0 0) (A 0 1) (A 0 2) (B 0 1) (B 1 1) (B 2 1)) = k01
  generalize cut (dot (A 0 0) (A 0 1) (A 0 2) (B 0 2) (B 1 2) (B 2 2)) = k02
  generalize cut (dot (A 1 0) (A 1 1) (A 1 2) (B 0 0) (B 1 0) (B 2 0)) = k10
  generalize cut (dot (A 1 0) (A 1 1) (A 1 2) (B 0 1) (B 1 1) (B 2 1)) = k11
  generalize cut (dot (A 1 0) (A 1 1) (A 1 2) (B 0 2) (B 1 2) (B 2 2)) = k12
  generalize cut (dot (A 2 0) (A 2 1) (A 2 2) (B 0 0) (B 1 0) (B 2 0)) = k20
  generalize cut (dot (A 2 0) (A 2 1) (A 2 2) (B 0 1) (B 1 1) (B 2 1)) = k21
  generalize cut (dot (A 2 0) (A 2 1) (A 2 2) (B 0 2) (B 1 2) (B 2 2)) = k22
  cases k00 <;> cases k01 <;> cases k02 <;> cases k10 <;> cases k11 <;> cases k12 <;> cases k20 <;> cases k21 <;> cases k22 <;> rfl
set_option maxRecDepth 100000 in
set_option maxHeartbeats 16000000 in
theorem matMul (A B : Nat → Nat → Int) (hA : HalfM A) (hB : HalfM B) (w : World) :
    Calls Tryz.prog 21 #[Mx A, Mx B] w fun e' w' => e' = .returned (.tuple #[Mx (mulC A B), .bool (mulCut A B)]) ∧ Below w.heap.size w w' := by
  rw [mulCut_rows]
  have e : (.tuple #[Mx (mulC A B), .bool ((cut (dot (A 0 0) (A 0 1) (A 0 2) (B 0 0) (B 1 0) (B 2 0)) || cut (dot (A 0 0) (A 0 1) (A 0 2) (B 0 1) (B 1 1) (B 2 1)) || cut (dot (A 0 0) (A 0 1) (A 0 2) (B 0 2) (B 1 2) (B 2 2))) || (cut (dot (A 1 0) (A 1 1) (A 1 2) (B 0 0) (B 1 0) (B 2 0)) || cut (dot (A 1 0) (A 1 1) (A 1 2) (B 0 1) (B 1 1) (B 2 1)) || cut (dot (A 1 0) (A 1 1) (A 1 2) (B 0 2) (B 1 2) (B 2 2))) || (cut (dot (A 2 0) (A 2 1) (A 2 2) (B 0 0) (B 1 0) (B 2 0)) || cut (dot (A 2 0) (A 2 1) (A 2 2) (B 0 1) (B 1 1) (B 2 1)) || cut (dot (A 2 0) (A 2 1) (A 2 2) (B 0 2) (B 1 2) (B 2 2))))] : Value) = .tuple #[M9 (clipped (dot (A 0 0) (A 0 1) (A 0 2) (B 0 0) (B 1 0) (B 2 0))) (clipped (dot (A 0 0) (A 0 1) (A 0 2) (B 0 1) (B 1 1) (B 2 1))) (clipped (dot (A 0 0) (A 0 1) (A 0 2) (B 0 2) (B 1 2) (B 2 2))) (clipped (dot (A 1 0) (A 1 1) (A 1 2) (B 0 0) (B 1 0) (B 2 0))) (clipped (dot (A 1 0) (A 1 1) (A 1 2) (B 0 1) (B 1 1) (B 2 1))) (clipped (dot (A 1 0) (A 1 1) (A 1 2) (B 0 2) (B 1 2) (B 2 2))) (clipped (dot (A 2 0) (A 2 1) (A 2 2) (B 0 0) (B 1 0) (B 2 0))) (clipped (dot (A 2 0) (A 2 1) (A 2 2) (B 0 1) (B 1 1) (B 2 1))) (clipped (dot (A 2 0) (A 2 1) (A 2 2) (B 0 2) (B 1 2) (B 2 2))), .bool ((cut (dot (A 0 0) (A 0 1) (A 0 2) (B 0 0) (B 1 0) (B 2 0)) || cut (dot (A 0 0) (A 0 1) (A 0 2) (B 0 1) (B 1 1) (B 2 1)) || cut (dot (A 0 0) (A 0 1) (A 0 2) (B 0 2) (B 1 2) (B 2 2))) || (cut (dot (A 1 0) (A 1 1) (A 1 2) (B 0 0) (B 1 0) (B 2 0)) || cut (dot (A 1 0) (A 1 1) (A 1 2) (B 0 1) (B 1 1) (B 2 1)) || cut (dot (A 1 0) (A 1 1) (A 1 2) (B 0 2) (B 1 2) (B 2 2))) || (cut (dot (A 2 0) (A 2 1) (A 2 2) (B 0 0) (B 1 0) (B 2 0)) || cut (dot (A 2 0) (A 2 1) (A 2 2) (B 0 1) (B 1 1) (B 2 1)) || cut (dot (A 2 0) (A 2 1) (A 2 2) (B 0 2) (B 1 2) (B 2 2))))] := rfl
  rw [e]
  clear e
  have d0 := Lib.hid (fun W1 : World => matBack (B 0 0) (B 0 1) (B 0 2) (B 1 0) (B 1 1) (B 1 2) (B 2 0) (B 2 1) (B 2 2) W1)
  have d1 := Lib.hid (fun W1 : World => matApply (B 0 0) (B 1 0) (B 2 0) (B 0 1) (B 1 1) (B 2 1) (B 0 2) (B 1 2) (B 2 2) (hB 0 0 (by decide) (by decide)) (hB 1 0 (by decide) (by decide)) (hB 2 0 (by decide) (by decide)) (hB 0 1 (by decide) (by decide)) (hB 1 1 (by decide) (by decide)) (hB 2 1 (by decide) (by decide)) (hB 0 2 (by decide) (by decide)) (hB 1 2 (by decide) (by decide)) (hB 2 2 (by decide) (by decide)) (A 0 0) (A 0 1) (A 0 2) (hA 0 0 (by decide) (by decide)) (hA 0 1 (by decide) (by decide)) (hA 0 2 (by decide) (by decide)) W1)
  rw [dot_comm (B 0 0) (B 1 0) (B 2 0) (A 0 0) (A 0 1) (A 0 2), dot_comm (B 0 1) (B 1 1) (B 2 1) (A 0 0) (A 0 1) (A 0 2), dot_comm (B 0 2) (B 1 2) (B 2 2) (A 0 0) (A 0 1) (A 0 2)] at d1
  have d2 := Lib.hid (fun W1 : World => matApply (B 0 0) (B 1 0) (B 2 0) (B 0 1) (B 1 1) (B 2 1) (B 0 2) (B 1 2) (B 2 2) (hB 0 0 (by decide) (by decide)) (hB 1 0 (by decide) (by decide)) (hB 2 0 (by decide) (by decide)) (hB 0 1 (by decide) (by decide)) (hB 1 1 (by decide) (by decide)) (hB 2 1 (by decide) (by decide)) (hB 0 2 (by decide) (by decide)) (hB 1 2 (by decide) (by decide)) (hB 2 2 (by decide) (by decide)) (A 1 0) (A 1 1) (A 1 2) (hA 1 0 (by decide) (by decide)) (hA 1 1 (by decide) (by decide)) (hA 1 2 (by decide) (by decide)) W1)
  rw [dot_comm (B 0 0) (B 1 0) (B 2 0) (A 1 0) (A 1 1) (A 1 2), dot_comm (B 0 1) (B 1 1) (B 2 1) (A 1 0) (A 1 1) (A 1 2), dot_comm (B 0 2) (B 1 2) (B 2 2) (A 1 0) (A 1 1) (A 1 2)] at d2
  have d3 := Lib.hid (fun W1 : World => matApply (B 0 0) (B 1 0) (B 2 0) (B 0 1) (B 1 1) (B 2 1) (B 0 2) (B 1 2) (B 2 2) (hB 0 0 (by decide) (by decide)) (hB 1 0 (by decide) (by decide)) (hB 2 0 (by decide) (by decide)) (hB 0 1 (by decide) (by decide)) (hB 1 1 (by decide) (by decide)) (hB 2 1 (by decide) (by decide)) (hB 0 2 (by decide) (by decide)) (hB 1 2 (by decide) (by decide)) (hB 2 2 (by decide) (by decide)) (A 2 0) (A 2 1) (A 2 2) (hA 2 0 (by decide) (by decide)) (hA 2 1 (by decide) (by decide)) (hA 2 2 (by decide) (by decide)) W1)
  rw [dot_comm (B 0 0) (B 1 0) (B 2 0) (A 2 0) (A 2 1) (A 2 2), dot_comm (B 0 1) (B 1 1) (B 2 1) (A 2 0) (A 2 1) (A 2 2), dot_comm (B 0 2) (B 1 2) (B 2 2) (A 2 0) (A 2 1) (A 2 2)] at d3
  obtain ⟨x0, hx0⟩ : ∃ x0, Hid ((clipped (dot (A 0 0) (A 0 1) (A 0 2) (B 0 0) (B 1 0) (B 2 0))) = x0) := ⟨_, rfl⟩
  obtain ⟨y0, hy0⟩ : ∃ y0, Hid ((clipped (dot (A 0 0) (A 0 1) (A 0 2) (B 0 1) (B 1 1) (B 2 1))) = y0) := ⟨_, rfl⟩
  obtain ⟨z0, hz0⟩ : ∃ z0, Hid ((clipped (dot (A 0 0) (A 0 1) (A 0 2) (B 0 2) (B 1 2) (B 2 2))) = z0) := ⟨_, rfl⟩
  obtain ⟨x1, hx1⟩ : ∃ x1, Hid ((clipped (dot (A 1 0) (A 1 1) (A 1 2) (B 0 0) (B 1 0) (B 2 0))) = x1) := ⟨_, rfl⟩
  obtain ⟨y1, hy1⟩ : ∃ y1, Hid ((clipped (dot (A 1 0) (A 1 1) (A 1 2) (B 0 1) (B 1 1) (B 2 1))) = y1) := ⟨_, rfl⟩
  obtain ⟨z1, hz1⟩ : ∃ z1, Hid ((clipped (dot (A 1 0) (A 1 1) (A 1 2) (B 0 2) (B 1 2) (B 2 2))) = z1) := ⟨_, rfl⟩
  obtain ⟨x2, hx2⟩ : ∃ x2, Hid ((clipped (dot (A 2 0) (A 2 1) (A 2 2) (B 0 0) (B 1 0) (B 2 0))) = x2) := ⟨_, rfl⟩
  obtain ⟨y2, hy2⟩ : ∃ y2, Hid ((clipped (dot (A 2 0) (A 2 1) (A 2 2) (B 0 1) (B 1 1) (B 2 1))) = y2) := ⟨_, rfl⟩
  obtain ⟨z2, hz2⟩ : ∃ z2, Hid ((clipped (dot (A 2 0) (A 2 1) (A 2 2) (B 0 2) (B 1 2) (B 2 2))) = z2) := ⟨_, rfl⟩
  obtain ⟨u, hu⟩ : ∃ u, Hid ((cut (dot (A 0 0) (A 0 1) (A 0 2) (B 0 0) (B 1 0) (B 2 0)) || cut (dot (A 0 0) (A 0 1) (A 0 2) (B 0 1) (B 1 1) (B 2 1)) || cut (dot (A 0 0) (A 0 1) (A 0 2) (B 0 2) (B 1 2) (B 2 2))) = u) := ⟨_, rfl⟩
  obtain ⟨v, hv⟩ : ∃ v, Hid ((cut (dot (A 1 0) (A 1 1) (A 1 2) (B 0 0) (B 1 0) (B 2 0)) || cut (dot (A 1 0) (A 1 1) (A 1 2) (B 0 1) (B 1 1) (B 2 1)) || cut (dot (A 1 0) (A 1 1) (A 1 2) (B 0 2) (B 1 2) (B 2 2))) = v) := ⟨_, rfl⟩
  obtain ⟨t, ht⟩ : ∃ t, Hid ((cut (dot (A 2 0) (A 2 1) (A 2 2) (B 0 0) (B 1 0) (B 2 0)) || cut (dot (A 2 0) (A 2 1) (A 2 2) (B 0 1) (B 1 1) (B 2 1)) || cut (dot (A 2 0) (A 2 1) (A 2 2) (B 0 2) (B 1 2) (B 2 2))) = t) := ⟨_, rfl⟩
  rw [hx0.out, hy0.out, hz0.out, hu.out] at d1
  rw [hx1.out, hy1.out, hz1.out, hv.out] at d2
  rw [hx2.out, hy2.out, hz2.out, ht.out] at d3
  rw [hx0.out, hy0.out, hz0.out, hu.out]
  rw [hx1.out, hy1.out, hz1.out, hv.out]
  rw [hx2.out, hy2.out, hz2.out, ht.out]
  clear hx0 hy0 hz0 hx1 hy1 hz1 hx2 hy2 hz2 hu hv ht hA hB
  have hA := ((Nine.new w (A 0 0) (A 0 1) (A 0 2) (A 1 0) (A 1 1) (A 1 2) (A 2 0) (A 2 1) (A 2 2) 26).alloc (.cells #[.int .i64 (B 0 0), .int .i64 (B 0 1), .int .i64 (B 0 2), .int .i64 (B 1 0), .int .i64 (B 1 1), .int .i64 (B 1 2), .int .i64 (B 2 0), .int .i64 (B 2 1), .int .i64 (B 2 2)] 26)).alloc (.cells #[.int .i64 0, .int .i64 0, .int .i64 0, .int .i64 0, .int .i64 0, .int .i64 0, .int .i64 0, .int .i64 0, .int .i64 0] 26)
  have hB := (Nine.new (w.alloc (.cells #[.int .i64 (A 0 0), .int .i64 (A 0 1), .int .i64 (A 0 2), .int .i64 (A 1 0), .int .i64 (A 1 1), .int .i64 (A 1 2), .int .i64 (A 2 0), .int .i64 (A 2 1), .int .i64 (A 2 2)] 26)) (B 0 0) (B 0 1) (B 0 2) (B 1 0) (B 1 1) (B 1 2) (B 2 0) (B 2 1) (B 2 2) 26).alloc (.cells #[.int .i64 0, .int .i64 0, .int .i64 0, .int .i64 0, .int .i64 0, .int .i64 0, .int .i64 0, .int .i64 0, .int .i64 0] 26)
  have hR := Nine.new ((w.alloc (.cells #[.int .i64 (A 0 0), .int .i64 (A 0 1), .int .i64 (A 0 2), .int .i64 (A 1 0), .int .i64 (A 1 1), .int .i64 (A 1 2), .int .i64 (A 2 0), .int .i64 (A 2 1), .int .i64 (A 2 2)] 26)).alloc (.cells #[.int .i64 (B 0 0), .int .i64 (B 0 1), .int .i64 (B 0 2), .int .i64 (B 1 0), .int .i64 (B 1 1), .int .i64 (B 1 2), .int .i64 (B 2 0), .int .i64 (B 2 1), .int .i64 (B 2 2)] 26)) 0 0 0 0 0 0 0 0 0 26
  rw [World.size_alloc] at hB hR
  rw [World.size_alloc] at hR
  have hO : Below w.heap.size w (((w.alloc (.cells #[.int .i64 (A 0 0), .int .i64 (A 0 1), .int .i64 (A 0 2), .int .i64 (A 1 0), .int .i64 (A 1 1), .int .i64 (A 1 2), .int .i64 (A 2 0), .int .i64 (A 2 1), .int .i64 (A 2 2)] 26)).alloc (.cells #[.int .i64 (B 0 0), .int .i64 (B 0 1), .int .i64 (B 0 2), .int .i64 (B 1 0), .int .i64 (B 1 1), .int .i64 (B 1 2), .int .i64 (B 2 0), .int .i64 (B 2 1), .int .i64 (B 2 2)] 26)).alloc (.cells #[.int .i64 0, .int .i64 0, .int .i64 0, .int .i64 0, .int .i64 0, .int .i64 0, .int .i64 0, .int .i64 0, .int .i64 0] 26)) := by go_grown
  have gO : w.heap.size ≤ w.heap.size + 1 + 1 := by omega
  cases u
  all_goals
    cases v
    all_goals
      go_enter Tryz.func21, Tryz.ntmps21
      obtain ⟨bl, b0, b1, b2, b3, b4, b5, b6, b7, b8, -, -, -, -, -, -, -, -, -⟩ := (id hB : Nine _ _ (B 0 0) (B 0 1) (B 0 2) (B 1 0) (B 1 1) (B 1 2) (B 2 0) (B 2 1) (B 2 2))
      go_wp2_with fail
      refine (d0.out _).mono ?_
      rintro e' w1 ⟨rfl, hb1⟩
      replace hA := hA.call hb1
      replace hR := hR.call hb1
      replace hO := below_then hO hb1
      clear hb1
      have gC : w1.heap.size ≠ w1.heap.size + 1 := by omega
      have gR : w.heap.size + 1 + 1 ≠ w1.heap.size + 1 := by have := hR.lt; omega
      have gP : w.heap.size ≤ w1.heap.size + 1 := by have := hR.lt; omega
      have hC := Nine.new w1 (B 0 0) (B 1 0) (B 2 0) (B 0 1) (B 1 1) (B 2 1) (B 0 2) (B 1 2) (B 2 2) 26
      replace hA := hA.alloc (.cells #[.int .i64 (B 0 0), .int .i64 (B 1 0), .int .i64 (B 2 0), .int .i64 (B 0 1), .int .i64 (B 1 1), .int .i64 (B 2 1), .int .i64 (B 0 2), .int .i64 (B 1 2), .int .i64 (B 2 2)] 26)
      replace hR := hR.alloc (.cells #[.int .i64 (B 0 0), .int .i64 (B 1 0), .int .i64 (B 2 0), .int .i64 (B 0 1), .int .i64 (B 1 1), .int .i64 (B 2 1), .int .i64 (B 0 2), .int .i64 (B 1 2), .int .i64 (B 2 2)] 26)
      replace hO := hO.alloc hO.size (.cells #[.int .i64 (B 0 0), .int .i64 (B 1 0), .int .i64 (B 2 0), .int .i64 (B 0 1), .int .i64 (B 1 1), .int .i64 (B 2 1), .int .i64 (B 0 2), .int .i64 (B 1 2), .int .i64 (B 2 2)] 26)
      have hP := Nine.new (w1.alloc (.cells #[.int .i64 (B 0 0), .int .i64 (B 1 0), .int .i64 (B 2 0), .int .i64 (B 0 1), .int .i64 (B 1 1), .int .i64 (B 2 1), .int .i64 (B 0 2), .int .i64 (B 1 2), .int .i64 (B 2 2)] 26)) 0 0 0 0 0 0 0 0 0 26
      rw [World.size_alloc] at hP
      replace hA := hA.alloc (.cells #[.int .i64 0, .int .i64 0, .int .i64 0, .int .i64 0, .int .i64 0, .int .i64 0, .int .i64 0, .int .i64 0, .int .i64 0] 26)
      replace hC := hC.alloc (.cells #[.int .i64 0, .int .i64 0, .int .i64 0, .int .i64 0, .int .i64 0, .int .i64 0, .int .i64 0, .int .i64 0, .int .i64 0] 26)
      replace hR := hR.alloc (.cells #[.int .i64 0, .int .i64 0, .int .i64 0, .int .i64 0, .int .i64 0, .int .i64 0, .int .i64 0, .int .i64 0, .int .i64 0] 26)
      replace hO := hO.alloc hO.size (.cells #[.int .i64 0, .int .i64 0, .int .i64 0, .int .i64 0, .int .i64 0, .int .i64 0, .int .i64 0, .int .i64 0, .int .i64 0] 26)
      obtain ⟨al, a0, a1, a2, a3, a4, a5, a6, a7, a8, -, -, -, -, -, -, -, -, -⟩ := (id hA : Nine _ _ (A 0 0) (A 0 1) (A 0 2) (A 1 0) (A 1 1) (A 1 2) (A 2 0) (A 2 1) (A 2 2))
      clear hA
      go_wp2
      clear a0 b0 a1 b1 a2 b2 a3 b3 a4 b4 a5 b5 a6 b6 a7 b7 a8 b8 al bl
      refine wp_loop_rounds 4 ?_
      rw [rounds_succ]
      replace hC := hC.alloc (.cells #[.int .i64 (A 0 0), .int .i64 (A 0 1), .int .i64 (A 0 2)] 24)
      replace hR := hR.alloc (.cells #[.int .i64 (A 0 0), .int .i64 (A 0 1), .int .i64 (A 0 2)] 24)
      replace hP := hP.alloc (.cells #[.int .i64 (A 0 0), .int .i64 (A 0 1), .int .i64 (A 0 2)] 24)
      replace hO := hO.alloc hO.size (.cells #[.int .i64 (A 0 0), .int .i64 (A 0 1), .int .i64 (A 0 2)] 24)
      obtain ⟨cl, c0, c1, c2, c3, c4, c5, c6, c7, c8, -, -, -, -, -, -, -, -, -⟩ := (id hC : Nine _ _ (B 0 0) (B 1 0) (B 2 0) (B 0 1) (B 1 1) (B 2 1) (B 0 2) (B 1 2) (B 2 2))
      go_wp2_with fail
      refine (d1.out _).mono ?_
      rintro e' w2 ⟨rfl, hb1⟩
      replace hC := ((hC.call hb1).alloc (.cells #[.int .i64 x0, .int .i64 y0, .int .i64 z0] 24)).apart3 gC 0 1 2 (.int .i64 x0) (.int .i64 y0) (.int .i64 z0)
      replace hR := ((hR.call hb1).alloc (.cells #[.int .i64 x0, .int .i64 y0, .int .i64 z0] 24)).apart3 gR 0 1 2 (.int .i64 x0) (.int .i64 y0) (.int .i64 z0)
      replace hP := (hP.call hb1).alloc (.cells #[.int .i64 x0, .int .i64 y0, .int .i64 z0] 24)
      replace hO := below_row ((below_then hO hb1).alloc (below_then hO hb1).size (.cells #[.int .i64 x0, .int .i64 y0, .int .i64 z0] 24)) gP 0 1 2 (.int .i64 x0) (.int .i64 y0) (.int .i64 z0)
      clear hb1 cl c0 c1 c2 c3 c4 c5 c6 c7 c8
      obtain ⟨tl, t0, t1, t2, t3, t4, t5, t6, t7, t8, t9, t10, t11, t12, t13, t14, t15, t16, t17⟩ := (id hP : Nine _ _ 0 0 0 0 0 0 0 0 0)
      replace hP := hP.row0 x0 y0 z0
      go_wp2
      clear t0 t1 t2 t3 t4 t5 t6 t7 t8 t9 t10 t11 t12 t13 t14 t15 t16 t17 tl
      rw [rounds_succ]
      replace hC := hC.alloc (.cells #[.int .i64 (A 1 0), .int .i64 (A 1 1), .int .i64 (A 1 2)] 24)
      replace hR := hR.alloc (.cells #[.int .i64 (A 1 0), .int .i64 (A 1 1), .int .i64 (A 1 2)] 24)
      replace hP := hP.alloc (.cells #[.int .i64 (A 1 0), .int .i64 (A 1 1), .int .i64 (A 1 2)] 24)
      replace hO := hO.alloc hO.size (.cells #[.int .i64 (A 1 0), .int .i64 (A 1 1), .int .i64 (A 1 2)] 24)
      obtain ⟨cl, c0, c1, c2, c3, c4, c5, c6, c7, c8, -, -, -, -, -, -, -, -, -⟩ := (id hC : Nine _ _ (B 0 0) (B 1 0) (B 2 0) (B 0 1) (B 1 1) (B 2 1) (B 0 2) (B 1 2) (B 2 2))
      go_wp2_with fail
      refine (d2.out _).mono ?_
      rintro e' w3 ⟨rfl, hb1⟩
      replace hC := ((hC.call hb1).alloc (.cells #[.int .i64 x1, .int .i64 y1, .int .i64 z1] 24)).apart3 gC 3 4 5 (.int .i64 x1) (.int .i64 y1) (.int .i64 z1)
      replace hR := ((hR.call hb1).alloc (.cells #[.int .i64 x1, .int .i64 y1, .int .i64 z1] 24)).apart3 gR 3 4 5 (.int .i64 x1) (.int .i64 y1) (.int .i64 z1)
      replace hP := (hP.call hb1).alloc (.cells #[.int .i64 x1, .int .i64 y1, .int .i64 z1] 24)
      replace hO := below_row ((below_then hO hb1).alloc (below_then hO hb1).size (.cells #[.int .i64 x1, .int .i64 y1, .int .i64 z1] 24)) gP 3 4 5 (.int .i64 x1) (.int .i64 y1) (.int .i64 z1)
      clear hb1 cl c0 c1 c2 c3 c4 c5 c6 c7 c8
      obtain ⟨tl, t0, t1, t2, t3, t4, t5, t6, t7, t8, t9, t10, t11, t12, t13, t14, t15, t16, t17⟩ := (id hP : Nine _ _ x0 y0 z0 0 0 0 0 0 0)
      replace hP := hP.row1 x1 y1 z1
      go_wp2
      clear t0 t1 t2 t3 t4 t5 t6 t7 t8 t9 t10 t11 t12 t13 t14 t15 t16 t17 tl
      rw [rounds_succ]
      replace hC := hC.alloc (.cells #[.int .i64 (A 2 0), .int .i64 (A 2 1), .int .i64 (A 2 2)] 24)
      replace hR := hR.alloc (.cells #[.int .i64 (A 2 0), .int .i64 (A 2 1), .int .i64 (A 2 2)] 24)
      replace hP := hP.alloc (.cells #[.int .i64 (A 2 0), .int .i64 (A 2 1), .int .i64 (A 2 2)] 24)
      replace hO := hO.alloc hO.size (.cells #[.int .i64 (A 2 0), .int .i64 (A 2 1), .int .i64 (A 2 2)] 24)
      obtain ⟨cl, c0, c1, c2, c3, c4, c5, c6, c7, c8, -, -, -, -, -, -, -, -, -⟩ := (id hC : Nine _ _ (B 0 0) (B 1 0) (B 2 0) (B 0 1) (B 1 1) (B 2 1) (B 0 2) (B 1 2) (B 2 2))
      go_wp2_with fail
      refine (d3.out _).mono ?_
      rintro e' w4 ⟨rfl, hb1⟩
      replace hC := ((hC.call hb1).alloc (.cells #[.int .i64 x2, .int .i64 y2, .int .i64 z2] 24)).apart3 gC 6 7 8 (.int .i64 x2) (.int .i64 y2) (.int .i64 z2)
      replace hR := ((hR.call hb1).alloc (.cells #[.int .i64 x2, .int .i64 y2, .int .i64 z2] 24)).apart3 gR 6 7 8 (.int .i64 x2) (.int .i64 y2) (.int .i64 z2)
      replace hP := (hP.call hb1).alloc (.cells #[.int .i64 x2, .int .i64 y2, .int .i64 z2] 24)
      replace hO := below_row ((below_then hO hb1).alloc (below_then hO hb1).size (.cells #[.int .i64 x2, .int .i64 y2, .int .i64 z2] 24)) gP 6 7 8 (.int .i64 x2) (.int .i64 y2) (.int .i64 z2)
      clear hb1 cl c0 c1 c2 c3 c4 c5 c6 c7 c8
      obtain ⟨tl, t0, t1, t2, t3, t4, t5, t6, t7, t8, t9, t10, t11, t12, t13, t14, t15, t16, t17⟩ := (id hP : Nine _ _ x0 y0 z0 x1 y1 z1 0 0 0)
      replace hP := hP.row2 x2 y2 z2
      go_wp2
      clear t0 t1 t2 t3 t4 t5 t6 t7 t8 t9 t10 t11 t12 t13 t14 t15 t16 t17 tl
      rw [rounds_succ]
      clear hC
      obtain ⟨pl, p0, p1, p2, p3, p4, p5, p6, p7, p8, -, -, -, -, -, -, -, -, -⟩ := (id hP : Nine _ _ x0 y0 z0 x1 y1 z1 x2 y2 z2)
      obtain ⟨rl, r0, r1, r2, r3, r4, r5, r6, r7, r8, r9, r10, r11, r12, r13, r14, r15, r16, r17⟩ := hR
      go_wp2
      refine bodyPost_ret (by simp [results, Tryz.results21, go_sem, r0, r1, r2, r3, r4, r5, r6, r7, r8]; try rfl) rfl ?_
      exact ⟨rfl, below_putM hO gO _ _ _ _ _ _ _ _ _⟩


end Go.Proofs.YtodfcbpcgcgijaaGreatDoor
