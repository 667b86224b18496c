import Derived.Test.YtodfcbpcgcgijaaGreatDoorJK
import Derived.Test.YtodfcbpcgcgijaaGreatDoorJQ
import Derived.Deep.RegionHeld3
import Derived.Deep.DeepCutAuto
import Derived.Test.YtodfcbpcgcgijaaGreatDoorJA
import Derived.Test.YtodfcbpcgcgijaaGreatDoorJN
/- Matrices, in the document's answers: Same, Back, Apply, Mul. -/
namespace Go.Proofs.YtodfcbpcgcgijaaGreatDoor
set_option maxRecDepth 100000
open Go.RowKit
set_option linter.unusedVariables false
attribute [local go_sem] cell_re eqW_self eqV_self eqM_self
attribute [local go_sem ↓] run_eqlW run_neqW run_eqlV run_eqlM

set_option maxRecDepth 100000 in
set_option maxHeartbeats 2000000 in
theorem ref7Same  (w : World) :
    Calls Tryz.prog 16 #[] w fun e' w' => e' = .returned (M9 4294967296 0 0 0 4294967296 0 0 0 4294967296) ∧ Below w.heap.size w w' := by
  go_enter Tryz.func16, Tryz.ntmps16
  go_wp2
  refine bodyPost_ret (by simp [results, Tryz.results16, go_sem]; try rfl) rfl ?_
  exact ⟨rfl, by go_grown⟩

set_option maxRecDepth 100000 in
set_option maxHeartbeats 2000000 in
theorem ref7Back (a b c d e f g h i : Int) (w : World) :
    Calls Tryz.prog 26 #[M9 a b c d e f g h i] w fun e' w' => e' = .returned (M9 a d g b e h c f i) ∧ Below w.heap.size w w' := by
  go_enter Tryz.func26, Tryz.ntmps26
  go_wp2
  refine bodyPost_ret (by simp [results, Tryz.results26, go_sem]; try rfl) rfl ?_
  exact ⟨rfl, by go_grown⟩

set_option maxRecDepth 100000 in
set_option maxHeartbeats 2000000 in
theorem ref7Apply (a b c d e f g h i : Int) (ha : Half a) (hb : Half b) (hc : Half c) (hd : Half d) (he : Half e) (hf : Half f) (hg : Half g) (hh : Half h) (hi : Half i) (x y z : Int) (hx : Half x) (hy : Half y) (hz : Half z) (w : World) :
    Calls Tryz.prog 54 #[M9 a b c d e f g h i, V x y z] w fun e' w' => e' = .returned (.tuple #[V (clipped (dot a b c x y z)) (clipped (dot d e f x y z)) (clipped (dot g h i x y z)), .bool (cut (dot a b c x y z) || cut (dot d e f x y z) || cut (dot g h i x y z))]) ∧ Below w.heap.size w w' := by
  have d1 := Lib.hid (fun W1 : World => ref6Dot a b c x y z ha hb hc hx hy hz W1)
  have d2 := Lib.hid (fun W1 : World => ref6Dot d e f x y z hd he hf hx hy hz W1)
  have d3 := Lib.hid (fun W1 : World => ref6Dot g h i x y z hg hh hi hx hy hz W1)
  unfold sat at d1 d2 d3
  obtain ⟨p, hp⟩ : ∃ p, Hid ((clipped (dot a b c x y z)) = p) := ⟨_, rfl⟩
  obtain ⟨q, hq⟩ : ∃ q, Hid ((clipped (dot d e f x y z)) = q) := ⟨_, rfl⟩
  obtain ⟨r, hr⟩ : ∃ r, Hid ((clipped (dot g h i x y z)) = r) := ⟨_, rfl⟩
  obtain ⟨u, hu⟩ : ∃ u, Hid ((cut (dot a b c x y z)) = u) := ⟨_, rfl⟩
  obtain ⟨v, hv⟩ : ∃ v, Hid ((cut (dot d e f x y z)) = v) := ⟨_, rfl⟩
  obtain ⟨t, ht⟩ : ∃ t, Hid ((cut (dot g h i x y z)) = t) := ⟨_, rfl⟩
  rw [hp.out, hu.out] at d1 ⊢
  rw [hq.out, hv.out] at d2 ⊢
  rw [hr.out, ht.out] at d3 ⊢
  clear hp hq hr hu hv ht ha hb hc hd he hf hg hh hi hx hy hz
  have hA := ((Nine.new w a b c d e f g h i 26).alloc (.cells #[.int .i64 x, .int .i64 y, .int .i64 z] 24)).alloc (.cells #[.int .i64 0, .int .i64 0, .int .i64 0] 24)
  have hX := (Tri.new (w.alloc (.cells #[.int .i64 a, .int .i64 b, .int .i64 c, .int .i64 d, .int .i64 e, .int .i64 f, .int .i64 g, .int .i64 h, .int .i64 i] 26)) x y z 24).alloc (.cells #[.int .i64 0, .int .i64 0, .int .i64 0] 24)
  have hR := Tri.new ((w.alloc (.cells #[.int .i64 a, .int .i64 b, .int .i64 c, .int .i64 d, .int .i64 e, .int .i64 f, .int .i64 g, .int .i64 h, .int .i64 i] 26)).alloc (.cells #[.int .i64 x, .int .i64 y, .int .i64 z] 24)) 0 0 0 24
  rw [World.size_alloc] at hX hR
  rw [World.size_alloc] at hR
  have hO : Below w.heap.size w (((w.alloc (.cells #[.int .i64 a, .int .i64 b, .int .i64 c, .int .i64 d, .int .i64 e, .int .i64 f, .int .i64 g, .int .i64 h, .int .i64 i] 26)).alloc (.cells #[.int .i64 x, .int .i64 y, .int .i64 z] 24)).alloc (.cells #[.int .i64 0, .int .i64 0, .int .i64 0] 24)) := by go_grown
  have gO : w.heap.size ≤ w.heap.size + 1 + 1 := by omega
  cases u
  all_goals
    cases v
    all_goals
      go_enter Tryz.func54, Tryz.ntmps54
      obtain ⟨al, a0, a1, a2, a3, a4, a5, a6, a7, a8, -, -, -, -, -, -, -, -, -⟩ := (id hA : Nine _ _ a b c d e f g h i)
      obtain ⟨xl, x0, x1, x2, -, -, -⟩ := (id hX : Tri _ _ x y z)
      go_wp2_with fail
      refine (d1.out _).mono ?_
      rintro e' w1 ⟨rfl, hb1⟩
      replace hA := hA.call hb1
      replace hX := hX.call hb1
      replace hR := hR.call hb1
      replace hO := below_then hO hb1
      clear hb1
      obtain ⟨al, a0, a1, a2, a3, a4, a5, a6, a7, a8, -, -, -, -, -, -, -, -, -⟩ := (id hA : Nine _ _ a b c d e f g h i)
      obtain ⟨xl, x0, x1, x2, -, -, -⟩ := (id hX : Tri _ _ x y z)
      go_wp2_with fail
      refine (d2.out _).mono ?_
      rintro e' w1 ⟨rfl, hb1⟩
      replace hA := hA.call hb1
      replace hX := hX.call hb1
      replace hR := hR.call hb1
      replace hO := below_then hO hb1
      clear hb1
      obtain ⟨al, a0, a1, a2, a3, a4, a5, a6, a7, a8, -, -, -, -, -, -, -, -, -⟩ := (id hA : Nine _ _ a b c d e f g h i)
      obtain ⟨xl, x0, x1, x2, -, -, -⟩ := (id hX : Tri _ _ x y z)
      go_wp2_with fail
      refine (d3.out _).mono ?_
      rintro e' w1 ⟨rfl, hb1⟩
      replace hA := hA.call hb1
      replace hX := hX.call hb1
      replace hR := hR.call hb1
      replace hO := below_then hO hb1
      clear hb1
      clear hA hX a0 a1 a2 a3 a4 a5 a6 a7 a8 al x0 x1 x2 xl
      obtain ⟨rl, r0, r1, r2, r3, r4, r5⟩ := hR
      go_wp2
      refine bodyPost_ret (by simp [results, Tryz.results54, go_sem, r0, r1, r2]; try rfl) rfl ?_
      exact ⟨rfl, below_putV hO gO _ _ _⟩


end Go.Proofs.YtodfcbpcgcgijaaGreatDoor

/- Matrices, in the document's answers: products. -/
namespace Go.Proofs.YtodfcbpcgcgijaaGreatDoor
set_option maxRecDepth 100000
open Go.RowKit
set_option linter.unusedVariables false
attribute [local go_sem] cell_re eqW_self eqV_self eqM_self
attribute [local go_sem ↓] run_eqlW run_neqW run_eqlV run_eqlM


/-- The matrix of these numbers. -/
abbrev Mx (A : Nat → Nat → Int) : Value := M9 (A 0 0) (A 0 1) (A 0 2) (A 1 0) (A 1 1) (A 1 2) (A 2 0) (A 2 1) (A 2 2)
/-- Every number is one that the program can hold. -/
def HalfM (A : Nat → Nat → Int) : Prop := ∀ i j, i < 3 → j < 3 → Half (A i j)
/-- A product as the program answers it: each number saturated; and whether one did. -/
def mulC (A B : Nat → Nat → Int) (i j : Nat) : Int := clipped (mulM A B i j)
def colCut (A B : Nat → Nat → Int) (j : Nat) : Bool := cut (mulM A B 0 j) || cut (mulM A B 1 j) || cut (mulM A B 2 j)
def mulCut (A B : Nat → Nat → Int) : Bool := colCut A B 0 || colCut A B 1 || colCut A B 2
/-- Rows and columns exchanged. -/
def tr (A : Nat → Nat → Int) (i j : Nat) : Int := A j i
theorem HalfM.tr {A : Nat → Nat → Int} (h : HalfM A) : HalfM (tr A) := fun i j hi hj => h j i hj hi
theorem half_clipped (x : Int) : Half (clipped x) := by unfold clipped Half; omega
theorem HalfM.mulC (A B : Nat → Nat → Int) : HalfM (mulC A B) := fun i j _ _ => half_clipped _
set_option maxRecDepth 100000 in
set_option maxHeartbeats 8000000 in
theorem ref7Mul (A B : Nat → Nat → Int) (hA : HalfM A) (hB : HalfM B) (w : World) :
    Calls Tryz.prog 25 #[Mx A, Mx B] w fun e' w' => e' = .returned (.tuple #[Mx (mulC A B), .bool (mulCut A B)]) ∧ Below w.heap.size w w' := by
  have e : (.tuple #[Mx (mulC A B), .bool (mulCut A B)] : Value) = .tuple #[M9 (clipped (dot (A 0 0) (A 0 1) (A 0 2) (B 0 0) (B 1 0) (B 2 0))) (clipped (dot (A 0 0) (A 0 1) (A 0 2) (B 0 1) (B 1 1) (B 2 1))) (clipped (dot (A 0 0) (A 0 1) (A 0 2) (B 0 2) (B 1 2) (B 2 2))) (clipped (dot (A 1 0) (A 1 1) (A 1 2) (B 0 0) (B 1 0) (B 2 0))) (clipped (dot (A 1 0) (A 1 1) (A 1 2) (B 0 1) (B 1 1) (B 2 1))) (clipped (dot (A 1 0) (A 1 1) (A 1 2) (B 0 2) (B 1 2) (B 2 2))) (clipped (dot (A 2 0) (A 2 1) (A 2 2) (B 0 0) (B 1 0) (B 2 0))) (clipped (dot (A 2 0) (A 2 1) (A 2 2) (B 0 1) (B 1 1) (B 2 1))) (clipped (dot (A 2 0) (A 2 1) (A 2 2) (B 0 2) (B 1 2) (B 2 2))), .bool ((cut (dot (A 0 0) (A 0 1) (A 0 2) (B 0 0) (B 1 0) (B 2 0)) || cut (dot (A 1 0) (A 1 1) (A 1 2) (B 0 0) (B 1 0) (B 2 0)) || cut (dot (A 2 0) (A 2 1) (A 2 2) (B 0 0) (B 1 0) (B 2 0))) || (cut (dot (A 0 0) (A 0 1) (A 0 2) (B 0 1) (B 1 1) (B 2 1)) || cut (dot (A 1 0) (A 1 1) (A 1 2) (B 0 1) (B 1 1) (B 2 1)) || cut (dot (A 2 0) (A 2 1) (A 2 2) (B 0 1) (B 1 1) (B 2 1))) || (cut (dot (A 0 0) (A 0 1) (A 0 2) (B 0 2) (B 1 2) (B 2 2)) || cut (dot (A 1 0) (A 1 1) (A 1 2) (B 0 2) (B 1 2) (B 2 2)) || cut (dot (A 2 0) (A 2 1) (A 2 2) (B 0 2) (B 1 2) (B 2 2))))] := rfl
  rw [e]
  clear e
  have d0 := Lib.hid (fun W1 : World => ref7Back (B 0 0) (B 0 1) (B 0 2) (B 1 0) (B 1 1) (B 1 2) (B 2 0) (B 2 1) (B 2 2) W1)
  have d1 := Lib.hid (fun W1 : World => ref7Apply (A 0 0) (A 0 1) (A 0 2) (A 1 0) (A 1 1) (A 1 2) (A 2 0) (A 2 1) (A 2 2) (hA 0 0 (by decide) (by decide)) (hA 0 1 (by decide) (by decide)) (hA 0 2 (by decide) (by decide)) (hA 1 0 (by decide) (by decide)) (hA 1 1 (by decide) (by decide)) (hA 1 2 (by decide) (by decide)) (hA 2 0 (by decide) (by decide)) (hA 2 1 (by decide) (by decide)) (hA 2 2 (by decide) (by decide)) (B 0 0) (B 1 0) (B 2 0) (hB 0 0 (by decide) (by decide)) (hB 1 0 (by decide) (by decide)) (hB 2 0 (by decide) (by decide)) W1)
  have d2 := Lib.hid (fun W1 : World => ref7Apply (A 0 0) (A 0 1) (A 0 2) (A 1 0) (A 1 1) (A 1 2) (A 2 0) (A 2 1) (A 2 2) (hA 0 0 (by decide) (by decide)) (hA 0 1 (by decide) (by decide)) (hA 0 2 (by decide) (by decide)) (hA 1 0 (by decide) (by decide)) (hA 1 1 (by decide) (by decide)) (hA 1 2 (by decide) (by decide)) (hA 2 0 (by decide) (by decide)) (hA 2 1 (by decide) (by decide)) (hA 2 2 (by decide) (by decide)) (B 0 1) (B 1 1) (B 2 1) (hB 0 1 (by decide) (by decide)) (hB 1 1 (by decide) (by decide)) (hB 2 1 (by decide) (by decide)) W1)
  have d3 := Lib.hid (fun W1 : World => ref7Apply (A 0 0) (A 0 1) (A 0 2) (A 1 0) (A 1 1) (A 1 2) (A 2 0) (A 2 1) (A 2 2) (hA 0 0 (by decide) (by decide)) (hA 0 1 (by decide) (by decide)) (hA 0 2 (by decide) (by decide)) (hA 1 0 (by decide) (by decide)) (hA 1 1 (by decide) (by decide)) (hA 1 2 (by decide) (by decide)) (hA 2 0 (by decide) (by decide)) (hA 2 1 (by decide) (by decide)) (hA 2 2 (by decide) (by decide)) (B 0 2) (B 1 2) (B 2 2) (hB 0 2 (by decide) (by decide)) (hB 1 2 (by decide) (by decide)) (hB 2 2 (by decide) (by decide)) W1)
  obtain ⟨x0, hx0⟩ : ∃ x0, Hid ((clipped (dot (A 0 0) (A 0 1) (A 0 2) (B 0 0) (B 1 0) (B 2 0))) = x0) := ⟨_, rfl⟩
  obtain ⟨x1, hx1⟩ : ∃ x1, Hid ((clipped (dot (A 1 0) (A 1 1) (A 1 2) (B 0 0) (B 1 0) (B 2 0))) = x1) := ⟨_, rfl⟩
  obtain ⟨x2, hx2⟩ : ∃ x2, Hid ((clipped (dot (A 2 0) (A 2 1) (A 2 2) (B 0 0) (B 1 0) (B 2 0))) = x2) := ⟨_, rfl⟩
  obtain ⟨y0, hy0⟩ : ∃ y0, Hid ((clipped (dot (A 0 0) (A 0 1) (A 0 2) (B 0 1) (B 1 1) (B 2 1))) = y0) := ⟨_, rfl⟩
  obtain ⟨y1, hy1⟩ : ∃ y1, Hid ((clipped (dot (A 1 0) (A 1 1) (A 1 2) (B 0 1) (B 1 1) (B 2 1))) = y1) := ⟨_, rfl⟩
  obtain ⟨y2, hy2⟩ : ∃ y2, Hid ((clipped (dot (A 2 0) (A 2 1) (A 2 2) (B 0 1) (B 1 1) (B 2 1))) = y2) := ⟨_, rfl⟩
  obtain ⟨z0, hz0⟩ : ∃ z0, Hid ((clipped (dot (A 0 0) (A 0 1) (A 0 2) (B 0 2) (B 1 2) (B 2 2))) = z0) := ⟨_, rfl⟩
  obtain ⟨z1, hz1⟩ : ∃ z1, Hid ((clipped (dot (A 1 0) (A 1 1) (A 1 2) (B 0 2) (B 1 2) (B 2 2))) = z1) := ⟨_, rfl⟩
  obtain ⟨z2, hz2⟩ : ∃ z2, Hid ((clipped (dot (A 2 0) (A 2 1) (A 2 2) (B 0 2) (B 1 2) (B 2 2))) = z2) := ⟨_, rfl⟩
  obtain ⟨u, hu⟩ : ∃ u, Hid ((cut (dot (A 0 0) (A 0 1) (A 0 2) (B 0 0) (B 1 0) (B 2 0)) || cut (dot (A 1 0) (A 1 1) (A 1 2) (B 0 0) (B 1 0) (B 2 0)) || cut (dot (A 2 0) (A 2 1) (A 2 2) (B 0 0) (B 1 0) (B 2 0))) = u) := ⟨_, rfl⟩
  obtain ⟨v, hv⟩ : ∃ v, Hid ((cut (dot (A 0 0) (A 0 1) (A 0 2) (B 0 1) (B 1 1) (B 2 1)) || cut (dot (A 1 0) (A 1 1) (A 1 2) (B 0 1) (B 1 1) (B 2 1)) || cut (dot (A 2 0) (A 2 1) (A 2 2) (B 0 1) (B 1 1) (B 2 1))) = v) := ⟨_, rfl⟩
  obtain ⟨t, ht⟩ : ∃ t, Hid ((cut (dot (A 0 0) (A 0 1) (A 0 2) (B 0 2) (B 1 2) (B 2 2)) || cut (dot (A 1 0) (A 1 1) (A 1 2) (B 0 2) (B 1 2) (B 2 2)) || cut (dot (A 2 0) (A 2 1) (A 2 2) (B 0 2) (B 1 2) (B 2 2))) = t) := ⟨_, rfl⟩
  rw [hx0.out, hx1.out, hx2.out, hu.out] at d1
  rw [hy0.out, hy1.out, hy2.out, hv.out] at d2
  rw [hz0.out, hz1.out, hz2.out, ht.out] at d3
  rw [hx0.out, hx1.out, hx2.out, hu.out]
  rw [hy0.out, hy1.out, hy2.out, hv.out]
  rw [hz0.out, hz1.out, hz2.out, ht.out]
  have d4 := Lib.hid (fun W1 : World => ref7Back x0 x1 x2 y0 y1 y2 z0 z1 z2 W1)
  clear hx0 hx1 hx2 hy0 hy1 hy2 hz0 hz1 hz2 hu hv ht hA hB
  have hA := ((Nine.new w (A 0 0) (A 0 1) (A 0 2) (A 1 0) (A 1 1) (A 1 2) (A 2 0) (A 2 1) (A 2 2) 26).alloc (.cells #[.int .i64 (B 0 0), .int .i64 (B 0 1), .int .i64 (B 0 2), .int .i64 (B 1 0), .int .i64 (B 1 1), .int .i64 (B 1 2), .int .i64 (B 2 0), .int .i64 (B 2 1), .int .i64 (B 2 2)] 26)).alloc (.cells #[.int .i64 0, .int .i64 0, .int .i64 0, .int .i64 0, .int .i64 0, .int .i64 0, .int .i64 0, .int .i64 0, .int .i64 0] 26)
  have hB := (Nine.new (w.alloc (.cells #[.int .i64 (A 0 0), .int .i64 (A 0 1), .int .i64 (A 0 2), .int .i64 (A 1 0), .int .i64 (A 1 1), .int .i64 (A 1 2), .int .i64 (A 2 0), .int .i64 (A 2 1), .int .i64 (A 2 2)] 26)) (B 0 0) (B 0 1) (B 0 2) (B 1 0) (B 1 1) (B 1 2) (B 2 0) (B 2 1) (B 2 2) 26).alloc (.cells #[.int .i64 0, .int .i64 0, .int .i64 0, .int .i64 0, .int .i64 0, .int .i64 0, .int .i64 0, .int .i64 0, .int .i64 0] 26)
  have hR := Nine.new ((w.alloc (.cells #[.int .i64 (A 0 0), .int .i64 (A 0 1), .int .i64 (A 0 2), .int .i64 (A 1 0), .int .i64 (A 1 1), .int .i64 (A 1 2), .int .i64 (A 2 0), .int .i64 (A 2 1), .int .i64 (A 2 2)] 26)).alloc (.cells #[.int .i64 (B 0 0), .int .i64 (B 0 1), .int .i64 (B 0 2), .int .i64 (B 1 0), .int .i64 (B 1 1), .int .i64 (B 1 2), .int .i64 (B 2 0), .int .i64 (B 2 1), .int .i64 (B 2 2)] 26)) 0 0 0 0 0 0 0 0 0 26
  rw [World.size_alloc] at hB hR
  rw [World.size_alloc] at hR
  have hO : Below w.heap.size w (((w.alloc (.cells #[.int .i64 (A 0 0), .int .i64 (A 0 1), .int .i64 (A 0 2), .int .i64 (A 1 0), .int .i64 (A 1 1), .int .i64 (A 1 2), .int .i64 (A 2 0), .int .i64 (A 2 1), .int .i64 (A 2 2)] 26)).alloc (.cells #[.int .i64 (B 0 0), .int .i64 (B 0 1), .int .i64 (B 0 2), .int .i64 (B 1 0), .int .i64 (B 1 1), .int .i64 (B 1 2), .int .i64 (B 2 0), .int .i64 (B 2 1), .int .i64 (B 2 2)] 26)).alloc (.cells #[.int .i64 0, .int .i64 0, .int .i64 0, .int .i64 0, .int .i64 0, .int .i64 0, .int .i64 0, .int .i64 0, .int .i64 0] 26)) := by go_grown
  have gO : w.heap.size ≤ w.heap.size + 1 + 1 := by omega
  cases u
  all_goals
    cases v
    all_goals
      go_enter Tryz.func25, Tryz.ntmps25
      obtain ⟨bl, b0, b1, b2, b3, b4, b5, b6, b7, b8, -, -, -, -, -, -, -, -, -⟩ := (id hB : Nine _ _ (B 0 0) (B 0 1) (B 0 2) (B 1 0) (B 1 1) (B 1 2) (B 2 0) (B 2 1) (B 2 2))
      go_wp2_with fail
      refine (d0.out _).mono ?_
      rintro e' w1 ⟨rfl, hb1⟩
      replace hA := hA.call hb1
      replace hR := hR.call hb1
      replace hO := below_then hO hb1
      clear hb1
      have hC := Nine.new w1 (B 0 0) (B 1 0) (B 2 0) (B 0 1) (B 1 1) (B 2 1) (B 0 2) (B 1 2) (B 2 2) 26
      replace hA := hA.alloc (.cells #[.int .i64 (B 0 0), .int .i64 (B 1 0), .int .i64 (B 2 0), .int .i64 (B 0 1), .int .i64 (B 1 1), .int .i64 (B 2 1), .int .i64 (B 0 2), .int .i64 (B 1 2), .int .i64 (B 2 2)] 26)
      replace hR := hR.alloc (.cells #[.int .i64 (B 0 0), .int .i64 (B 1 0), .int .i64 (B 2 0), .int .i64 (B 0 1), .int .i64 (B 1 1), .int .i64 (B 2 1), .int .i64 (B 0 2), .int .i64 (B 1 2), .int .i64 (B 2 2)] 26)
      replace hO := hO.alloc hO.size (.cells #[.int .i64 (B 0 0), .int .i64 (B 1 0), .int .i64 (B 2 0), .int .i64 (B 0 1), .int .i64 (B 1 1), .int .i64 (B 2 1), .int .i64 (B 0 2), .int .i64 (B 1 2), .int .i64 (B 2 2)] 26)
      obtain ⟨al, a0, a1, a2, a3, a4, a5, a6, a7, a8, -, -, -, -, -, -, -, -, -⟩ := (id hA : Nine _ _ (A 0 0) (A 0 1) (A 0 2) (A 1 0) (A 1 1) (A 1 2) (A 2 0) (A 2 1) (A 2 2))
      obtain ⟨cl, c0, c1, c2, c3, c4, c5, c6, c7, c8, -, -, -, -, -, -, -, -, -⟩ := (id hC : Nine _ _ (B 0 0) (B 1 0) (B 2 0) (B 0 1) (B 1 1) (B 2 1) (B 0 2) (B 1 2) (B 2 2))
      go_wp2_with fail
      refine (d1.out _).mono ?_
      rintro e' w2 ⟨rfl, hb1⟩
      replace hA := hA.call hb1
      replace hC := hC.call hb1
      replace hR := hR.call hb1
      replace hO := below_then hO hb1
      clear hb1
      have hX := Tri.new w2 x0 x1 x2 24
      replace hA := hA.alloc (.cells #[.int .i64 x0, .int .i64 x1, .int .i64 x2] 24)
      replace hC := hC.alloc (.cells #[.int .i64 x0, .int .i64 x1, .int .i64 x2] 24)
      replace hR := hR.alloc (.cells #[.int .i64 x0, .int .i64 x1, .int .i64 x2] 24)
      replace hO := hO.alloc hO.size (.cells #[.int .i64 x0, .int .i64 x1, .int .i64 x2] 24)
      obtain ⟨al, a0, a1, a2, a3, a4, a5, a6, a7, a8, -, -, -, -, -, -, -, -, -⟩ := (id hA : Nine _ _ (A 0 0) (A 0 1) (A 0 2) (A 1 0) (A 1 1) (A 1 2) (A 2 0) (A 2 1) (A 2 2))
      obtain ⟨cl, c0, c1, c2, c3, c4, c5, c6, c7, c8, -, -, -, -, -, -, -, -, -⟩ := (id hC : Nine _ _ (B 0 0) (B 1 0) (B 2 0) (B 0 1) (B 1 1) (B 2 1) (B 0 2) (B 1 2) (B 2 2))
      go_wp2_with fail
      refine (d2.out _).mono ?_
      rintro e' w3 ⟨rfl, hb1⟩
      replace hA := hA.call hb1
      replace hC := hC.call hb1
      replace hR := hR.call hb1
      replace hX := hX.call hb1
      replace hO := below_then hO hb1
      clear hb1
      have hY := Tri.new w3 y0 y1 y2 24
      replace hA := hA.alloc (.cells #[.int .i64 y0, .int .i64 y1, .int .i64 y2] 24)
      replace hC := hC.alloc (.cells #[.int .i64 y0, .int .i64 y1, .int .i64 y2] 24)
      replace hR := hR.alloc (.cells #[.int .i64 y0, .int .i64 y1, .int .i64 y2] 24)
      replace hX := hX.alloc (.cells #[.int .i64 y0, .int .i64 y1, .int .i64 y2] 24)
      replace hO := hO.alloc hO.size (.cells #[.int .i64 y0, .int .i64 y1, .int .i64 y2] 24)
      obtain ⟨al, a0, a1, a2, a3, a4, a5, a6, a7, a8, -, -, -, -, -, -, -, -, -⟩ := (id hA : Nine _ _ (A 0 0) (A 0 1) (A 0 2) (A 1 0) (A 1 1) (A 1 2) (A 2 0) (A 2 1) (A 2 2))
      obtain ⟨cl, c0, c1, c2, c3, c4, c5, c6, c7, c8, -, -, -, -, -, -, -, -, -⟩ := (id hC : Nine _ _ (B 0 0) (B 1 0) (B 2 0) (B 0 1) (B 1 1) (B 2 1) (B 0 2) (B 1 2) (B 2 2))
      go_wp2_with fail
      refine (d3.out _).mono ?_
      rintro e' w4 ⟨rfl, hb1⟩
      replace hR := hR.call hb1
      replace hX := hX.call hb1
      replace hY := hY.call hb1
      replace hO := below_then hO hb1
      clear hb1
      have hZ := Tri.new w4 z0 z1 z2 24
      replace hR := hR.alloc (.cells #[.int .i64 z0, .int .i64 z1, .int .i64 z2] 24)
      replace hX := hX.alloc (.cells #[.int .i64 z0, .int .i64 z1, .int .i64 z2] 24)
      replace hY := hY.alloc (.cells #[.int .i64 z0, .int .i64 z1, .int .i64 z2] 24)
      replace hO := hO.alloc hO.size (.cells #[.int .i64 z0, .int .i64 z1, .int .i64 z2] 24)
      obtain ⟨x'l, x'0, x'1, x'2, -, -, -⟩ := (id hX : Tri _ _ x0 x1 x2)
      obtain ⟨y'l, y'0, y'1, y'2, -, -, -⟩ := (id hY : Tri _ _ y0 y1 y2)
      obtain ⟨z'l, z'0, z'1, z'2, -, -, -⟩ := (id hZ : Tri _ _ z0 z1 z2)
      go_wp2_with fail
      refine (d4.out _).mono ?_
      rintro e' w5 ⟨rfl, hb1⟩
      replace hR := hR.call hb1
      replace hO := below_then hO hb1
      clear hb1
      obtain ⟨rl, r0, r1, r2, r3, r4, r5, r6, r7, r8, r9, r10, r11, r12, r13, r14, r15, r16, r17⟩ := hR
      go_wp2
      refine bodyPost_ret (by simp [results, Tryz.results25, go_sem, r0, r1, r2, r3, r4, r5, r6, r7, r8]; try rfl) rfl ?_
      exact ⟨rfl, below_putM hO gO _ _ _ _ _ _ _ _ _⟩


end Go.Proofs.YtodfcbpcgcgijaaGreatDoor

/- How far off a matrix is; an array of arrays, looked up. -/
namespace Go.Proofs.YtodfcbpcgcgijaaGreatDoor
set_option maxRecDepth 100000
open Go.RowKit
set_option linter.unusedVariables false
attribute [local go_sem] cell_re eqW_self eqV_self eqM_self
attribute [local go_sem ↓] run_eqlW run_neqW run_eqlV run_eqlM

theorem run_indexM0 (a b c d e f g h i : Int) (w : World) : (Instr.index 26 (M9 a b c d e f g h i) (.int .i64 0)).run Tryz.prog w = .ok (V a b c) w := by
  simp [Instr.index, run_underlying Tryz.underlying26, asIntOf, go_sem]
theorem run_indexM1 (a b c d e f g h i : Int) (w : World) : (Instr.index 26 (M9 a b c d e f g h i) (.int .i64 1)).run Tryz.prog w = .ok (V d e f) w := by
  simp [Instr.index, run_underlying Tryz.underlying26, asIntOf, go_sem]
theorem run_indexM2 (a b c d e f g h i : Int) (w : World) : (Instr.index 26 (M9 a b c d e f g h i) (.int .i64 2)).run Tryz.prog w = .ok (V g h i) w := by
  simp [Instr.index, run_underlying Tryz.underlying26, asIntOf, go_sem]
attribute [local go_sem ↓] run_indexM0 run_indexM1 run_indexM2
/-- How far a row is off, and all three. -/
def offRow (D : Nat → Nat → Int) (i : Nat) : Int := greatest (clipped (D i 0 + -(if i = 0 then 4294967296 else 0))) (clipped (D i 1 + -(if i = 1 then 4294967296 else 0))) (clipped (D i 2 + -(if i = 2 then 4294967296 else 0)))
def offOf (A : Nat → Nat → Int) : Int := max (max (max 0 (offRow (mulC A (tr A)) 0)) (offRow (mulC A (tr A)) 1)) (offRow (mulC A (tr A)) 2)

end Go.Proofs.YtodfcbpcgcgijaaGreatDoor
