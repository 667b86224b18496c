/- The cross product changes its sign with the order, of a vector with itself it is nought, and the dot product hangs on no order. -/
import Derived.Test.YtmedemniopgpeaaRows
import Derived.Test.YtmedemniopgpeaaVecW
import Derived.Test.YtmedemniopgpeaaVecQ
import Derived.Test.YtmedemniopgpeaaLawK
import Derived.WalkKit
import Derived.ProofKit
import Derived.OpenShut
import Derived.Deep.RegionHeld3
namespace Go.Proofs.Ytmedemniopgpeaa.vecApart
open Go.ChangeShapes Go.WideShapes Go.ChangeAt Go.RowKit
set_option linter.unusedVariables false

attribute [local go_sem] cell_re eqW_self eqV_self
attribute [local go_sem ↓] run_eqlW run_neqW run_eqlV

theorem apart_axis (b z c y : Int) : prod y c + -prod z b = -(prod b z + -prod c y) := by
  rw [prod_comm y c, prod_comm z b]
  omega
theorem opposite {u : Int} (h : cut u = false) (k : cut (-u) = false) : clipped u = -clipped (-u) ∧ -9223372036854775807 ≤ clipped (-u) ∧ clipped (-u) ≤ 9223372036854775807 := by
  unfold cut at h k
  have h := of_decide_eq_false h
  have k := of_decide_eq_false k
  unfold clipped
  omega

set_option maxRecDepth 100000 in
set_option maxHeartbeats 4000000 in
theorem walk (a b c x y z : Int) (h0 : Half a ∧ Half b ∧ Half c) (h1 : Half x ∧ Half y ∧ Half z) (w : World) : Calls Try.prog 5 #[V a b c, V x y z] w fun e w' => e = .returned (.bool true) ∧ Below w.heap.size w w' := by
  obtain ⟨ha, hb, hc⟩ := h0
  obtain ⟨hx, hy, hz⟩ := h1
  have d1 := Lib.hid (fun W1 : World => vecCross a b c x y z ha hb hc hx hy hz W1)
  have d2 := Lib.hid (fun W1 : World => vecCross x y z a b c hx hy hz ha hb hc W1)
  have d3 := Lib.hid (fun W1 : World => vecCross a b c a b c ha hb hc ha hb hc W1)
  have d4 := Lib.hid (fun W1 : World => vecDot a b c x y z ha hb hc hx hy hz W1)
  have d5 := Lib.hid (fun W1 : World => vecDot x y z a b c hx hy hz ha hb hc W1)
  rw [dot_comm x y z a b c] at d5
  rw [apart_axis b z c y, apart_axis c x a z, apart_axis a y b x] at d2
  rw [prod_comm c b, prod_comm a c, prod_comm b a, show prod b c + -prod b c = 0 by omega, show prod c a + -prod c a = 0 by omega, show prod a b + -prod a b = 0 by omega, show clipped 0 = 0 by decide, show cut 0 = false by decide, show (false || false || false) = false from rfl] at d3
  unfold sat at d4 d5
  obtain ⟨n, hn⟩ : ∃ n, Hid ((clipped (dot a b c x y z)) = n) := ⟨_, rfl⟩
  obtain ⟨k, hk⟩ : ∃ k, Hid ((cut (dot a b c x y z)) = k) := ⟨_, rfl⟩
  rw [hn.out, hk.out] at d4 d5
  obtain ⟨u, hu⟩ : ∃ u, Hid ((prod b z + -prod c y) = u) := ⟨_, rfl⟩
  obtain ⟨v, hv⟩ : ∃ v, Hid ((prod c x + -prod a z) = v) := ⟨_, rfl⟩
  obtain ⟨t, ht⟩ : ∃ t, Hid ((prod a y + -prod b x) = t) := ⟨_, rfl⟩
  rw [hu.out, hv.out, ht.out] at d1 d2
  clear hn hk hu hv ht ha hb hc hx hy hz
  have facts : Hid ((cut u || cut v || cut t) = false → (cut (-u) || cut (-v) || cut (-t)) = false →
      (clipped u = -clipped (-u) ∧ -9223372036854775807 ≤ clipped (-u) ∧ clipped (-u) ≤ 9223372036854775807) ∧ (clipped v = -clipped (-v) ∧ -9223372036854775807 ≤ clipped (-v) ∧ clipped (-v) ≤ 9223372036854775807) ∧ (clipped t = -clipped (-t) ∧ -9223372036854775807 ≤ clipped (-t) ∧ clipped (-t) ≤ 9223372036854775807)) := fun h1 h2 => by
    simp only [Bool.or_eq_false_iff] at h1 h2
    exact ⟨opposite h1.1.1 h2.1.1, opposite h1.1.2 h2.1.2, opposite h1.2 h2.2⟩
  obtain ⟨p0, hp0⟩ : ∃ p0, Hid ((clipped u) = p0) := ⟨_, rfl⟩
  obtain ⟨p1, hp1⟩ : ∃ p1, Hid ((clipped v) = p1) := ⟨_, rfl⟩
  obtain ⟨p2, hp2⟩ : ∃ p2, Hid ((clipped t) = p2) := ⟨_, rfl⟩
  obtain ⟨q0, hq0⟩ : ∃ q0, Hid ((clipped (-u)) = q0) := ⟨_, rfl⟩
  obtain ⟨q1, hq1⟩ : ∃ q1, Hid ((clipped (-v)) = q1) := ⟨_, rfl⟩
  obtain ⟨q2, hq2⟩ : ∃ q2, Hid ((clipped (-t)) = q2) := ⟨_, rfl⟩
  obtain ⟨e1, he1⟩ : ∃ e1, Hid ((cut u || cut v || cut t) = e1) := ⟨_, rfl⟩
  obtain ⟨e2, he2⟩ : ∃ e2, Hid ((cut (-u) || cut (-v) || cut (-t)) = e2) := ⟨_, rfl⟩
  rw [hp0.out, hp1.out, hp2.out, he1.out] at d1 facts
  rw [hq0.out, hq1.out, hq2.out, he2.out] at d2 facts
  clear hp0 hp1 hp2 hq0 hq1 hq2 he1 he2
  have ways : Hid (e1 = true ∨ (e1 = false ∧ e2 = true) ∨ (e1 = false ∧ e2 = false ∧ (-q0 = p0 ∧ -q1 = p1 ∧ -q2 = p2) ∧ (-9223372036854775807 ≤ q0 ∧ q0 ≤ 9223372036854775807) ∧ (-9223372036854775807 ≤ q1 ∧ q1 ≤ 9223372036854775807) ∧ (-9223372036854775807 ≤ q2 ∧ q2 ≤ 9223372036854775807))) := by
    cases e1
    · cases e2
      · obtain ⟨f1, f2, f3⟩ := facts.out rfl rfl
        exact Or.inr (Or.inr ⟨rfl, rfl, ⟨f1.1.symm, f2.1.symm, f3.1.symm⟩, f1.2, f2.2, f3.2⟩)
      · exact Or.inr (Or.inl ⟨rfl, rfl⟩)
    · exact Or.inl rfl
  clear facts
  have hA := (Tri.new w a b c 24).alloc (.cells #[.int .i64 x, .int .i64 y, .int .i64 z] 24)
  have hB := Tri.new (w.alloc (.cells #[.int .i64 a, .int .i64 b, .int .i64 c] 24)) x y z 24
  rw [World.size_alloc] at hB
  have hO : Below w.heap.size w ((w.alloc (.cells #[.int .i64 a, .int .i64 b, .int .i64 c] 24)).alloc (.cells #[.int .i64 x, .int .i64 y, .int .i64 z] 24)) := by go_grown
  rcases ways.out with rfl | ⟨rfl, rfl⟩ | ⟨rfl, rfl, ⟨rfl, rfl, rfl⟩, ⟨q00, q01⟩, ⟨q10, q11⟩, ⟨q20, q21⟩⟩
  · clear ways
    go_enter Try.func5, Try.ntmps5
    go_wp2_with fail
    refine (works _).mono ?_
    rintro e w1 ⟨rfl, hb1⟩
    replace hA := hA.call hb1
    replace hB := hB.call hb1
    replace hO := below_then hO hb1
    clear hb1
    obtain ⟨al, a0, a1, a2, -, -, -⟩ := (id hA : Tri _ _ a b c)
    obtain ⟨bl, b0, b1, b2, -, -, -⟩ := (id hB : Tri _ _ x y z)
    go_wp2_with fail
    refine (d1.out _).mono ?_
    rintro e w2 ⟨rfl, hb1⟩
    replace hA := hA.call hb1
    replace hB := hB.call hb1
    replace hO := below_then hO hb1
    clear hb1
    have hX := Tri.new w2 p0 p1 p2 24
    replace hA := hA.alloc (.cells #[.int .i64 p0, .int .i64 p1, .int .i64 p2] 24)
    replace hB := hB.alloc (.cells #[.int .i64 p0, .int .i64 p1, .int .i64 p2] 24)
    replace hO := hO.alloc hO.size (.cells #[.int .i64 p0, .int .i64 p1, .int .i64 p2] 24)
    obtain ⟨al, a0, a1, a2, -, -, -⟩ := (id hA : Tri _ _ a b c)
    obtain ⟨bl, b0, b1, b2, -, -, -⟩ := (id hB : Tri _ _ x y z)
    go_wp2_with fail
    refine (d2.out _).mono ?_
    rintro e w3 ⟨rfl, hb1⟩
    replace hA := hA.call hb1
    replace hB := hB.call hb1
    replace hX := hX.call hb1
    replace hO := below_then hO hb1
    clear hb1
    have hY := Tri.new w3 q0 q1 q2 24
    replace hA := hA.alloc (.cells #[.int .i64 q0, .int .i64 q1, .int .i64 q2] 24)
    replace hB := hB.alloc (.cells #[.int .i64 q0, .int .i64 q1, .int .i64 q2] 24)
    replace hX := hX.alloc (.cells #[.int .i64 q0, .int .i64 q1, .int .i64 q2] 24)
    replace hO := hO.alloc hO.size (.cells #[.int .i64 q0, .int .i64 q1, .int .i64 q2] 24)
    obtain ⟨al, a0, a1, a2, -, -, -⟩ := (id hA : Tri _ _ a b c)
    go_wp2_with fail
    refine (d3.out _).mono ?_
    rintro e w4 ⟨rfl, hb1⟩
    replace hA := hA.call hb1
    replace hB := hB.call hb1
    replace hX := hX.call hb1
    replace hY := hY.call hb1
    replace hO := below_then hO hb1
    clear hb1
    have hZ := Tri.new w4 0 0 0 24
    replace hA := hA.alloc (.cells #[.int .i64 0, .int .i64 0, .int .i64 0] 24)
    replace hB := hB.alloc (.cells #[.int .i64 0, .int .i64 0, .int .i64 0] 24)
    replace hX := hX.alloc (.cells #[.int .i64 0, .int .i64 0, .int .i64 0] 24)
    replace hY := hY.alloc (.cells #[.int .i64 0, .int .i64 0, .int .i64 0] 24)
    replace hO := hO.alloc hO.size (.cells #[.int .i64 0, .int .i64 0, .int .i64 0] 24)
    obtain ⟨al, a0, a1, a2, -, -, -⟩ := (id hA : Tri _ _ a b c)
    obtain ⟨bl, b0, b1, b2, -, -, -⟩ := (id hB : Tri _ _ x y z)
    go_wp2_with fail
    refine (d4.out _).mono ?_
    rintro e w5 ⟨rfl, hb1⟩
    replace hA := hA.call hb1
    replace hB := hB.call hb1
    replace hX := hX.call hb1
    replace hY := hY.call hb1
    replace hZ := hZ.call hb1
    replace hO := below_then hO hb1
    clear hb1
    obtain ⟨al, a0, a1, a2, -, -, -⟩ := (id hA : Tri _ _ a b c)
    obtain ⟨bl, b0, b1, b2, -, -, -⟩ := (id hB : Tri _ _ x y z)
    go_wp2_with fail
    refine (d5.out _).mono ?_
    rintro e w6 ⟨rfl, hb1⟩
    replace hX := hX.call hb1
    replace hY := hY.call hb1
    replace hZ := hZ.call hb1
    replace hO := below_then hO hb1
    clear hb1
    obtain ⟨xl, x0, x1, x2, -, -, -⟩ := (id hX : Tri _ _ p0 p1 p2)
    obtain ⟨yl, y0, y1, y2, -, -, -⟩ := (id hY : Tri _ _ q0 q1 q2)
    obtain ⟨zl, z0, z1, z2, -, -, -⟩ := (id hZ : Tri _ _ 0 0 0)
    clear hX hY hZ hA hB a0 a1 a2 b0 b1 b2 al bl
    go_wp2
    go_ret
    exact ⟨rfl, hO⟩
  · clear ways
    go_enter Try.func5, Try.ntmps5
    go_wp2_with fail
    refine (works _).mono ?_
    rintro e w1 ⟨rfl, hb1⟩
    replace hA := hA.call hb1
    replace hB := hB.call hb1
    replace hO := below_then hO hb1
    clear hb1
    obtain ⟨al, a0, a1, a2, -, -, -⟩ := (id hA : Tri _ _ a b c)
    obtain ⟨bl, b0, b1, b2, -, -, -⟩ := (id hB : Tri _ _ x y z)
    go_wp2_with fail
    refine (d1.out _).mono ?_
    rintro e w2 ⟨rfl, hb1⟩
    replace hA := hA.call hb1
    replace hB := hB.call hb1
    replace hO := below_then hO hb1
    clear hb1
    have hX := Tri.new w2 p0 p1 p2 24
    replace hA := hA.alloc (.cells #[.int .i64 p0, .int .i64 p1, .int .i64 p2] 24)
    replace hB := hB.alloc (.cells #[.int .i64 p0, .int .i64 p1, .int .i64 p2] 24)
    replace hO := hO.alloc hO.size (.cells #[.int .i64 p0, .int .i64 p1, .int .i64 p2] 24)
    obtain ⟨al, a0, a1, a2, -, -, -⟩ := (id hA : Tri _ _ a b c)
    obtain ⟨bl, b0, b1, b2, -, -, -⟩ := (id hB : Tri _ _ x y z)
    go_wp2_with fail
    refine (d2.out _).mono ?_
    rintro e w3 ⟨rfl, hb1⟩
    replace hA := hA.call hb1
    replace hB := hB.call hb1
    replace hX := hX.call hb1
    replace hO := below_then hO hb1
    clear hb1
    have hY := Tri.new w3 q0 q1 q2 24
    replace hA := hA.alloc (.cells #[.int .i64 q0, .int .i64 q1, .int .i64 q2] 24)
    replace hB := hB.alloc (.cells #[.int .i64 q0, .int .i64 q1, .int .i64 q2] 24)
    replace hX := hX.alloc (.cells #[.int .i64 q0, .int .i64 q1, .int .i64 q2] 24)
    replace hO := hO.alloc hO.size (.cells #[.int .i64 q0, .int .i64 q1, .int .i64 q2] 24)
    obtain ⟨al, a0, a1, a2, -, -, -⟩ := (id hA : Tri _ _ a b c)
    go_wp2_with fail
    refine (d3.out _).mono ?_
    rintro e w4 ⟨rfl, hb1⟩
    replace hA := hA.call hb1
    replace hB := hB.call hb1
    replace hX := hX.call hb1
    replace hY := hY.call hb1
    replace hO := below_then hO hb1
    clear hb1
    have hZ := Tri.new w4 0 0 0 24
    replace hA := hA.alloc (.cells #[.int .i64 0, .int .i64 0, .int .i64 0] 24)
    replace hB := hB.alloc (.cells #[.int .i64 0, .int .i64 0, .int .i64 0] 24)
    replace hX := hX.alloc (.cells #[.int .i64 0, .int .i64 0, .int .i64 0] 24)
    replace hY := hY.alloc (.cells #[.int .i64 0, .int .i64 0, .int .i64 0] 24)
    replace hO := hO.alloc hO.size (.cells #[.int .i64 0, .int .i64 0, .int .i64 0] 24)
    obtain ⟨al, a0, a1, a2, -, -, -⟩ := (id hA : Tri _ _ a b c)
    obtain ⟨bl, b0, b1, b2, -, -, -⟩ := (id hB : Tri _ _ x y z)
    go_wp2_with fail
    refine (d4.out _).mono ?_
    rintro e w5 ⟨rfl, hb1⟩
    replace hA := hA.call hb1
    replace hB := hB.call hb1
    replace hX := hX.call hb1
    replace hY := hY.call hb1
    replace hZ := hZ.call hb1
    replace hO := below_then hO hb1
    clear hb1
    obtain ⟨al, a0, a1, a2, -, -, -⟩ := (id hA : Tri _ _ a b c)
    obtain ⟨bl, b0, b1, b2, -, -, -⟩ := (id hB : Tri _ _ x y z)
    go_wp2_with fail
    refine (d5.out _).mono ?_
    rintro e w6 ⟨rfl, hb1⟩
    replace hX := hX.call hb1
    replace hY := hY.call hb1
    replace hZ := hZ.call hb1
    replace hO := below_then hO hb1
    clear hb1
    obtain ⟨xl, x0, x1, x2, -, -, -⟩ := (id hX : Tri _ _ p0 p1 p2)
    obtain ⟨yl, y0, y1, y2, -, -, -⟩ := (id hY : Tri _ _ q0 q1 q2)
    obtain ⟨zl, z0, z1, z2, -, -, -⟩ := (id hZ : Tri _ _ 0 0 0)
    clear hX hY hZ hA hB a0 a1 a2 b0 b1 b2 al bl
    go_wp2
    go_ret
    exact ⟨rfl, hO⟩
  · clear ways
    go_enter Try.func5, Try.ntmps5
    go_wp2_with fail
    refine (works _).mono ?_
    rintro e w1 ⟨rfl, hb1⟩
    replace hA := hA.call hb1
    replace hB := hB.call hb1
    replace hO := below_then hO hb1
    clear hb1
    obtain ⟨al, a0, a1, a2, -, -, -⟩ := (id hA : Tri _ _ a b c)
    obtain ⟨bl, b0, b1, b2, -, -, -⟩ := (id hB : Tri _ _ x y z)
    go_wp2_with fail
    refine (d1.out _).mono ?_
    rintro e w2 ⟨rfl, hb1⟩
    replace hA := hA.call hb1
    replace hB := hB.call hb1
    replace hO := below_then hO hb1
    clear hb1
    have hX := Tri.new w2 (-q0) (-q1) (-q2) 24
    replace hA := hA.alloc (.cells #[.int .i64 (-q0), .int .i64 (-q1), .int .i64 (-q2)] 24)
    replace hB := hB.alloc (.cells #[.int .i64 (-q0), .int .i64 (-q1), .int .i64 (-q2)] 24)
    replace hO := hO.alloc hO.size (.cells #[.int .i64 (-q0), .int .i64 (-q1), .int .i64 (-q2)] 24)
    obtain ⟨al, a0, a1, a2, -, -, -⟩ := (id hA : Tri _ _ a b c)
    obtain ⟨bl, b0, b1, b2, -, -, -⟩ := (id hB : Tri _ _ x y z)
    go_wp2_with fail
    refine (d2.out _).mono ?_
    rintro e w3 ⟨rfl, hb1⟩
    replace hA := hA.call hb1
    replace hB := hB.call hb1
    replace hX := hX.call hb1
    replace hO := below_then hO hb1
    clear hb1
    have hY := Tri.new w3 q0 q1 q2 24
    replace hA := hA.alloc (.cells #[.int .i64 q0, .int .i64 q1, .int .i64 q2] 24)
    replace hB := hB.alloc (.cells #[.int .i64 q0, .int .i64 q1, .int .i64 q2] 24)
    replace hX := hX.alloc (.cells #[.int .i64 q0, .int .i64 q1, .int .i64 q2] 24)
    replace hO := hO.alloc hO.size (.cells #[.int .i64 q0, .int .i64 q1, .int .i64 q2] 24)
    obtain ⟨al, a0, a1, a2, -, -, -⟩ := (id hA : Tri _ _ a b c)
    go_wp2_with fail
    refine (d3.out _).mono ?_
    rintro e w4 ⟨rfl, hb1⟩
    replace hA := hA.call hb1
    replace hB := hB.call hb1
    replace hX := hX.call hb1
    replace hY := hY.call hb1
    replace hO := below_then hO hb1
    clear hb1
    have hZ := Tri.new w4 0 0 0 24
    replace hA := hA.alloc (.cells #[.int .i64 0, .int .i64 0, .int .i64 0] 24)
    replace hB := hB.alloc (.cells #[.int .i64 0, .int .i64 0, .int .i64 0] 24)
    replace hX := hX.alloc (.cells #[.int .i64 0, .int .i64 0, .int .i64 0] 24)
    replace hY := hY.alloc (.cells #[.int .i64 0, .int .i64 0, .int .i64 0] 24)
    replace hO := hO.alloc hO.size (.cells #[.int .i64 0, .int .i64 0, .int .i64 0] 24)
    obtain ⟨al, a0, a1, a2, -, -, -⟩ := (id hA : Tri _ _ a b c)
    obtain ⟨bl, b0, b1, b2, -, -, -⟩ := (id hB : Tri _ _ x y z)
    go_wp2_with fail
    refine (d4.out _).mono ?_
    rintro e w5 ⟨rfl, hb1⟩
    replace hA := hA.call hb1
    replace hB := hB.call hb1
    replace hX := hX.call hb1
    replace hY := hY.call hb1
    replace hZ := hZ.call hb1
    replace hO := below_then hO hb1
    clear hb1
    obtain ⟨al, a0, a1, a2, -, -, -⟩ := (id hA : Tri _ _ a b c)
    obtain ⟨bl, b0, b1, b2, -, -, -⟩ := (id hB : Tri _ _ x y z)
    go_wp2_with fail
    refine (d5.out _).mono ?_
    rintro e w6 ⟨rfl, hb1⟩
    replace hX := hX.call hb1
    replace hY := hY.call hb1
    replace hZ := hZ.call hb1
    replace hO := below_then hO hb1
    clear hb1
    obtain ⟨xl, x0, x1, x2, -, -, -⟩ := (id hX : Tri _ _ (-q0) (-q1) (-q2))
    obtain ⟨yl, y0, y1, y2, -, -, -⟩ := (id hY : Tri _ _ q0 q1 q2)
    obtain ⟨zl, z0, z1, z2, -, -, -⟩ := (id hZ : Tri _ _ 0 0 0)
    clear hX hY hZ hA hB a0 a1 a2 b0 b1 b2 al bl
    go_wp2
    go_ret
    exact ⟨rfl, hO⟩


set_option maxRecDepth 100000 in
theorem lifted (os : Os) (started : os.Started) (H : Type) (enc : TypeId × Value → H) :
    ReturnsInHanded {} Try.checked os 5 .any (Rows.vecApartSpec.pre6 enc Try.prog Try.f5 Rows.vecApartRow.domain false) (Rows.vecApartSpec.post enc Try.prog Try.f5 false true false false) := by
  refine returnsInHanded_of_change (C := Try.checked) own started (by kernel_rfl) Try.func5
    (ChangeSpec.witness6 (enc := enc) (C := Try.checked) false ⟨#[], #[.agg #[.int .i64 0, .int .i64 0, .int .i64 0], .agg #[.int .i64 0, .int .i64 0, .int .i64 0]], []⟩ 8 (by kernel_rfl) (by kernel_rfl) (by kernel_rfl) (by kernel_rfl)) ?_
  intro W1 base args ds gs before hval0 hW hcnd _
  have hval : ∀ (j : Nat) t v, Try.f5.params[j]? = some t → args[j]? = some v → Value.okWide Try.prog W1 .any base t v := hval0
  have hW' := hW
  obtain ⟨p, q, hA0, hV, rfl, hfz, hnd⟩ := hW
  have hA : DataW.TrodAll enc Try.prog W1 0 (fun _ => true) true Try.f5.params.toList args.toList ds p := hA0
  rw [Try.params5] at hA hval
  obtain ⟨v0, vs0, d0, ds0, p0, q0, hargs, rfl, rfl, h0, r0⟩ := trodAll_cons hA
  obtain ⟨v1, vs1, d1, ds1, p1, q1, rfl, rfl, rfl, h1, r1⟩ := trodAll_cons r0
  obtain ⟨rfl, rfl, rfl⟩ := trodAll_nil r1
  obtain rfl : args = #[v0, v1] := by cases args; simp_all
  obtain ⟨rfl, rfl⟩ := trodVars_none hV
  obtain ⟨a, b, c, w0, rfl, -⟩ := open_V (hval 0 24 v0 rfl rfl) h0
  obtain ⟨x, y, z, w1, rfl, -⟩ := open_V (hval 1 24 v1 rfl rfl) h1
  clear hA0 hval0 hval hA
  refine (walk a b c x y z w0 w1 W1).mono fun e W' ⟨he, hg⟩ => ?_
  subst he
  exact ⟨_, rfl, law_post laidOut (by kernel_rfl) rfl (by kernel_rfl) Try.underlying4 hW' rfl hg⟩

theorem over : Rows.vecApartRow.holds Try.pinned (OpenSpec.ofChange Rows.vecApartSpec) :=
  OpenClaim.holds_of_wide 5 Try.f5 rfl rfl rfl rfl rfl rfl rfl ⟨rfl, rfl, rfl, rfl, rfl⟩ rfl rfl rfl rfl rfl (by kernel_rfl) Try.func5 (by kernel_rfl)
    (of_decide_eq_true (by kernel_rfl)) (by unfold Func.isWrapper; first | (rw [if_pos (by decide +kernel)]; kernel_rfl) | (rw [if_neg (by decide +kernel)]; exact ⟨rfl, rfl⟩))
    (fun os started H enc _ => lifted os started H enc)

theorem proved : Rows.VecApartSaid :=
  over
end Go.Proofs.Ytmedemniopgpeaa.vecApart
