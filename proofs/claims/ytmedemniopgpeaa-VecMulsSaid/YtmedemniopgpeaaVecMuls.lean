/- Dot and cross products of any vectors are as the document's answers have them. -/
import Derived.Test.YtmedemniopgpeaaRows
import Derived.Test.YtmedemniopgpeaaVecW
import Derived.Test.YtmedemniopgpeaaVecQ
import Derived.Test.YtmedemniopgpeaaRefQ
import Derived.Test.YtmedemniopgpeaaLawK
import Derived.WalkKit
import Derived.ProofKit
import Derived.OpenShut
import Derived.Deep.RegionHeld3
namespace Go.Proofs.Ytmedemniopgpeaa.vecMuls
open Go.ChangeShapes Go.WideShapes Go.ChangeAt Go.RowKit
set_option linter.unusedVariables false

attribute [local go_sem] cell_re eqW_self eqV_self
attribute [local go_sem ↓] run_eqlW run_neqW run_eqlV

set_option maxRecDepth 100000 in
set_option maxHeartbeats 4000000 in
theorem walk (a b c x y z : Int) (h0 : Half a ∧ Half b ∧ Half c) (h1 : Half x ∧ Half y ∧ Half z) (w : World) : Calls Try.prog 3 #[V a b c, V x y z] w fun e w' => e = .returned (.bool true) ∧ Below w.heap.size w w' := by
  obtain ⟨ha, hb, hc⟩ := h0
  obtain ⟨hx, hy, hz⟩ := h1
  have d1 := Lib.hid (fun W1 : World => vecDot a b c x y z ha hb hc hx hy hz W1)
  have d2 := Lib.hid (fun W1 : World => ref6Dot a b c x y z ha hb hc hx hy hz W1)
  have d3 := Lib.hid (fun W1 : World => vecCross a b c x y z ha hb hc hx hy hz W1)
  have d4 := Lib.hid (fun W1 : World => ref6Cross a b c x y z ha hb hc hx hy hz W1)
  unfold sat at d1 d2
  obtain ⟨n, hn⟩ : ∃ n, Hid ((clipped (dot a b c x y z)) = n) := ⟨_, rfl⟩
  obtain ⟨k, hk⟩ : ∃ k, Hid ((cut (dot a b c x y z)) = k) := ⟨_, rfl⟩
  obtain ⟨p, hp⟩ : ∃ p, Hid ((clipped (prod b z + -prod c y)) = p) := ⟨_, rfl⟩
  obtain ⟨q, hq⟩ : ∃ q, Hid ((clipped (prod c x + -prod a z)) = q) := ⟨_, rfl⟩
  obtain ⟨r, hr⟩ : ∃ r, Hid ((clipped (prod a y + -prod b x)) = r) := ⟨_, rfl⟩
  obtain ⟨t, ht⟩ : ∃ t, Hid ((cut (prod b z + -prod c y) || cut (prod c x + -prod a z) || cut (prod a y + -prod b x)) = t) := ⟨_, rfl⟩
  rw [hn.out, hk.out] at d1 d2
  rw [hp.out, hq.out, hr.out, ht.out] at d3 d4
  clear hn hk hp hq hr ht ha hb hc hx hy hz
  have hA := (Tri.new w a b c 24).alloc (.cells #[.int .i64 x, .int .i64 y, .int .i64 z] 24)
  have hB := Tri.new (w.alloc (.cells #[.int .i64 a, .int .i64 b, .int .i64 c] 24)) x y z 24
  rw [World.size_alloc] at hB
  have hO : Below w.heap.size w ((w.alloc (.cells #[.int .i64 a, .int .i64 b, .int .i64 c] 24)).alloc (.cells #[.int .i64 x, .int .i64 y, .int .i64 z] 24)) := by go_grown
  go_enter Try.func3, Try.ntmps3
  obtain ⟨al, a0, a1, a2, -, -, -⟩ := (id hA : Tri _ _ a b c)
  obtain ⟨bl, b0, b1, b2, -, -, -⟩ := (id hB : Tri _ _ x y z)
  go_wp2_with fail
  refine (d1.out _).mono ?_
  rintro e w1 ⟨rfl, hb1⟩
  replace hA := hA.call hb1
  replace hB := hB.call hb1
  replace hO := below_then hO hb1
  clear hb1
  obtain ⟨al, a0, a1, a2, -, -, -⟩ := (id hA : Tri _ _ a b c)
  obtain ⟨bl, b0, b1, b2, -, -, -⟩ := (id hB : Tri _ _ x y z)
  go_wp2_with fail
  refine (d2.out _).mono ?_
  rintro e w1 ⟨rfl, hb1⟩
  replace hA := hA.call hb1
  replace hB := hB.call hb1
  replace hO := below_then hO hb1
  clear hb1
  obtain ⟨al, a0, a1, a2, -, -, -⟩ := (id hA : Tri _ _ a b c)
  obtain ⟨bl, b0, b1, b2, -, -, -⟩ := (id hB : Tri _ _ x y z)
  go_wp2_with fail
  refine (d3.out _).mono ?_
  rintro e w3 ⟨rfl, hb1⟩
  replace hA := hA.call hb1
  replace hB := hB.call hb1
  replace hO := below_then hO hb1
  clear hb1
  have hX := Tri.new w3 p q r 24
  replace hA := hA.alloc (.cells #[.int .i64 p, .int .i64 q, .int .i64 r] 24)
  replace hB := hB.alloc (.cells #[.int .i64 p, .int .i64 q, .int .i64 r] 24)
  replace hO := hO.alloc hO.size (.cells #[.int .i64 p, .int .i64 q, .int .i64 r] 24)
  obtain ⟨al, a0, a1, a2, -, -, -⟩ := (id hA : Tri _ _ a b c)
  obtain ⟨bl, b0, b1, b2, -, -, -⟩ := (id hB : Tri _ _ x y z)
  go_wp2_with fail
  refine (d4.out _).mono ?_
  rintro e w4 ⟨rfl, hb1⟩
  replace hX := hX.call hb1
  replace hO := below_then hO hb1
  clear hb1
  have hY := Tri.new w4 p q r 24
  replace hX := hX.alloc (.cells #[.int .i64 p, .int .i64 q, .int .i64 r] 24)
  replace hO := hO.alloc hO.size (.cells #[.int .i64 p, .int .i64 q, .int .i64 r] 24)
  obtain ⟨xl, x0, x1, x2, -, -, -⟩ := (id hX : Tri _ _ p q r)
  obtain ⟨yl, y0, y1, y2, -, -, -⟩ := (id hY : Tri _ _ p q r)
  clear hA hB
  go_wp2_with fail
  refine (works _).mono ?_
  rintro e w5 ⟨rfl, hb1⟩
  replace hO := below_then hO hb1
  go_wp2
  go_ret
  exact ⟨rfl, hO⟩


set_option maxRecDepth 100000 in
theorem lifted (os : Os) (started : os.Started) (H : Type) (enc : TypeId × Value → H) :
    ReturnsInHanded {} Try.checked os 3 .any (Rows.vecMulsSpec.pre6 enc Try.prog Try.f3 Rows.vecMulsRow.domain false) (Rows.vecMulsSpec.post enc Try.prog Try.f3 false true false false) := by
  refine returnsInHanded_of_change (C := Try.checked) own started (by kernel_rfl) Try.func3
    (ChangeSpec.witness6 (enc := enc) (C := Try.checked) false ⟨#[], #[.agg #[.int .i64 0, .int .i64 0, .int .i64 0], .agg #[.int .i64 0, .int .i64 0, .int .i64 0]], []⟩ 8 (by kernel_rfl) (by kernel_rfl) (by kernel_rfl) (by kernel_rfl)) ?_
  intro W1 base args ds gs before hval0 hW hcnd _
  have hval : ∀ (j : Nat) t v, Try.f3.params[j]? = some t → args[j]? = some v → Value.okWide Try.prog W1 .any base t v := hval0
  have hW' := hW
  obtain ⟨p, q, hA0, hV, rfl, hfz, hnd⟩ := hW
  have hA : DataW.TrodAll enc Try.prog W1 0 (fun _ => true) true Try.f3.params.toList args.toList ds p := hA0
  rw [Try.params3] at hA hval
  obtain ⟨v0, vs0, d0, ds0, p0, q0, hargs, rfl, rfl, h0, r0⟩ := trodAll_cons hA
  obtain ⟨v1, vs1, d1, ds1, p1, q1, rfl, rfl, rfl, h1, r1⟩ := trodAll_cons r0
  obtain ⟨rfl, rfl, rfl⟩ := trodAll_nil r1
  obtain rfl : args = #[v0, v1] := by cases args; simp_all
  obtain ⟨rfl, rfl⟩ := trodVars_none hV
  obtain ⟨a, b, c, w0, rfl, -⟩ := open_V (hval 0 24 v0 rfl rfl) h0
  obtain ⟨x, y, z, w1, rfl, -⟩ := open_V (hval 1 24 v1 rfl rfl) h1
  clear hA0 hval0 hval hA
  refine (walk a b c x y z w0 w1 W1).mono fun e W' ⟨he, hg⟩ => ?_
  subst he
  exact ⟨_, rfl, law_post laidOut (by kernel_rfl) rfl (by kernel_rfl) Try.underlying4 hW' rfl hg⟩

theorem over : Rows.vecMulsRow.holds Try.pinned (OpenSpec.ofChange Rows.vecMulsSpec) :=
  OpenClaim.holds_of_wide 3 Try.f3 rfl rfl rfl rfl rfl rfl rfl ⟨rfl, rfl, rfl, rfl, rfl⟩ rfl rfl rfl rfl rfl (by kernel_rfl) Try.func3 (by kernel_rfl)
    (of_decide_eq_true (by kernel_rfl)) (by unfold Func.isWrapper; first | (rw [if_pos (by decide +kernel)]; kernel_rfl) | (rw [if_neg (by decide +kernel)]; exact ⟨rfl, rfl⟩))
    (fun os started H enc _ => lifted os started H enc)

theorem proved : Rows.VecMulsSaid :=
  over
end Go.Proofs.Ytmedemniopgpeaa.vecMuls
