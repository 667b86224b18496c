import Derived.Test.YtodfcbpcgcgijaaDoorRows
import Derived.Test.YtodfcbpcgcgijaaDoorCards
import Derived.Test.YtodfcbpcgcgijaaDoorTie
import Derived.Test.YtodfcbpcgcgijaaDoorMatW
import Derived.Test.YtodfcbpcgcgijaaDoorMatP
import Derived.Test.YtodfcbpcgcgijaaDoorJH
import Derived.WalkKit
import Derived.ProofKit
import Derived.OpenShut
import Derived.SevenTiedAt
import Derived.LaidMore
import Derived.Stop.Joined
import Derived.Deep.RegionHeld3
/- Matrices are multiplied, applied, and turned over as the document's answers have them. -/
namespace Go.Proofs.YtodfcbpcgcgijaaDoor.matMuls
set_option maxRecDepth 100000
open Go.ChangeShapes Go.WideShapes Go.ChangeAt Go.RowKit
set_option linter.unusedVariables false

attribute [local go_sem] cell_re eqW_self eqV_self eqM_self
attribute [local go_sem ↓] run_eqlW run_neqW run_eqlV run_eqlM run_indexM0 run_indexM1 run_indexM2

set_option maxRecDepth 100000 in
set_option maxHeartbeats 4000000 in
theorem walk (K : MatC) (A B : Nat → Nat → Int) (x y z : Int) (hA : HalfM A) (hB : HalfM B) (h0 : Half x ∧ Half y ∧ Half z) (w : World) (hS : Steps w) : Calls Tryd.prog 3 #[Mx A, Mx B, V x y z] w fun e' w' => e' = .returned (.bool true) ∧ Below w.heap.size w w' := by
  obtain ⟨hx, hy, hz⟩ := h0
  have d1 := Lib.hid (fun W1 : World => K.mul A B hA hB W1)
  have d2 := Lib.hid (fun W1 : World => ref7Mul A B hA hB W1)
  have d3 := Lib.hid (fun W1 : World => K.apply (A 0 0) (A 0 1) (A 0 2) (A 1 0) (A 1 1) (A 1 2) (A 2 0) (A 2 1) (A 2 2) (hA 0 0 (by decide) (by decide)) (hA 0 1 (by decide) (by decide)) (hA 0 2 (by decide) (by decide)) (hA 1 0 (by decide) (by decide)) (hA 1 1 (by decide) (by decide)) (hA 1 2 (by decide) (by decide)) (hA 2 0 (by decide) (by decide)) (hA 2 1 (by decide) (by decide)) (hA 2 2 (by decide) (by decide)) x y z hx hy hz W1)
  have d4 := Lib.hid (fun W1 : World => ref7Apply (A 0 0) (A 0 1) (A 0 2) (A 1 0) (A 1 1) (A 1 2) (A 2 0) (A 2 1) (A 2 2) (hA 0 0 (by decide) (by decide)) (hA 0 1 (by decide) (by decide)) (hA 0 2 (by decide) (by decide)) (hA 1 0 (by decide) (by decide)) (hA 1 1 (by decide) (by decide)) (hA 1 2 (by decide) (by decide)) (hA 2 0 (by decide) (by decide)) (hA 2 1 (by decide) (by decide)) (hA 2 2 (by decide) (by decide)) x y z hx hy hz W1)
  have d5 := Lib.hid (fun W1 : World => K.back (A 0 0) (A 0 1) (A 0 2) (A 1 0) (A 1 1) (A 1 2) (A 2 0) (A 2 1) (A 2 2) W1)
  have d6 := Lib.hid (fun W1 : World => ref7Back (A 0 0) (A 0 1) (A 0 2) (A 1 0) (A 1 1) (A 1 2) (A 2 0) (A 2 1) (A 2 2) W1)
  have d7 := Lib.hid (fun W1 : World => K.same W1)
  have d8 := Lib.hid (fun W1 : World => ref7Same W1)
  obtain ⟨D, hD⟩ : ∃ D, mulC A B = D := ⟨_, rfl⟩
  obtain ⟨k, hk⟩ : ∃ k, mulCut A B = k := ⟨_, rfl⟩
  rw [hD, hk] at d1 d2
  unfold Mx at d1 d2
  obtain ⟨D00, eD00⟩ : ∃ x, D 0 0 = x := ⟨_, rfl⟩
  obtain ⟨D01, eD01⟩ : ∃ x, D 0 1 = x := ⟨_, rfl⟩
  obtain ⟨D02, eD02⟩ : ∃ x, D 0 2 = x := ⟨_, rfl⟩
  obtain ⟨D10, eD10⟩ : ∃ x, D 1 0 = x := ⟨_, rfl⟩
  obtain ⟨D11, eD11⟩ : ∃ x, D 1 1 = x := ⟨_, rfl⟩
  obtain ⟨D12, eD12⟩ : ∃ x, D 1 2 = x := ⟨_, rfl⟩
  obtain ⟨D20, eD20⟩ : ∃ x, D 2 0 = x := ⟨_, rfl⟩
  obtain ⟨D21, eD21⟩ : ∃ x, D 2 1 = x := ⟨_, rfl⟩
  obtain ⟨D22, eD22⟩ : ∃ x, D 2 2 = x := ⟨_, rfl⟩
  rw [eD00, eD01, eD02, eD10, eD11, eD12, eD20, eD21, eD22] at d1 d2
  clear eD00 eD01 eD02 eD10 eD11 eD12 eD20 eD21 eD22
  obtain ⟨p, hp⟩ : ∃ p, Hid ((clipped (dot (A 0 0) (A 0 1) (A 0 2) x y z)) = p) := ⟨_, rfl⟩
  obtain ⟨q, hq⟩ : ∃ q, Hid ((clipped (dot (A 1 0) (A 1 1) (A 1 2) x y z)) = q) := ⟨_, rfl⟩
  obtain ⟨r, hr⟩ : ∃ r, Hid ((clipped (dot (A 2 0) (A 2 1) (A 2 2) x y z)) = r) := ⟨_, rfl⟩
  obtain ⟨t, ht⟩ : ∃ t, Hid ((cut (dot (A 0 0) (A 0 1) (A 0 2) x y z) || cut (dot (A 1 0) (A 1 1) (A 1 2) x y z) || cut (dot (A 2 0) (A 2 1) (A 2 2) x y z)) = t) := ⟨_, rfl⟩
  rw [hp.out, hq.out, hr.out, ht.out] at d3 d4
  clear hp hq hr ht hD hk hA hB hx hy hz
  have hA := ((Nine.new w (A 0 0) (A 0 1) (A 0 2) (A 1 0) (A 1 1) (A 1 2) (A 2 0) (A 2 1) (A 2 2) 26).alloc (.cells #[.int .i64 (B 0 0), .int .i64 (B 0 1), .int .i64 (B 0 2), .int .i64 (B 1 0), .int .i64 (B 1 1), .int .i64 (B 1 2), .int .i64 (B 2 0), .int .i64 (B 2 1), .int .i64 (B 2 2)] 26)).alloc (.cells #[.int .i64 x, .int .i64 y, .int .i64 z] 24)
  have hB := (Nine.new (w.alloc (.cells #[.int .i64 (A 0 0), .int .i64 (A 0 1), .int .i64 (A 0 2), .int .i64 (A 1 0), .int .i64 (A 1 1), .int .i64 (A 1 2), .int .i64 (A 2 0), .int .i64 (A 2 1), .int .i64 (A 2 2)] 26)) (B 0 0) (B 0 1) (B 0 2) (B 1 0) (B 1 1) (B 1 2) (B 2 0) (B 2 1) (B 2 2) 26).alloc (.cells #[.int .i64 x, .int .i64 y, .int .i64 z] 24)
  have hX := Tri.new ((w.alloc (.cells #[.int .i64 (A 0 0), .int .i64 (A 0 1), .int .i64 (A 0 2), .int .i64 (A 1 0), .int .i64 (A 1 1), .int .i64 (A 1 2), .int .i64 (A 2 0), .int .i64 (A 2 1), .int .i64 (A 2 2)] 26)).alloc (.cells #[.int .i64 (B 0 0), .int .i64 (B 0 1), .int .i64 (B 0 2), .int .i64 (B 1 0), .int .i64 (B 1 1), .int .i64 (B 1 2), .int .i64 (B 2 0), .int .i64 (B 2 1), .int .i64 (B 2 2)] 26)) x y z 24
  rw [World.size_alloc] at hB hX
  rw [World.size_alloc] at hX
  have hO : Below w.heap.size w (((w.alloc (.cells #[.int .i64 (A 0 0), .int .i64 (A 0 1), .int .i64 (A 0 2), .int .i64 (A 1 0), .int .i64 (A 1 1), .int .i64 (A 1 2), .int .i64 (A 2 0), .int .i64 (A 2 1), .int .i64 (A 2 2)] 26)).alloc (.cells #[.int .i64 (B 0 0), .int .i64 (B 0 1), .int .i64 (B 0 2), .int .i64 (B 1 0), .int .i64 (B 1 1), .int .i64 (B 1 2), .int .i64 (B 2 0), .int .i64 (B 2 1), .int .i64 (B 2 2)] 26)).alloc (.cells #[.int .i64 x, .int .i64 y, .int .i64 z] 24)) := by go_grown
  go_enter Tryd.func3, Tryd.ntmps3
  obtain ⟨al, a0, a1, a2, a3, a4, a5, a6, a7, a8, -, -, -, -, -, -, -, -, -⟩ := (id hA : Nine _ _ (A 0 0) (A 0 1) (A 0 2) (A 1 0) (A 1 1) (A 1 2) (A 2 0) (A 2 1) (A 2 2))
  obtain ⟨bl, b0, b1, b2, b3, b4, b5, b6, b7, b8, -, -, -, -, -, -, -, -, -⟩ := (id hB : Nine _ _ (B 0 0) (B 0 1) (B 0 2) (B 1 0) (B 1 1) (B 1 2) (B 2 0) (B 2 1) (B 2 2))
  go_wp2_with fail
  refine (d1.out _).mono ?_
  rintro e' w1 ⟨rfl, hb1⟩
  replace hA := hA.call hb1
  replace hB := hB.call hb1
  replace hX := hX.call hb1
  replace hO := below_then hO hb1
  clear hb1
  have hC := Nine.new w1 D00 D01 D02 D10 D11 D12 D20 D21 D22 26
  replace hA := hA.alloc (.cells #[.int .i64 D00, .int .i64 D01, .int .i64 D02, .int .i64 D10, .int .i64 D11, .int .i64 D12, .int .i64 D20, .int .i64 D21, .int .i64 D22] 26)
  replace hB := hB.alloc (.cells #[.int .i64 D00, .int .i64 D01, .int .i64 D02, .int .i64 D10, .int .i64 D11, .int .i64 D12, .int .i64 D20, .int .i64 D21, .int .i64 D22] 26)
  replace hX := hX.alloc (.cells #[.int .i64 D00, .int .i64 D01, .int .i64 D02, .int .i64 D10, .int .i64 D11, .int .i64 D12, .int .i64 D20, .int .i64 D21, .int .i64 D22] 26)
  replace hO := hO.alloc hO.size (.cells #[.int .i64 D00, .int .i64 D01, .int .i64 D02, .int .i64 D10, .int .i64 D11, .int .i64 D12, .int .i64 D20, .int .i64 D21, .int .i64 D22] 26)
  obtain ⟨al, a0, a1, a2, a3, a4, a5, a6, a7, a8, -, -, -, -, -, -, -, -, -⟩ := (id hA : Nine _ _ (A 0 0) (A 0 1) (A 0 2) (A 1 0) (A 1 1) (A 1 2) (A 2 0) (A 2 1) (A 2 2))
  obtain ⟨bl, b0, b1, b2, b3, b4, b5, b6, b7, b8, -, -, -, -, -, -, -, -, -⟩ := (id hB : Nine _ _ (B 0 0) (B 0 1) (B 0 2) (B 1 0) (B 1 1) (B 1 2) (B 2 0) (B 2 1) (B 2 2))
  go_wp2_with fail
  refine (d2.out _).mono ?_
  rintro e' w2 ⟨rfl, hb1⟩
  replace hA := hA.call hb1
  replace hX := hX.call hb1
  replace hC := hC.call hb1
  replace hO := below_then hO hb1
  clear hb1
  have hD := Nine.new w2 D00 D01 D02 D10 D11 D12 D20 D21 D22 26
  replace hA := hA.alloc (.cells #[.int .i64 D00, .int .i64 D01, .int .i64 D02, .int .i64 D10, .int .i64 D11, .int .i64 D12, .int .i64 D20, .int .i64 D21, .int .i64 D22] 26)
  replace hX := hX.alloc (.cells #[.int .i64 D00, .int .i64 D01, .int .i64 D02, .int .i64 D10, .int .i64 D11, .int .i64 D12, .int .i64 D20, .int .i64 D21, .int .i64 D22] 26)
  replace hC := hC.alloc (.cells #[.int .i64 D00, .int .i64 D01, .int .i64 D02, .int .i64 D10, .int .i64 D11, .int .i64 D12, .int .i64 D20, .int .i64 D21, .int .i64 D22] 26)
  replace hO := hO.alloc hO.size (.cells #[.int .i64 D00, .int .i64 D01, .int .i64 D02, .int .i64 D10, .int .i64 D11, .int .i64 D12, .int .i64 D20, .int .i64 D21, .int .i64 D22] 26)
  obtain ⟨al, a0, a1, a2, a3, a4, a5, a6, a7, a8, -, -, -, -, -, -, -, -, -⟩ := (id hA : Nine _ _ (A 0 0) (A 0 1) (A 0 2) (A 1 0) (A 1 1) (A 1 2) (A 2 0) (A 2 1) (A 2 2))
  obtain ⟨x'l, x'0, x'1, x'2, -, -, -⟩ := (id hX : Tri _ _ x y z)
  go_wp2_with fail
  refine (d3.out _).mono ?_
  rintro e' w3 ⟨rfl, hb1⟩
  replace hA := hA.call hb1
  replace hX := hX.call hb1
  replace hC := hC.call hb1
  replace hD := hD.call hb1
  replace hO := below_then hO hb1
  clear hb1
  have hE := Tri.new w3 p q r 24
  replace hA := hA.alloc (.cells #[.int .i64 p, .int .i64 q, .int .i64 r] 24)
  replace hX := hX.alloc (.cells #[.int .i64 p, .int .i64 q, .int .i64 r] 24)
  replace hC := hC.alloc (.cells #[.int .i64 p, .int .i64 q, .int .i64 r] 24)
  replace hD := hD.alloc (.cells #[.int .i64 p, .int .i64 q, .int .i64 r] 24)
  replace hO := hO.alloc hO.size (.cells #[.int .i64 p, .int .i64 q, .int .i64 r] 24)
  obtain ⟨al, a0, a1, a2, a3, a4, a5, a6, a7, a8, -, -, -, -, -, -, -, -, -⟩ := (id hA : Nine _ _ (A 0 0) (A 0 1) (A 0 2) (A 1 0) (A 1 1) (A 1 2) (A 2 0) (A 2 1) (A 2 2))
  obtain ⟨x'l, x'0, x'1, x'2, -, -, -⟩ := (id hX : Tri _ _ x y z)
  go_wp2_with fail
  refine (d4.out _).mono ?_
  rintro e' w4 ⟨rfl, hb1⟩
  replace hA := hA.call hb1
  replace hC := hC.call hb1
  replace hD := hD.call hb1
  replace hE := hE.call hb1
  replace hO := below_then hO hb1
  clear hb1
  have hF := Tri.new w4 p q r 24
  replace hA := hA.alloc (.cells #[.int .i64 p, .int .i64 q, .int .i64 r] 24)
  replace hC := hC.alloc (.cells #[.int .i64 p, .int .i64 q, .int .i64 r] 24)
  replace hD := hD.alloc (.cells #[.int .i64 p, .int .i64 q, .int .i64 r] 24)
  replace hE := hE.alloc (.cells #[.int .i64 p, .int .i64 q, .int .i64 r] 24)
  replace hO := hO.alloc hO.size (.cells #[.int .i64 p, .int .i64 q, .int .i64 r] 24)
  obtain ⟨al, a0, a1, a2, a3, a4, a5, a6, a7, a8, -, -, -, -, -, -, -, -, -⟩ := (id hA : Nine _ _ (A 0 0) (A 0 1) (A 0 2) (A 1 0) (A 1 1) (A 1 2) (A 2 0) (A 2 1) (A 2 2))
  obtain ⟨cl, c0, c1, c2, c3, c4, c5, c6, c7, c8, -, -, -, -, -, -, -, -, -⟩ := (id hC : Nine _ _ D00 D01 D02 D10 D11 D12 D20 D21 D22)
  obtain ⟨d'l, d'0, d'1, d'2, d'3, d'4, d'5, d'6, d'7, d'8, -, -, -, -, -, -, -, -, -⟩ := (id hD : Nine _ _ D00 D01 D02 D10 D11 D12 D20 D21 D22)
  obtain ⟨e'l, e'0, e'1, e'2, -, -, -⟩ := (id hE : Tri _ _ p q r)
  obtain ⟨f'l, f'0, f'1, f'2, -, -, -⟩ := (id hF : Tri _ _ p q r)
  simp only [World.size_alloc] at al cl d'l e'l f'l
  clear hA hC hD hE hF hX
  go_wp2_with fail
  refine wp_region_quiet_below (by kernel_rfl) (by kernel_rfl) ?_
  repeat (go_big_quiet_step (first | (go_at_call 13; first | with_reducible exact Calls.regrown_of (d5.out _)) | (go_at_call 14; first | with_reducible exact Calls.regrown_of (d6.out _)) | (go_at_call 15; first | with_reducible exact Calls.regrown_of (d7.out _)) | (go_at_call 16; first | with_reducible exact Calls.regrown_of (d8.out _)) | (go_at_call 17; first | with_reducible exact Calls.regrown_of (works K _ (hS.call (below_then hO (below_regrown _ _ _)))))))
  refine wpQuiet_nil ?_
  intro wq hwq
  have hbq := below_of_re hwq
  clear hwq
  replace hO := below_then hO hbq
  go_wp2
  go_ret
  exact ⟨rfl, hO⟩


set_option maxRecDepth 100000 in
theorem lifted (os : Os) (started : os.Started) (H : Type) (enc : TypeId × Value → H) :
    ReturnsInHanded {} Tryd.checked os 3 .any (fun w args => (Rows.matMulsSpec.pre enc Tryd.prog Tryd.f3 [] false w args ∧ laidMetH Tryd.prog laidT w) ∧ sizedMet enc Tryd.prog Tryd.f3 (OpenSpec.ofChange Rows.matMulsSpec) false w args)
      (Rows.matMulsSpec.post enc Tryd.prog Tryd.f3 false true false false) := by
  refine returnsInHanded_of_change_and (C := Tryd.checked) (X := fun w _ => laidMetH Tryd.prog laidT w) (fun _ _ _ hh h => h.of_heap hh) own started (by kernel_rfl) Tryd.func3
    (ChangeSpec.witness_shaped (enc := enc) (C := Tryd.checked) (os := os) (X := fun w _ => laidMetH Tryd.prog laidT w) false (World.doorLaid Tryd.prog 400 os) #[.agg #[.int .i64 0, .int .i64 0, .int .i64 0, .int .i64 0, .int .i64 0, .int .i64 0, .int .i64 0, .int .i64 0, .int .i64 0], .agg #[.int .i64 0, .int .i64 0, .int .i64 0, .int .i64 0, .int .i64 0, .int .i64 0, .int .i64 0, .int .i64 0, .int .i64 0], .agg #[.int .i64 0, .int .i64 0, .int .i64 0]] 8 rfl (World.shaped_of_RefB (by kernel_rfl) (by kernel_rfl)) (by kernel_rfl) (by kernel_rfl) (by kernel_rfl) (door_met os _)) ?_
  intro W1 base args ds gs before hval0 hW _ _ hL _
  have hval : ∀ (j : Nat) t v, Tryd.f3.params[j]? = some t → args[j]? = some v → Value.okWide Tryd.prog W1 .any base t v := hval0
  have hW' := hW
  obtain ⟨p, q, hA0, hV, rfl, hfz, hnd⟩ := hW
  have hA : DataW.TrodAll enc Tryd.prog W1 0 (fun _ => true) true Tryd.f3.params.toList args.toList ds p := hA0
  rw [Tryd.params3] at hA hval
  obtain ⟨v0, vs0, d0, ds0, p0, q0, hargs, rfl, rfl, h0, r0⟩ := trodAll_cons hA
  obtain ⟨v1, vs1, d1, ds1, p1, q1, rfl, rfl, rfl, h1, r1⟩ := trodAll_cons r0
  obtain ⟨v2, vs2, d2, ds2, p2, q2, rfl, rfl, rfl, h2, r2⟩ := trodAll_cons r1
  obtain ⟨rfl, rfl, rfl⟩ := trodAll_nil r2
  obtain rfl : args = #[v0, v1, v2] := by cases args; simp_all
  obtain ⟨rfl, rfl⟩ := trodVars_none hV
  obtain ⟨A, w0, rfl⟩ := open_MF (hval 0 26 v0 rfl rfl) h0
  obtain ⟨B, w1, rfl⟩ := open_MF (hval 1 26 v1 rfl rfl) h1
  obtain ⟨x, y, z, w2, rfl, -⟩ := open_V (hval 2 24 v2 rfl rfl) h2
  have hS := steps_of_laid hL
  clear hA0 hval0 hval hA hL
  refine (walk matC A B x y z w0 w1 w2 W1 hS).mono fun e W' ⟨he, hg⟩ => ?_
  subst he
  exact ⟨_, rfl, law_post laidOut (by kernel_rfl) rfl (by kernel_rfl) Tryd.underlying4 hW' rfl hg⟩

theorem over : Rows.MatMulsSaid :=
  OpenClaim.holds_of_wide 3 Tryd.f3 rfl rfl rfl rfl rfl rfl rfl ⟨rfl, rfl, rfl, rfl, rfl⟩ rfl rfl rfl rfl rfl (by kernel_rfl) Tryd.func3 (by kernel_rfl)
    (of_decide_eq_true (by kernel_rfl)) (by unfold Func.isWrapper; first | (rw [if_pos (by decide +kernel)]; kernel_rfl) | (rw [if_neg (by decide +kernel)]; exact ⟨rfl, rfl⟩))
    (fun os started H enc _ => lifted os started H enc)

theorem proved : Rows.MatMulsCardSaid :=
  Claim7.holds_tied_plain_at .later [] [.data] true (true, "76501850add5e039de148ba0a8a185064ebbb291c75d7fbdb2f78020d96a9ea8") false
    over (fun _ h => by cases h) (by kernel_rfl) (fun _ h => by cases h) matMuls_row_tie rfl ⟨rfl, rfl⟩ (by kernel_rfl) rfl
    (fun f fn hf hfn => by
      obtain rfl : f = 3 := Option.some.inj ((show Tryd.prog.funcNamed "pelorus/peloruslaw07.MatMuls" = some 3 by kernel_rfl).symm.trans hf) |>.symm
      obtain rfl : fn = Tryd.f3 := (Option.some.inj (Tryd.func3.symm.trans hfn)).symm
      exact ⟨by kernel_rfl, fun j t ht => by
        rw [Tryd.params3] at ht
        have hm : t ∈ [26, 26, 24] := by simpa using Array.mem_of_getElem? ht
        have hall : ([26, 26, 24].all fun u => !Tryd.prog.wantsStandIn u) = true := by kernel_rfl
        exact (show Tryd.prog.wantsStandIn t = false by simpa using List.all_eq_true.1 hall t hm)⟩)
    (by kernel_rfl)
end Go.Proofs.YtodfcbpcgcgijaaDoor.matMuls
