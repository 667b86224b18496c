import Derived.Test.YtodfcbpcgcgijaaGreatDoorJS
import Derived.Test.YtodfcbpcgcgijaaGreatDoorJK
import Derived.Test.YtodfcbpcgcgijaaGreatDoorMatPb
import Derived.Test.YtodfcbpcgcgijaaGreatDoorJN
import Derived.Test.YtodfcbpcgcgijaaGreatDoorJP
import Derived.Deep.RegionHeld3
import Derived.Deep.DeepCutAuto
/- Package mat: Off. -/
namespace Go.Proofs.YtodfcbpcgcgijaaGreatDoor
set_option maxRecDepth 100000
open Go.RowKit
set_option linter.unusedVariables false
attribute [local go_sem] cell_re eqW_self eqV_self eqM_self
attribute [local go_sem ↓] run_eqlW run_neqW run_eqlV run_eqlM

attribute [local go_sem ↓] run_indexM0 run_indexM1 run_indexM2 run_indexV0 run_indexV1 run_indexV2
set_option maxRecDepth 100000 in
set_option maxHeartbeats 16000000 in
theorem matOff (A : Nat → Nat → Int) (hA : HalfM A) (w : World) :
    Calls Tryz.prog 6 #[Mx A] w fun e' w' => e' = .returned (.int .i64 (offOf A)) ∧ Below w.heap.size w w' := by
  have d0 := Lib.hid (fun W1 : World => matBack (A 0 0) (A 0 1) (A 0 2) (A 1 0) (A 1 1) (A 1 2) (A 2 0) (A 2 1) (A 2 2) W1)
  have d1 : Hid (∀ W1 : World, Calls Tryz.prog 21 #[Mx A, M9 (A 0 0) (A 1 0) (A 2 0) (A 0 1) (A 1 1) (A 2 1) (A 0 2) (A 1 2) (A 2 2)] W1 fun e w' => e = .returned (.tuple #[Mx (mulC A (tr A)), .bool (mulCut A (tr A))]) ∧ Below W1.heap.size W1 w') := fun W1 => matMul A (tr A) hA hA.tr W1
  have sm1 := Lib.hid (fun W1 : World => matSame W1)
  have hH := HalfM.mulC A (tr A)
  unfold offOf
  obtain ⟨D, hD⟩ : ∃ D, mulC A (tr A) = D := ⟨_, rfl⟩
  obtain ⟨K, hK⟩ : ∃ K, Hid (mulCut A (tr A) = K) := ⟨_, rfl⟩
  rw [hD, hK.out] at d1
  rw [hD] at hH ⊢
  clear hD hK hA
  unfold Mx at d1
  have e : max (max (max 0 (offRow D 0)) (offRow D 1)) (offRow D 2) = max (max (max 0 (greatest (clipped (D 0 0 + -4294967296)) (clipped (D 0 1 + -0)) (clipped (D 0 2 + -0)))) (greatest (clipped (D 1 0 + -0)) (clipped (D 1 1 + -4294967296)) (clipped (D 1 2 + -0)))) (greatest (clipped (D 2 0 + -0)) (clipped (D 2 1 + -0)) (clipped (D 2 2 + -4294967296))) := rfl
  rw [e]
  clear e
  have hD00 := hH 0 0 (by decide) (by decide)
  obtain ⟨D00, eD00⟩ : ∃ x, D 0 0 = x := ⟨_, rfl⟩
  have hD01 := hH 0 1 (by decide) (by decide)
  obtain ⟨D01, eD01⟩ : ∃ x, D 0 1 = x := ⟨_, rfl⟩
  have hD02 := hH 0 2 (by decide) (by decide)
  obtain ⟨D02, eD02⟩ : ∃ x, D 0 2 = x := ⟨_, rfl⟩
  have hD10 := hH 1 0 (by decide) (by decide)
  obtain ⟨D10, eD10⟩ : ∃ x, D 1 0 = x := ⟨_, rfl⟩
  have hD11 := hH 1 1 (by decide) (by decide)
  obtain ⟨D11, eD11⟩ : ∃ x, D 1 1 = x := ⟨_, rfl⟩
  have hD12 := hH 1 2 (by decide) (by decide)
  obtain ⟨D12, eD12⟩ : ∃ x, D 1 2 = x := ⟨_, rfl⟩
  have hD20 := hH 2 0 (by decide) (by decide)
  obtain ⟨D20, eD20⟩ : ∃ x, D 2 0 = x := ⟨_, rfl⟩
  have hD21 := hH 2 1 (by decide) (by decide)
  obtain ⟨D21, eD21⟩ : ∃ x, D 2 1 = x := ⟨_, rfl⟩
  have hD22 := hH 2 2 (by decide) (by decide)
  obtain ⟨D22, eD22⟩ : ∃ x, D 2 2 = x := ⟨_, rfl⟩
  rw [eD00, eD01, eD02, eD10, eD11, eD12, eD20, eD21, eD22] at d1 ⊢
  rw [eD00] at hD00
  rw [eD01] at hD01
  rw [eD02] at hD02
  rw [eD10] at hD10
  rw [eD11] at hD11
  rw [eD12] at hD12
  rw [eD20] at hD20
  rw [eD21] at hD21
  rw [eD22] at hD22
  clear eD00 eD01 eD02 eD10 eD11 eD12 eD20 eD21 eD22 hH
  have u1 := Lib.hid (fun W1 : World => vecSub D00 D01 D02 4294967296 0 0 hD00 hD01 hD02 (by unfold Half; omega) (by unfold Half; omega) (by unfold Half; omega) W1)
  have k00 := half_clipped (D00 + -4294967296)
  have k01 := half_clipped (D01 + -0)
  have k02 := half_clipped (D02 + -0)
  have g1 := Lib.hid (fun W1 : World => vecGreatest (clipped (D00 + -4294967296)) (clipped (D01 + -0)) (clipped (D02 + -0)) k00 k01 k02 W1)
  have u2 := Lib.hid (fun W1 : World => vecSub D10 D11 D12 0 4294967296 0 hD10 hD11 hD12 (by unfold Half; omega) (by unfold Half; omega) (by unfold Half; omega) W1)
  have k10 := half_clipped (D10 + -0)
  have k11 := half_clipped (D11 + -4294967296)
  have k12 := half_clipped (D12 + -0)
  have g2 := Lib.hid (fun W1 : World => vecGreatest (clipped (D10 + -0)) (clipped (D11 + -4294967296)) (clipped (D12 + -0)) k10 k11 k12 W1)
  have u3 := Lib.hid (fun W1 : World => vecSub D20 D21 D22 0 0 4294967296 hD20 hD21 hD22 (by unfold Half; omega) (by unfold Half; omega) (by unfold Half; omega) W1)
  have k20 := half_clipped (D20 + -0)
  have k21 := half_clipped (D21 + -0)
  have k22 := half_clipped (D22 + -4294967296)
  have g3 := Lib.hid (fun W1 : World => vecGreatest (clipped (D20 + -0)) (clipped (D21 + -0)) (clipped (D22 + -4294967296)) k20 k21 k22 W1)
  obtain ⟨A00, hA00⟩ : ∃ x, Hid ((A 0 0) = x) := ⟨_, rfl⟩
  obtain ⟨A01, hA01⟩ : ∃ x, Hid ((A 0 1) = x) := ⟨_, rfl⟩
  obtain ⟨A02, hA02⟩ : ∃ x, Hid ((A 0 2) = x) := ⟨_, rfl⟩
  obtain ⟨A10, hA10⟩ : ∃ x, Hid ((A 1 0) = x) := ⟨_, rfl⟩
  obtain ⟨A11, hA11⟩ : ∃ x, Hid ((A 1 1) = x) := ⟨_, rfl⟩
  obtain ⟨A12, hA12⟩ : ∃ x, Hid ((A 1 2) = x) := ⟨_, rfl⟩
  obtain ⟨A20, hA20⟩ : ∃ x, Hid ((A 2 0) = x) := ⟨_, rfl⟩
  obtain ⟨A21, hA21⟩ : ∃ x, Hid ((A 2 1) = x) := ⟨_, rfl⟩
  obtain ⟨A22, hA22⟩ : ∃ x, Hid ((A 2 2) = x) := ⟨_, rfl⟩
  rw [hA00.out, hA01.out, hA02.out, hA10.out, hA11.out, hA12.out, hA20.out, hA21.out, hA22.out] at d0 d1
  show Calls Tryz.prog 6 #[M9 (A 0 0) (A 0 1) (A 0 2) (A 1 0) (A 1 1) (A 1 2) (A 2 0) (A 2 1) (A 2 2)] w _
  rw [hA00.out, hA01.out, hA02.out, hA10.out, hA11.out, hA12.out, hA20.out, hA21.out, hA22.out]
  clear hA00 hA01 hA02 hA10 hA11 hA12 hA20 hA21 hA22
  obtain ⟨s0, hs0⟩ : ∃ x, Hid (clipped (D00 + -4294967296) = x) := ⟨_, rfl⟩
  obtain ⟨s1, hs1⟩ : ∃ x, Hid (clipped (D01 + -0) = x) := ⟨_, rfl⟩
  obtain ⟨s2, hs2⟩ : ∃ x, Hid (clipped (D02 + -0) = x) := ⟨_, rfl⟩
  obtain ⟨t0, ht0⟩ : ∃ x, Hid (clipped (D10 + -0) = x) := ⟨_, rfl⟩
  obtain ⟨t1, ht1⟩ : ∃ x, Hid (clipped (D11 + -4294967296) = x) := ⟨_, rfl⟩
  obtain ⟨t2, ht2⟩ : ∃ x, Hid (clipped (D12 + -0) = x) := ⟨_, rfl⟩
  obtain ⟨v0, hv0⟩ : ∃ x, Hid (clipped (D20 + -0) = x) := ⟨_, rfl⟩
  obtain ⟨v1, hv1⟩ : ∃ x, Hid (clipped (D21 + -0) = x) := ⟨_, rfl⟩
  obtain ⟨v2, hv2⟩ : ∃ x, Hid (clipped (D22 + -4294967296) = x) := ⟨_, rfl⟩
  obtain ⟨c0, hc0⟩ : ∃ x, Hid ((cut (D00 + -4294967296) || cut (D01 + -0) || cut (D02 + -0)) = x) := ⟨_, rfl⟩
  obtain ⟨c1, hc1⟩ : ∃ x, Hid ((cut (D10 + -0) || cut (D11 + -4294967296) || cut (D12 + -0)) = x) := ⟨_, rfl⟩
  obtain ⟨c2, hc2⟩ : ∃ x, Hid ((cut (D20 + -0) || cut (D21 + -0) || cut (D22 + -4294967296)) = x) := ⟨_, rfl⟩
  rw [hs0.out, hs1.out, hs2.out, hc0.out] at u1
  rw [hs0.out, hs1.out, hs2.out] at g1
  rw [hs0.out, hs1.out, hs2.out]
  rw [ht0.out, ht1.out, ht2.out, hc1.out] at u2
  rw [ht0.out, ht1.out, ht2.out] at g2
  rw [ht0.out, ht1.out, ht2.out]
  rw [hv0.out, hv1.out, hv2.out, hc2.out] at u3
  rw [hv0.out, hv1.out, hv2.out] at g3
  rw [hv0.out, hv1.out, hv2.out]
  clear hs0 hs1 hs2 ht0 ht1 ht2 hv0 hv1 hv2 hc0 hc1 hc2 k00 hD00 k01 hD01 k02 hD02 k10 hD10 k11 hD11 k12 hD12 k20 hD20 k21 hD21 k22 hD22
  obtain ⟨p, hp⟩ : ∃ x, Hid (greatest s0 s1 s2 = x) := ⟨_, rfl⟩
  obtain ⟨q, hq⟩ : ∃ x, Hid (greatest t0 t1 t2 = x) := ⟨_, rfl⟩
  obtain ⟨r, hr⟩ : ∃ x, Hid (greatest v0 v1 v2 = x) := ⟨_, rfl⟩
  rw [hp.out] at g1
  rw [hq.out] at g2
  rw [hr.out] at g3
  rw [hp.out, hq.out, hr.out]
  obtain ⟨T, hT⟩ : ∃ T, Hid (max (max (max 0 p) q) r = T) := ⟨_, rfl⟩
  rw [hT.out]
  clear hp hq hr
  have hA := Nine.new w A00 A01 A02 A10 A11 A12 A20 A21 A22 26
  have hO : Below w.heap.size w (w.alloc (.cells #[.int .i64 A00, .int .i64 A01, .int .i64 A02, .int .i64 A10, .int .i64 A11, .int .i64 A12, .int .i64 A20, .int .i64 A21, .int .i64 A22] 26)) := by go_grown
  go_enter Tryz.func6, Tryz.ntmps6
  go_upto_region 1 with fail
  generalize World.alloc w (.cells #[.int .i64 A00, .int .i64 A01, .int .i64 A02, .int .i64 A10, .int .i64 A11, .int .i64 A12, .int .i64 A20, .int .i64 A21, .int .i64 A22] 26) = wz at hA hO ⊢
  go_cut [3] (fun s3 wx => ∃ G : Nat, s3 = .pointer (some ⟨G, 0, none⟩) ∧ Nine wx G D00 D01 D02 D10 D11 D12 D20 D21 D22 ∧ Below w.heap.size w wx ∧ Nine wx (w.heap.size) A00 A01 A02 A10 A11 A12 A20 A21 A22)
  case first =>
    have hl00 := fun (W' : World) (h' : Nine W' (w.heap.size) A00 A01 A02 A10 A11 A12 A20 A21 A22) => h'.c0
    have hl01 := fun (W' : World) (h' : Nine W' (w.heap.size) A00 A01 A02 A10 A11 A12 A20 A21 A22) => h'.c1
    have hl02 := fun (W' : World) (h' : Nine W' (w.heap.size) A00 A01 A02 A10 A11 A12 A20 A21 A22) => h'.c2
    have hl03 := fun (W' : World) (h' : Nine W' (w.heap.size) A00 A01 A02 A10 A11 A12 A20 A21 A22) => h'.c3
    have hl04 := fun (W' : World) (h' : Nine W' (w.heap.size) A00 A01 A02 A10 A11 A12 A20 A21 A22) => h'.c4
    have hl05 := fun (W' : World) (h' : Nine W' (w.heap.size) A00 A01 A02 A10 A11 A12 A20 A21 A22) => h'.c5
    have hl06 := fun (W' : World) (h' : Nine W' (w.heap.size) A00 A01 A02 A10 A11 A12 A20 A21 A22) => h'.c6
    have hl07 := fun (W' : World) (h' : Nine W' (w.heap.size) A00 A01 A02 A10 A11 A12 A20 A21 A22) => h'.c7
    have hl08 := fun (W' : World) (h' : Nine W' (w.heap.size) A00 A01 A02 A10 A11 A12 A20 A21 A22) => h'.c8
    go_region_held3 (fun W' => Nine W' (w.heap.size) A00 A01 A02 A10 A11 A12 A20 A21 A22) (first | (with_reducible exact hA) | (with_reducible exact hA.drew) | (with_reducible exact (hA.alloc (.cells #[.int .i64 0, .int .i64 0, .int .i64 0, .int .i64 0, .int .i64 0, .int .i64 0, .int .i64 0, .int .i64 0, .int .i64 0] 26)).drew) | (with_reducible exact hA.drew.alloc (.cells #[.int .i64 0, .int .i64 0, .int .i64 0, .int .i64 0, .int .i64 0, .int .i64 0, .int .i64 0, .int .i64 0, .int .i64 0] 26)) | (with_reducible exact hA1) | (with_reducible exact hA1.alloc (.cells #[.int .i64 0, .int .i64 0, .int .i64 0, .int .i64 0, .int .i64 0, .int .i64 0, .int .i64 0, .int .i64 0, .int .i64 0] 26)) | (with_reducible exact hA2) | (with_reducible exact hA2.alloc (.cells #[.int .i64 D00, .int .i64 D01, .int .i64 D02, .int .i64 D10, .int .i64 D11, .int .i64 D12, .int .i64 D20, .int .i64 D21, .int .i64 D22] 26)) | (with_reducible exact hA2.alloc (.cells #[.int .i64 0, .int .i64 0, .int .i64 0, .int .i64 0, .int .i64 0, .int .i64 0, .int .i64 0, .int .i64 0, .int .i64 0] 26)) | (with_reducible exact hA2.apartM (Nat.ne_of_lt hAg) D00 D01 D02 D10 D11 D12 D20 D21 D22)) (first
      | (go_at_call 22; refine (d0.out _).mono ?_; rintro e' wa ⟨rfl, hb1⟩; (first | (have hZ0 := Nine.new wz 0 0 0 0 0 0 0 0 0 26; have hZ1 : Nine wa wz.heap.size 0 0 0 0 0 0 0 0 0 := (by with_reducible exact hZ0.drew.call hb1); clear hZ0; have hA1 : Nine wa (w.heap.size) A00 A01 A02 A10 A11 A12 A20 A21 A22 := (by with_reducible exact (hA.alloc (.cells #[.int .i64 0, .int .i64 0, .int .i64 0, .int .i64 0, .int .i64 0, .int .i64 0, .int .i64 0, .int .i64 0, .int .i64 0] 26)).drew.call hb1); have hO1 : Below w.heap.size w wa := (by with_reducible exact below_then (hO.alloc hO.size (.cells #[.int .i64 0, .int .i64 0, .int .i64 0, .int .i64 0, .int .i64 0, .int .i64 0, .int .i64 0, .int .i64 0, .int .i64 0] 26)).drew hb1); have hG := hO.size; have hAg := hA.lt) | (have hA1 : Nine wa (w.heap.size) A00 A01 A02 A10 A11 A12 A20 A21 A22 := (by with_reducible exact hA.drew.call hb1); have hO1 : Below w.heap.size w wa := (by with_reducible exact below_then hO.drew hb1); have hZ1 := True.intro)))
      | (go_at_call 21; refine (d1.out _).mono ?_; rintro e' wb ⟨rfl, hb2⟩; (first | (have hZ2 : Nine wb wz.heap.size 0 0 0 0 0 0 0 0 0 := (by with_reducible exact hZ1.call hb2); have hA2 : Nine wb (w.heap.size) A00 A01 A02 A10 A11 A12 A20 A21 A22 := (by with_reducible exact hA1.call hb2); have hO2 : Below w.heap.size w wb := (by with_reducible exact below_then hO1 hb2); obtain ⟨zl, z0, z1, z2, z3, z4, z5, z6, z7, z8, z9, z10, z11, z12, z13, z14, z15, z16, z17⟩ := (id hZ2 : Nine _ _ 0 0 0 0 0 0 0 0 0)) | (have hZ2 : Nine wb wa.heap.size 0 0 0 0 0 0 0 0 0 := (by with_reducible exact (Nine.new wa 0 0 0 0 0 0 0 0 0 26).call hb2); have hA2 : Nine wb (w.heap.size) A00 A01 A02 A10 A11 A12 A20 A21 A22 := (by with_reducible exact (hA1.alloc (.cells #[.int .i64 0, .int .i64 0, .int .i64 0, .int .i64 0, .int .i64 0, .int .i64 0, .int .i64 0, .int .i64 0, .int .i64 0] 26)).call hb2); have hO2 : Below w.heap.size w wb := (by with_reducible exact below_then (hO1.alloc hO1.size (.cells #[.int .i64 0, .int .i64 0, .int .i64 0, .int .i64 0, .int .i64 0, .int .i64 0, .int .i64 0, .int .i64 0, .int .i64 0] 26)) hb2); have hG := hO1.size; have hAg := hA1.lt; obtain ⟨zl, z0, z1, z2, z3, z4, z5, z6, z7, z8, z9, z10, z11, z12, z13, z14, z15, z16, z17⟩ := (id hZ2 : Nine _ _ 0 0 0 0 0 0 0 0 0)) | (have hA2 : Nine wb (w.heap.size) A00 A01 A02 A10 A11 A12 A20 A21 A22 := (by with_reducible exact hA1.call hb2); have hO2 : Below w.heap.size w wb := (by with_reducible exact below_then hO1 hb2); have hZ2 := True.intro))))
    all_goals
      clear hl00 hl01 hl02 hl03 hl04 hl05 hl06 hl07 hl08
      first | (have hN := hZ2.same D00 D01 D02 D10 D11 D12 D20 D21 D22; have hO3 := below_putM hO2 hG D00 D01 D02 D10 D11 D12 D20 D21 D22; have hA3 := hA2.apartM (Nat.ne_of_lt hAg) D00 D01 D02 D10 D11 D12 D20 D21 D22) | (have hN := Nine.new wb D00 D01 D02 D10 D11 D12 D20 D21 D22 26; have hO3 := hO2.alloc hO2.size (.cells #[.int .i64 D00, .int .i64 D01, .int .i64 D02, .int .i64 D10, .int .i64 D11, .int .i64 D12, .int .i64 D20, .int .i64 D21, .int .i64 D22] 26); have hA3 := hA2.alloc (.cells #[.int .i64 D00, .int .i64 D01, .int .i64 D02, .int .i64 D10, .int .i64 D11, .int .i64 D12, .int .i64 D20, .int .i64 D21, .int .i64 D22] 26))
      go_wp2_with fail
      go_meet
      exact ⟨_, rfl, hN, hO3, hA3⟩
  case rest =>
    clear hO hA
    obtain ⟨G, rfl, hN, hO, hA⟩ := hcut
    clear hA d0 d1
    go_wp2_with fail
    refine (sm1.out _).mono ?_
    rintro e' wq ⟨rfl, hb1⟩
    replace hN := hN.call hb1
    replace hO := below_then hO hb1
    clear hb1
    go_wp2
    go_loopw [5, 18] (fun v5 v6 wr => ∃ (i m : Int), v6 = .int .i64 i ∧ v5 = .int .i64 m ∧ Most p q r i m ∧ Nine wr G D00 D01 D02 D10 D11 D12 D20 D21 D22 ∧ Below w.heap.size w wr) (fun _ v6 _ => 3 - (intOf v6).toNat)
    case atStart => exact ⟨0, 0, rfl, rfl, Or.inl ⟨rfl, rfl⟩, hN, hO⟩
    case round =>
     clear hN hO
     obtain ⟨i, m, rfl, rfl, hst, hD, hO⟩ := hrel
     rcases hst with ⟨rfl, hm⟩ | ⟨rfl, hm⟩ | ⟨rfl, hm⟩ | ⟨rfl, hm⟩
     · have hm' := Lib.hid hm
       clear hm
       go_upto_region 6 with fail
       replace hD := hD.alloc (.cells #[.int .i64 4294967296, .int .i64 0, .int .i64 0] 24)
       replace hO := hO.alloc hO.size (.cells #[.int .i64 4294967296, .int .i64 0, .int .i64 0] 24)
       have hS := Tri.new wr 4294967296 0 0 24
       generalize World.alloc wr (.cells #[.int .i64 4294967296, .int .i64 0, .int .i64 0] 24) = wz at hD hO hS ⊢
       go_cut [8, 18] from 18 to 34 (fun s8 s18 wx => ∃ H : Nat, s8 = .pointer (some ⟨H, 0, none⟩) ∧ s18 = .int .i64 0 ∧ Tri wx H s0 s1 s2 ∧ Below w.heap.size w wx ∧ Nine wx (G) D00 D01 D02 D10 D11 D12 D20 D21 D22 ∧ Tri wx (wr.heap.size) 4294967296 0 0)
       case first =>
         have hl00 := fun (W' : World) (h' : Nine W' (G) D00 D01 D02 D10 D11 D12 D20 D21 D22) => h'.c0
         have hl01 := fun (W' : World) (h' : Nine W' (G) D00 D01 D02 D10 D11 D12 D20 D21 D22) => h'.c1
         have hl02 := fun (W' : World) (h' : Nine W' (G) D00 D01 D02 D10 D11 D12 D20 D21 D22) => h'.c2
         have hl03 := fun (W' : World) (h' : Nine W' (G) D00 D01 D02 D10 D11 D12 D20 D21 D22) => h'.c3
         have hl04 := fun (W' : World) (h' : Nine W' (G) D00 D01 D02 D10 D11 D12 D20 D21 D22) => h'.c4
         have hl05 := fun (W' : World) (h' : Nine W' (G) D00 D01 D02 D10 D11 D12 D20 D21 D22) => h'.c5
         have hl06 := fun (W' : World) (h' : Nine W' (G) D00 D01 D02 D10 D11 D12 D20 D21 D22) => h'.c6
         have hl07 := fun (W' : World) (h' : Nine W' (G) D00 D01 D02 D10 D11 D12 D20 D21 D22) => h'.c7
         have hl08 := fun (W' : World) (h' : Nine W' (G) D00 D01 D02 D10 D11 D12 D20 D21 D22) => h'.c8
         have hl10 := fun (W' : World) (h' : Tri W' (wr.heap.size) 4294967296 0 0) => h'.c0
         have hl11 := fun (W' : World) (h' : Tri W' (wr.heap.size) 4294967296 0 0) => h'.c1
         have hl12 := fun (W' : World) (h' : Tri W' (wr.heap.size) 4294967296 0 0) => h'.c2
         go_region_held3 (fun W' => Nine W' (G) D00 D01 D02 D10 D11 D12 D20 D21 D22 ∧ Tri W' (wr.heap.size) 4294967296 0 0) (first | (with_reducible exact ⟨hD, hS⟩) | (with_reducible exact ⟨hD.drew, hS.drew⟩) | (with_reducible exact ⟨(hD.alloc (.cells #[.int .i64 0, .int .i64 0, .int .i64 0] 24)).drew, (hS.alloc (.cells #[.int .i64 0, .int .i64 0, .int .i64 0] 24)).drew⟩) | (with_reducible exact ⟨hD.drew.alloc (.cells #[.int .i64 0, .int .i64 0, .int .i64 0] 24), hS.drew.alloc (.cells #[.int .i64 0, .int .i64 0, .int .i64 0] 24)⟩) | (with_reducible exact ⟨hD1, hS1⟩) | (with_reducible exact ⟨hD1.alloc (.cells #[.int .i64 s0, .int .i64 s1, .int .i64 s2] 24), hS1.alloc (.cells #[.int .i64 s0, .int .i64 s1, .int .i64 s2] 24)⟩) | (with_reducible exact ⟨hD1.alloc (.cells #[.int .i64 0, .int .i64 0, .int .i64 0] 24), hS1.alloc (.cells #[.int .i64 0, .int .i64 0, .int .i64 0] 24)⟩) | (with_reducible exact ⟨hD1.apartV (Nat.ne_of_lt hDg) s0 s1 s2, hS1.apartV (Nat.ne_of_lt hSg) s0 s1 s2⟩)) (first
           | (go_at_call 23; refine (u1.out _).mono ?_; rintro e' wa ⟨rfl, hb1⟩; (first | (have hZ0 := Tri.new wz 0 0 0 24; have hZ1 : Tri wa wz.heap.size 0 0 0 := (by with_reducible exact hZ0.drew.call hb1); clear hZ0; have hD1 : Nine wa (G) D00 D01 D02 D10 D11 D12 D20 D21 D22 := (by with_reducible exact (hD.alloc (.cells #[.int .i64 0, .int .i64 0, .int .i64 0] 24)).drew.call hb1); have hS1 : Tri wa (wr.heap.size) 4294967296 0 0 := (by with_reducible exact (hS.alloc (.cells #[.int .i64 0, .int .i64 0, .int .i64 0] 24)).drew.call hb1); have hO1 : Below w.heap.size w wa := (by with_reducible exact below_then (hO.alloc hO.size (.cells #[.int .i64 0, .int .i64 0, .int .i64 0] 24)).drew hb1); have hG := hO.size; have hDg := hD.lt; have hSg := hS.lt; obtain ⟨zl, z0, z1, z2, z3, z4, z5⟩ := (id hZ1 : Tri _ _ 0 0 0)) | (have hD1 : Nine wa (G) D00 D01 D02 D10 D11 D12 D20 D21 D22 := (by with_reducible exact hD.drew.call hb1); have hS1 : Tri wa (wr.heap.size) 4294967296 0 0 := (by with_reducible exact hS.drew.call hb1); have hO1 : Below w.heap.size w wa := (by with_reducible exact below_then hO.drew hb1); have hZ1 := True.intro))))
         all_goals
           clear hl00 hl01 hl02 hl03 hl04 hl05 hl06 hl07 hl08 hl10 hl11 hl12
           first | (have hN := hZ1.same s0 s1 s2; have hO3 := below_putV hO1 hG s0 s1 s2; have hD3 := hD1.apartV (Nat.ne_of_lt hDg) s0 s1 s2; have hS3 := hS1.apartV (Nat.ne_of_lt hSg) s0 s1 s2) | (have hN := Tri.new wa s0 s1 s2 24; have hO3 := hO1.alloc hO1.size (.cells #[.int .i64 s0, .int .i64 s1, .int .i64 s2] 24); have hD3 := hD1.alloc (.cells #[.int .i64 s0, .int .i64 s1, .int .i64 s2] 24); have hS3 := hS1.alloc (.cells #[.int .i64 s0, .int .i64 s1, .int .i64 s2] 24))
           go_wp2_with fail
           go_meet
           exact ⟨_, rfl, rfl, hN, hO3, hD3, hS3⟩
       case rest =>
         clear hO hD hS
         obtain ⟨H, rfl, rfl, hN, hO, hD, hS⟩ := hcut
         clear hS
         obtain ⟨nl, n0, n1, n2, -, -, -⟩ := hN
         go_wp2_with fail
         refine (g1.out _).mono ?_
         rintro e' we ⟨rfl, hbc⟩
         have hD3 := hD.call hbc
         have hO3 := below_then hO hbc
         clear hD hO hbc
         rcases Int.lt_trichotomy m p with h | h | h
         · go_wp2
           go_roundw
           case rel => exact ⟨1, p, by go_num, rfl, Or.inr (Or.inl ⟨rfl, by have := hm'.out; omega⟩), hD3, hO3⟩
           case measure => simp [intOf]
         · have he : p = m := h.symm
           have hh := Lib.hid he
           rw [he]
           clear h he
           go_wp2
           go_roundw
           case rel => exact ⟨1, m, by go_num, rfl, Or.inr (Or.inl ⟨rfl, by have := hm'.out; have := hh.out; omega⟩), hD3, hO3⟩
           case measure => simp [intOf]
         · go_wp2
           go_roundw
           case rel => exact ⟨1, m, by go_num, rfl, Or.inr (Or.inl ⟨rfl, by have := hm'.out; omega⟩), hD3, hO3⟩
           case measure => simp [intOf]
     · have hm' := Lib.hid hm
       clear hm
       go_upto_region 6 with fail
       replace hD := hD.alloc (.cells #[.int .i64 0, .int .i64 4294967296, .int .i64 0] 24)
       replace hO := hO.alloc hO.size (.cells #[.int .i64 0, .int .i64 4294967296, .int .i64 0] 24)
       have hS := Tri.new wr 0 4294967296 0 24
       generalize World.alloc wr (.cells #[.int .i64 0, .int .i64 4294967296, .int .i64 0] 24) = wz at hD hO hS ⊢
       go_cut [8, 18] from 18 to 34 (fun s8 s18 wx => ∃ H : Nat, s8 = .pointer (some ⟨H, 0, none⟩) ∧ s18 = .int .i64 1 ∧ Tri wx H t0 t1 t2 ∧ Below w.heap.size w wx ∧ Nine wx (G) D00 D01 D02 D10 D11 D12 D20 D21 D22 ∧ Tri wx (wr.heap.size) 0 4294967296 0)
       case first =>
         have hl00 := fun (W' : World) (h' : Nine W' (G) D00 D01 D02 D10 D11 D12 D20 D21 D22) => h'.c0
         have hl01 := fun (W' : World) (h' : Nine W' (G) D00 D01 D02 D10 D11 D12 D20 D21 D22) => h'.c1
         have hl02 := fun (W' : World) (h' : Nine W' (G) D00 D01 D02 D10 D11 D12 D20 D21 D22) => h'.c2
         have hl03 := fun (W' : World) (h' : Nine W' (G) D00 D01 D02 D10 D11 D12 D20 D21 D22) => h'.c3
         have hl04 := fun (W' : World) (h' : Nine W' (G) D00 D01 D02 D10 D11 D12 D20 D21 D22) => h'.c4
         have hl05 := fun (W' : World) (h' : Nine W' (G) D00 D01 D02 D10 D11 D12 D20 D21 D22) => h'.c5
         have hl06 := fun (W' : World) (h' : Nine W' (G) D00 D01 D02 D10 D11 D12 D20 D21 D22) => h'.c6
         have hl07 := fun (W' : World) (h' : Nine W' (G) D00 D01 D02 D10 D11 D12 D20 D21 D22) => h'.c7
         have hl08 := fun (W' : World) (h' : Nine W' (G) D00 D01 D02 D10 D11 D12 D20 D21 D22) => h'.c8
         have hl10 := fun (W' : World) (h' : Tri W' (wr.heap.size) 0 4294967296 0) => h'.c0
         have hl11 := fun (W' : World) (h' : Tri W' (wr.heap.size) 0 4294967296 0) => h'.c1
         have hl12 := fun (W' : World) (h' : Tri W' (wr.heap.size) 0 4294967296 0) => h'.c2
         go_region_held3 (fun W' => Nine W' (G) D00 D01 D02 D10 D11 D12 D20 D21 D22 ∧ Tri W' (wr.heap.size) 0 4294967296 0) (first | (with_reducible exact ⟨hD, hS⟩) | (with_reducible exact ⟨hD.drew, hS.drew⟩) | (with_reducible exact ⟨(hD.alloc (.cells #[.int .i64 0, .int .i64 0, .int .i64 0] 24)).drew, (hS.alloc (.cells #[.int .i64 0, .int .i64 0, .int .i64 0] 24)).drew⟩) | (with_reducible exact ⟨hD.drew.alloc (.cells #[.int .i64 0, .int .i64 0, .int .i64 0] 24), hS.drew.alloc (.cells #[.int .i64 0, .int .i64 0, .int .i64 0] 24)⟩) | (with_reducible exact ⟨hD1, hS1⟩) | (with_reducible exact ⟨hD1.alloc (.cells #[.int .i64 t0, .int .i64 t1, .int .i64 t2] 24), hS1.alloc (.cells #[.int .i64 t0, .int .i64 t1, .int .i64 t2] 24)⟩) | (with_reducible exact ⟨hD1.alloc (.cells #[.int .i64 0, .int .i64 0, .int .i64 0] 24), hS1.alloc (.cells #[.int .i64 0, .int .i64 0, .int .i64 0] 24)⟩) | (with_reducible exact ⟨hD1.apartV (Nat.ne_of_lt hDg) t0 t1 t2, hS1.apartV (Nat.ne_of_lt hSg) t0 t1 t2⟩)) (first
           | (go_at_call 23; refine (u2.out _).mono ?_; rintro e' wa ⟨rfl, hb1⟩; (first | (have hZ0 := Tri.new wz 0 0 0 24; have hZ1 : Tri wa wz.heap.size 0 0 0 := (by with_reducible exact hZ0.drew.call hb1); clear hZ0; have hD1 : Nine wa (G) D00 D01 D02 D10 D11 D12 D20 D21 D22 := (by with_reducible exact (hD.alloc (.cells #[.int .i64 0, .int .i64 0, .int .i64 0] 24)).drew.call hb1); have hS1 : Tri wa (wr.heap.size) 0 4294967296 0 := (by with_reducible exact (hS.alloc (.cells #[.int .i64 0, .int .i64 0, .int .i64 0] 24)).drew.call hb1); have hO1 : Below w.heap.size w wa := (by with_reducible exact below_then (hO.alloc hO.size (.cells #[.int .i64 0, .int .i64 0, .int .i64 0] 24)).drew hb1); have hG := hO.size; have hDg := hD.lt; have hSg := hS.lt; obtain ⟨zl, z0, z1, z2, z3, z4, z5⟩ := (id hZ1 : Tri _ _ 0 0 0)) | (have hD1 : Nine wa (G) D00 D01 D02 D10 D11 D12 D20 D21 D22 := (by with_reducible exact hD.drew.call hb1); have hS1 : Tri wa (wr.heap.size) 0 4294967296 0 := (by with_reducible exact hS.drew.call hb1); have hO1 : Below w.heap.size w wa := (by with_reducible exact below_then hO.drew hb1); have hZ1 := True.intro))))
         all_goals
           clear hl00 hl01 hl02 hl03 hl04 hl05 hl06 hl07 hl08 hl10 hl11 hl12
           first | (have hN := hZ1.same t0 t1 t2; have hO3 := below_putV hO1 hG t0 t1 t2; have hD3 := hD1.apartV (Nat.ne_of_lt hDg) t0 t1 t2; have hS3 := hS1.apartV (Nat.ne_of_lt hSg) t0 t1 t2) | (have hN := Tri.new wa t0 t1 t2 24; have hO3 := hO1.alloc hO1.size (.cells #[.int .i64 t0, .int .i64 t1, .int .i64 t2] 24); have hD3 := hD1.alloc (.cells #[.int .i64 t0, .int .i64 t1, .int .i64 t2] 24); have hS3 := hS1.alloc (.cells #[.int .i64 t0, .int .i64 t1, .int .i64 t2] 24))
           go_wp2_with fail
           go_meet
           exact ⟨_, rfl, rfl, hN, hO3, hD3, hS3⟩
       case rest =>
         clear hO hD hS
         obtain ⟨H, rfl, rfl, hN, hO, hD, hS⟩ := hcut
         clear hS
         obtain ⟨nl, n0, n1, n2, -, -, -⟩ := hN
         go_wp2_with fail
         refine (g2.out _).mono ?_
         rintro e' we ⟨rfl, hbc⟩
         have hD3 := hD.call hbc
         have hO3 := below_then hO hbc
         clear hD hO hbc
         rcases Int.lt_trichotomy m q with h | h | h
         · go_wp2
           go_roundw
           case rel => exact ⟨2, q, by go_num, rfl, Or.inr (Or.inr (Or.inl ⟨rfl, by have := hm'.out; omega⟩)), hD3, hO3⟩
           case measure => simp [intOf]
         · have he : q = m := h.symm
           have hh := Lib.hid he
           rw [he]
           clear h he
           go_wp2
           go_roundw
           case rel => exact ⟨2, m, by go_num, rfl, Or.inr (Or.inr (Or.inl ⟨rfl, by have := hm'.out; have := hh.out; omega⟩)), hD3, hO3⟩
           case measure => simp [intOf]
         · go_wp2
           go_roundw
           case rel => exact ⟨2, m, by go_num, rfl, Or.inr (Or.inr (Or.inl ⟨rfl, by have := hm'.out; omega⟩)), hD3, hO3⟩
           case measure => simp [intOf]
     · have hm' := Lib.hid hm
       clear hm
       go_upto_region 6 with fail
       replace hD := hD.alloc (.cells #[.int .i64 0, .int .i64 0, .int .i64 4294967296] 24)
       replace hO := hO.alloc hO.size (.cells #[.int .i64 0, .int .i64 0, .int .i64 4294967296] 24)
       have hS := Tri.new wr 0 0 4294967296 24
       generalize World.alloc wr (.cells #[.int .i64 0, .int .i64 0, .int .i64 4294967296] 24) = wz at hD hO hS ⊢
       go_cut [8, 18] from 18 to 34 (fun s8 s18 wx => ∃ H : Nat, s8 = .pointer (some ⟨H, 0, none⟩) ∧ s18 = .int .i64 2 ∧ Tri wx H v0 v1 v2 ∧ Below w.heap.size w wx ∧ Nine wx (G) D00 D01 D02 D10 D11 D12 D20 D21 D22 ∧ Tri wx (wr.heap.size) 0 0 4294967296)
       case first =>
         have hl00 := fun (W' : World) (h' : Nine W' (G) D00 D01 D02 D10 D11 D12 D20 D21 D22) => h'.c0
         have hl01 := fun (W' : World) (h' : Nine W' (G) D00 D01 D02 D10 D11 D12 D20 D21 D22) => h'.c1
         have hl02 := fun (W' : World) (h' : Nine W' (G) D00 D01 D02 D10 D11 D12 D20 D21 D22) => h'.c2
         have hl03 := fun (W' : World) (h' : Nine W' (G) D00 D01 D02 D10 D11 D12 D20 D21 D22) => h'.c3
         have hl04 := fun (W' : World) (h' : Nine W' (G) D00 D01 D02 D10 D11 D12 D20 D21 D22) => h'.c4
         have hl05 := fun (W' : World) (h' : Nine W' (G) D00 D01 D02 D10 D11 D12 D20 D21 D22) => h'.c5
         have hl06 := fun (W' : World) (h' : Nine W' (G) D00 D01 D02 D10 D11 D12 D20 D21 D22) => h'.c6
         have hl07 := fun (W' : World) (h' : Nine W' (G) D00 D01 D02 D10 D11 D12 D20 D21 D22) => h'.c7
         have hl08 := fun (W' : World) (h' : Nine W' (G) D00 D01 D02 D10 D11 D12 D20 D21 D22) => h'.c8
         have hl10 := fun (W' : World) (h' : Tri W' (wr.heap.size) 0 0 4294967296) => h'.c0
         have hl11 := fun (W' : World) (h' : Tri W' (wr.heap.size) 0 0 4294967296) => h'.c1
         have hl12 := fun (W' : World) (h' : Tri W' (wr.heap.size) 0 0 4294967296) => h'.c2
         go_region_held3 (fun W' => Nine W' (G) D00 D01 D02 D10 D11 D12 D20 D21 D22 ∧ Tri W' (wr.heap.size) 0 0 4294967296) (first | (with_reducible exact ⟨hD, hS⟩) | (with_reducible exact ⟨hD.drew, hS.drew⟩) | (with_reducible exact ⟨(hD.alloc (.cells #[.int .i64 0, .int .i64 0, .int .i64 0] 24)).drew, (hS.alloc (.cells #[.int .i64 0, .int .i64 0, .int .i64 0] 24)).drew⟩) | (with_reducible exact ⟨hD.drew.alloc (.cells #[.int .i64 0, .int .i64 0, .int .i64 0] 24), hS.drew.alloc (.cells #[.int .i64 0, .int .i64 0, .int .i64 0] 24)⟩) | (with_reducible exact ⟨hD1, hS1⟩) | (with_reducible exact ⟨hD1.alloc (.cells #[.int .i64 v0, .int .i64 v1, .int .i64 v2] 24), hS1.alloc (.cells #[.int .i64 v0, .int .i64 v1, .int .i64 v2] 24)⟩) | (with_reducible exact ⟨hD1.alloc (.cells #[.int .i64 0, .int .i64 0, .int .i64 0] 24), hS1.alloc (.cells #[.int .i64 0, .int .i64 0, .int .i64 0] 24)⟩) | (with_reducible exact ⟨hD1.apartV (Nat.ne_of_lt hDg) v0 v1 v2, hS1.apartV (Nat.ne_of_lt hSg) v0 v1 v2⟩)) (first
           | (go_at_call 23; refine (u3.out _).mono ?_; rintro e' wa ⟨rfl, hb1⟩; (first | (have hZ0 := Tri.new wz 0 0 0 24; have hZ1 : Tri wa wz.heap.size 0 0 0 := (by with_reducible exact hZ0.drew.call hb1); clear hZ0; have hD1 : Nine wa (G) D00 D01 D02 D10 D11 D12 D20 D21 D22 := (by with_reducible exact (hD.alloc (.cells #[.int .i64 0, .int .i64 0, .int .i64 0] 24)).drew.call hb1); have hS1 : Tri wa (wr.heap.size) 0 0 4294967296 := (by with_reducible exact (hS.alloc (.cells #[.int .i64 0, .int .i64 0, .int .i64 0] 24)).drew.call hb1); have hO1 : Below w.heap.size w wa := (by with_reducible exact below_then (hO.alloc hO.size (.cells #[.int .i64 0, .int .i64 0, .int .i64 0] 24)).drew hb1); have hG := hO.size; have hDg := hD.lt; have hSg := hS.lt; obtain ⟨zl, z0, z1, z2, z3, z4, z5⟩ := (id hZ1 : Tri _ _ 0 0 0)) | (have hD1 : Nine wa (G) D00 D01 D02 D10 D11 D12 D20 D21 D22 := (by with_reducible exact hD.drew.call hb1); have hS1 : Tri wa (wr.heap.size) 0 0 4294967296 := (by with_reducible exact hS.drew.call hb1); have hO1 : Below w.heap.size w wa := (by with_reducible exact below_then hO.drew hb1); have hZ1 := True.intro))))
         all_goals
           clear hl00 hl01 hl02 hl03 hl04 hl05 hl06 hl07 hl08 hl10 hl11 hl12
           first | (have hN := hZ1.same v0 v1 v2; have hO3 := below_putV hO1 hG v0 v1 v2; have hD3 := hD1.apartV (Nat.ne_of_lt hDg) v0 v1 v2; have hS3 := hS1.apartV (Nat.ne_of_lt hSg) v0 v1 v2) | (have hN := Tri.new wa v0 v1 v2 24; have hO3 := hO1.alloc hO1.size (.cells #[.int .i64 v0, .int .i64 v1, .int .i64 v2] 24); have hD3 := hD1.alloc (.cells #[.int .i64 v0, .int .i64 v1, .int .i64 v2] 24); have hS3 := hS1.alloc (.cells #[.int .i64 v0, .int .i64 v1, .int .i64 v2] 24))
           go_wp2_with fail
           go_meet
           exact ⟨_, rfl, rfl, hN, hO3, hD3, hS3⟩
       case rest =>
         clear hO hD hS
         obtain ⟨H, rfl, rfl, hN, hO, hD, hS⟩ := hcut
         clear hS
         obtain ⟨nl, n0, n1, n2, -, -, -⟩ := hN
         go_wp2_with fail
         refine (g3.out _).mono ?_
         rintro e' we ⟨rfl, hbc⟩
         have hD3 := hD.call hbc
         have hO3 := below_then hO hbc
         clear hD hO hbc
         rcases Int.lt_trichotomy m r with h | h | h
         · go_wp2
           go_roundw
           case rel => exact ⟨3, r, by go_num, rfl, Or.inr (Or.inr (Or.inr ⟨rfl, by have := hm'.out; omega⟩)), hD3, hO3⟩
           case measure => simp [intOf]
         · have he : r = m := h.symm
           have hh := Lib.hid he
           rw [he]
           clear h he
           go_wp2
           go_roundw
           case rel => exact ⟨3, m, by go_num, rfl, Or.inr (Or.inr (Or.inr ⟨rfl, by have := hm'.out; have := hh.out; omega⟩)), hD3, hO3⟩
           case measure => simp [intOf]
         · go_wp2
           go_roundw
           case rel => exact ⟨3, m, by go_num, rfl, Or.inr (Or.inr (Or.inr ⟨rfl, by have := hm'.out; omega⟩)), hD3, hO3⟩
           case measure => simp [intOf]
     · have hm' := Lib.hid (hm.symm.trans hT.out)
       clear hm
       go_wp2
       go_ret
       exact ⟨by rw [hm'.out]; rfl, hO⟩
 

end Go.Proofs.YtodfcbpcgcgijaaGreatDoor
