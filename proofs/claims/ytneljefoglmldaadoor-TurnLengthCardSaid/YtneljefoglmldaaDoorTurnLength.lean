/- The angle of both doubled is the same, and that of both opposites half a turn away. -/
import Derived.Test.YtneljefoglmldaaDoorRows
import Derived.Test.YtneljefoglmldaaDoorCards
import Derived.Test.YtneljefoglmldaaDoorTie
import Derived.Test.YtneljefoglmldaaDoorLawT
import Derived.WalkKit
import Derived.ProofKit
import Derived.OpenShut
import Derived.SevenTiedAt
import Derived.LaidMore
import Derived.Stop.Joined
import Derived.Deep.RegionHeld3
namespace Go.Proofs.YtneljefoglmldaaDoor.turnLength
open Go.ChangeShapes Go.WideShapes Go.ChangeAt Go.RowKit
set_option linter.unusedVariables false

attribute [local go_sem] cell_re eqW_self
attribute [local go_sem ↓] run_eqlW run_neqW

set_option maxRecDepth 100000 in
set_option maxHeartbeats 4000000 in
theorem walk (y x : Int) (hy : Half y) (hx : Half x) (w : World) (hS : Steps w) : Calls Tryd.prog 9 #[.int .i64 y, .int .i64 x] w fun e w' => e = .returned (.bool true) ∧ Below w.heap.size w w' := by
  have hB : Below w.heap.size w w := Below.refl _ _
  have d1 := Lib.hid (fun (W1 : World) (h : Steps W1) => turnAngle y x hy hx W1 h)
  have ab := angA_bd y x
  have s1 : (∃ Y X, y.tdiv 2 = Y ∧ x.tdiv 2 = X ∧ (-9223372036854775808 ≤ Y ∧ Y ≤ 9223372036854775807) ∧ (-9223372036854775808 ≤ X ∧ X ≤ 9223372036854775807) ∧ Y < 2305843009213693952 ∧ -2305843009213693952 < Y ∧ X < 2305843009213693952 ∧ -2305843009213693952 < X ∧ (-4611686018427387904 < y ∧ y < 4611686018427387904) ∧ (-4611686018427387904 < x ∧ x < 4611686018427387904)) ∨
      (∃ Y X, y.tdiv 2 = Y ∧ x.tdiv 2 = X ∧ (-9223372036854775808 ≤ Y ∧ Y ≤ 9223372036854775807) ∧ (-9223372036854775808 ≤ X ∧ X ≤ 9223372036854775807) ∧ (2305843009213693952 ≤ Y ∨ (Y < 2305843009213693952 ∧ Y ≤ -2305843009213693952) ∨ (Y < 2305843009213693952 ∧ -2305843009213693952 < Y ∧ 2305843009213693952 ≤ X) ∨ (Y < 2305843009213693952 ∧ -2305843009213693952 < Y ∧ X < 2305843009213693952 ∧ X ≤ -2305843009213693952))) := by
    have h1 := @half_steps y
    have h2 := @half_steps x
    have h3 := Int.tmod_add_mul_tdiv y 2
    have h4 := Int.tmod_add_mul_tdiv x 2
    unfold Half at hy hx
    generalize y.tdiv 2 = Y at *
    generalize x.tdiv 2 = X at *
    by_cases h : Y < 2305843009213693952 ∧ -2305843009213693952 < Y ∧ X < 2305843009213693952 ∧ -2305843009213693952 < X
    · exact Or.inl ⟨Y, X, rfl, rfl, by omega, by omega, h.1, h.2.1, h.2.2.1, h.2.2.2, by omega, by omega⟩
    · exact Or.inr ⟨Y, X, rfl, rfl, by omega, by omega, by omega⟩
  have s2 : ((x == 0) = true) ∨ ((x == 0) = false ∧ (x == -9223372036854775808) = true) ∨ ((x == 0) = false ∧ (x == -9223372036854775808) = false ∧ (y == -9223372036854775808) = true) ∨ 
      ((x == 0) = false ∧ (x == -9223372036854775808) = false ∧ (y == -9223372036854775808) = false ∧ (-9223372036854775807 ≤ y ∧ y ≤ 9223372036854775807) ∧ (-9223372036854775807 ≤ x ∧ x ≤ 9223372036854775807) ∧ x ≠ 0) := by
    unfold Half at hy hx
    simp only [beq_iff_eq, beq_eq_false_iff_ne, ne_eq]
    omega
  have s3 : ((x == 0) = true) ∨ ((x == 0) = false ∧ (x == -9223372036854775808) = true) ∨ ((x == 0) = false ∧ (x == -9223372036854775808) = false ∧ (y == -9223372036854775808) = true) ∨
      (((x == 0) = false ∧ (x == -9223372036854775808) = false ∧ (y == -9223372036854775808) = false) ∧ (-9223372036854775807 ≤ y ∧ y ≤ 9223372036854775807) ∧ (-9223372036854775807 ≤ x ∧ x ≤ 9223372036854775807) ∧ ∃ z, angA (-y) (-x) = z ∧ z = (angA y x + 2147483648) % 4294967296) := by
    rcases s2 with h | h | h | ⟨h1, h2, h3, h4, h5, h6⟩
    · exact Or.inl h
    · exact Or.inr (Or.inl h)
    · exact Or.inr (Or.inr (Or.inl h))
    · exact Or.inr (Or.inr (Or.inr ⟨⟨h1, h2, h3⟩, h4, h5, _, rfl, angA_neg (by omega) (by omega) h6⟩))
  clear s2
  rcases s1 with ⟨Y, X, eY, eX, ⟨m1, m2⟩, ⟨m3, m4⟩, k1, k2, k3, k4, ⟨k5, k6⟩, k7, k8⟩ | ⟨Y, X, eY, eX, ⟨m1, m2⟩, ⟨m3, m4⟩, hk⟩
  · have e2 := angA_two ⟨k5, k6⟩ ⟨k7, k8⟩
    have d2 := Lib.hid (fun (W1 : World) (h : Steps W1) => turnAngle (2 * y) (2 * x) (by unfold Half; omega) (by unfold Half; omega) W1 h)
    rw [e2] at d2
    clear e2 hy hx
    have j1 : -9223372036854775808 ≤ 2 * y := by omega
    have j2 : 2 * y ≤ 9223372036854775807 := by omega
    have j3 : -9223372036854775808 ≤ 2 * x := by omega
    have j4 : 2 * x ≤ 9223372036854775807 := by omega
    rcases s3 with h1 | ⟨h1, h2⟩ | ⟨h1, h2, h3⟩ | ⟨⟨h1, h2, h3⟩, ⟨y0, y1⟩, ⟨x0, x1⟩, z, e3, e4⟩
    · generalize angA y x = v at *
      go_enter Tryd.func9, Tryd.ntmps9
      go_wp2_with (first | (go_at_call 13; first | ((with_reducible refine (d1.out _ hS).mono ?_); rintro e w1 ⟨rfl, hb⟩; replace hS := hS.call hb; replace hB := below_then hB hb; clear hb) | ((with_reducible refine (d2.out _ hS).mono ?_); rintro e w1 ⟨rfl, hb⟩; replace hS := hS.call hb; replace hB := below_then hB hb; clear hb)) | (go_at_call 12; refine (works _ hS).mono ?_; rintro e w1 ⟨rfl, hb⟩; replace hS := hS.call hb; replace hB := below_then hB hb; clear hb))
      go_ret
      exact ⟨rfl, hB⟩
    · generalize angA y x = v at *
      go_enter Tryd.func9, Tryd.ntmps9
      go_wp2_with (first | (go_at_call 13; first | ((with_reducible refine (d1.out _ hS).mono ?_); rintro e w1 ⟨rfl, hb⟩; replace hS := hS.call hb; replace hB := below_then hB hb; clear hb) | ((with_reducible refine (d2.out _ hS).mono ?_); rintro e w1 ⟨rfl, hb⟩; replace hS := hS.call hb; replace hB := below_then hB hb; clear hb)) | (go_at_call 12; refine (works _ hS).mono ?_; rintro e w1 ⟨rfl, hb⟩; replace hS := hS.call hb; replace hB := below_then hB hb; clear hb))
      go_ret
      exact ⟨rfl, hB⟩
    · generalize angA y x = v at *
      go_enter Tryd.func9, Tryd.ntmps9
      go_wp2_with (first | (go_at_call 13; first | ((with_reducible refine (d1.out _ hS).mono ?_); rintro e w1 ⟨rfl, hb⟩; replace hS := hS.call hb; replace hB := below_then hB hb; clear hb) | ((with_reducible refine (d2.out _ hS).mono ?_); rintro e w1 ⟨rfl, hb⟩; replace hS := hS.call hb; replace hB := below_then hB hb; clear hb)) | (go_at_call 12; refine (works _ hS).mono ?_; rintro e w1 ⟨rfl, hb⟩; replace hS := hS.call hb; replace hB := below_then hB hb; clear hb))
      go_ret
      exact ⟨rfl, hB⟩
    · have d3 := Lib.hid (fun (W1 : World) (h : Steps W1) => turnAngle (-y) (-x) (by unfold Half; omega) (by unfold Half; omega) W1 h)
      rw [e3, e4] at d3
      clear e3 e4
      generalize angA y x = v at *
      obtain ⟨v0, v1⟩ := ab
      go_enter Tryd.func9, Tryd.ntmps9
      go_wp2_with (first | (go_at_call 13; first | ((with_reducible refine (d1.out _ hS).mono ?_); rintro e w1 ⟨rfl, hb⟩; replace hS := hS.call hb; replace hB := below_then hB hb; clear hb) | ((with_reducible refine (d2.out _ hS).mono ?_); rintro e w1 ⟨rfl, hb⟩; replace hS := hS.call hb; replace hB := below_then hB hb; clear hb) | ((with_reducible refine (d3.out _ hS).mono ?_); rintro e w1 ⟨rfl, hb⟩; replace hS := hS.call hb; replace hB := below_then hB hb; clear hb)) | (go_at_call 12; refine (works _ hS).mono ?_; rintro e w1 ⟨rfl, hb⟩; replace hS := hS.call hb; replace hB := below_then hB hb; clear hb))
      go_ret
      exact ⟨rfl, hB⟩
  · rcases s3 with h1 | ⟨h1, h2⟩ | ⟨h1, h2, h3⟩ | ⟨⟨h1, h2, h3⟩, ⟨y0, y1⟩, ⟨x0, x1⟩, z, e3, e4⟩
    · clear d1 hy hx
      rcases hk with k1 | ⟨k1, k2⟩ | ⟨k1, k2, k3⟩ | ⟨k1, k2, k3, k4⟩
      all_goals
       go_enter Tryd.func9, Tryd.ntmps9
       go_wp2_with (go_at_call 12; refine (works _ hS).mono ?_; rintro e w1 ⟨rfl, hb⟩; replace hS := hS.call hb; replace hB := below_then hB hb; clear hb)
       go_ret
       exact ⟨rfl, hB⟩
    · clear d1 hy hx
      rcases hk with k1 | ⟨k1, k2⟩ | ⟨k1, k2, k3⟩ | ⟨k1, k2, k3, k4⟩
      all_goals
       go_enter Tryd.func9, Tryd.ntmps9
       go_wp2_with (go_at_call 12; refine (works _ hS).mono ?_; rintro e w1 ⟨rfl, hb⟩; replace hS := hS.call hb; replace hB := below_then hB hb; clear hb)
       go_ret
       exact ⟨rfl, hB⟩
    · clear d1 hy hx
      rcases hk with k1 | ⟨k1, k2⟩ | ⟨k1, k2, k3⟩ | ⟨k1, k2, k3, k4⟩
      all_goals
       go_enter Tryd.func9, Tryd.ntmps9
       go_wp2_with (go_at_call 12; refine (works _ hS).mono ?_; rintro e w1 ⟨rfl, hb⟩; replace hS := hS.call hb; replace hB := below_then hB hb; clear hb)
       go_ret
       exact ⟨rfl, hB⟩
    · have d2 := Lib.hid (fun (W1 : World) (h : Steps W1) => turnAngle (-y) (-x) (by unfold Half; omega) (by unfold Half; omega) W1 h)
      rw [e3, e4] at d2
      clear e3 e4 hy hx
      generalize angA y x = v at *
      obtain ⟨v0, v1⟩ := ab
      rcases hk with k1 | ⟨k1, k2⟩ | ⟨k1, k2, k3⟩ | ⟨k1, k2, k3, k4⟩
      all_goals
       go_enter Tryd.func9, Tryd.ntmps9
       go_wp2_with (first | (go_at_call 13; first | ((with_reducible refine (d1.out _ hS).mono ?_); rintro e w1 ⟨rfl, hb⟩; replace hS := hS.call hb; replace hB := below_then hB hb; clear hb) | ((with_reducible refine (d2.out _ hS).mono ?_); rintro e w1 ⟨rfl, hb⟩; replace hS := hS.call hb; replace hB := below_then hB hb; clear hb)) | (go_at_call 12; refine (works _ hS).mono ?_; rintro e w1 ⟨rfl, hb⟩; replace hS := hS.call hb; replace hB := below_then hB hb; clear hb))
       go_ret
       exact ⟨rfl, hB⟩


set_option maxRecDepth 100000 in
theorem lifted (os : Os) (started : os.Started) (H : Type) (enc : TypeId × Value → H) :
    ReturnsInHanded {} Tryd.checked os 9 .any (fun w args => (Rows.turnLengthSpec.pre enc Tryd.prog Tryd.f9 [] false w args ∧ laidMetH Tryd.prog laidT w) ∧ sizedMet enc Tryd.prog Tryd.f9 (OpenSpec.ofChange Rows.turnLengthSpec) false w args)
      (Rows.turnLengthSpec.post enc Tryd.prog Tryd.f9 false true false false) := by
  refine returnsInHanded_of_change_and (C := Tryd.checked) (X := fun w _ => laidMetH Tryd.prog laidT w) (fun _ _ _ hh h => h.of_heap hh) own started (by kernel_rfl) Tryd.func9
    (ChangeSpec.witness_shaped (enc := enc) (C := Tryd.checked) (os := os) (X := fun w _ => laidMetH Tryd.prog laidT w) false (World.doorLaid Tryd.prog 400 os) #[.int .i64 0, .int .i64 0] 8 rfl (World.shaped_of_RefB (by kernel_rfl) (by kernel_rfl)) (by kernel_rfl) (by kernel_rfl) (by kernel_rfl) (door_met os _)) ?_
  intro W1 base args ds gs before hval0 hW _ _ hL _
  have hval : ∀ (j : Nat) t v, Tryd.f9.params[j]? = some t → args[j]? = some v → Value.okWide Tryd.prog W1 .any base t v := hval0
  have hW' := hW
  obtain ⟨p, q, hA0, hV, rfl, hfz, hnd⟩ := hW
  have hA : DataW.TrodAll enc Tryd.prog W1 0 (fun _ => true) true Tryd.f9.params.toList args.toList ds p := hA0
  rw [Tryd.params9] at hA hval
  obtain ⟨v0, vs0, d0, ds0, p0, q0, hargs, rfl, rfl, h0, r0⟩ := trodAll_cons hA
  obtain ⟨v1, vs1, d1, ds1, p1, q1, rfl, rfl, rfl, h1, r1⟩ := trodAll_cons r0
  obtain ⟨rfl, rfl, rfl⟩ := trodAll_nil r1
  obtain rfl : args = #[v0, v1] := by cases args; simp_all
  obtain ⟨rfl, rfl⟩ := trodVars_none hV
  obtain ⟨y, rfl, e0, -, w0⟩ := open_int Tryd.underlying23 (hval 0 23 v0 rfl rfl) h0
  obtain ⟨x, rfl, e1, -, w1⟩ := open_int Tryd.underlying23 (hval 1 23 v1 rfl rfl) h1
  have hS := steps_of_laid hL
  clear hA0 hval0 hval hA hL
  refine (walk y x (half_of_wf w0) (half_of_wf w1) W1 hS).mono fun e W' ⟨he, hg⟩ => ?_
  subst he
  exact ⟨_, rfl, law_post laidOut (by kernel_rfl) rfl (by kernel_rfl) Tryd.underlying4 hW' rfl hg⟩

theorem over : Rows.TurnLengthSaid :=
  OpenClaim.holds_of_wide 9 Tryd.f9 rfl rfl rfl rfl rfl rfl rfl ⟨rfl, rfl, rfl, rfl, rfl⟩ rfl rfl rfl rfl rfl (by kernel_rfl) Tryd.func9 (by kernel_rfl)
    (of_decide_eq_true (by kernel_rfl)) (by unfold Func.isWrapper; first | (rw [if_pos (by decide +kernel)]; kernel_rfl) | (rw [if_neg (by decide +kernel)]; exact ⟨rfl, rfl⟩))
    (fun os started H enc _ => lifted os started H enc)

theorem proved : Rows.TurnLengthCardSaid :=
  Claim7.holds_tied_plain_at .later [] [.data] true (true, "409f6f51192dc8274d5e994bf19929d807ffa6f5e88389e1ea7b66feb9708b2a") false
    over (fun _ h => by cases h) (by kernel_rfl) (fun _ h => by cases h) turnLength_row_tie rfl ⟨rfl, rfl⟩ (by kernel_rfl) rfl
    (fun f fn hf hfn => by
      obtain rfl : f = 9 := Option.some.inj ((show Tryd.prog.funcNamed "pelorus/peloruslaw05.TurnLength" = some 9 by kernel_rfl).symm.trans hf) |>.symm
      obtain rfl : fn = Tryd.f9 := (Option.some.inj (Tryd.func9.symm.trans hfn)).symm
      exact ⟨by kernel_rfl, fun j t ht => by
        rw [Tryd.params9] at ht
        have hm : t ∈ [23, 23] := by simpa using Array.mem_of_getElem? ht
        have hall : ([23, 23].all fun u => !Tryd.prog.wantsStandIn u) = true := by kernel_rfl
        exact (show Tryd.prog.wantsStandIn t = false by simpa using List.all_eq_true.1 hall t hm)⟩)
    (by kernel_rfl)
end Go.Proofs.YtneljefoglmldaaDoor.turnLength
