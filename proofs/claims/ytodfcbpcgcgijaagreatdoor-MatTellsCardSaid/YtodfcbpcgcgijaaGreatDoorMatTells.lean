import Derived.Test.YtodfcbpcgcgijaaGreatDoorRows
import Derived.Test.YtodfcbpcgcgijaaGreatDoorCards
import Derived.Test.YtodfcbpcgcgijaaGreatDoorTie
import Derived.Test.YtodfcbpcgcgijaaGreatDoorMatW
import Derived.Test.YtodfcbpcgcgijaaGreatDoorMatP
import Derived.Test.YtodfcbpcgcgijaaGreatDoorMatRefE
import Derived.Test.YtodfcbpcgcgijaaGreatDoorJH
import Derived.WalkKit
import Derived.ProofKit
import Derived.OpenShut
import Derived.SevenTiedAt
import Derived.LaidMore
import Derived.Stop.Joined
import Derived.Deep.RegionHeld3
/- Any matrix is made upright, and how far it is off, and its heading, are as the document's answers have them. -/
namespace Go.Proofs.YtodfcbpcgcgijaaGreatDoor.matTells
set_option maxRecDepth 100000
open Go.ChangeShapes Go.WideShapes Go.ChangeAt Go.RowKit
set_option linter.unusedVariables false

attribute [local go_sem] cell_re eqW_self eqV_self eqM_self
attribute [local go_sem ↓] run_eqlW run_neqW run_eqlV run_eqlM run_indexM0 run_indexM1 run_indexM2

theorem orthoOf_form (p0 p1 p2 q0 q1 q2 : Int) : ∃ v0 v1 v2 v3 v4 v5 v6 v7 v8 e, orthoOf p0 p1 p2 q0 q1 q2 = .tuple #[M9 v0 v1 v2 v3 v4 v5 v6 v7 v8, .bool e] := by
  unfold orthoOf
  split
  · unfold orthoX orthoE orthoF orthoY
    split
    · exact ⟨_, _, _, _, _, _, _, _, _, _, rfl⟩
    · unfold orthoZ
      split
      · exact ⟨_, _, _, _, _, _, _, _, _, _, rfl⟩
      · exact ⟨_, _, _, _, _, _, _, _, _, _, rfl⟩
  · exact ⟨_, _, _, _, _, _, _, _, _, _, rfl⟩

set_option maxRecDepth 100000 in
set_option maxHeartbeats 4000000 in
theorem walk (K : MatC) (A : Nat → Nat → Int) (hA : HalfM A) (w : World) (hS : Steps w) : Calls Tryz.prog 3 #[Mx A] w fun e' w' => e' = .returned (.bool true) ∧ Below w.heap.size w w' := by
  have d1 := Lib.hid (fun W1 : World => K.ortho (A 0 0) (A 0 1) (A 0 2) (A 1 0) (A 1 1) (A 1 2) (A 2 0) (A 2 1) (A 2 2) (hA 0 0 (by decide) (by decide)) (hA 0 1 (by decide) (by decide)) (hA 0 2 (by decide) (by decide)) (hA 1 0 (by decide) (by decide)) (hA 1 1 (by decide) (by decide)) (hA 1 2 (by decide) (by decide)) (hA 2 0 (by decide) (by decide)) (hA 2 1 (by decide) (by decide)) (hA 2 2 (by decide) (by decide)) W1)
  have d2 := Lib.hid (fun W1 : World => ref7Ortho (A 0 0) (A 0 1) (A 0 2) (A 1 0) (A 1 1) (A 1 2) (A 2 0) (A 2 1) (A 2 2) (hA 0 0 (by decide) (by decide)) (hA 0 1 (by decide) (by decide)) (hA 0 2 (by decide) (by decide)) (hA 1 0 (by decide) (by decide)) (hA 1 1 (by decide) (by decide)) (hA 1 2 (by decide) (by decide)) (hA 2 0 (by decide) (by decide)) (hA 2 1 (by decide) (by decide)) (hA 2 2 (by decide) (by decide)) W1)
  obtain ⟨v0, v1, v2, v3, v4, v5, v6, v7, v8, r, hv⟩ := orthoOf_form (A 0 0) (A 0 1) (A 0 2) (A 1 0) (A 1 1) (A 1 2)
  rw [hv] at d1 d2
  have d3 := Lib.hid (fun W1 : World => K.off A hA W1)
  have d4 := Lib.hid (fun W1 : World => ref7Off A hA W1)
  have d5 := Lib.hid (fun (W1 : World) (h : Steps W1) => K.heading (A 0 0) (A 0 1) (A 0 2) (A 1 0) (A 1 1) (A 1 2) (A 2 0) (A 2 1) (A 2 2) (hA 0 0 (by decide) (by decide)) (hA 1 0 (by decide) (by decide)) W1 h)
  have d6 := Lib.hid (fun W1 : World => ref7Heading (A 0 0) (A 0 1) (A 0 2) (A 1 0) (A 1 1) (A 1 2) (A 2 0) (A 2 1) (A 2 2) (hA 0 0 (by decide) (by decide)) (hA 0 1 (by decide) (by decide)) (hA 0 2 (by decide) (by decide)) (hA 1 0 (by decide) (by decide)) (hA 1 1 (by decide) (by decide)) (hA 1 2 (by decide) (by decide)) (hA 2 0 (by decide) (by decide)) (hA 2 1 (by decide) (by decide)) (hA 2 2 (by decide) (by decide)) W1)
  obtain ⟨f, hf⟩ : ∃ f, Hid (offOf A = f) := ⟨_, rfl⟩
  obtain ⟨g, hg⟩ : ∃ g, Hid (angA (A 1 0) (A 0 0) = g) := ⟨_, rfl⟩
  rw [hf.out] at d3 d4
  rw [hg.out] at d5 d6
  clear hf hg hv hA
  have hA := Nine.new w (A 0 0) (A 0 1) (A 0 2) (A 1 0) (A 1 1) (A 1 2) (A 2 0) (A 2 1) (A 2 2) 26
  have hO : Below w.heap.size w (w.alloc (.cells #[.int .i64 (A 0 0), .int .i64 (A 0 1), .int .i64 (A 0 2), .int .i64 (A 1 0), .int .i64 (A 1 1), .int .i64 (A 1 2), .int .i64 (A 2 0), .int .i64 (A 2 1), .int .i64 (A 2 2)] 26)) := by go_grown
  go_enter Tryz.func3, Tryz.ntmps3
  obtain ⟨al, a0, a1, a2, a3, a4, a5, a6, a7, a8, -, -, -, -, -, -, -, -, -⟩ := (id hA : Nine _ _ (A 0 0) (A 0 1) (A 0 2) (A 1 0) (A 1 1) (A 1 2) (A 2 0) (A 2 1) (A 2 2))
  go_wp2_with fail
  refine (d1.out _).mono ?_
  rintro e' w1 ⟨rfl, hb1⟩
  replace hA := hA.call hb1
  replace hO := below_then hO hb1
  clear hb1
  have hX := Nine.new w1 v0 v1 v2 v3 v4 v5 v6 v7 v8 26
  replace hA := hA.alloc (.cells #[.int .i64 v0, .int .i64 v1, .int .i64 v2, .int .i64 v3, .int .i64 v4, .int .i64 v5, .int .i64 v6, .int .i64 v7, .int .i64 v8] 26)
  replace hO := hO.alloc hO.size (.cells #[.int .i64 v0, .int .i64 v1, .int .i64 v2, .int .i64 v3, .int .i64 v4, .int .i64 v5, .int .i64 v6, .int .i64 v7, .int .i64 v8] 26)
  obtain ⟨al, a0, a1, a2, a3, a4, a5, a6, a7, a8, -, -, -, -, -, -, -, -, -⟩ := (id hA : Nine _ _ (A 0 0) (A 0 1) (A 0 2) (A 1 0) (A 1 1) (A 1 2) (A 2 0) (A 2 1) (A 2 2))
  go_wp2_with fail
  refine (d2.out _).mono ?_
  rintro e' w2 ⟨rfl, hb1⟩
  replace hA := hA.call hb1
  replace hX := hX.call hb1
  replace hO := below_then hO hb1
  clear hb1
  have hY := Nine.new w2 v0 v1 v2 v3 v4 v5 v6 v7 v8 26
  replace hA := hA.alloc (.cells #[.int .i64 v0, .int .i64 v1, .int .i64 v2, .int .i64 v3, .int .i64 v4, .int .i64 v5, .int .i64 v6, .int .i64 v7, .int .i64 v8] 26)
  replace hX := hX.alloc (.cells #[.int .i64 v0, .int .i64 v1, .int .i64 v2, .int .i64 v3, .int .i64 v4, .int .i64 v5, .int .i64 v6, .int .i64 v7, .int .i64 v8] 26)
  replace hO := hO.alloc hO.size (.cells #[.int .i64 v0, .int .i64 v1, .int .i64 v2, .int .i64 v3, .int .i64 v4, .int .i64 v5, .int .i64 v6, .int .i64 v7, .int .i64 v8] 26)
  obtain ⟨al, a0, a1, a2, a3, a4, a5, a6, a7, a8, -, -, -, -, -, -, -, -, -⟩ := (id hA : Nine _ _ (A 0 0) (A 0 1) (A 0 2) (A 1 0) (A 1 1) (A 1 2) (A 2 0) (A 2 1) (A 2 2))
  obtain ⟨x'l, x'0, x'1, x'2, x'3, x'4, x'5, x'6, x'7, x'8, -, -, -, -, -, -, -, -, -⟩ := (id hX : Nine _ _ v0 v1 v2 v3 v4 v5 v6 v7 v8)
  obtain ⟨y'l, y'0, y'1, y'2, y'3, y'4, y'5, y'6, y'7, y'8, -, -, -, -, -, -, -, -, -⟩ := (id hY : Nine _ _ v0 v1 v2 v3 v4 v5 v6 v7 v8)
  simp only [World.size_alloc] at al x'l y'l
  clear hA hX hY
  go_wp2_with fail
  refine wp_region_quiet_below (by kernel_rfl) (by kernel_rfl) ?_
  repeat (go_big_quiet_step (first | (go_at_call 6; first | with_reducible exact Calls.regrown_of (d3.out _)) | (go_at_call 7; first | with_reducible exact Calls.regrown_of (d4.out _)) | (go_at_call 8; first | with_reducible exact Calls.regrown_of (d5.out _ (hS.call (below_then hO (below_regrown _ _ _))))) | (go_at_call 9; first | with_reducible exact Calls.regrown_of (d6.out _)) | (go_at_call 10; first | with_reducible exact Calls.regrown_of (works K _ (hS.call (below_then hO (below_regrown _ _ _)))))))
  refine wpQuiet_nil ?_
  intro wq hwq
  have hbq := below_of_re hwq
  clear hwq
  replace hO := below_then hO hbq
  go_wp2
  go_ret
  exact ⟨rfl, hO⟩


set_option maxRecDepth 100000 in
theorem lifted (os : Os) (started : os.Started) (H : Type) (enc : TypeId × Value → H) :
    ReturnsInHanded {} Tryz.checked os 3 .any (fun w args => (Rows.matTellsSpec.pre enc Tryz.prog Tryz.f3 [] false w args ∧ laidMetH Tryz.prog laidT w) ∧ sizedMet enc Tryz.prog Tryz.f3 (OpenSpec.ofChange Rows.matTellsSpec) false w args)
      (Rows.matTellsSpec.post enc Tryz.prog Tryz.f3 false true false false) := by
  refine returnsInHanded_of_change_and (C := Tryz.checked) (X := fun w _ => laidMetH Tryz.prog laidT w) (fun _ _ _ hh h => h.of_heap hh) own started (by kernel_rfl) Tryz.func3
    (ChangeSpec.witness_shaped (enc := enc) (C := Tryz.checked) (os := os) (X := fun w _ => laidMetH Tryz.prog laidT w) false (World.doorLaid Tryz.prog 400 os) #[.agg #[.int .i64 0, .int .i64 0, .int .i64 0, .int .i64 0, .int .i64 0, .int .i64 0, .int .i64 0, .int .i64 0, .int .i64 0]] 8 rfl (World.shaped_of_RefB (by kernel_rfl) (by kernel_rfl)) (by kernel_rfl) (by kernel_rfl) (by kernel_rfl) (door_met os _)) ?_
  intro W1 base args ds gs before hval0 hW _ _ hL _
  have hval : ∀ (j : Nat) t v, Tryz.f3.params[j]? = some t → args[j]? = some v → Value.okWide Tryz.prog W1 .any base t v := hval0
  have hW' := hW
  obtain ⟨p, q, hA0, hV, rfl, hfz, hnd⟩ := hW
  have hA : DataW.TrodAll enc Tryz.prog W1 0 (fun _ => true) true Tryz.f3.params.toList args.toList ds p := hA0
  rw [Tryz.params3] at hA hval
  obtain ⟨v0, vs0, d0, ds0, p0, q0, hargs, rfl, rfl, h0, r0⟩ := trodAll_cons hA
  obtain ⟨rfl, rfl, rfl⟩ := trodAll_nil r0
  obtain rfl : args = #[v0] := by cases args; simp_all
  obtain ⟨rfl, rfl⟩ := trodVars_none hV
  obtain ⟨A, w0, rfl⟩ := open_MF (hval 0 26 v0 rfl rfl) h0
  have hS := steps_of_laid hL
  clear hA0 hval0 hval hA hL
  refine (walk matC A w0 W1 hS).mono fun e W' ⟨he, hg⟩ => ?_
  subst he
  exact ⟨_, rfl, law_post laidOut (by kernel_rfl) rfl (by kernel_rfl) Tryz.underlying4 hW' rfl hg⟩

theorem over : Rows.MatTellsSaid :=
  OpenClaim.holds_of_wide 3 Tryz.f3 rfl rfl rfl rfl rfl rfl rfl ⟨rfl, rfl, rfl, rfl, rfl⟩ rfl rfl rfl rfl rfl (by kernel_rfl) Tryz.func3 (by kernel_rfl)
    (of_decide_eq_true (by kernel_rfl)) (by unfold Func.isWrapper; first | (rw [if_pos (by decide +kernel)]; kernel_rfl) | (rw [if_neg (by decide +kernel)]; exact ⟨rfl, rfl⟩))
    (fun os started H enc _ => lifted os started H enc)

theorem proved : Rows.MatTellsCardSaid :=
  Claim7.holds_tied_plain_at .later [] [.data] true (true, "dd95456dd09bb2edc96030a416f27fc5736f5b9a47ec80c34ca522ce9192ece7") false
    over (fun _ h => by cases h) (by kernel_rfl) (fun _ h => by cases h) matTells_row_tie rfl ⟨rfl, rfl⟩ (by kernel_rfl) rfl
    (fun f fn hf hfn => by
      obtain rfl : f = 3 := Option.some.inj ((show Tryz.prog.funcNamed "pelorus/peloruslaw07.MatTells" = some 3 by kernel_rfl).symm.trans hf) |>.symm
      obtain rfl : fn = Tryz.f3 := (Option.some.inj (Tryz.func3.symm.trans hfn)).symm
      exact ⟨by kernel_rfl, fun j t ht => by
        rw [Tryz.params3] at ht
        have hm : t ∈ [26] := by simpa using Array.mem_of_getElem? ht
        have hall : ([26].all fun u => !Tryz.prog.wantsStandIn u) = true := by kernel_rfl
        exact (show Tryz.prog.wantsStandIn t = false by simpa using List.all_eq_true.1 hall t hm)⟩)
    (by kernel_rfl)
end Go.Proofs.YtodfcbpcgcgijaaGreatDoor.matTells
