import Derived.Test.YtodfcbpcgcgijaaDoorRows
import Derived.Test.YtodfcbpcgcgijaaDoorCards
import Derived.Test.YtodfcbpcgcgijaaDoorTie
import Derived.Test.YtodfcbpcgcgijaaDoorMatW
import Derived.Test.YtodfcbpcgcgijaaDoorMatP
import Derived.Test.YtodfcbpcgcgijaaDoorJH
import Derived.WalkKit
import Derived.ProofKit
import Derived.OpenShut
import Derived.SevenTiedAt
import Derived.LaidMore
import Derived.Stop.Joined
import Derived.Deep.RegionHeld3
/- The heading of what turns about axis 2 is no further from the angle than 1024 parts. -/
namespace Go.Proofs.YtodfcbpcgcgijaaDoor.matHeads
set_option maxRecDepth 100000
open Go.ChangeShapes Go.WideShapes Go.ChangeAt Go.RowKit
set_option linter.unusedVariables false

attribute [local go_sem] cell_re eqW_self eqV_self eqM_self
attribute [local go_sem ↓] run_eqlW run_neqW run_eqlV run_eqlM run_indexM0 run_indexM1 run_indexM2

set_option maxRecDepth 100000 in
set_option maxHeartbeats 4000000 in
theorem walk (K : MatC) (a : Int) (ha : 0 ≤ a ∧ a ≤ 4294967295) (w : World) (hS : Steps w) : Calls Tryd.prog 8 #[.int .u32 a] w fun e' w' => e' = .returned (.bool true) ∧ Below w.heap.size w w' := by
  have d1 : Hid (∀ W1 : World, Steps W1 → Calls Tryd.prog 18 #[.int .i64 2, .int .u32 a] W1 fun e' w' => e' = .returned (.tuple #[M9 (cosA a) (-sinA a) 0 (sinA a) (cosA a) 0 0 0 4294967296, .int .i64 0]) ∧ Below W1.heap.size W1 w') := fun W1 h => K.about 2 a (by unfold Half; omega) ha W1 h
  have bk := angA_back a ha
  have ab := angA_bd (sinA a) (cosA a)
  obtain ⟨bc, bs⟩ := cosA_bd a ha
  have d2 := Lib.hid (fun (W1 : World) (h : Steps W1) => K.heading (cosA a) (-sinA a) 0 (sinA a) (cosA a) 0 0 0 4294967296 (by unfold Half; omega) (by unfold Half; omega) W1 h)
  generalize angA (sinA a) (cosA a) = g at *
  generalize cosA a = c at *
  generalize sinA a = s at *
  obtain ⟨g0, g1⟩ := ab
  obtain ⟨a0, a1⟩ := ha
  have way' := Lib.hid bk
  clear bk bc bs
  have hO : Below w.heap.size w w := Below.refl _ _
  go_enter Tryd.func8, Tryd.ntmps8
  go_wp2_with fail
  refine (works K _ (hS.call hO)).mono ?_
  rintro e' w1 ⟨rfl, hb1⟩
  replace hO := below_then hO hb1
  clear hb1
  go_wp2_with fail
  refine (d1.out _ (hS.call hO)).mono ?_
  rintro e' w2 ⟨rfl, hb1⟩
  replace hO := below_then hO hb1
  clear hb1
  have hA := Nine.new w2 c (-s) 0 s c 0 0 0 4294967296 26
  replace hO := hO.alloc hO.size (.cells #[.int .i64 c, .int .i64 (-s), .int .i64 0, .int .i64 s, .int .i64 c, .int .i64 0, .int .i64 0, .int .i64 0, .int .i64 4294967296] 26)
  obtain ⟨a'l, a'0, a'1, a'2, a'3, a'4, a'5, a'6, a'7, a'8, -, -, -, -, -, -, -, -, -⟩ := (id hA : Nine _ _ c (-s) 0 s c 0 0 0 4294967296)
  go_wp2_with fail
  refine (d2.out _ (hS.call hO)).mono ?_
  rintro e' w3 ⟨rfl, hb1⟩
  replace hO := below_then hO hb1
  clear hb1
  clear hA
  have w0 : -1024 ≤ wrap32 ((g - a) % 4294967296) := by have := way'.out; unfold way at this; unfold wrap32; omega
  have w1' : wrap32 ((g - a) % 4294967296) ≤ 1024 := by have := way'.out; unfold way at this; unfold wrap32; omega
  go_wp2
  go_returns
  exact ⟨by first | rfl | (exact retB (decide_eq_true w0)) | (exact retB (by simp; omega)), hO⟩


set_option maxRecDepth 100000 in
theorem lifted (os : Os) (started : os.Started) (H : Type) (enc : TypeId × Value → H) :
    ReturnsInHanded {} Tryd.checked os 8 .any (fun w args => (Rows.matHeadsSpec.pre enc Tryd.prog Tryd.f8 [] false w args ∧ laidMetH Tryd.prog laidT w) ∧ sizedMet enc Tryd.prog Tryd.f8 (OpenSpec.ofChange Rows.matHeadsSpec) false w args)
      (Rows.matHeadsSpec.post enc Tryd.prog Tryd.f8 false true false false) := by
  refine returnsInHanded_of_change_and (C := Tryd.checked) (X := fun w _ => laidMetH Tryd.prog laidT w) (fun _ _ _ hh h => h.of_heap hh) own started (by kernel_rfl) Tryd.func8
    (ChangeSpec.witness_shaped (enc := enc) (C := Tryd.checked) (os := os) (X := fun w _ => laidMetH Tryd.prog laidT w) false (World.doorLaid Tryd.prog 400 os) #[.int .u32 0] 8 rfl (World.shaped_of_RefB (by kernel_rfl) (by kernel_rfl)) (by kernel_rfl) (by kernel_rfl) (by kernel_rfl) (door_met os _)) ?_
  intro W1 base args ds gs before hval0 hW _ _ hL _
  have hval : ∀ (j : Nat) t v, Tryd.f8.params[j]? = some t → args[j]? = some v → Value.okWide Tryd.prog W1 .any base t v := hval0
  have hW' := hW
  obtain ⟨p, q, hA0, hV, rfl, hfz, hnd⟩ := hW
  have hA : DataW.TrodAll enc Tryd.prog W1 0 (fun _ => true) true Tryd.f8.params.toList args.toList ds p := hA0
  rw [Tryd.params8] at hA hval
  obtain ⟨v0, vs0, d0, ds0, p0, q0, hargs, rfl, rfl, h0, r0⟩ := trodAll_cons hA
  obtain ⟨rfl, rfl, rfl⟩ := trodAll_nil r0
  obtain rfl : args = #[v0] := by cases args; simp_all
  obtain ⟨rfl, rfl⟩ := trodVars_none hV
  obtain ⟨a, rfl, e0, -, w0⟩ := open_int Tryd.underlying35 (hval 0 35 v0 rfl rfl) h0
  have hS := steps_of_laid hL
  clear hA0 hval0 hval hA hL
  refine (walk matC a (word32_of_wf w0) W1 hS).mono fun e W' ⟨he, hg⟩ => ?_
  subst he
  exact ⟨_, rfl, law_post laidOut (by kernel_rfl) rfl (by kernel_rfl) Tryd.underlying4 hW' rfl hg⟩

theorem over : Rows.MatHeadsSaid :=
  OpenClaim.holds_of_wide 8 Tryd.f8 rfl rfl rfl rfl rfl rfl rfl ⟨rfl, rfl, rfl, rfl, rfl⟩ rfl rfl rfl rfl rfl (by kernel_rfl) Tryd.func8 (by kernel_rfl)
    (of_decide_eq_true (by kernel_rfl)) (by unfold Func.isWrapper; first | (rw [if_pos (by decide +kernel)]; kernel_rfl) | (rw [if_neg (by decide +kernel)]; exact ⟨rfl, rfl⟩))
    (fun os started H enc _ => lifted os started H enc)

theorem proved : Rows.MatHeadsCardSaid :=
  Claim7.holds_tied_plain_at .later [] [.data] true (true, "76501850add5e039de148ba0a8a185064ebbb291c75d7fbdb2f78020d96a9ea8") false
    over (fun _ h => by cases h) (by kernel_rfl) (fun _ h => by cases h) matHeads_row_tie rfl ⟨rfl, rfl⟩ (by kernel_rfl) rfl
    (fun f fn hf hfn => by
      obtain rfl : f = 8 := Option.some.inj ((show Tryd.prog.funcNamed "pelorus/peloruslaw07.MatHeads" = some 8 by kernel_rfl).symm.trans hf) |>.symm
      obtain rfl : fn = Tryd.f8 := (Option.some.inj (Tryd.func8.symm.trans hfn)).symm
      exact ⟨by kernel_rfl, fun j t ht => by
        rw [Tryd.params8] at ht
        have hm : t ∈ [35] := by simpa using Array.mem_of_getElem? ht
        have hall : ([35].all fun u => !Tryd.prog.wantsStandIn u) = true := by kernel_rfl
        exact (show Tryd.prog.wantsStandIn t = false by simpa using List.all_eq_true.1 hall t hm)⟩)
    (by kernel_rfl)
end Go.Proofs.YtodfcbpcgcgijaaDoor.matHeads
