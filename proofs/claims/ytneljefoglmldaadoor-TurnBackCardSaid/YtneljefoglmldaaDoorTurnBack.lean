/- The angle of sine and cosine is no further from the angle than 1024 parts. -/
import Derived.Test.YtneljefoglmldaaDoorRows
import Derived.Test.YtneljefoglmldaaDoorCards
import Derived.Test.YtneljefoglmldaaDoorTie
import Derived.Test.YtneljefoglmldaaDoorLawT
import Derived.WalkKit
import Derived.ProofKit
import Derived.OpenShut
import Derived.SevenTiedAt
import Derived.LaidMore
import Derived.Stop.Joined
import Derived.Deep.RegionHeld3
namespace Go.Proofs.YtneljefoglmldaaDoor.turnBack
open Go.ChangeShapes Go.WideShapes Go.ChangeAt Go.RowKit
set_option linter.unusedVariables false

attribute [local go_sem] cell_re eqW_self
attribute [local go_sem ↓] run_eqlW run_neqW

set_option maxRecDepth 100000 in
set_option maxHeartbeats 4000000 in
theorem walk (a : Int) (ha : 0 ≤ a ∧ a ≤ 4294967295) (w : World) (hS : Steps w) : Calls Tryd.prog 8 #[.int .u32 a] w fun e w' => e = .returned (.bool true) ∧ Below w.heap.size w w' := by
  have hB : Below w.heap.size w w := Below.refl _ _
  have d1 := Lib.hid (fun (W1 : World) (h : Steps W1) => turnBoth a ha W1 h)
  have bd := cosA_bd a ha
  have bk := angA_back a ha
  have ab := angA_bd (sinA a) (cosA a)
  have d2 := Lib.hid (fun (W1 : World) (h : Steps W1) => turnAngle (sinA a) (cosA a) (by unfold Half; omega) (by unfold Half; omega) W1 h)
  have d3 := Lib.hid (fun (W1 : World) => law5Near (angA (sinA a) (cosA a)) a 1024 ab ha (by omega) (by omega) bk.2 bk.1 W1)
  clear bd bk ab ha
  generalize angA (sinA a) (cosA a) = x at *
  generalize cosA a = c at *
  generalize sinA a = s at *
  go_enter Tryd.func8, Tryd.ntmps8
  go_wp2_with (first | (go_at_call 10; refine (d1.out _ hS).mono ?_; rintro e w1 ⟨rfl, hb⟩; replace hS := hS.call hb; replace hB := below_then hB hb; clear hb) | (go_at_call 13; refine (d2.out _ hS).mono ?_; rintro e w1 ⟨rfl, hb⟩; replace hS := hS.call hb; replace hB := below_then hB hb; clear hb) | (go_at_call 27; refine (d3.out _).mono ?_; rintro e w1 ⟨rfl, hb⟩; replace hS := hS.call hb; replace hB := below_then hB hb; clear hb) | (go_at_call 12; refine (works _ hS).mono ?_; rintro e w1 ⟨rfl, hb⟩; replace hS := hS.call hb; replace hB := below_then hB hb; clear hb))
  go_ret
  exact ⟨rfl, hB⟩


set_option maxRecDepth 100000 in
theorem lifted (os : Os) (started : os.Started) (H : Type) (enc : TypeId × Value → H) :
    ReturnsInHanded {} Tryd.checked os 8 .any (fun w args => (Rows.turnBackSpec.pre enc Tryd.prog Tryd.f8 [] false w args ∧ laidMetH Tryd.prog laidT w) ∧ sizedMet enc Tryd.prog Tryd.f8 (OpenSpec.ofChange Rows.turnBackSpec) false w args)
      (Rows.turnBackSpec.post enc Tryd.prog Tryd.f8 false true false false) := by
  refine returnsInHanded_of_change_and (C := Tryd.checked) (X := fun w _ => laidMetH Tryd.prog laidT w) (fun _ _ _ hh h => h.of_heap hh) own started (by kernel_rfl) Tryd.func8
    (ChangeSpec.witness_shaped (enc := enc) (C := Tryd.checked) (os := os) (X := fun w _ => laidMetH Tryd.prog laidT w) false (World.doorLaid Tryd.prog 400 os) #[.int .u32 0] 8 rfl (World.shaped_of_RefB (by kernel_rfl) (by kernel_rfl)) (by kernel_rfl) (by kernel_rfl) (by kernel_rfl) (door_met os _)) ?_
  intro W1 base args ds gs before hval0 hW _ _ hL _
  have hval : ∀ (j : Nat) t v, Tryd.f8.params[j]? = some t → args[j]? = some v → Value.okWide Tryd.prog W1 .any base t v := hval0
  have hW' := hW
  obtain ⟨p, q, hA0, hV, rfl, hfz, hnd⟩ := hW
  have hA : DataW.TrodAll enc Tryd.prog W1 0 (fun _ => true) true Tryd.f8.params.toList args.toList ds p := hA0
  rw [Tryd.params8] at hA hval
  obtain ⟨v0, vs0, d0, ds0, p0, q0, hargs, rfl, rfl, h0, r0⟩ := trodAll_cons hA
  obtain ⟨rfl, rfl, rfl⟩ := trodAll_nil r0
  obtain rfl : args = #[v0] := by cases args; simp_all
  obtain ⟨rfl, rfl⟩ := trodVars_none hV
  obtain ⟨a, rfl, e0, -, w0⟩ := open_int Tryd.underlying22 (hval 0 22 v0 rfl rfl) h0
  have hS := steps_of_laid hL
  clear hA0 hval0 hval hA hL
  refine (walk a (word32_of_wf w0) W1 hS).mono fun e W' ⟨he, hg⟩ => ?_
  subst he
  exact ⟨_, rfl, law_post laidOut (by kernel_rfl) rfl (by kernel_rfl) Tryd.underlying4 hW' rfl hg⟩

theorem over : Rows.TurnBackSaid :=
  OpenClaim.holds_of_wide 8 Tryd.f8 rfl rfl rfl rfl rfl rfl rfl ⟨rfl, rfl, rfl, rfl, rfl⟩ rfl rfl rfl rfl rfl (by kernel_rfl) Tryd.func8 (by kernel_rfl)
    (of_decide_eq_true (by kernel_rfl)) (by unfold Func.isWrapper; first | (rw [if_pos (by decide +kernel)]; kernel_rfl) | (rw [if_neg (by decide +kernel)]; exact ⟨rfl, rfl⟩))
    (fun os started H enc _ => lifted os started H enc)

theorem proved : Rows.TurnBackCardSaid :=
  Claim7.holds_tied_plain_at .later [] [.data] true (true, "409f6f51192dc8274d5e994bf19929d807ffa6f5e88389e1ea7b66feb9708b2a") false
    over (fun _ h => by cases h) (by kernel_rfl) (fun _ h => by cases h) turnBack_row_tie rfl ⟨rfl, rfl⟩ (by kernel_rfl) rfl
    (fun f fn hf hfn => by
      obtain rfl : f = 8 := Option.some.inj ((show Tryd.prog.funcNamed "pelorus/peloruslaw05.TurnBack" = some 8 by kernel_rfl).symm.trans hf) |>.symm
      obtain rfl : fn = Tryd.f8 := (Option.some.inj (Tryd.func8.symm.trans hfn)).symm
      exact ⟨by kernel_rfl, fun j t ht => by
        rw [Tryd.params8] at ht
        have hm : t ∈ [22] := by simpa using Array.mem_of_getElem? ht
        have hall : ([22].all fun u => !Tryd.prog.wantsStandIn u) = true := by kernel_rfl
        exact (show Tryd.prog.wantsStandIn t = false by simpa using List.all_eq_true.1 hall t hm)⟩)
    (by kernel_rfl)
end Go.Proofs.YtneljefoglmldaaDoor.turnBack
