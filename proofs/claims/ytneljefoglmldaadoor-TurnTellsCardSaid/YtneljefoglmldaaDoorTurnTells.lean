/- Ways, middles and degrees of any angles are as the document's answers have them. -/
import Derived.Test.YtneljefoglmldaaDoorRows
import Derived.Test.YtneljefoglmldaaDoorCards
import Derived.Test.YtneljefoglmldaaDoorTie
import Derived.Test.YtneljefoglmldaaDoorLawT
import Derived.WalkKit
import Derived.ProofKit
import Derived.OpenShut
import Derived.SevenTiedAt
import Derived.LaidMore
import Derived.Stop.Joined
import Derived.Deep.RegionHeld3
namespace Go.Proofs.YtneljefoglmldaaDoor.turnTells
open Go.ChangeShapes Go.WideShapes Go.ChangeAt Go.RowKit
set_option linter.unusedVariables false

attribute [local go_sem] cell_re eqW_self
attribute [local go_sem ↓] run_eqlW run_neqW

set_option maxRecDepth 100000 in
set_option maxHeartbeats 4000000 in
theorem walk (a b : Int) (ha : 0 ≤ a ∧ a ≤ 4294967295) (hb : 0 ≤ b ∧ b ≤ 4294967295) (w : World) (hS : Steps w) : Calls Tryd.prog 5 #[.int .u32 a, .int .u32 b] w fun e w' => e = .returned (.bool true) ∧ Below w.heap.size w w' := by
  have hB : Below w.heap.size w w := Below.refl _ _
  have d1 := Lib.hid (fun (W1 : World) => turnWay a b ha hb W1)
  have d2 := Lib.hid (fun (W1 : World) => ref5Way a b ha hb W1)
  have d3 := Lib.hid (fun (W1 : World) => turnMid a b ha hb W1)
  have d4 := Lib.hid (fun (W1 : World) => ref5Mid a b ha hb W1)
  have d5 := Lib.hid (fun (W1 : World) => turnDegrees a ha W1)
  have d6 := Lib.hid (fun (W1 : World) => ref5Degrees a ha W1)
  generalize way a b = x at *
  generalize mid a b = y at *
  generalize degs a = z at *
  go_enter Tryd.func5, Tryd.ntmps5
  go_wp2_with (first | (go_at_call 15; refine (d1.out _).mono ?_; rintro e w1 ⟨rfl, hb⟩; replace hS := hS.call hb; replace hB := below_then hB hb; clear hb) | (go_at_call 16; refine (d2.out _).mono ?_; rintro e w1 ⟨rfl, hb⟩; replace hS := hS.call hb; replace hB := below_then hB hb; clear hb) | (go_at_call 17; refine (d3.out _).mono ?_; rintro e w1 ⟨rfl, hb⟩; replace hS := hS.call hb; replace hB := below_then hB hb; clear hb) | (go_at_call 18; refine (d4.out _).mono ?_; rintro e w1 ⟨rfl, hb⟩; replace hS := hS.call hb; replace hB := below_then hB hb; clear hb) | (go_at_call 19; refine (d5.out _).mono ?_; rintro e w1 ⟨rfl, hb⟩; replace hS := hS.call hb; replace hB := below_then hB hb; clear hb) | (go_at_call 20; refine (d6.out _).mono ?_; rintro e w1 ⟨rfl, hb⟩; replace hS := hS.call hb; replace hB := below_then hB hb; clear hb) | (go_at_call 12; refine (works _ hS).mono ?_; rintro e w1 ⟨rfl, hb⟩; replace hS := hS.call hb; replace hB := below_then hB hb; clear hb))
  go_ret
  exact ⟨rfl, hB⟩


set_option maxRecDepth 100000 in
theorem lifted (os : Os) (started : os.Started) (H : Type) (enc : TypeId × Value → H) :
    ReturnsInHanded {} Tryd.checked os 5 .any (fun w args => (Rows.turnTellsSpec.pre enc Tryd.prog Tryd.f5 [] false w args ∧ laidMetH Tryd.prog laidT w) ∧ sizedMet enc Tryd.prog Tryd.f5 (OpenSpec.ofChange Rows.turnTellsSpec) false w args)
      (Rows.turnTellsSpec.post enc Tryd.prog Tryd.f5 false true false false) := by
  refine returnsInHanded_of_change_and (C := Tryd.checked) (X := fun w _ => laidMetH Tryd.prog laidT w) (fun _ _ _ hh h => h.of_heap hh) own started (by kernel_rfl) Tryd.func5
    (ChangeSpec.witness_shaped (enc := enc) (C := Tryd.checked) (os := os) (X := fun w _ => laidMetH Tryd.prog laidT w) false (World.doorLaid Tryd.prog 400 os) #[.int .u32 0, .int .u32 0] 8 rfl (World.shaped_of_RefB (by kernel_rfl) (by kernel_rfl)) (by kernel_rfl) (by kernel_rfl) (by kernel_rfl) (door_met os _)) ?_
  intro W1 base args ds gs before hval0 hW _ _ hL _
  have hval : ∀ (j : Nat) t v, Tryd.f5.params[j]? = some t → args[j]? = some v → Value.okWide Tryd.prog W1 .any base t v := hval0
  have hW' := hW
  obtain ⟨p, q, hA0, hV, rfl, hfz, hnd⟩ := hW
  have hA : DataW.TrodAll enc Tryd.prog W1 0 (fun _ => true) true Tryd.f5.params.toList args.toList ds p := hA0
  rw [Tryd.params5] at hA hval
  obtain ⟨v0, vs0, d0, ds0, p0, q0, hargs, rfl, rfl, h0, r0⟩ := trodAll_cons hA
  obtain ⟨v1, vs1, d1, ds1, p1, q1, rfl, rfl, rfl, h1, r1⟩ := trodAll_cons r0
  obtain ⟨rfl, rfl, rfl⟩ := trodAll_nil r1
  obtain rfl : args = #[v0, v1] := by cases args; simp_all
  obtain ⟨rfl, rfl⟩ := trodVars_none hV
  obtain ⟨a, rfl, e0, -, w0⟩ := open_int Tryd.underlying22 (hval 0 22 v0 rfl rfl) h0
  obtain ⟨b, rfl, e1, -, w1⟩ := open_int Tryd.underlying22 (hval 1 22 v1 rfl rfl) h1
  have hS := steps_of_laid hL
  clear hA0 hval0 hval hA hL
  refine (walk a b (word32_of_wf w0) (word32_of_wf w1) W1 hS).mono fun e W' ⟨he, hg⟩ => ?_
  subst he
  exact ⟨_, rfl, law_post laidOut (by kernel_rfl) rfl (by kernel_rfl) Tryd.underlying4 hW' rfl hg⟩

theorem over : Rows.TurnTellsSaid :=
  OpenClaim.holds_of_wide 5 Tryd.f5 rfl rfl rfl rfl rfl rfl rfl ⟨rfl, rfl, rfl, rfl, rfl⟩ rfl rfl rfl rfl rfl (by kernel_rfl) Tryd.func5 (by kernel_rfl)
    (of_decide_eq_true (by kernel_rfl)) (by unfold Func.isWrapper; first | (rw [if_pos (by decide +kernel)]; kernel_rfl) | (rw [if_neg (by decide +kernel)]; exact ⟨rfl, rfl⟩))
    (fun os started H enc _ => lifted os started H enc)

theorem proved : Rows.TurnTellsCardSaid :=
  Claim7.holds_tied_plain_at .later [] [.data] true (true, "409f6f51192dc8274d5e994bf19929d807ffa6f5e88389e1ea7b66feb9708b2a") false
    over (fun _ h => by cases h) (by kernel_rfl) (fun _ h => by cases h) turnTells_row_tie rfl ⟨rfl, rfl⟩ (by kernel_rfl) rfl
    (fun f fn hf hfn => by
      obtain rfl : f = 5 := Option.some.inj ((show Tryd.prog.funcNamed "pelorus/peloruslaw05.TurnTells" = some 5 by kernel_rfl).symm.trans hf) |>.symm
      obtain rfl : fn = Tryd.f5 := (Option.some.inj (Tryd.func5.symm.trans hfn)).symm
      exact ⟨by kernel_rfl, fun j t ht => by
        rw [Tryd.params5] at ht
        have hm : t ∈ [22, 22] := by simpa using Array.mem_of_getElem? ht
        have hall : ([22, 22].all fun u => !Tryd.prog.wantsStandIn u) = true := by kernel_rfl
        exact (show Tryd.prog.wantsStandIn t = false by simpa using List.all_eq_true.1 hall t hm)⟩)
    (by kernel_rfl)
end Go.Proofs.YtneljefoglmldaaDoor.turnTells
