/- The squares of sine and cosine come to One, to within 1024 parts. -/
import Derived.Test.YtneljefoglmldaaDoorRows
import Derived.Test.YtneljefoglmldaaDoorCards
import Derived.Test.YtneljefoglmldaaDoorTie
import Derived.Test.YtneljefoglmldaaDoorRefH
import Derived.Test.YtneljefoglmldaaDoorRefI
import Derived.Test.YtneljefoglmldaaDoorRefE
import Derived.Test.YtneljefoglmldaaDoorRefD
import Derived.Test.YtneljefoglmldaaDoorRefC
import Derived.Test.YtneljefoglmldaaDoorLawT
import Derived.WalkKit
import Derived.ProofKit
import Derived.OpenShut
import Derived.SevenTiedAt
import Derived.LaidMore
import Derived.Stop.Joined
import Derived.Deep.RegionHeld3
namespace Go.Proofs.YtneljefoglmldaaDoor.turnUnit
open Go.ChangeShapes Go.WideShapes Go.ChangeAt Go.RowKit
set_option linter.unusedVariables false

attribute [local go_sem] cell_re eqW_self
attribute [local go_sem ↓] run_eqlW run_neqW

set_option maxRecDepth 100000 in
set_option maxHeartbeats 4000000 in
theorem walk (a : Int) (ha : 0 ≤ a ∧ a ≤ 4294967295) (w : World) (hS : Steps w) : Calls Tryd.prog 7 #[.int .u32 a] w fun e w' => e = .returned (.bool true) ∧ Below w.heap.size w w' := by
  have hB : Below w.heap.size w w := Below.refl _ _
  have d1 := Lib.hid (fun (W1 : World) (h : Steps W1) => turnBoth a ha W1 h)
  obtain ⟨bc, bs⟩ := cosA_bd a ha
  obtain ⟨u0, u1⟩ := cosA_unit a ha
  have d2 := Lib.hid (fun (W1 : World) => refMul (cosA a) (cosA a) (by unfold Half; omega) (by unfold Half; omega) W1)
  have d3 := Lib.hid (fun (W1 : World) => refMul (sinA a) (sinA a) (by unfold Half; omega) (by unfold Half; omega) W1)
  have d4 := Lib.hid (fun (W1 : World) => refAdd (cosA a * cosA a) (sinA a * sinA a) W1)
  have d5 := Lib.hid (fun (W1 : World) => refNear (cosA a * cosA a + sinA a * sinA a) 32 (by unfold Fits; omega) (by unfold Half; omega) W1)
  have d6 := Lib.hid (fun (W1 : World) => refOf 4294967296 (by unfold Half; omega) W1)
  have d7 := Lib.hid (fun (W1 : World) => refNeg 4294967296 W1)
  have d8 := Lib.hid (fun (W1 : World) => refAdd (near (cosA a * cosA a + sinA a * sinA a) 32) (-4294967296) W1)
  have hn : -1024 ≤ near (cosA a * cosA a + sinA a * sinA a) 32 + -4294967296 ∧ near (cosA a * cosA a + sinA a * sinA a) 32 + -4294967296 ≤ 1024 := by
    have e : near (cosA a * cosA a + sinA a * sinA a) 32 = (cosA a * cosA a + sinA a * sinA a + 2147483648) / 4294967296 := by
      unfold near
      rw [if_neg (by decide), show (places 32).toNat = 32 by decide]
      rfl
    rw [e]
    omega
  have d9 := Lib.hid (fun (W1 : World) => refClip (near (cosA a * cosA a + sinA a * sinA a) 32 + -4294967296) (by unfold Fits; omega) W1)
  have hcl : clipped (near (cosA a * cosA a + sinA a * sinA a) 32 + -4294967296) = near (cosA a * cosA a + sinA a * sinA a) 32 + -4294967296 := by unfold clipped; omega
  have hcu : cut (near (cosA a * cosA a + sinA a * sinA a) 32 + -4294967296) = false := by unfold cut; exact decide_eq_false (by omega)
  rw [hcl, hcu] at d9
  obtain ⟨n0, n1⟩ := hn
  clear hcl hcu u0 u1 ha bc bs
  obtain ⟨z, hz⟩ : ∃ z, Hid (near (cosA a * cosA a + sinA a * sinA a) 32 + -4294967296 = z) := ⟨_, rfl⟩
  rw [hz.out] at d8 d9 n0 n1
  obtain ⟨v, hv⟩ : ∃ v, Hid (near (cosA a * cosA a + sinA a * sinA a) 32 = v) := ⟨_, rfl⟩
  rw [hv.out] at d5 d8
  obtain ⟨t, ht⟩ : ∃ t, Hid (cosA a * cosA a + sinA a * sinA a = t) := ⟨_, rfl⟩
  rw [ht.out] at d4 d5
  obtain ⟨r, hr⟩ : ∃ r, Hid (cosA a * cosA a = r) := ⟨_, rfl⟩
  rw [hr.out] at d2 d4
  obtain ⟨q, hq⟩ : ∃ q, Hid (sinA a * sinA a = q) := ⟨_, rfl⟩
  rw [hq.out] at d3 d4
  clear hz hv ht hr hq
  generalize cosA a = c at *
  generalize sinA a = s at *
  go_enter Tryd.func7, Tryd.ntmps7
  go_wp2_with (first | (go_at_call 10; refine (d1.out _ hS).mono ?_; rintro e w1 ⟨rfl, hb⟩; replace hS := hS.call hb; replace hB := below_then hB hb; clear hb) | (go_at_call 12; refine (works _ hS).mono ?_; rintro e w1 ⟨rfl, hb⟩; replace hS := hS.call hb; replace hB := below_then hB hb; clear hb))
  clear hS
  go_wp2_with (first | (go_at_call 22; refine (chain (w0 := w) (by go_grown) (by first | with_reducible exact d2.out _ | with_reducible exact d3.out _)).mono ?_; rintro e w' ⟨rfl, ht⟩; have hs := ht.size) | (go_at_call 21; refine (chain (w0 := w) (by go_grown) (by first | with_reducible exact d4.out _ | with_reducible exact d8.out _)).mono ?_; rintro e w' ⟨rfl, ht⟩; have hs := ht.size) | (go_at_call 24; refine (chain (w0 := w) (by go_grown) (by first | with_reducible exact d5.out _)).mono ?_; rintro e w' ⟨rfl, ht⟩; have hs := ht.size) | (go_at_call 26; refine (chain (w0 := w) (by go_grown) (by first | with_reducible exact d6.out _)).mono ?_; rintro e w' ⟨rfl, ht⟩; have hs := ht.size) | (go_at_call 25; refine (chain (w0 := w) (by go_grown) (by first | with_reducible exact d7.out _)).mono ?_; rintro e w' ⟨rfl, ht⟩; have hs := ht.size) | (go_at_call 23; refine (chain (w0 := w) (by go_grown) (by first | with_reducible exact d9.out _)).mono ?_; rintro e w' ⟨rfl, ht⟩; have hs := ht.size))
  go_ret
  exact ⟨rfl, by go_grown⟩


set_option maxRecDepth 100000 in
theorem lifted (os : Os) (started : os.Started) (H : Type) (enc : TypeId × Value → H) :
    ReturnsInHanded {} Tryd.checked os 7 .any (fun w args => (Rows.turnUnitSpec.pre enc Tryd.prog Tryd.f7 [] false w args ∧ laidMetH Tryd.prog laidT w) ∧ sizedMet enc Tryd.prog Tryd.f7 (OpenSpec.ofChange Rows.turnUnitSpec) false w args)
      (Rows.turnUnitSpec.post enc Tryd.prog Tryd.f7 false true false false) := by
  refine returnsInHanded_of_change_and (C := Tryd.checked) (X := fun w _ => laidMetH Tryd.prog laidT w) (fun _ _ _ hh h => h.of_heap hh) own started (by kernel_rfl) Tryd.func7
    (ChangeSpec.witness_shaped (enc := enc) (C := Tryd.checked) (os := os) (X := fun w _ => laidMetH Tryd.prog laidT w) false (World.doorLaid Tryd.prog 400 os) #[.int .u32 0] 8 rfl (World.shaped_of_RefB (by kernel_rfl) (by kernel_rfl)) (by kernel_rfl) (by kernel_rfl) (by kernel_rfl) (door_met os _)) ?_
  intro W1 base args ds gs before hval0 hW _ _ hL _
  have hval : ∀ (j : Nat) t v, Tryd.f7.params[j]? = some t → args[j]? = some v → Value.okWide Tryd.prog W1 .any base t v := hval0
  have hW' := hW
  obtain ⟨p, q, hA0, hV, rfl, hfz, hnd⟩ := hW
  have hA : DataW.TrodAll enc Tryd.prog W1 0 (fun _ => true) true Tryd.f7.params.toList args.toList ds p := hA0
  rw [Tryd.params7] at hA hval
  obtain ⟨v0, vs0, d0, ds0, p0, q0, hargs, rfl, rfl, h0, r0⟩ := trodAll_cons hA
  obtain ⟨rfl, rfl, rfl⟩ := trodAll_nil r0
  obtain rfl : args = #[v0] := by cases args; simp_all
  obtain ⟨rfl, rfl⟩ := trodVars_none hV
  obtain ⟨a, rfl, e0, -, w0⟩ := open_int Tryd.underlying22 (hval 0 22 v0 rfl rfl) h0
  have hS := steps_of_laid hL
  clear hA0 hval0 hval hA hL
  refine (walk a (word32_of_wf w0) W1 hS).mono fun e W' ⟨he, hg⟩ => ?_
  subst he
  exact ⟨_, rfl, law_post laidOut (by kernel_rfl) rfl (by kernel_rfl) Tryd.underlying4 hW' rfl hg⟩

theorem over : Rows.TurnUnitSaid :=
  OpenClaim.holds_of_wide 7 Tryd.f7 rfl rfl rfl rfl rfl rfl rfl ⟨rfl, rfl, rfl, rfl, rfl⟩ rfl rfl rfl rfl rfl (by kernel_rfl) Tryd.func7 (by kernel_rfl)
    (of_decide_eq_true (by kernel_rfl)) (by unfold Func.isWrapper; first | (rw [if_pos (by decide +kernel)]; kernel_rfl) | (rw [if_neg (by decide +kernel)]; exact ⟨rfl, rfl⟩))
    (fun os started H enc _ => lifted os started H enc)

theorem proved : Rows.TurnUnitCardSaid :=
  Claim7.holds_tied_plain_at .later [] [.data] true (true, "409f6f51192dc8274d5e994bf19929d807ffa6f5e88389e1ea7b66feb9708b2a") false
    over (fun _ h => by cases h) (by kernel_rfl) (fun _ h => by cases h) turnUnit_row_tie rfl ⟨rfl, rfl⟩ (by kernel_rfl) rfl
    (fun f fn hf hfn => by
      obtain rfl : f = 7 := Option.some.inj ((show Tryd.prog.funcNamed "pelorus/peloruslaw05.TurnUnit" = some 7 by kernel_rfl).symm.trans hf) |>.symm
      obtain rfl : fn = Tryd.f7 := (Option.some.inj (Tryd.func7.symm.trans hfn)).symm
      exact ⟨by kernel_rfl, fun j t ht => by
        rw [Tryd.params7] at ht
        have hm : t ∈ [22] := by simpa using Array.mem_of_getElem? ht
        have hall : ([22].all fun u => !Tryd.prog.wantsStandIn u) = true := by kernel_rfl
        exact (show Tryd.prog.wantsStandIn t = false by simpa using List.all_eq_true.1 hall t hm)⟩)
    (by kernel_rfl)
end Go.Proofs.YtneljefoglmldaaDoor.turnUnit
