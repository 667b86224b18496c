/- A hasher that no call made has and does nothing. -/
import Derived.Test.YtjgmmocadkcghaaDoorRows
import Derived.Test.YtjgmmocadkcghaaDoorCards
import Derived.Test.YtjgmmocadkcghaaDoorTie
import Derived.Test.YtjgmmocadkcghaaDoorHasV
import Derived.Test.YtjgmmocadkcghaaDoorHasEq
import Derived.Test.YtjgmmocadkcghaaDoorLawH
import Derived.WalkKit
import Derived.ProofKit
import Derived.OpenShut
import Derived.SevenTiedAt
import Derived.LaidMore
import Derived.Stop.Joined
import Derived.Deep.RegionHeld3
namespace Go.Proofs.YtjgmmocadkcghaaDoor.hashVoid
set_option maxRecDepth 100000
open Go.ChangeShapes Go.WideShapes Go.ChangeAt Go.RowKit
set_option linter.unusedVariables false

attribute [local go_sem] cell_re
set_option maxRecDepth 200000 in
set_option maxHeartbeats 8000000 in
theorem walk (v : Value) (xs : List Int) (w : World) (hx : IntsAt .u8 w v xs) (hS : Steps w) : Calls Tryd.prog 6 #[v] w fun e w' => e = .returned (.bool true) ∧ Below w.heap.size w w' := by
  obtain ⟨p, cap, rfl, -, -, -, -⟩ := hx
  obtain ⟨n, hn⟩ : ∃ n, xs.length = n := ⟨_, rfl⟩
  rw [hn]
  clear hn
  obtain ⟨iE, hiE⟩ : ∃ i, Tryd.prog.info? 5 = some i := by cases h : Tryd.prog.info? 5 with
    | none => have h2 : (Tryd.prog.info? 5).isSome = true := (by kernel_rfl); rw [h] at h2; cases h2
    | some i => exact ⟨i, rfl⟩
  have hq := fun W1 : World => (show (Op.equalIn 10000 27 (.agg #[.int .u8 0, .int .u8 0, .int .u8 0, .int .u8 0, .int .u8 0, .int .u8 0, .int .u8 0, .int .u8 0, .int .u8 0, .int .u8 0, .int .u8 0, .int .u8 0, .int .u8 0, .int .u8 0, .int .u8 0, .int .u8 0, .int .u8 0, .int .u8 0, .int .u8 0, .int .u8 0, .int .u8 0, .int .u8 0, .int .u8 0, .int .u8 0, .int .u8 0, .int .u8 0, .int .u8 0, .int .u8 0, .int .u8 0, .int .u8 0, .int .u8 0, .int .u8 0]) (.agg #[.int .u8 0, .int .u8 0, .int .u8 0, .int .u8 0, .int .u8 0, .int .u8 0, .int .u8 0, .int .u8 0, .int .u8 0, .int .u8 0, .int .u8 0, .int .u8 0, .int .u8 0, .int .u8 0, .int .u8 0, .int .u8 0, .int .u8 0, .int .u8 0, .int .u8 0, .int .u8 0, .int .u8 0, .int .u8 0, .int .u8 0, .int .u8 0, .int .u8 0, .int .u8 0, .int .u8 0, .int .u8 0, .int .u8 0, .int .u8 0, .int .u8 0, .int .u8 0])).run Tryd.prog W1 = .ok true W1 from equal_ints (P := Tryd.prog) (t := 27) (e := 5) (k := .u8) Tryd.underlying27 hiE (by kernel_rfl) (by kernel_rfl) Tryd.underlying5 (List.replicate 32 0) rfl W1)
  have hnil := Lib.hid (fun W1 : World => hashNoneNil W1)
  have d0 := Lib.hid (works w hS)
  clear hiE
  go_enter Tryd.func6, Tryd.ntmps6
  go_wp2_with (first
    | (go_at_call 10; refine d0.out.mono ?_; rintro e' w1 ⟨rfl, hB1⟩)
    | (refine walk_alloc rfl 50 rfl (.agg rawZero.toArray) (by kernel_rfl) rawZero.toArray rfl ?_; intro w2 hw2; have hB2 := hB1.alloc hB1.size (.cells rawZero.toArray 50); rw [hw2] at hB2; have hc2 : w2.cell? ⟨w1.heap.size, 0, none⟩ = some (.bool false) := (by rw [← hw2, cell_marked]; rfl); have hg2 : w1.heap.size < w2.heap.size := (by rw [← hw2]; simp); clear hw2)
    | (go_at_call 14; first
        | (with_reducible refine (voidWrite (.pointer none) _ (fun W1 _ => hnil.out W1) _ _ _).mono ?_; rintro e' w' ⟨rfl, rfl⟩)
        | (refine (voidWrite (.pointer (some ⟨w1.heap.size, 0, none⟩)) _ (fun W1 hb => hashNone false w1.heap.size W1 ((hb.cell (p := ⟨w1.heap.size, 0, none⟩) hg2).trans hc2)) _ _ _).mono ?_; rintro e' w' ⟨rfl, rfl⟩))
    | (go_at_call 15; first
        | (with_reducible refine (voidSumZ (.pointer none) _ (fun W1 _ => hnil.out W1)).mono ?_; rintro e' w3 ⟨rfl, hb3⟩; have hB3 := below_then hB2 hb3; have hc3 := (hb3.cell (p := ⟨w1.heap.size, 0, none⟩) hg2).trans hc2; have hg3 := Nat.lt_of_lt_of_le hg2 hb3.size; clear hb3)
        | (refine (voidSumZ (.pointer (some ⟨w1.heap.size, 0, none⟩)) _ (fun W1 hb => hashNone false w1.heap.size W1 ((hb.cell (p := ⟨w1.heap.size, 0, none⟩) hg3).trans hc3))).mono ?_; rintro e' w4 ⟨rfl, hb4⟩; have hB4 := below_then hB3 hb4; have hc4 := (hb4.cell (p := ⟨w1.heap.size, 0, none⟩) hg3).trans hc3; have hg4 := Nat.lt_of_lt_of_le hg3 hb4.size; clear hb4))
    | (go_at_call 17; first
        | (with_reducible refine (voidLen (.pointer none) _ (fun W1 _ => hnil.out W1)).mono ?_; rintro e' w' ⟨rfl, rfl⟩)
        | (refine (voidLen (.pointer (some ⟨w1.heap.size, 0, none⟩)) _ (fun W1 hb => hashNone false w1.heap.size W1 ((hb.cell (p := ⟨w1.heap.size, 0, none⟩) hg4).trans hc4))).mono ?_; rintro e' w' ⟨rfl, rfl⟩))
    | (go_at_call 13; first
        | (with_reducible refine (voidFork (.pointer none) _ (fun W1 _ => hnil.out W1)).mono ?_; rintro e' w' ⟨rfl, rfl⟩)
        | (refine (voidFork (.pointer (some ⟨w1.heap.size, 0, none⟩)) _ (fun W1 hb => hashNone false w1.heap.size W1 ((hb.cell (p := ⟨w1.heap.size, 0, none⟩) hg4).trans hc4))).mono ?_; rintro e' w' ⟨rfl, rfl⟩)))
  go_ret
  exact ⟨rfl, hB4⟩


set_option maxRecDepth 100000 in
theorem lifted (os : Os) (started : os.Started) (H : Type) (enc : TypeId × Value → H) :
    ReturnsInHanded {} Tryd.checked os 6 .any (fun w args => (Rows.hashVoidSpec.pre enc Tryd.prog Tryd.f6 [] false w args ∧ laidMetH Tryd.prog laidT w) ∧ sizedMet enc Tryd.prog Tryd.f6 (OpenSpec.ofChange Rows.hashVoidSpec) false w args)
      (Rows.hashVoidSpec.post enc Tryd.prog Tryd.f6 false true false false) := by
  refine returnsInHanded_of_change_and (C := Tryd.checked) (X := fun w _ => laidMetH Tryd.prog laidT w) (fun _ _ _ hh h => h.of_heap hh) own started (by kernel_rfl) Tryd.func6
    (ChangeSpec.witness_shaped (enc := enc) (C := Tryd.checked) (os := os) (X := fun w _ => laidMetH Tryd.prog laidT w) false (World.doorLaid Tryd.prog 400 os) #[.slice none 0 0] 8 rfl (World.shaped_of_RefB (by kernel_rfl) (by kernel_rfl)) (by kernel_rfl) (by kernel_rfl) (by kernel_rfl) (door_met os _)) ?_
  intro W1 base args ds gs before hval0 hW _ _ hL _
  have hval : ∀ (j : Nat) t v, Tryd.f6.params[j]? = some t → args[j]? = some v → Value.okWide Tryd.prog W1 .any base t v := hval0
  have hW' := hW
  obtain ⟨p, q, hA0, hV, rfl, hfz, hnd⟩ := hW
  have hA : DataW.TrodAll enc Tryd.prog W1 0 (fun _ => true) true Tryd.f6.params.toList args.toList ds p := hA0
  rw [Tryd.params6] at hA hval
  obtain ⟨v0, vs0, d0, ds0, p0, q0, hargs, rfl, rfl, h0, r0⟩ := trodAll_cons hA
  obtain ⟨rfl, rfl, rfl⟩ := trodAll_nil r0
  obtain rfl : args = #[v0] := by cases args; simp_all
  obtain ⟨rfl, rfl⟩ := trodVars_none hV
  obtain ⟨xs, w0⟩ := open_list (k := .u8) Tryd.underlying23 Tryd.underlying5 (by kernel_rfl) (hval 0 23 v0 rfl rfl) h0
  have hS := steps_of_laid hL
  clear hA0 hval0 hval hA hL
  refine (walk v0 xs W1 w0 hS).mono fun e W' ⟨he, hg⟩ => ?_
  subst he
  exact ⟨_, rfl, law_post laidOut (by kernel_rfl) rfl (by kernel_rfl) Tryd.underlying4 hW' rfl hg⟩

theorem over : Rows.HashVoidSaid :=
  OpenClaim.holds_of_wide 6 Tryd.f6 rfl rfl rfl rfl rfl rfl rfl ⟨rfl, rfl, rfl, rfl, rfl⟩ rfl rfl rfl rfl rfl (by kernel_rfl) Tryd.func6 (by kernel_rfl)
    (of_decide_eq_true (by kernel_rfl)) (by unfold Func.isWrapper; first | (rw [if_pos (by decide +kernel)]; kernel_rfl) | (rw [if_neg (by decide +kernel)]; exact ⟨rfl, rfl⟩))
    (fun os started H enc _ => lifted os started H enc)

theorem proved : Rows.HashVoidCardSaid :=
  Claim7.holds_tied_plain_at .later [] [.data] true (true, "808dd09b969e894a5e111d73f5f435a29610888f0f5953703ea7ec9454c4ac23") false
    over (fun _ h => by cases h) (by kernel_rfl) (fun _ h => by cases h) hashVoid_row_tie rfl ⟨rfl, rfl⟩ (by kernel_rfl) rfl
    (fun f fn hf hfn => by
      obtain rfl : f = 6 := Option.some.inj ((show Tryd.prog.funcNamed "pelorus/peloruslaw08.HashVoid" = some 6 by kernel_rfl).symm.trans hf) |>.symm
      obtain rfl : fn = Tryd.f6 := (Option.some.inj (Tryd.func6.symm.trans hfn)).symm
      exact ⟨by kernel_rfl, fun j t ht => by
        rw [Tryd.params6] at ht
        have hm : t ∈ [23] := by simpa using Array.mem_of_getElem? ht
        have hall : ([23].all fun u => !Tryd.prog.wantsStandIn u) = true := by kernel_rfl
        exact (show Tryd.prog.wantsStandIn t = false by simpa using List.all_eq_true.1 hall t hm)⟩)
    (by kernel_rfl)
end Go.Proofs.YtjgmmocadkcghaaDoor.hashVoid
