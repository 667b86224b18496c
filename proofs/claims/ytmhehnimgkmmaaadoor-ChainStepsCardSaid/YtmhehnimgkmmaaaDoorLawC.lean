/- What a row that lists the table of package hash gives its walk; the chapter's example. -/
import Derived.Test.YtmhehnimgkmmaaaDoorRows
import Derived.Test.YtmhehnimgkmmaaaDoorLawK
import Derived.Test.YtmhehnimgkmmaaaDoorChainD
import Derived.Test.YtmhehnimgkmmaaaDoorChainR
import Derived.Test.YtmhehnimgkmmaaaDoorMacV
import Derived.Deep.RegionHeld3
import Derived.Deep.DeepCutAuto
import Derived.Deep.Matrix
import Derived.Lib.LaidTab
import Derived.LaidMore
import Derived.MakeChecks
import Derived.LaidHandle
namespace Go.Proofs.YtmhehnimgkmmaaaDoor
set_option maxRecDepth 100000
open Go.RowKit
set_option linter.unusedVariables false
set_option linter.unusedSimpArgs false
attribute [local go_sem] cell_re

/-- What the rows list. -/
def laidT : List (String × DataW Unit) := [("pelorus/hash.table", Rows.laid_pelorus_hash_table)]
theorem door_met (os : Os) (args : Array Value) : laidMetH Tryd.prog laidT ((World.doorLaid Tryd.prog 400 os).forCall (fun _ _ => 0) ⟨#[], args, []⟩).memory :=
  laidMetH_of_parts3 (fuel := 8) (laidMet_of_run' 8 (by kernel_rfl) (by kernel_rfl)) (by kernel_rfl) (by kernel_rfl)
theorem gSteps : Tryd.prog.globalNamed "pelorus/hash.table" = some 0 := by kernel_rfl
theorem tSteps : (Tryd.prog.globals[0]?).map (·.type) = some 79 := by kernel_rfl
theorem steps_of_laid {W : World} (h : laidMetH Tryd.prog laidT W) : Steps W := by
  rw [MakeChecks.laidMetH_plain _ _ _ (by kernel_rfl)] at h
  have h' : laidMet Tryd.prog [("pelorus/hash.table", Lib.tabData .u32 tableL)] W := h
  have ht := Lib.tabIs_of_head gSteps tSteps Tryd.underlying79 Tryd.underlying63 (by kernel_rfl) (by kernel_rfl) h'
  unfold Lib.TabIs World.var? at ht
  rw [gSteps] at ht
  simp only [Option.bind_some] at ht
  split at ht
  · rename_i cs t fr hc
    have e := Option.some.inj ht
    subst e
    exact ⟨t, fr, hc⟩
  · cases ht
/-- The example's key. -/
def key3 : List Int := 3 :: List.replicate 31 0
theorem key3_byted : Byted key3 := by unfold Byted key3; decide
theorem next_not_zero : nextL key3 ≠ zeroL := by decide +kernel
set_option maxRecDepth 200000 in
set_option maxHeartbeats 8000000 in
theorem works (w : World) (hT : Steps w) : Calls Tryd.prog 12 #[] w fun e w' => e = .returned (.bool true) ∧ Below w.heap.size w w' := by
  have hK3 : Hid ((ints .u8 key3).toArray = #[.int .u8 3, .int .u8 0, .int .u8 0, .int .u8 0, .int .u8 0, .int .u8 0, .int .u8 0, .int .u8 0, .int .u8 0, .int .u8 0, .int .u8 0, .int .u8 0, .int .u8 0, .int .u8 0, .int .u8 0, .int .u8 0, .int .u8 0, .int .u8 0, .int .u8 0, .int .u8 0, .int .u8 0, .int .u8 0, .int .u8 0, .int .u8 0, .int .u8 0, .int .u8 0, .int .u8 0, .int .u8 0, .int .u8 0, .int .u8 0, .int .u8 0, .int .u8 0]) := Lib.hid rfl
  have hZ : Hid ((ints .u8 zeroL).toArray = #[.int .u8 0, .int .u8 0, .int .u8 0, .int .u8 0, .int .u8 0, .int .u8 0, .int .u8 0, .int .u8 0, .int .u8 0, .int .u8 0, .int .u8 0, .int .u8 0, .int .u8 0, .int .u8 0, .int .u8 0, .int .u8 0, .int .u8 0, .int .u8 0, .int .u8 0, .int .u8 0, .int .u8 0, .int .u8 0, .int .u8 0, .int .u8 0, .int .u8 0, .int .u8 0, .int .u8 0, .int .u8 0, .int .u8 0, .int .u8 0, .int .u8 0, .int .u8 0]) := Lib.hid rfl
  have hkl : Hid (key3.length = 32) := Lib.hid rfl
  have dW := Lib.hid (chainWalk key3 key3_byted rfl #[.int .u8 3, .int .u8 0, .int .u8 0, .int .u8 0, .int .u8 0, .int .u8 0, .int .u8 0, .int .u8 0, .int .u8 0, .int .u8 0, .int .u8 0, .int .u8 0, .int .u8 0, .int .u8 0, .int .u8 0, .int .u8 0, .int .u8 0, .int .u8 0, .int .u8 0, .int .u8 0, .int .u8 0, .int .u8 0, .int .u8 0, .int .u8 0, .int .u8 0, .int .u8 0, .int .u8 0, .int .u8 0, .int .u8 0, .int .u8 0, .int .u8 0, .int .u8 0] hK3 0 (by decide) w hT)
  rw [show keyAt key3 0 = key3 from rfl, hK3.out] at dW
  have dN := Lib.hid (fun (W : World) (h : Below w.heap.size w W) => chainNext key3 key3_byted rfl #[.int .u8 3, .int .u8 0, .int .u8 0, .int .u8 0, .int .u8 0, .int .u8 0, .int .u8 0, .int .u8 0, .int .u8 0, .int .u8 0, .int .u8 0, .int .u8 0, .int .u8 0, .int .u8 0, .int .u8 0, .int .u8 0, .int .u8 0, .int .u8 0, .int .u8 0, .int .u8 0, .int .u8 0, .int .u8 0, .int .u8 0, .int .u8 0, .int .u8 0, .int .u8 0, .int .u8 0, .int .u8 0, .int .u8 0, .int .u8 0, .int .u8 0, .int .u8 0] hK3 W (hT.call h))
  have dR := Lib.hid (fun W => ref10Next key3 key3_byted rfl #[.int .u8 3, .int .u8 0, .int .u8 0, .int .u8 0, .int .u8 0, .int .u8 0, .int .u8 0, .int .u8 0, .int .u8 0, .int .u8 0, .int .u8 0, .int .u8 0, .int .u8 0, .int .u8 0, .int .u8 0, .int .u8 0, .int .u8 0, .int .u8 0, .int .u8 0, .int .u8 0, .int .u8 0, .int .u8 0, .int .u8 0, .int .u8 0, .int .u8 0, .int .u8 0, .int .u8 0, .int .u8 0, .int .u8 0, .int .u8 0, .int .u8 0, .int .u8 0] hK3 W)
  have hne := next_not_zero
  have hDl : Hid ((nextL key3).length = 32) := Lib.hid (nextL_length key3)
  obtain ⟨D, hD⟩ : ∃ D, Hid (nextL key3 = D) := ⟨_, Lib.hid rfl⟩
  rw [hD.out] at dN dR hne hDl
  obtain ⟨Y, hY⟩ : ∃ Y, Hid ((ints .u8 D).toArray = Y) := ⟨_, rfl⟩
  rw [hY.out] at dN dR
  obtain ⟨iE, hiE⟩ := Option.isSome_iff_exists.mp (show (Tryd.prog.info? 5).isSome = true by kernel_rfl)
  have q1 := fun W1 : World => equal_two (P := Tryd.prog) (t := 23) (e := 5) (k := .u8) Tryd.underlying23 hiE (by kernel_rfl) (by kernel_rfl) Tryd.underlying5 key3 key3 rfl rfl W1
  have q2 := fun W1 : World => equal_two (P := Tryd.prog) (t := 23) (e := 5) (k := .u8) Tryd.underlying23 hiE (by kernel_rfl) (by kernel_rfl) Tryd.underlying5 D D hDl.out hDl.out W1
  have q3 := fun W1 : World => equal_two (P := Tryd.prog) (t := 23) (e := 5) (k := .u8) Tryd.underlying23 hiE (by kernel_rfl) (by kernel_rfl) Tryd.underlying5 D zeroL hDl.out rfl W1
  rw [decide_eq_true rfl, hK3.out] at q1
  rw [decide_eq_true rfl, hY.out] at q2
  rw [decide_eq_false hne, hY.out, hZ.out] at q3
  have hB0 : Below w.heap.size w w := Below.refl _ _
  clear hT hiE hne
  go_enter Tryd.func12, Tryd.ntmps12
  go_upto_region 2 with (first
    | (go_at_call 7; refine dW.out.mono ?_; rintro e' w1 ⟨rfl, b1⟩)
    | (refine walk_arr rfl 23 rfl .u8 (List.replicate 32 0) (by kernel_rfl) ?_; intro w2 k2 b2 s2; clear s2; have hB2 := below_then b1 b2)
    | (refine walk_store rfl 23 _ _ rfl k2 rfl #[.int .u8 3, .int .u8 0, .int .u8 0, .int .u8 0, .int .u8 0, .int .u8 0, .int .u8 0, .int .u8 0, .int .u8 0, .int .u8 0, .int .u8 0, .int .u8 0, .int .u8 0, .int .u8 0, .int .u8 0, .int .u8 0, .int .u8 0, .int .u8 0, .int .u8 0, .int .u8 0, .int .u8 0, .int .u8 0, .int .u8 0, .int .u8 0, .int .u8 0, .int .u8 0, .int .u8 0, .int .u8 0, .int .u8 0, .int .u8 0, .int .u8 0, .int .u8 0] hK3 rfl (by kernel_rfl) (by kernel_rfl) ?_; intro w3 k3 s3 o3; have hB3 := below_only hB2 o3 b1.size s3; clear s3 o3))
  clear k2 hB2 b2
  generalize w1.heap.size = gt at *
  try simp only [Act.put, List.setIfInBounds_toArray, List.set_cons_zero, List.set_cons_succ]
  go_wp2_with (first
    | (refine walk_read rfl 23 _ rfl k3 rfl 32 _ Tryd.underlying23 (by kernel_rfl) hkl.out #[.int .u8 3, .int .u8 0, .int .u8 0, .int .u8 0, .int .u8 0, .int .u8 0, .int .u8 0, .int .u8 0, .int .u8 0, .int .u8 0, .int .u8 0, .int .u8 0, .int .u8 0, .int .u8 0, .int .u8 0, .int .u8 0, .int .u8 0, .int .u8 0, .int .u8 0, .int .u8 0, .int .u8 0, .int .u8 0, .int .u8 0, .int .u8 0, .int .u8 0, .int .u8 0, .int .u8 0, .int .u8 0, .int .u8 0, .int .u8 0, .int .u8 0, .int .u8 0] hK3 ?_)
    | (go_at_call 19; first
        | (with_reducible refine (dN.out w3 hB3).mono ?_; rintro e' w4 ⟨rfl, b4⟩; have hB4 := below_then hB3 b4)
        | (with_reducible refine (dN.out w5 hB5).mono ?_; rintro e' w6 ⟨rfl, b6⟩; have hB6 := below_then hB5 b6))
    | (go_at_call 20; refine (dR.out w4).mono ?_; rintro e' w5 ⟨rfl, b5⟩; have hB5 := below_then hB4 b5))
  go_ret
  exact ⟨rfl, hB6⟩

end Go.Proofs.YtmhehnimgkmmaaaDoor
