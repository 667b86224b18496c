/- The root of a number that is not below 0, times itself, is not above it, and no further than twice the root and a part. -/
import Derived.Test.YtmdmkofiddkikaaRows
import Derived.Test.YtmdmkofiddkikaaRootW
import Derived.Test.YtmdmkofiddkikaaLawK
import Derived.WalkKit
import Derived.ProofKit
import Derived.OpenShut
import Derived.Deep.RegionHeld3
namespace Go.Proofs.Ytmdmkofiddkikaa.rootFix
open Go.ChangeShapes Go.WideShapes Go.ChangeAt Go.RowKit
set_option linter.unusedVariables false

attribute [local go_sem] cell_re eqW_self
attribute [local go_sem ↓] run_eqlW run_neqW

set_option maxRecDepth 100000 in
set_option maxHeartbeats 4000000 in
theorem walk (a : Int) (ha : Half a) (w : World) : Calls Try.prog 6 #[.int .i64 a] w fun e w' => e = .returned (.bool true) ∧ Below w.heap.size w w' := by
  have d1 := Lib.hid (fun W1 : World => rootFix a ha W1)
  have d2 := Lib.hid (fun W1 : World => refOf a ha W1)
  have d3 := Lib.hid (fun W1 : World => refLeft a 32 (by unfold Half; omega) W1)
  rw [show (2 : Int) ^ ((32 : Int).toNat) = 4294967296 from rfl] at d3
  obtain ⟨a0, a1⟩ := ha
  have hB : Below w.heap.size w w := Below.refl _ _
  by_cases h : a < 0
  · rw [rootFixOf, if_pos h] at d1
    go_enter Try.func6, Try.ntmps6
    go_wp2_with (first | (go_at_call 15; refine (chain (w0 := w) (by go_grown) (by first | with_reducible exact works _)).mono ?_; rintro e w' ⟨rfl, ht⟩; have hs := ht.size) | (go_at_call 9; refine (chain (w0 := w) (by go_grown) (by first | with_reducible exact d1.out _)).mono ?_; rintro e w' ⟨rfl, ht⟩; have hs := ht.size))
    go_ret
    exact ⟨rfl, by go_grown⟩
  · rw [rootFixOf, if_neg h] at d1
    have hr := isRoot_root (show 0 ≤ a * 4294967296 by omega) (by omega)
    have r1 := root_fix (show 0 ≤ a by omega) a1
    obtain ⟨x, hx⟩ : ∃ x, root (a * 4294967296) = x := ⟨_, rfl⟩
    rw [hx] at hr r1 d1
    obtain ⟨r0, k1, k2⟩ := hr
    have r2 : x + 1 ≤ 18446744073709551615 := by omega
    have r3 : 0 ≤ x + 1 := by omega
    have b1 := sq_le r0 (show x ≤ 281474976710655 by omega)
    have b2 := sq_le r3 (show x + 1 ≤ 281474976710656 by omega)
    have b3 := square_hi r3 r2
    have d4 := Lib.hid (fun W1 : World => ref4Square x r0 (by omega) W1)
    have d5 := Lib.hid (fun W1 : World => ref4Square (x + 1) r3 r2 W1)
    have b4 := square_hi r0 (by omega)
    have d6 := Lib.hid (fun W1 : World => refLess (a * 4294967296) (x * x) (by unfold Fits; omega) (by unfold Fits; omega) W1)
    have d7 := Lib.hid (fun W1 : World => refLess (a * 4294967296) ((x + 1) * (x + 1)) (by unfold Fits; omega) (by unfold Fits; omega) W1)
    rw [decide_eq_false (by omega)] at d6
    rw [decide_eq_true k2] at d7
    obtain ⟨s, hs⟩ : ∃ s, Hid (x * x = s) := ⟨_, rfl⟩
    obtain ⟨t, ht⟩ : ∃ t, Hid ((x + 1) * (x + 1) = t) := ⟨_, rfl⟩
    obtain ⟨b, hb⟩ : ∃ b, Hid (a * 4294967296 = b) := ⟨_, rfl⟩
    rw [hs.out] at d4 d6
    rw [ht.out] at d5 d7
    rw [hb.out] at d3 d6 d7
    clear hx k1 k2 b1 b2 b3 b4 hs ht hb
    go_enter Try.func6, Try.ntmps6
    go_wp2_with fail
    refine (works _).mono ?_
    rintro e w1 ⟨rfl, hb1⟩
    replace hB := below_then hB hb1
    clear hb1
    go_wp2_with fail
    refine (d1.out _).mono ?_
    rintro e w2 ⟨rfl, hb2⟩
    replace hB := below_then hB hb2
    clear hb2
    go_wp2_with fail
    refine (d2.out _).mono ?_
    rintro e w3 ⟨rfl, hb3⟩
    replace hB := below_then hB hb3
    clear hb3
    go_wp2_with fail
    refine (d3.out _).mono ?_
    rintro e w4 ⟨rfl, hb4⟩
    replace hB := (below_then hB hb4).alloc (below_then hB hb4).size (.cells #[.int .i64 (hi b), .int .u64 (lo b)] 24)
    clear hb4
    go_wp2_with fail
    refine wp_region_quiet_below (by kernel_rfl) (by kernel_rfl) ?_
    repeat (go_big_quiet_step (first | (go_at_call 14; first | with_reducible exact Calls.regrown_of (d4.out _) | with_reducible exact Calls.regrown_of (d5.out _)) | (go_at_call 16; first | with_reducible exact Calls.regrown_of (d6.out _) | with_reducible exact Calls.regrown_of (d7.out _))))
    refine wpQuiet_nil ?_
    intro wq hwq
    have hbq := below_of_re hwq
    clear hwq
    replace hB := below_then hB hbq
    go_wp2
    go_ret
    exact ⟨rfl, hB⟩


set_option maxRecDepth 100000 in
theorem lifted (os : Os) (started : os.Started) (H : Type) (enc : TypeId × Value → H) :
    ReturnsInHanded {} Try.checked os 6 .any (Rows.rootFixSpec.pre6 enc Try.prog Try.f6 Rows.rootFixRow.domain false) (Rows.rootFixSpec.post enc Try.prog Try.f6 false true false false) := by
  refine returnsInHanded_of_change (C := Try.checked) own started (by kernel_rfl) Try.func6
    (ChangeSpec.witness6 (enc := enc) (C := Try.checked) false ⟨#[], #[.int .i64 0], []⟩ 8 (by kernel_rfl) (by kernel_rfl) (by kernel_rfl) (by kernel_rfl)) ?_
  intro W1 base args ds gs before hval0 hW hcnd _
  have hval : ∀ (j : Nat) t v, Try.f6.params[j]? = some t → args[j]? = some v → Value.okWide Try.prog W1 .any base t v := hval0
  have hW' := hW
  obtain ⟨p, q, hA0, hV, rfl, hfz, hnd⟩ := hW
  have hA : DataW.TrodAll enc Try.prog W1 0 (fun _ => true) true Try.f6.params.toList args.toList ds p := hA0
  rw [Try.params6] at hA hval
  obtain ⟨v0, vs0, d0, ds0, p0, q0, hargs, rfl, rfl, h0, r0⟩ := trodAll_cons hA
  obtain ⟨rfl, rfl, rfl⟩ := trodAll_nil r0
  obtain rfl : args = #[v0] := by cases args; simp_all
  obtain ⟨rfl, rfl⟩ := trodVars_none hV
  obtain ⟨a, rfl, e0, -, w0⟩ := open_int Try.underlying25 (hval 0 25 v0 rfl rfl) h0
  clear hA0 hval0 hval hA
  refine (walk a (half_of_wf w0) W1).mono fun e W' ⟨he, hg⟩ => ?_
  subst he
  exact ⟨_, rfl, law_post laidOut (by kernel_rfl) rfl (by kernel_rfl) Try.underlying4 hW' rfl hg⟩

theorem over : Rows.rootFixRow.holds Try.pinned (OpenSpec.ofChange Rows.rootFixSpec) :=
  OpenClaim.holds_of_wide 6 Try.f6 rfl rfl rfl rfl rfl rfl rfl ⟨rfl, rfl, rfl, rfl, rfl⟩ rfl rfl rfl rfl rfl (by kernel_rfl) Try.func6 (by kernel_rfl)
    (of_decide_eq_true (by kernel_rfl)) (by unfold Func.isWrapper; first | (rw [if_pos (by decide +kernel)]; kernel_rfl) | (rw [if_neg (by decide +kernel)]; exact ⟨rfl, rfl⟩))
    (fun os started H enc _ => lifted os started H enc)

theorem proved : Rows.RootFixSaid :=
  over
end Go.Proofs.Ytmdmkofiddkikaa.rootFix
