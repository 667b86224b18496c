/- The root's square is not above the number, and the next one's is. -/
import Derived.Test.YtmdmkofiddkikaaRows
import Derived.Test.YtmdmkofiddkikaaRootW
import Derived.Test.YtmdmkofiddkikaaLawK
import Derived.WalkKit
import Derived.ProofKit
import Derived.OpenShut
import Derived.Deep.RegionHeld3
namespace Go.Proofs.Ytmdmkofiddkikaa.rootGreatest
open Go.ChangeShapes Go.WideShapes Go.ChangeAt Go.RowKit
set_option linter.unusedVariables false

attribute [local go_sem] cell_re eqW_self
attribute [local go_sem ↓] run_eqlW run_neqW

set_option maxRecDepth 100000 in
set_option maxHeartbeats 4000000 in
theorem walk (n : Int) (hn : 0 ≤ n ∧ n ≤ 18446744073709551615) (w : World) : Calls Try.prog 4 #[.int .u64 n] w fun e w' => e = .returned (.bool true) ∧ Below w.heap.size w w' := by
  have hr := isRoot_root hn.1 (show n < 340282366920938463463374607431768211456 by omega)
  have r1 := root_32 hn.1 (show n < 18446744073709551616 by omega)
  have d1 := Lib.hid (fun W1 : World => rootOf n hn.1 hn.2 W1)
  obtain ⟨x, hx⟩ : ∃ x, root n = x := ⟨_, rfl⟩
  rw [hx] at hr r1 d1
  obtain ⟨r0, k1, k2⟩ := hr
  have r2 : x + 1 ≤ 18446744073709551615 := by omega
  have r3 : 0 ≤ x + 1 := by omega
  have b1 := square_hi r0 (by omega)
  have b2 := sq_le r3 (show x + 1 ≤ 4294967296 by omega)
  have b3 := square_hi r3 r2
  have d2 := Lib.hid (fun W1 : World => ref4Square x r0 (by omega) W1)
  have d3 := Lib.hid (fun W1 : World => ref4Square (x + 1) r3 r2 W1)
  have d4 := Lib.hid (fun W1 : World => rootSquare x r0 (by omega) W1)
  have d5 := Lib.hid (fun W1 : World => refLess n (x * x) (by unfold Fits; omega) (by unfold Fits; omega) W1)
  have d6 := Lib.hid (fun W1 : World => refLess n ((x + 1) * (x + 1)) (by unfold Fits; omega) (by unfold Fits; omega) W1)
  rw [decide_eq_false (by omega)] at d5
  rw [decide_eq_true k2] at d6
  have n1 : hi n = 0 := by unfold hi; omega
  have n2 : lo n = n := by unfold lo; omega
  rw [W, n1, n2] at d5 d6
  obtain ⟨s, hs⟩ : ∃ s, Hid (x * x = s) := ⟨_, rfl⟩
  obtain ⟨t, ht⟩ : ∃ t, Hid ((x + 1) * (x + 1) = t) := ⟨_, rfl⟩
  rw [hs.out] at d2 d4 d5
  rw [ht.out] at d3 d6
  obtain ⟨n3, n4⟩ := hn
  clear hx k1 k2 b1 b2 b3 hs ht n1 n2
  have hB : Below w.heap.size w w := Below.refl _ _
  go_enter Try.func4, Try.ntmps4
  go_wp2_with fail
  refine (works _).mono ?_
  rintro e w1 ⟨rfl, hb1⟩
  replace hB := below_then hB hb1
  clear hb1
  go_wp2_with fail
  refine (d1.out _).mono ?_
  rintro e w2 ⟨rfl, hb2⟩
  replace hB := (below_then hB hb2).alloc (below_then hB hb2).size (.cells #[.int .i64 0, .int .u64 n] 24)
  clear hb2
  go_wp2_with fail
  refine wp_region_quiet_below (by kernel_rfl) (by kernel_rfl) ?_
  repeat (go_big_quiet_step (first | (go_at_call 14; first | with_reducible exact Calls.regrown_of (d2.out _) | with_reducible exact Calls.regrown_of (d3.out _)) | (go_at_call 13; first | with_reducible exact Calls.regrown_of (d4.out _)) | (go_at_call 16; first | with_reducible exact Calls.regrown_of (d5.out _) | with_reducible exact Calls.regrown_of (d6.out _))))
  refine wpQuiet_nil ?_
  intro wq hwq
  have hbq := below_of_re hwq
  clear hwq
  replace hB := below_then hB hbq
  go_wp2
  go_ret
  exact ⟨rfl, hB⟩


set_option maxRecDepth 100000 in
theorem lifted (os : Os) (started : os.Started) (H : Type) (enc : TypeId × Value → H) :
    ReturnsInHanded {} Try.checked os 4 .any (Rows.rootGreatestSpec.pre6 enc Try.prog Try.f4 Rows.rootGreatestRow.domain false) (Rows.rootGreatestSpec.post enc Try.prog Try.f4 false true false false) := by
  refine returnsInHanded_of_change (C := Try.checked) own started (by kernel_rfl) Try.func4
    (ChangeSpec.witness6 (enc := enc) (C := Try.checked) false ⟨#[], #[.int .u64 0], []⟩ 8 (by kernel_rfl) (by kernel_rfl) (by kernel_rfl) (by kernel_rfl)) ?_
  intro W1 base args ds gs before hval0 hW hcnd _
  have hval : ∀ (j : Nat) t v, Try.f4.params[j]? = some t → args[j]? = some v → Value.okWide Try.prog W1 .any base t v := hval0
  have hW' := hW
  obtain ⟨p, q, hA0, hV, rfl, hfz, hnd⟩ := hW
  have hA : DataW.TrodAll enc Try.prog W1 0 (fun _ => true) true Try.f4.params.toList args.toList ds p := hA0
  rw [Try.params4] at hA hval
  obtain ⟨v0, vs0, d0, ds0, p0, q0, hargs, rfl, rfl, h0, r0⟩ := trodAll_cons hA
  obtain ⟨rfl, rfl, rfl⟩ := trodAll_nil r0
  obtain rfl : args = #[v0] := by cases args; simp_all
  obtain ⟨rfl, rfl⟩ := trodVars_none hV
  obtain ⟨n, rfl, e0, -, w0⟩ := open_int Try.underlying22 (hval 0 22 v0 rfl rfl) h0
  clear hA0 hval0 hval hA
  refine (walk n (word_of_wf w0) W1).mono fun e W' ⟨he, hg⟩ => ?_
  subst he
  exact ⟨_, rfl, law_post laidOut (by kernel_rfl) rfl (by kernel_rfl) Try.underlying4 hW' rfl hg⟩

theorem over : Rows.rootGreatestRow.holds Try.pinned (OpenSpec.ofChange Rows.rootGreatestSpec) :=
  OpenClaim.holds_of_wide 4 Try.f4 rfl rfl rfl rfl rfl rfl rfl ⟨rfl, rfl, rfl, rfl, rfl⟩ rfl rfl rfl rfl rfl (by kernel_rfl) Try.func4 (by kernel_rfl)
    (of_decide_eq_true (by kernel_rfl)) (by unfold Func.isWrapper; first | (rw [if_pos (by decide +kernel)]; kernel_rfl) | (rw [if_neg (by decide +kernel)]; exact ⟨rfl, rfl⟩))
    (fun os started H enc _ => lifted os started H enc)

theorem proved : Rows.RootGreatestSaid :=
  over
end Go.Proofs.Ytmdmkofiddkikaa.rootGreatest
