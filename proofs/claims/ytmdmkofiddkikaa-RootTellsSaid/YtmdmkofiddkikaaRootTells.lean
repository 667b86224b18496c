/- Any number's root and square are as the document's answers have them. -/
import Derived.Test.YtmdmkofiddkikaaRows
import Derived.Test.YtmdmkofiddkikaaRootW
import Derived.Test.YtmdmkofiddkikaaLawK
import Derived.WalkKit
import Derived.ProofKit
import Derived.OpenShut
import Derived.Deep.RegionHeld3
namespace Go.Proofs.Ytmdmkofiddkikaa.rootTells
open Go.ChangeShapes Go.WideShapes Go.ChangeAt Go.RowKit
set_option linter.unusedVariables false

attribute [local go_sem] cell_re eqW_self
attribute [local go_sem ↓] run_eqlW run_neqW

set_option maxRecDepth 100000 in
set_option maxHeartbeats 4000000 in
theorem walk (n a b : Int) (hn : 0 ≤ n ∧ n ≤ 18446744073709551615) (ha : Fits a) (hb : Half b) (w : World) : Calls Try.prog 3 #[.int .u64 n, W a, .int .i64 b] w fun e w' => e = .returned (.bool true) ∧ Below w.heap.size w w' := by
  obtain ⟨x, ok, e1, e2⟩ := rootOk_form a
  obtain ⟨p, can, e3, e4⟩ := rootFix_form b
  have d1 := Lib.hid (fun W1 : World => rootWide a ha W1)
  have d2 := Lib.hid (fun W1 : World => ref4Wide a ha W1)
  have d3 := Lib.hid (fun W1 : World => rootFix b hb W1)
  have d4 := Lib.hid (fun W1 : World => ref4Fix b hb W1)
  rw [e1] at d1
  rw [e2] at d2
  rw [e3] at d3
  rw [e4] at d4
  have d5 := Lib.hid (fun W1 : World => rootOf n hn.1 hn.2 W1)
  have d6 := Lib.hid (fun W1 : World => ref4Of n hn.1 hn.2 W1)
  have d7 := Lib.hid (fun W1 : World => rootSquare n hn.1 hn.2 W1)
  have d8 := Lib.hid (fun W1 : World => ref4Square n hn.1 hn.2 W1)
  clear e1 e2 e3 e4 ha hb hn
  obtain ⟨r, hr⟩ : ∃ r, Hid (root n = r) := ⟨_, rfl⟩
  obtain ⟨q, hq⟩ : ∃ q, Hid (n * n = q) := ⟨_, rfl⟩
  rw [hr.out] at d5 d6
  rw [hq.out] at d7 d8
  clear hr hq
  have hA := Holds.new w a 24
  have hB : Below w.heap.size w (w.alloc (.cells #[.int .i64 (hi a), .int .u64 (lo a)] 24)) := by go_grown
  cases ok
  all_goals
    cases can
    all_goals
      go_enter Try.func3, Try.ntmps3
      go_wp2_with fail
      refine (d1.out _).mono ?_
      rintro e w1 ⟨rfl, hb1⟩
      replace hA := hA.call hb1
      replace hB := below_then hB hb1
      clear hb1
      obtain ⟨al, a0, a1, a2, a3⟩ := hA
      go_wp2_with (first | (go_at_call 8; refine (chain (w0 := w) (by go_grown) (by first | with_reducible exact d2.out _)).mono ?_; rintro e w' ⟨rfl, ht⟩; have hs := ht.size) | (go_at_call 9; refine (chain (w0 := w) (by go_grown) (by first | with_reducible exact d3.out _)).mono ?_; rintro e w' ⟨rfl, ht⟩; have hs := ht.size) | (go_at_call 10; refine (chain (w0 := w) (by go_grown) (by first | with_reducible exact d4.out _)).mono ?_; rintro e w' ⟨rfl, ht⟩; have hs := ht.size) | (go_at_call 11; refine (chain (w0 := w) (by go_grown) (by first | with_reducible exact d5.out _)).mono ?_; rintro e w' ⟨rfl, ht⟩; have hs := ht.size) | (go_at_call 12; refine (chain (w0 := w) (by go_grown) (by first | with_reducible exact d6.out _)).mono ?_; rintro e w' ⟨rfl, ht⟩; have hs := ht.size) | (go_at_call 13; refine (chain (w0 := w) (by go_grown) (by first | with_reducible exact d7.out _)).mono ?_; rintro e w' ⟨rfl, ht⟩; have hs := ht.size) | (go_at_call 14; refine (chain (w0 := w) (by go_grown) (by first | with_reducible exact d8.out _)).mono ?_; rintro e w' ⟨rfl, ht⟩; have hs := ht.size) | (go_at_call 15; refine (chain (w0 := w) (by go_grown) (by first | with_reducible exact works _)).mono ?_; rintro e w' ⟨rfl, ht⟩; have hs := ht.size))
      go_ret
      exact ⟨rfl, by go_grown⟩


set_option maxRecDepth 100000 in
theorem lifted (os : Os) (started : os.Started) (H : Type) (enc : TypeId × Value → H) :
    ReturnsInHanded {} Try.checked os 3 .any (Rows.rootTellsSpec.pre6 enc Try.prog Try.f3 Rows.rootTellsRow.domain false) (Rows.rootTellsSpec.post enc Try.prog Try.f3 false true false false) := by
  refine returnsInHanded_of_change (C := Try.checked) own started (by kernel_rfl) Try.func3
    (ChangeSpec.witness6 (enc := enc) (C := Try.checked) false ⟨#[], #[.int .u64 0, .agg #[.int .i64 0, .int .u64 0], .int .i64 0], []⟩ 8 (by kernel_rfl) (by kernel_rfl) (by kernel_rfl) (by kernel_rfl)) ?_
  intro W1 base args ds gs before hval0 hW hcnd _
  have hval : ∀ (j : Nat) t v, Try.f3.params[j]? = some t → args[j]? = some v → Value.okWide Try.prog W1 .any base t v := hval0
  have hW' := hW
  obtain ⟨p, q, hA0, hV, rfl, hfz, hnd⟩ := hW
  have hA : DataW.TrodAll enc Try.prog W1 0 (fun _ => true) true Try.f3.params.toList args.toList ds p := hA0
  rw [Try.params3] at hA hval
  obtain ⟨v0, vs0, d0, ds0, p0, q0, hargs, rfl, rfl, h0, r0⟩ := trodAll_cons hA
  obtain ⟨v1, vs1, d1, ds1, p1, q1, rfl, rfl, rfl, h1, r1⟩ := trodAll_cons r0
  obtain ⟨v2, vs2, d2, ds2, p2, q2, rfl, rfl, rfl, h2, r2⟩ := trodAll_cons r1
  obtain ⟨rfl, rfl, rfl⟩ := trodAll_nil r2
  obtain rfl : args = #[v0, v1, v2] := by cases args; simp_all
  obtain ⟨rfl, rfl⟩ := trodVars_none hV
  obtain ⟨n, rfl, e0, -, w0⟩ := open_int Try.underlying22 (hval 0 22 v0 rfl rfl) h0
  obtain ⟨a, w1, rfl, e1, -⟩ := open_W (hval 1 24 v1 rfl rfl) h1
  obtain ⟨b, rfl, e2, -, w2⟩ := open_int Try.underlying25 (hval 2 25 v2 rfl rfl) h2
  clear hA0 hval0 hval hA
  refine (walk n a b (word_of_wf w0) w1 (half_of_wf w2) W1).mono fun e W' ⟨he, hg⟩ => ?_
  subst he
  exact ⟨_, rfl, law_post laidOut (by kernel_rfl) rfl (by kernel_rfl) Try.underlying4 hW' rfl hg⟩

theorem over : Rows.rootTellsRow.holds Try.pinned (OpenSpec.ofChange Rows.rootTellsSpec) :=
  OpenClaim.holds_of_wide 3 Try.f3 rfl rfl rfl rfl rfl rfl rfl ⟨rfl, rfl, rfl, rfl, rfl⟩ rfl rfl rfl rfl rfl (by kernel_rfl) Try.func3 (by kernel_rfl)
    (of_decide_eq_true (by kernel_rfl)) (by unfold Func.isWrapper; first | (rw [if_pos (by decide +kernel)]; kernel_rfl) | (rw [if_neg (by decide +kernel)]; exact ⟨rfl, rfl⟩))
    (fun os started H enc _ => lifted os started H enc)

theorem proved : Rows.RootTellsSaid :=
  over
end Go.Proofs.Ytmdmkofiddkikaa.rootTells
