/- Sums, opposites, signs and which of two wide numbers is less are as the document's answers have them: of any numbers. -/
import Derived.Test.YtdmfbkpnjjaemaaRows
import Derived.Test.YtdmfbkpnjjaemaaWideE
import Derived.Test.YtdmfbkpnjjaemaaRefD
import Derived.Test.YtdmfbkpnjjaemaaLaw
import Derived.WalkKit
import Derived.ProofKit
import Derived.OpenShut
namespace Go.Proofs.Ytdmfbkpnjjaemaa.wideAdds
open Go.ChangeShapes Go.WideShapes Go.ChangeAt Go.RowKit
set_option linter.unusedVariables false

attribute [local go_sem] cell_re eqW_self run_fieldW
attribute [local go_sem ↓] run_eqlW run_neqW

set_option maxRecDepth 100000 in
set_option maxHeartbeats 2000000 in
theorem walk (a b n : Int) (ha : Fits a) (hb : Fits b) (hn : Half n) (w : World) :
    Calls Try.prog 3 #[W a, W b, .int .i64 n] w fun e w' => e = .returned (.bool true) ∧ Below w.heap.size w w' := by
  go_enter Try.func3, Try.ntmps3
  go_wp2_with fail
  refine wp_region_quiet_below (by kernel_rfl) (by kernel_rfl) ?_
  repeat (go_big_quiet_step ((first | (go_at_call 10; first | (with_reducible exact Calls.regrown_of (wideAdd a b _))) | (go_at_call 11; first | (with_reducible exact Calls.regrown_of (refAdd a b _))) | (go_at_call 12; first | (with_reducible exact Calls.regrown_of (wideNeg a _))) | (go_at_call 13; first | (with_reducible exact Calls.regrown_of (refNeg a _))) | (go_at_call 14; first | (with_reducible exact Calls.regrown_of (wideSign a ha _))) | (go_at_call 15; first | (with_reducible exact Calls.regrown_of (refSign a ha _))) | (go_at_call 16; first | (with_reducible exact Calls.regrown_of (wideLess a b ha hb _))) | (go_at_call 17; first | (with_reducible exact Calls.regrown_of (refLess a b ha hb _))) | (go_at_call 18; first | (with_reducible exact Calls.regrown_of (wideOf n hn _))) | (go_at_call 19; first | (with_reducible exact Calls.regrown_of (refOf n hn _))) | (go_at_call 20; first | (with_reducible exact Calls.regrown_of (works _))))))
  refine wpQuiet_nil ?_
  intro wq hwq
  have hbq := below_of_re hwq
  clear hwq
  obtain ⟨hcq, hfq⟩ := bcell hbq
  have hzq := hbq.size
  have htq : Below w.heap.size w wq := Below.trans (by go_grown) (hbq.mono (by simp <;> omega))
  go_wp2
  go_ret
  exact ⟨rfl, htq⟩


set_option maxRecDepth 100000 in
theorem lifted (os : Os) (started : os.Started) (H : Type) (enc : TypeId × Value → H) :
    ReturnsInHanded {} Try.checked os 3 .any (Rows.wideAddsSpec.pre6 enc Try.prog Try.f3 Rows.wideAddsRow.domain false) (Rows.wideAddsSpec.post enc Try.prog Try.f3 false true false false) := by
  refine returnsInHanded_of_change (C := Try.checked) own started (by kernel_rfl) Try.func3
    (ChangeSpec.witness6 (enc := enc) (C := Try.checked) false ⟨#[], #[.agg #[.int .i64 0, .int .u64 0], .agg #[.int .i64 0, .int .u64 0], .int .i64 0], []⟩ 8 (by kernel_rfl) (by kernel_rfl) (by kernel_rfl) (by kernel_rfl)) ?_
  intro W1 base args ds gs before hval0 hW hcnd _
  have hval : ∀ (j : Nat) t v, Try.f3.params[j]? = some t → args[j]? = some v → Value.okWide Try.prog W1 .any base t v := hval0
  have hW' := hW
  obtain ⟨p, q, hA0, hV, rfl, hfz, hnd⟩ := hW
  have hA : DataW.TrodAll enc Try.prog W1 0 (fun _ => true) true Try.f3.params.toList args.toList ds p := hA0
  rw [Try.params3] at hA hval
  obtain ⟨v0, vs0, d0, ds0, p0, q0, hargs, rfl, rfl, h0, r0⟩ := trodAll_cons hA
  obtain ⟨v1, vs1, d1, ds1, p1, q1, rfl, rfl, rfl, h1, r1⟩ := trodAll_cons r0
  obtain ⟨v2, vs2, d2, ds2, p2, q2, rfl, rfl, rfl, h2, r2⟩ := trodAll_cons r1
  obtain ⟨rfl, rfl, rfl⟩ := trodAll_nil r2
  obtain rfl : args = #[v0, v1, v2] := by cases args; simp_all
  obtain ⟨rfl, rfl⟩ := trodVars_none hV
  obtain ⟨a, w0, rfl, rfl, rfl⟩ := open_W (hval 0 24 v0 rfl rfl) h0
  obtain ⟨b, w1, rfl, rfl, rfl⟩ := open_W (hval 1 24 v1 rfl rfl) h1
  obtain ⟨n, rfl, rfl, rfl, w2⟩ := open_int Try.underlying2 (hval 2 2 v2 rfl rfl) h2
  clear hA0 hval0
  simp only [List.append_nil] at hW'
  refine (walk a b n w0 w1 (half_of_wf w2) W1).mono fun e W' ⟨he, hg⟩ => ?_
  subst he
  exact ⟨_, rfl, post_of_below (pa := []) (pv := []) hW' (fun _ _ _ => (trodAll_cons_mk (shut_bool Try.underlying4 _) trodAll_mk0)) (fun sp _ => (trodAll_cons_mk (shut_W _) (trodAll_cons_mk (shut_W _) (trodAll_cons_mk (shut_int Try.underlying2 w2) trodAll_mk0)))) (fun _ _ => rfl) rfl hg (ok_one (by kernel_rfl) rfl (okWide_bool_mk Try.underlying4 _))⟩

theorem over : Rows.wideAddsRow.holds Try.pinned (OpenSpec.ofChange Rows.wideAddsSpec) :=
  OpenClaim.holds_of_wide 3 Try.f3 rfl rfl rfl rfl rfl rfl rfl ⟨rfl, rfl, rfl, rfl, rfl⟩ rfl rfl rfl rfl rfl (by kernel_rfl) Try.func3 (by kernel_rfl)
    (of_decide_eq_true (by kernel_rfl)) (by unfold Func.isWrapper; first | (rw [if_pos (by decide +kernel)]; kernel_rfl) | (rw [if_neg (by decide +kernel)]; exact ⟨rfl, rfl⟩))
    (fun os started H enc _ => lifted os started H enc)

theorem proved : Rows.WideAddsSaid :=
  over
end Go.Proofs.Ytdmfbkpnjjaemaa.wideAdds
