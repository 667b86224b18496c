/- Any wide number is shifted to the left, to the right, and to the nearest one, as the document's answers have it. -/
import Derived.Test.YtdmfbkpnjjaemaaRows
import Derived.Test.YtdmfbkpnjjaemaaWideE
import Derived.Test.YtdmfbkpnjjaemaaRefH
import Derived.Test.YtdmfbkpnjjaemaaLaw
import Derived.WalkKit
import Derived.ProofKit
import Derived.OpenShut
namespace Go.Proofs.Ytdmfbkpnjjaemaa.wideShifts
open Go.ChangeShapes Go.WideShapes Go.ChangeAt Go.RowKit
set_option linter.unusedVariables false

attribute [local go_sem] cell_re eqW_self run_fieldW
attribute [local go_sem ↓] run_eqlW run_neqW

set_option maxRecDepth 100000 in
set_option maxHeartbeats 2000000 in
theorem walk_k (a n : Int) (ha : Fits a) (hn : Half n) (k : Nat) (pn : places n = (k : Int)) (w : World) :
    Calls Try.prog 5 #[W a, .int .i64 n] w fun e w' => e = .returned (.bool true) ∧ Below w.heap.size w w' := by
  have pn' := Lib.hid pn
  clear pn
  have hn' := Lib.hid hn
  clear hn
  go_enter Try.func5, Try.ntmps5
  go_wp2_with fail
  refine wp_region_quiet_below (by kernel_rfl) (by kernel_rfl) ?_
  repeat (go_big_quiet_step ((first | (go_at_call 23; first | (with_reducible exact Calls.regrown_of (wideLeft a n hn'.out _))) | (go_at_call 24; first | (with_reducible exact Calls.regrown_of (refLeft a n hn'.out _))) | (go_at_call 25; first | (with_reducible exact Calls.regrown_of (wideRight a ha n hn'.out k pn'.out _))) | (go_at_call 26; first | (with_reducible exact Calls.regrown_of (refRight a ha n hn'.out k pn'.out _))) | (go_at_call 27; first | (with_reducible exact Calls.regrown_of (wideNear a n ha hn'.out _))) | (go_at_call 28; first | (with_reducible exact Calls.regrown_of (refNear a n ha hn'.out _))) | (go_at_call 20; first | (with_reducible exact Calls.regrown_of (works _))))))
  refine wpQuiet_nil ?_
  intro wq hwq
  have hbq := below_of_re hwq
  clear hwq
  obtain ⟨hcq, hfq⟩ := bcell hbq
  have hzq := hbq.size
  have htq : Below w.heap.size w wq := Below.trans (by go_grown) (hbq.mono (by simp <;> omega))
  go_wp2
  go_ret
  exact ⟨rfl, htq⟩
theorem walk (a n : Int) (ha : Fits a) (hn : Half n) (w : World) :
    Calls Try.prog 5 #[W a, .int .i64 n] w fun e w' => e = .returned (.bool true) ∧ Below w.heap.size w w' :=
  walk_k a n ha hn (places n).toNat (by unfold places; omega) w


set_option maxRecDepth 100000 in
theorem lifted (os : Os) (started : os.Started) (H : Type) (enc : TypeId × Value → H) :
    ReturnsInHanded {} Try.checked os 5 .any (Rows.wideShiftsSpec.pre6 enc Try.prog Try.f5 Rows.wideShiftsRow.domain false) (Rows.wideShiftsSpec.post enc Try.prog Try.f5 false true false false) := by
  refine returnsInHanded_of_change (C := Try.checked) own started (by kernel_rfl) Try.func5
    (ChangeSpec.witness6 (enc := enc) (C := Try.checked) false ⟨#[], #[.agg #[.int .i64 0, .int .u64 0], .int .i64 0], []⟩ 8 (by kernel_rfl) (by kernel_rfl) (by kernel_rfl) (by kernel_rfl)) ?_
  intro W1 base args ds gs before hval0 hW hcnd _
  have hval : ∀ (j : Nat) t v, Try.f5.params[j]? = some t → args[j]? = some v → Value.okWide Try.prog W1 .any base t v := hval0
  have hW' := hW
  obtain ⟨p, q, hA0, hV, rfl, hfz, hnd⟩ := hW
  have hA : DataW.TrodAll enc Try.prog W1 0 (fun _ => true) true Try.f5.params.toList args.toList ds p := hA0
  rw [Try.params5] at hA hval
  obtain ⟨v0, vs0, d0, ds0, p0, q0, hargs, rfl, rfl, h0, r0⟩ := trodAll_cons hA
  obtain ⟨v1, vs1, d1, ds1, p1, q1, rfl, rfl, rfl, h1, r1⟩ := trodAll_cons r0
  obtain ⟨rfl, rfl, rfl⟩ := trodAll_nil r1
  obtain rfl : args = #[v0, v1] := by cases args; simp_all
  obtain ⟨rfl, rfl⟩ := trodVars_none hV
  obtain ⟨a, w0, rfl, rfl, rfl⟩ := open_W (hval 0 24 v0 rfl rfl) h0
  obtain ⟨n, rfl, rfl, rfl, w1⟩ := open_int Try.underlying3 (hval 1 3 v1 rfl rfl) h1
  clear hA0 hval0
  simp only [List.append_nil] at hW'
  refine (walk a n w0 (half_of_wf w1) W1).mono fun e W' ⟨he, hg⟩ => ?_
  subst he
  exact ⟨_, rfl, post_of_below (pa := []) (pv := []) hW' (fun _ _ _ => (trodAll_cons_mk (shut_bool Try.underlying4 _) trodAll_mk0)) (fun sp _ => (trodAll_cons_mk (shut_W _) (trodAll_cons_mk (shut_int Try.underlying3 w1) trodAll_mk0))) (fun _ _ => rfl) rfl hg (ok_one (by kernel_rfl) rfl (okWide_bool_mk Try.underlying4 _))⟩

theorem over : Rows.wideShiftsRow.holds Try.pinned (OpenSpec.ofChange Rows.wideShiftsSpec) :=
  OpenClaim.holds_of_wide 5 Try.f5 rfl rfl rfl rfl rfl rfl rfl ⟨rfl, rfl, rfl, rfl, rfl⟩ rfl rfl rfl rfl rfl (by kernel_rfl) Try.func5 (by kernel_rfl)
    (of_decide_eq_true (by kernel_rfl)) (by unfold Func.isWrapper; first | (rw [if_pos (by decide +kernel)]; kernel_rfl) | (rw [if_neg (by decide +kernel)]; exact ⟨rfl, rfl⟩))
    (fun os started H enc _ => lifted os started H enc)

theorem proved : Rows.WideShiftsSaid :=
  over
end Go.Proofs.Ytdmfbkpnjjaemaa.wideShifts
