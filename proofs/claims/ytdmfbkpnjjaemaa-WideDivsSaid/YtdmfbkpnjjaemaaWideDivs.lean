/- Any wide number is divided, and clipped, as the document's answers have it. -/
import Derived.Test.YtdmfbkpnjjaemaaRows
import Derived.Test.YtdmfbkpnjjaemaaWideE
import Derived.Test.YtdmfbkpnjjaemaaRefJ
import Derived.Test.YtdmfbkpnjjaemaaLaw
import Derived.WalkKit
import Derived.ProofKit
import Derived.OpenShut
namespace Go.Proofs.Ytdmfbkpnjjaemaa.wideDivs
open Go.ChangeShapes Go.WideShapes Go.ChangeAt Go.RowKit
set_option linter.unusedVariables false

attribute [local go_sem] cell_re eqW_self run_fieldW
attribute [local go_sem ↓] run_eqlW run_neqW

theorem divided_form (a b : Int) : ∃ u r ok, divided a b = .tuple #[W u, .int .i64 r, .bool ok] := by
  unfold divided
  by_cases h : b = 0
  · rw [if_pos h]
    exact ⟨0, 0, false, by rw [W, zero_halves.1, zero_halves.2]⟩
  · rw [if_neg h]
    exact ⟨_, _, _, rfl⟩

set_option maxRecDepth 100000 in
set_option maxHeartbeats 2000000 in
theorem walk (a b : Int) (ha : Fits a) (hb : Half b) (w : World) :
    Calls Try.prog 6 #[W a, .int .i64 b] w fun e w' => e = .returned (.bool true) ∧ Below w.heap.size w w' := by
  obtain ⟨u, r, ok, hd⟩ := divided_form a b
  have d1 := Lib.hid (fun W1 : World => wideDiv a b ha hb W1)
  have d2 := Lib.hid (fun W1 : World => refDiv a b ha hb W1)
  rw [hd] at d1 d2
  have hA : Holds (w.alloc (.cells #[.int .i64 (hi a), .int .u64 (lo a)] 24)) w.heap.size a := Holds.new w a 24
  have hB : Below w.heap.size w (w.alloc (.cells #[.int .i64 (hi a), .int .u64 (lo a)] 24)) := by go_grown
  clear hd
  go_enter Try.func6, Try.ntmps6
  go_wp2_with fail
  refine (d1.out _).mono ?_
  rintro e w1 ⟨rfl, hb1⟩
  replace hA := hA.call hb1
  replace hB := below_then hB hb1
  clear hb1
  have hx := hA
  obtain ⟨al, a0, a1, a2, a3⟩ := hx
  go_wp2_with fail
  clear al a0 a1 a2 a3
  have hP := Holds.new w1 u 24
  replace hA := hA.alloc (.cells #[.int .i64 (hi u), .int .u64 (lo u)] 24)
  replace hB := hB.alloc hB.size (.cells #[.int .i64 (hi u), .int .u64 (lo u)] 24)
  refine (d2.out _).mono ?_
  rintro e w2 ⟨rfl, hb2⟩
  replace hA := hA.call hb2
  replace hP := hP.call hb2
  replace hB := below_then hB hb2
  clear hb2
  have hx := hA
  obtain ⟨al, a0, a1, a2, a3⟩ := hx
  go_wp2_with fail
  clear al a0 a1 a2 a3
  have hQ := Holds.new w2 u 24
  replace hA := hA.alloc (.cells #[.int .i64 (hi u), .int .u64 (lo u)] 24)
  replace hP := hP.alloc (.cells #[.int .i64 (hi u), .int .u64 (lo u)] 24)
  replace hB := hB.alloc hB.size (.cells #[.int .i64 (hi u), .int .u64 (lo u)] 24)
  refine (wideClip a ha _).mono ?_
  rintro e w3 ⟨rfl, hb3⟩
  replace hA := hA.call hb3
  replace hP := hP.call hb3
  replace hQ := hQ.call hb3
  replace hB := below_then hB hb3
  clear hb3
  have hx := hA
  obtain ⟨al, a0, a1, a2, a3⟩ := hx
  go_wp2_with fail
  clear al a0 a1 a2 a3
  refine (refClip a ha _).mono ?_
  rintro e w4 ⟨rfl, hb4⟩
  replace hA := hA.call hb4
  replace hP := hP.call hb4
  replace hQ := hQ.call hb4
  replace hB := below_then hB hb4
  clear hb4
  have hx := hP
  obtain ⟨pl, p0, p1, p2, p3⟩ := hx
  have hx := hQ
  obtain ⟨ql, q0, q1, q2, q3⟩ := hx
  go_wp2_with fail
  refine (works _).mono ?_
  rintro e w5 ⟨rfl, hb5⟩
  replace hB := below_then hB hb5
  clear hb5
  go_wp2
  go_ret
  exact ⟨rfl, hB⟩


set_option maxRecDepth 100000 in
theorem lifted (os : Os) (started : os.Started) (H : Type) (enc : TypeId × Value → H) :
    ReturnsInHanded {} Try.checked os 6 .any (Rows.wideDivsSpec.pre6 enc Try.prog Try.f6 Rows.wideDivsRow.domain false) (Rows.wideDivsSpec.post enc Try.prog Try.f6 false true false false) := by
  refine returnsInHanded_of_change (C := Try.checked) own started (by kernel_rfl) Try.func6
    (ChangeSpec.witness6 (enc := enc) (C := Try.checked) false ⟨#[], #[.agg #[.int .i64 0, .int .u64 0], .int .i64 0], []⟩ 8 (by kernel_rfl) (by kernel_rfl) (by kernel_rfl) (by kernel_rfl)) ?_
  intro W1 base args ds gs before hval0 hW hcnd _
  have hval : ∀ (j : Nat) t v, Try.f6.params[j]? = some t → args[j]? = some v → Value.okWide Try.prog W1 .any base t v := hval0
  have hW' := hW
  obtain ⟨p, q, hA0, hV, rfl, hfz, hnd⟩ := hW
  have hA : DataW.TrodAll enc Try.prog W1 0 (fun _ => true) true Try.f6.params.toList args.toList ds p := hA0
  rw [Try.params6] at hA hval
  obtain ⟨v0, vs0, d0, ds0, p0, q0, hargs, rfl, rfl, h0, r0⟩ := trodAll_cons hA
  obtain ⟨v1, vs1, d1, ds1, p1, q1, rfl, rfl, rfl, h1, r1⟩ := trodAll_cons r0
  obtain ⟨rfl, rfl, rfl⟩ := trodAll_nil r1
  obtain rfl : args = #[v0, v1] := by cases args; simp_all
  obtain ⟨rfl, rfl⟩ := trodVars_none hV
  obtain ⟨a, w0, rfl, rfl, rfl⟩ := open_W (hval 0 24 v0 rfl rfl) h0
  obtain ⟨b, rfl, rfl, rfl, w1⟩ := open_int Try.underlying2 (hval 1 2 v1 rfl rfl) h1
  clear hA0 hval0
  simp only [List.append_nil] at hW'
  refine (walk a b w0 (half_of_wf w1) W1).mono fun e W' ⟨he, hg⟩ => ?_
  subst he
  exact ⟨_, rfl, post_of_below (pa := []) (pv := []) hW' (fun _ _ _ => (trodAll_cons_mk (shut_bool Try.underlying4 _) trodAll_mk0)) (fun sp _ => (trodAll_cons_mk (shut_W _) (trodAll_cons_mk (shut_int Try.underlying2 w1) trodAll_mk0))) (fun _ _ => rfl) rfl hg (ok_one (by kernel_rfl) rfl (okWide_bool_mk Try.underlying4 _))⟩

theorem over : Rows.wideDivsRow.holds Try.pinned (OpenSpec.ofChange Rows.wideDivsSpec) :=
  OpenClaim.holds_of_wide 6 Try.f6 rfl rfl rfl rfl rfl rfl rfl ⟨rfl, rfl, rfl, rfl, rfl⟩ rfl rfl rfl rfl rfl (by kernel_rfl) Try.func6 (by kernel_rfl)
    (of_decide_eq_true (by kernel_rfl)) (by unfold Func.isWrapper; first | (rw [if_pos (by decide +kernel)]; kernel_rfl) | (rw [if_neg (by decide +kernel)]; exact ⟨rfl, rfl⟩))
    (fun os started H enc _ => lifted os started H enc)

theorem proved : Rows.WideDivsSaid :=
  over
end Go.Proofs.Ytdmfbkpnjjaemaa.wideDivs
