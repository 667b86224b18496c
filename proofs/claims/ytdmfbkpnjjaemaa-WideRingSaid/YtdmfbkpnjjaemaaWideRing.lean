/- Sums of wide numbers hang on no order, a number and its opposite come to 0, and a product is shared out over a sum that does not go round: of any numbers. -/
import Derived.Test.YtdmfbkpnjjaemaaRows
import Derived.Test.YtdmfbkpnjjaemaaWideE
import Derived.Test.YtdmfbkpnjjaemaaLaw
import Derived.WalkKit
import Derived.ProofKit
import Derived.OpenShut
namespace Go.Proofs.Ytdmfbkpnjjaemaa.wideRing
open Go.ChangeShapes Go.WideShapes Go.ChangeAt Go.RowKit
set_option linter.unusedVariables false

attribute [local go_sem] cell_re eqW_self run_fieldW
attribute [local go_sem ↓] run_eqlW run_neqW

theorem sums (a b c : Int) : b + a = a + b ∧ a + (b + c) = a + b + c ∧ a + -a = 0 := by omega
theorem shares (x y z : Int) : x * (y + z) = x * y + x * z ∧ y * x = x * y := ⟨Int.mul_add _ _ _, Int.mul_comm _ _⟩
theorem tdiv_half (y : Int) (h0 : -9223372036854775808 ≤ y) (h1 : y ≤ 9223372036854775807) : -4611686018427387904 ≤ y.tdiv 2 ∧ y.tdiv 2 ≤ 4611686018427387903 := by
  rw [Int.tdiv_eq_ediv, show Int.sign 2 = 1 from rfl]
  split <;> omega
theorem zero_W : eqW (hi 0) (lo 0) 0 0 = true := by decide

set_option maxRecDepth 100000 in
set_option maxHeartbeats 1000000 in
theorem walk (a b c x y z : Int) (ha : Fits a) (hb : Fits b) (hc : Fits c) (hx : Half x) (hy : Half y) (hz : Half z) (w : World) :
    Calls Try.prog 7 #[W a, W b, W c, .int .i64 x, .int .i64 y, .int .i64 z] w fun e w' => e = .returned (.bool true) ∧ Below w.heap.size w w' := by
  obtain ⟨s1, s2, s3⟩ := sums a b c
  have s4 := zero_W
  obtain ⟨hx0, hx1⟩ := hx
  obtain ⟨hy0, hy1⟩ := hy
  obtain ⟨hz0, hz1⟩ := hz
  obtain ⟨Y, hY, Y0, Y1⟩ : ∃ Y, y.tdiv 2 = Y ∧ -4611686018427387904 ≤ Y ∧ Y ≤ 4611686018427387903 := ⟨_, rfl, (tdiv_half y hy0 hy1).1, (tdiv_half y hy0 hy1).2⟩
  obtain ⟨Z, hZ, Z0, Z1⟩ : ∃ Z, z.tdiv 2 = Z ∧ -4611686018427387904 ≤ Z ∧ Z ≤ 4611686018427387903 := ⟨_, rfl, (tdiv_half z hz0 hz1).1, (tdiv_half z hz0 hz1).2⟩
  obtain ⟨s5, s6⟩ := shares x Y Z
  go_enter Try.func7, Try.ntmps7
  go_wp2_with fail
  refine wp_region_quiet_below (by kernel_rfl) (by kernel_rfl) ?_
  repeat (go_big_quiet_step ((first | (go_at_call 20; exact Calls.regrown_of (works _)) | (go_at_call 10; exact Calls.regrown_of (wideAdd _ _ _)) | (go_at_call 12; exact Calls.regrown_of (wideNeg _ _)) | (go_at_call 21; exact Calls.regrown_of (wideMul _ _ (by unfold Half; omega) (by unfold Half; omega) _)))))
  refine wpQuiet_nil ?_
  intro wq hwq
  have hbq := below_of_re hwq
  clear hwq
  obtain ⟨hcq, hfq⟩ := bcell hbq
  have hzq := hbq.size
  have htq : Below w.heap.size w wq := Below.trans (by go_grown) (hbq.mono (by simp <;> omega))
  go_wp2_with (first | (go_at_call 10; refine (chain (w0 := w) (by go_grown) (wideAdd _ _ _)).mono ?_; rintro e w' ⟨rfl, ht⟩; have hs := ht.size) | (go_at_call 21; refine (chain (w0 := w) (by go_grown) (wideMul _ _ (by unfold Half; omega) (by unfold Half; omega) _)).mono ?_; rintro e w' ⟨rfl, ht⟩; have hs := ht.size))
  go_ret
  exact ⟨rfl, by go_grown⟩


set_option maxRecDepth 100000 in
theorem lifted (os : Os) (started : os.Started) (H : Type) (enc : TypeId × Value → H) :
    ReturnsInHanded {} Try.checked os 7 .any (Rows.wideRingSpec.pre6 enc Try.prog Try.f7 Rows.wideRingRow.domain false) (Rows.wideRingSpec.post enc Try.prog Try.f7 false true false false) := by
  refine returnsInHanded_of_change (C := Try.checked) own started (by kernel_rfl) Try.func7
    (ChangeSpec.witness6 (enc := enc) (C := Try.checked) false ⟨#[], #[.agg #[.int .i64 0, .int .u64 0], .agg #[.int .i64 0, .int .u64 0], .agg #[.int .i64 0, .int .u64 0], .int .i64 0, .int .i64 0, .int .i64 0], []⟩ 8 (by kernel_rfl) (by kernel_rfl) (by kernel_rfl) (by kernel_rfl)) ?_
  intro W1 base args ds gs before hval0 hW hcnd _
  have hval : ∀ (j : Nat) t v, Try.f7.params[j]? = some t → args[j]? = some v → Value.okWide Try.prog W1 .any base t v := hval0
  have hW' := hW
  obtain ⟨p, q, hA0, hV, rfl, hfz, hnd⟩ := hW
  have hA : DataW.TrodAll enc Try.prog W1 0 (fun _ => true) true Try.f7.params.toList args.toList ds p := hA0
  rw [Try.params7] at hA hval
  obtain ⟨v0, vs0, d0, ds0, p0, q0, hargs, rfl, rfl, h0, r0⟩ := trodAll_cons hA
  obtain ⟨v1, vs1, d1, ds1, p1, q1, rfl, rfl, rfl, h1, r1⟩ := trodAll_cons r0
  obtain ⟨v2, vs2, d2, ds2, p2, q2, rfl, rfl, rfl, h2, r2⟩ := trodAll_cons r1
  obtain ⟨v3, vs3, d3, ds3, p3, q3, rfl, rfl, rfl, h3, r3⟩ := trodAll_cons r2
  obtain ⟨v4, vs4, d4, ds4, p4, q4, rfl, rfl, rfl, h4, r4⟩ := trodAll_cons r3
  obtain ⟨v5, vs5, d5, ds5, p5, q5, rfl, rfl, rfl, h5, r5⟩ := trodAll_cons r4
  obtain ⟨rfl, rfl, rfl⟩ := trodAll_nil r5
  obtain rfl : args = #[v0, v1, v2, v3, v4, v5] := by cases args; simp_all
  obtain ⟨rfl, rfl⟩ := trodVars_none hV
  obtain ⟨a, w0, rfl, rfl, rfl⟩ := open_W (hval 0 24 v0 rfl rfl) h0
  obtain ⟨b, w1, rfl, rfl, rfl⟩ := open_W (hval 1 24 v1 rfl rfl) h1
  obtain ⟨c, w2, rfl, rfl, rfl⟩ := open_W (hval 2 24 v2 rfl rfl) h2
  obtain ⟨x, rfl, rfl, rfl, w3⟩ := open_int Try.underlying2 (hval 3 2 v3 rfl rfl) h3
  obtain ⟨y, rfl, rfl, rfl, w4⟩ := open_int Try.underlying2 (hval 4 2 v4 rfl rfl) h4
  obtain ⟨z, rfl, rfl, rfl, w5⟩ := open_int Try.underlying2 (hval 5 2 v5 rfl rfl) h5
  clear hA0 hval0
  simp only [List.append_nil] at hW'
  refine (walk a b c x y z w0 w1 w2 (half_of_wf w3) (half_of_wf w4) (half_of_wf w5) W1).mono fun e W' ⟨he, hg⟩ => ?_
  subst he
  exact ⟨_, rfl, post_of_below (pa := []) (pv := []) hW' (fun _ _ _ => (trodAll_cons_mk (shut_bool Try.underlying4 _) trodAll_mk0)) (fun sp _ => (trodAll_cons_mk (shut_W _) (trodAll_cons_mk (shut_W _) (trodAll_cons_mk (shut_W _) (trodAll_cons_mk (shut_int Try.underlying2 w3) (trodAll_cons_mk (shut_int Try.underlying2 w4) (trodAll_cons_mk (shut_int Try.underlying2 w5) trodAll_mk0))))))) (fun _ _ => rfl) rfl hg (ok_one (by kernel_rfl) rfl (okWide_bool_mk Try.underlying4 _))⟩

theorem over : Rows.wideRingRow.holds Try.pinned (OpenSpec.ofChange Rows.wideRingSpec) :=
  OpenClaim.holds_of_wide 7 Try.f7 rfl rfl rfl rfl rfl rfl rfl ⟨rfl, rfl, rfl, rfl, rfl⟩ rfl rfl rfl rfl rfl (by kernel_rfl) Try.func7 (by kernel_rfl)
    (of_decide_eq_true (by kernel_rfl)) (by unfold Func.isWrapper; first | (rw [if_pos (by decide +kernel)]; kernel_rfl) | (rw [if_neg (by decide +kernel)]; exact ⟨rfl, rfl⟩))
    (fun os started H enc _ => lifted os started H enc)

theorem proved : Rows.WideRingSaid :=
  over
end Go.Proofs.Ytdmfbkpnjjaemaa.wideRing
