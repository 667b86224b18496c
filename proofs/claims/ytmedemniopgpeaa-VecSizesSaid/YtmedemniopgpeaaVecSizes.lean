/- Length, greatest axis, what is clamped, and the vector of length One are as the document's answers have them. -/
import Derived.Test.YtmedemniopgpeaaRows
import Derived.Test.YtmedemniopgpeaaVecW
import Derived.Test.YtmedemniopgpeaaVecR
import Derived.Test.YtmedemniopgpeaaVecT
import Derived.Test.YtmedemniopgpeaaRefQ
import Derived.Test.YtmedemniopgpeaaRefS
import Derived.Test.YtmedemniopgpeaaRefT
import Derived.Test.YtmedemniopgpeaaLawK
import Derived.WalkKit
import Derived.ProofKit
import Derived.OpenShut
import Derived.Deep.RegionHeld3
namespace Go.Proofs.Ytmedemniopgpeaa.vecSizes
open Go.ChangeShapes Go.WideShapes Go.ChangeAt Go.RowKit
set_option linter.unusedVariables false

attribute [local go_sem] cell_re eqW_self eqV_self
attribute [local go_sem ↓] run_eqlW run_neqW run_eqlV

theorem unitOf_form (a b c : Int) : ∃ x y z k, unitOf a b c = .tuple #[V x y z, .bool k] := by
  unfold unitOf
  split
  · exact ⟨_, _, _, _, rfl⟩
  · exact ⟨_, _, _, _, rfl⟩

set_option maxRecDepth 100000 in
set_option maxHeartbeats 4000000 in
theorem walk (a b c m : Int) (h0 : Half a ∧ Half b ∧ Half c) (hm : Half m) (w : World) : Calls Try.prog 4 #[V a b c, .int .i64 m] w fun e w' => e = .returned (.bool true) ∧ Below w.heap.size w w' := by
  obtain ⟨ha, hb, hc⟩ := h0
  have d1 := Lib.hid (fun W1 : World => vecLength a b c ha hb hc W1)
  have d2 := Lib.hid (fun W1 : World => ref6Length a b c ha hb hc W1)
  have d3 := Lib.hid (fun W1 : World => vecClamp a b c m ha hb hc hm W1)
  have d4 := Lib.hid (fun W1 : World => ref6Clamp a b c m ha hb hc hm W1)
  have d5 := Lib.hid (fun W1 : World => vecUnit a b c ha hb hc W1)
  have d6 := Lib.hid (fun W1 : World => ref6Unit a b c ha hb hc W1)
  have d7 := Lib.hid (fun W1 : World => vecGreatest a b c ha hb hc W1)
  have d8 := Lib.hid (fun W1 : World => ref6Greatest a b c ha hb hc W1)
  obtain ⟨x, y, z, k2, hu⟩ := unitOf_form a b c
  rw [hu] at d5 d6
  unfold sat at d1 d2
  unfold clampV at d3 d4
  obtain ⟨n, hn⟩ : ∃ n, Hid ((clipped (len a b c)) = n) := ⟨_, rfl⟩
  obtain ⟨k, hk⟩ : ∃ k, Hid ((cut (len a b c)) = k) := ⟨_, rfl⟩
  obtain ⟨p, hp⟩ : ∃ p, Hid ((clamp a (-bound m) (bound m)) = p) := ⟨_, rfl⟩
  obtain ⟨q, hq⟩ : ∃ q, Hid ((clamp b (-bound m) (bound m)) = q) := ⟨_, rfl⟩
  obtain ⟨r, hr⟩ : ∃ r, Hid ((clamp c (-bound m) (bound m)) = r) := ⟨_, rfl⟩
  obtain ⟨t, ht⟩ : ∃ t, Hid ((clamped a (-bound m) (bound m) || clamped b (-bound m) (bound m) || clamped c (-bound m) (bound m)) = t) := ⟨_, rfl⟩
  obtain ⟨g, hg⟩ : ∃ g, Hid ((greatest a b c) = g) := ⟨_, rfl⟩
  rw [hn.out, hk.out] at d1 d2
  rw [hp.out, hq.out, hr.out, ht.out] at d3 d4
  rw [hg.out] at d7 d8
  clear hn hk hp hq hr ht ha hb hc hm hg hu
  have hA := Tri.new w a b c 24
  have hO : Below w.heap.size w (w.alloc (.cells #[.int .i64 a, .int .i64 b, .int .i64 c] 24)) := by go_grown
  go_enter Try.func4, Try.ntmps4
  obtain ⟨al, a0, a1, a2, -, -, -⟩ := (id hA : Tri _ _ a b c)
  go_wp2_with fail
  refine (d1.out _).mono ?_
  rintro e w1 ⟨rfl, hb1⟩
  replace hA := hA.call hb1
  replace hO := below_then hO hb1
  clear hb1
  obtain ⟨al, a0, a1, a2, -, -, -⟩ := (id hA : Tri _ _ a b c)
  go_wp2_with fail
  refine (d2.out _).mono ?_
  rintro e w1 ⟨rfl, hb1⟩
  replace hA := hA.call hb1
  replace hO := below_then hO hb1
  clear hb1
  obtain ⟨al, a0, a1, a2, -, -, -⟩ := (id hA : Tri _ _ a b c)
  go_wp2_with fail
  refine (d3.out _).mono ?_
  rintro e w3 ⟨rfl, hb1⟩
  replace hA := hA.call hb1
  replace hO := below_then hO hb1
  clear hb1
  have hX := Tri.new w3 p q r 24
  replace hA := hA.alloc (.cells #[.int .i64 p, .int .i64 q, .int .i64 r] 24)
  replace hO := hO.alloc hO.size (.cells #[.int .i64 p, .int .i64 q, .int .i64 r] 24)
  obtain ⟨al, a0, a1, a2, -, -, -⟩ := (id hA : Tri _ _ a b c)
  go_wp2_with fail
  refine (d4.out _).mono ?_
  rintro e w4 ⟨rfl, hb1⟩
  replace hA := hA.call hb1
  replace hX := hX.call hb1
  replace hO := below_then hO hb1
  clear hb1
  have hY := Tri.new w4 p q r 24
  replace hA := hA.alloc (.cells #[.int .i64 p, .int .i64 q, .int .i64 r] 24)
  replace hX := hX.alloc (.cells #[.int .i64 p, .int .i64 q, .int .i64 r] 24)
  replace hO := hO.alloc hO.size (.cells #[.int .i64 p, .int .i64 q, .int .i64 r] 24)
  obtain ⟨al, a0, a1, a2, -, -, -⟩ := (id hA : Tri _ _ a b c)
  go_wp2_with fail
  refine (d5.out _).mono ?_
  rintro e w5 ⟨rfl, hb1⟩
  replace hA := hA.call hb1
  replace hX := hX.call hb1
  replace hY := hY.call hb1
  replace hO := below_then hO hb1
  clear hb1
  have hU := Tri.new w5 x y z 24
  replace hA := hA.alloc (.cells #[.int .i64 x, .int .i64 y, .int .i64 z] 24)
  replace hX := hX.alloc (.cells #[.int .i64 x, .int .i64 y, .int .i64 z] 24)
  replace hY := hY.alloc (.cells #[.int .i64 x, .int .i64 y, .int .i64 z] 24)
  replace hO := hO.alloc hO.size (.cells #[.int .i64 x, .int .i64 y, .int .i64 z] 24)
  obtain ⟨al, a0, a1, a2, -, -, -⟩ := (id hA : Tri _ _ a b c)
  go_wp2_with fail
  refine (d6.out _).mono ?_
  rintro e w6 ⟨rfl, hb1⟩
  replace hA := hA.call hb1
  replace hX := hX.call hb1
  replace hY := hY.call hb1
  replace hU := hU.call hb1
  replace hO := below_then hO hb1
  clear hb1
  have hT := Tri.new w6 x y z 24
  replace hA := hA.alloc (.cells #[.int .i64 x, .int .i64 y, .int .i64 z] 24)
  replace hX := hX.alloc (.cells #[.int .i64 x, .int .i64 y, .int .i64 z] 24)
  replace hY := hY.alloc (.cells #[.int .i64 x, .int .i64 y, .int .i64 z] 24)
  replace hU := hU.alloc (.cells #[.int .i64 x, .int .i64 y, .int .i64 z] 24)
  replace hO := hO.alloc hO.size (.cells #[.int .i64 x, .int .i64 y, .int .i64 z] 24)
  obtain ⟨al, a0, a1, a2, -, -, -⟩ := (id hA : Tri _ _ a b c)
  obtain ⟨xl, x0, x1, x2, -, -, -⟩ := (id hX : Tri _ _ p q r)
  obtain ⟨yl, y0, y1, y2, -, -, -⟩ := (id hY : Tri _ _ p q r)
  obtain ⟨ul, u0, u1, u2, -, -, -⟩ := (id hU : Tri _ _ x y z)
  obtain ⟨tl, t0, t1, t2, -, -, -⟩ := (id hT : Tri _ _ x y z)
  clear hA hX hY hU hT
  simp only [World.size_alloc] at al xl yl ul tl
  go_wp2_with fail
  refine wp_region_quiet_below (by kernel_rfl) (by kernel_rfl) ?_
  repeat (go_big_quiet_step (first | (go_at_call 19; first | with_reducible exact Calls.regrown_of (d7.out _)) | (go_at_call 20; first | with_reducible exact Calls.regrown_of (d8.out _)) | (go_at_call 12; first | with_reducible exact Calls.regrown_of (works _))))
  refine wpQuiet_nil ?_
  intro wq hwq
  have hbq := below_of_re hwq
  clear hwq
  replace hO := below_then hO hbq
  go_wp2
  go_ret
  exact ⟨rfl, hO⟩


set_option maxRecDepth 100000 in
theorem lifted (os : Os) (started : os.Started) (H : Type) (enc : TypeId × Value → H) :
    ReturnsInHanded {} Try.checked os 4 .any (Rows.vecSizesSpec.pre6 enc Try.prog Try.f4 Rows.vecSizesRow.domain false) (Rows.vecSizesSpec.post enc Try.prog Try.f4 false true false false) := by
  refine returnsInHanded_of_change (C := Try.checked) own started (by kernel_rfl) Try.func4
    (ChangeSpec.witness6 (enc := enc) (C := Try.checked) false ⟨#[], #[.agg #[.int .i64 0, .int .i64 0, .int .i64 0], .int .i64 0], []⟩ 8 (by kernel_rfl) (by kernel_rfl) (by kernel_rfl) (by kernel_rfl)) ?_
  intro W1 base args ds gs before hval0 hW hcnd _
  have hval : ∀ (j : Nat) t v, Try.f4.params[j]? = some t → args[j]? = some v → Value.okWide Try.prog W1 .any base t v := hval0
  have hW' := hW
  obtain ⟨p, q, hA0, hV, rfl, hfz, hnd⟩ := hW
  have hA : DataW.TrodAll enc Try.prog W1 0 (fun _ => true) true Try.f4.params.toList args.toList ds p := hA0
  rw [Try.params4] at hA hval
  obtain ⟨v0, vs0, d0, ds0, p0, q0, hargs, rfl, rfl, h0, r0⟩ := trodAll_cons hA
  obtain ⟨v1, vs1, d1, ds1, p1, q1, rfl, rfl, rfl, h1, r1⟩ := trodAll_cons r0
  obtain ⟨rfl, rfl, rfl⟩ := trodAll_nil r1
  obtain rfl : args = #[v0, v1] := by cases args; simp_all
  obtain ⟨rfl, rfl⟩ := trodVars_none hV
  obtain ⟨a, b, c, w0, rfl, -⟩ := open_V (hval 0 24 v0 rfl rfl) h0
  obtain ⟨m, rfl, e1, -, w1⟩ := open_int Try.underlying22 (hval 1 22 v1 rfl rfl) h1
  clear hA0 hval0 hval hA
  refine (walk a b c m w0 (half_of_wf w1) W1).mono fun e W' ⟨he, hg⟩ => ?_
  subst he
  exact ⟨_, rfl, law_post laidOut (by kernel_rfl) rfl (by kernel_rfl) Try.underlying4 hW' rfl hg⟩

theorem over : Rows.vecSizesRow.holds Try.pinned (OpenSpec.ofChange Rows.vecSizesSpec) :=
  OpenClaim.holds_of_wide 4 Try.f4 rfl rfl rfl rfl rfl rfl rfl ⟨rfl, rfl, rfl, rfl, rfl⟩ rfl rfl rfl rfl rfl (by kernel_rfl) Try.func4 (by kernel_rfl)
    (of_decide_eq_true (by kernel_rfl)) (by unfold Func.isWrapper; first | (rw [if_pos (by decide +kernel)]; kernel_rfl) | (rw [if_neg (by decide +kernel)]; exact ⟨rfl, rfl⟩))
    (fun os started H enc _ => lifted os started H enc)

theorem proved : Rows.VecSizesSaid :=
  over
end Go.Proofs.Ytmedemniopgpeaa.vecSizes
