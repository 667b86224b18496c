/- What is widened is narrowed to itself, bytes come back, and what is narrowed, and not saturated, is no further than half a part. -/
import Derived.Test.YtlpajjhkiaobbaaRows
import Derived.Test.YtlpajjhkiaobbaaSmallW
import Derived.Test.YtlpajjhkiaobbaaLawK
import Derived.WalkKit
import Derived.ProofKit
import Derived.OpenShut
namespace Go.Proofs.Ytlpajjhkiaobbaa.smallBack
open Go.ChangeShapes Go.WideShapes Go.ChangeAt Go.RowKit
set_option linter.unusedVariables false

attribute [local go_sem] cell_re eqW_self run_fieldW
attribute [local go_sem ↓] run_eqlW run_neqW

theorem four (u : Int) : ∃ x0 x1 x2 x3, digs 4 u = [x0, x1, x2, x3] := ⟨_, _, _, _, rfl⟩
theorem eight (u : Int) : ∃ y0 y1 y2 y3 y4 y5 y6 y7, digs 8 u = [y0, y1, y2, y3, y4, y5, y6, y7] := ⟨_, _, _, _, _, _, _, _, rfl⟩
theorem back4 (a : Int) (ha : Short a) : got32 (digs 4 (IntKind.u64.wrap a)) = a := by
  unfold Short at ha
  unfold got32
  rw [digs_len, if_neg (by decide), List.take_of_length_le (by rw [digs_len]; decide), IntKind.wrap_u64]
  simp only [digs, num, List.nil_append, List.cons_append, List.foldl_cons, List.foldl_nil, wrap32]
  omega
theorem back8 (a : Int) (ha : Half a) : got64 (digs 8 (IntKind.u64.wrap a)) = a := by
  unfold Half at ha
  unfold got64
  rw [digs_len, if_neg (by decide), List.take_of_length_le (by rw [digs_len]; decide), IntKind.wrap_u64]
  simp only [digs, num, List.nil_append, List.cons_append, List.foldl_cons, List.foldl_nil, wrap64]
  omega
theorem cut_ends (x : Int) (h : cut32 x = true) : clip32 x = 2147483647 ∨ clip32 x = -2147483648 := by
  unfold cut32 at h
  unfold clip32
  simp at h
  omega
theorem uncut (x : Int) (h : cut32 x = false) : clip32 x = x ∧ Short x := by
  unfold cut32 at h
  unfold clip32 Short
  simp at h
  omega
set_option maxRecDepth 100000 in
set_option maxHeartbeats 4000000 in
theorem walk_of (a c m : Int) (k : Bool) (ha : Short a) (hc : Half c) (hm : Short m) (h1 : clip32 ((c + 32768) / 65536) = m) (h2 : cut32 ((c + 32768) / 65536) = k)
    (h3 : (k = true ∧ (m = 2147483647 ∨ m = -2147483648)) ∨ (k = false ∧ 65536 * m - c ≤ 32768 ∧ -32768 < 65536 * m - c)) (w : World) :
    Calls Try.prog 6 #[.int .i32 a, .int .i64 c] w fun e w' => e = .returned (.bool true) ∧ Below w.heap.size w w' := by
  obtain ⟨x0, x1, x2, x3, hx⟩ := four (IntKind.u64.wrap a)
  obtain ⟨y0, y1, y2, y3, y4, y5, y6, y7, hy⟩ := eight (IntKind.u64.wrap c)
  have bx := digs_byted 4 (IntKind.u64.wrap a)
  have by_ := digs_byted 8 (IntKind.u64.wrap c)
  have k4 := back4 a ha
  have k8 := back8 c hc
  rw [hx] at bx k4
  rw [hy] at by_ k8
  have f1 := Lib.hid ha
  have f2 := Lib.hid hc
  have f3 := Lib.hid hm
  have d1 : Hid (∀ W1 : World, Calls Try.prog 8 #[.int .i64 (65536 * a)] W1 fun e w' => e = .returned (.tuple #[.int .i32 a, .bool false]) ∧ Below W1.heap.size W1 w') := fun W1 => by
    have := smallNarrow (65536 * a) (by unfold Short at ha; unfold Half; omega) W1
    rw [show (65536 * a + 32768) / 65536 = a by omega, sat32_eq (show clip32 a = a by unfold Short at ha; unfold clip32; omega) (show cut32 a = false by unfold Short at ha; unfold cut32; simp; omega)] at this
    exact this
  have d2 : Hid (∀ W1 : World, Calls Try.prog 19 #[.int .i32 a] W1 fun e w' => e = .returned (.agg #[.int .u8 x0, .int .u8 x1, .int .u8 x2, .int .u8 x3]) ∧ Below W1.heap.size W1 w') := fun W1 => by
    have := smallPut a ha W1
    rw [hx] at this
    exact this
  have d3 : Hid (∀ W1 : World, Calls Try.prog 20 #[.int .i64 c] W1 fun e w' => e = .returned (.agg #[.int .u8 y0, .int .u8 y1, .int .u8 y2, .int .u8 y3, .int .u8 y4, .int .u8 y5, .int .u8 y6, .int .u8 y7]) ∧ Below W1.heap.size W1 w') := fun W1 => by
    have := smallPutFix c hc W1
    rw [hy] at this
    exact this
  have d4 : Hid (∀ (W1 : World) (p : Option Addr), At .u8 W1 p [x0, x1, x2, x3] → Calls Try.prog 21 #[.slice p 4 4] W1 fun e w' => e = .returned (.tuple #[.int .i32 a, .int .i64 0]) ∧ W1 = w') := fun W1 p h => by
    have := smallGet_any _ bx 4 rfl p 4 (by omega) (by unfold maxLen; omega) W1 h
    rw [k4] at this
    exact this
  have d5 : Hid (∀ (W1 : World) (p : Option Addr), At .u8 W1 p [y0, y1, y2, y3, y4, y5, y6, y7] → Calls Try.prog 24 #[.slice p 8 8] W1 fun e w' => e = .returned (.tuple #[.int .i64 c, .int .i64 0]) ∧ W1 = w') := fun W1 p h => by
    have := smallGetFix_any _ by_ 8 rfl p 8 (by omega) (by unfold maxLen; omega) W1 h
    rw [k8] at this
    exact this
  have d6 : Hid (∀ W1 : World, Calls Try.prog 8 #[.int .i64 c] W1 fun e w' => e = .returned (.tuple #[.int .i32 m, .bool k]) ∧ Below W1.heap.size W1 w') := fun W1 => by
    have := smallNarrow c hc W1
    rw [sat32_eq h1 h2] at this
    exact this
  clear hx hy bx by_ k4 k8 h1 h2
  obtain ⟨a0, a1⟩ := ha
  obtain ⟨c0, c1⟩ := hc
  obtain ⟨m0, m1⟩ := hm
  rcases h3 with ⟨rfl, rfl | rfl⟩ | ⟨rfl, h4, h5⟩
  all_goals
    go_enter Try.func6, Try.ntmps6
    go_wp2_with (first | (go_at_call 18; refine (chain (w0 := w) (by go_grown) (by first | with_reducible exact works _)).mono ?_; rintro e w' ⟨rfl, ht⟩; have hs := ht.size) | (go_at_call 16; refine (chain (w0 := w) (by go_grown) (by first | with_reducible exact smallWiden a f1.out _ | with_reducible exact smallWiden m f3.out _)).mono ?_; rintro e w' ⟨rfl, ht⟩; have hs := ht.size) | (go_at_call 8; refine (chain (w0 := w) (by go_grown) (by first | with_reducible exact d1.out _)).mono ?_; rintro e w' ⟨rfl, ht⟩; have hs := ht.size) | (go_at_call 19; refine (chain (w0 := w) (by go_grown) (by first | with_reducible exact d2.out _)).mono ?_; rintro e w' ⟨rfl, ht⟩; have hs := ht.size) | (go_at_call 20; refine (chain (w0 := w) (by go_grown) (by first | with_reducible exact d3.out _)).mono ?_; rintro e w' ⟨rfl, ht⟩; have hs := ht.size) | (go_at_call 21; refine (d4.out _ _ ((At.new (k := .u8) _ [x0, x1, x2, x3] #[.int .u8 x0, .int .u8 x1, .int .u8 x2, .int .u8 x3] 33 rfl).alloc _)).mono ?_; rintro e w' ⟨rfl, rfl⟩) | (go_at_call 24; refine (d5.out _ _ (At.new_at (k := .u8) _ [y0, y1, y2, y3, y4, y5, y6, y7] #[.int .u8 y0, .int .u8 y1, .int .u8 y2, .int .u8 y3, .int .u8 y4, .int .u8 y5, .int .u8 y6, .int .u8 y7] 35 _ (by simp) rfl)).mono ?_; rintro e w' ⟨rfl, rfl⟩) | (go_at_call 8; refine (chain (w0 := w) (by go_grown) (by first | with_reducible exact d6.out _)).mono ?_; rintro e w' ⟨rfl, ht⟩; have hs := ht.size))
    go_ret
    exact ⟨rfl, by go_grown⟩
theorem walk (a c : Int) (ha : Short a) (hc : Half c) (w : World) : Calls Try.prog 6 #[.int .i32 a, .int .i64 c] w fun e w' => e = .returned (.bool true) ∧ Below w.heap.size w w' := by
  refine walk_of a c _ _ ha hc (short_clip32 _) rfl rfl ?_ w
  cases h : cut32 ((c + 32768) / 65536) with
  | true => exact Or.inl ⟨rfl, cut_ends _ h⟩
  | false =>
    have := (uncut _ h).1
    exact Or.inr ⟨rfl, by omega, by omega⟩


set_option maxRecDepth 100000 in
theorem lifted (os : Os) (started : os.Started) (H : Type) (enc : TypeId × Value → H) :
    ReturnsInHanded {} Try.checked os 6 .any (Rows.smallBackSpec.pre6 enc Try.prog Try.f6 Rows.smallBackRow.domain false) (Rows.smallBackSpec.post enc Try.prog Try.f6 false true false false) := by
  refine returnsInHanded_of_change (C := Try.checked) own started (by kernel_rfl) Try.func6
    (ChangeSpec.witness6 (enc := enc) (C := Try.checked) false ⟨#[], #[.int .i32 0, .int .i64 0], []⟩ 8 (by kernel_rfl) (by kernel_rfl) (by kernel_rfl) (by kernel_rfl)) ?_
  intro W1 base args ds gs before hval0 hW hcnd _
  have hval : ∀ (j : Nat) t v, Try.f6.params[j]? = some t → args[j]? = some v → Value.okWide Try.prog W1 .any base t v := hval0
  have hW' := hW
  obtain ⟨p, q, hA0, hV, rfl, hfz, hnd⟩ := hW
  have hA : DataW.TrodAll enc Try.prog W1 0 (fun _ => true) true Try.f6.params.toList args.toList ds p := hA0
  rw [Try.params6] at hA hval
  obtain ⟨v0, vs0, d0, ds0, p0, q0, hargs, rfl, rfl, h0, r0⟩ := trodAll_cons hA
  obtain ⟨v1, vs1, d1, ds1, p1, q1, rfl, rfl, rfl, h1, r1⟩ := trodAll_cons r0
  obtain ⟨rfl, rfl, rfl⟩ := trodAll_nil r1
  obtain rfl : args = #[v0, v1] := by cases args; simp_all
  obtain ⟨rfl, rfl⟩ := trodVars_none hV
  obtain ⟨a, rfl, e0, -, w0⟩ := open_int Try.underlying22 (hval 0 22 v0 rfl rfl) h0
  obtain ⟨c, rfl, e1, -, w1⟩ := open_int Try.underlying23 (hval 1 23 v1 rfl rfl) h1
  clear hA0 hval0 hval hA
  refine (walk a c (short_of_wf w0) (half_of_wf w1) W1).mono fun e W' ⟨he, hg⟩ => ?_
  subst he
  exact ⟨_, rfl, law_post laidOut (by kernel_rfl) rfl (by kernel_rfl) Try.underlying4 hW' rfl hg⟩

theorem over : Rows.smallBackRow.holds Try.pinned (OpenSpec.ofChange Rows.smallBackSpec) :=
  OpenClaim.holds_of_wide 6 Try.f6 rfl rfl rfl rfl rfl rfl rfl ⟨rfl, rfl, rfl, rfl, rfl⟩ rfl rfl rfl rfl rfl (by kernel_rfl) Try.func6 (by kernel_rfl)
    (of_decide_eq_true (by kernel_rfl)) (by unfold Func.isWrapper; first | (rw [if_pos (by decide +kernel)]; kernel_rfl) | (rw [if_neg (by decide +kernel)]; exact ⟨rfl, rfl⟩))
    (fun os started H enc _ => lifted os started H enc)

theorem proved : Rows.SmallBackSaid :=
  over
end Go.Proofs.Ytlpajjhkiaobbaa.smallBack
