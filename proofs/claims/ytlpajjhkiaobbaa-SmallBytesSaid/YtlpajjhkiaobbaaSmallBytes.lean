/- Numbers are put as bytes, and any bytes read as numbers, as the document's answers have them, or refused. -/
import Derived.Test.YtlpajjhkiaobbaaRows
import Derived.Test.YtlpajjhkiaobbaaSmallW
import Derived.Test.YtlpajjhkiaobbaaLawK
import Derived.WalkKit
import Derived.ProofKit
import Derived.OpenShut
import Derived.Deep.RegionHeld3
namespace Go.Proofs.Ytlpajjhkiaobbaa.smallBytes
open Go.ChangeShapes Go.WideShapes Go.ChangeAt Go.RowKit
set_option linter.unusedVariables false

attribute [local go_sem] cell_re eqW_self run_fieldW
attribute [local go_sem ↓] run_eqlW run_neqW

theorem four (u : Int) : ∃ x0 x1 x2 x3, digs 4 u = [x0, x1, x2, x3] := ⟨_, _, _, _, rfl⟩
theorem eight (u : Int) : ∃ y0 y1 y2 y3 y4 y5 y6 y7, digs 8 u = [y0, y1, y2, y3, y4, y5, y6, y7] := ⟨_, _, _, _, _, _, _, _, rfl⟩
theorem byted_of {zs : List Int} (h : ∀ z ∈ zs, (Lit.int .u8 z).wf = true) : Byted zs := fun z hz => byte_of_wf (h z hz)
set_option maxRecDepth 100000 in
set_option maxHeartbeats 1000000 in
theorem walk (a c : Int) (v : Value) (zs : List Int) (w : World) (ha : Short a) (hc : Half c) (hv : IntsAt .u8 w v zs) :
    Calls Try.prog 4 #[.int .i32 a, .int .i64 c, v] w fun e w' => e = .returned (.bool true) ∧ Below w.heap.size w w' := by
  obtain ⟨p, cap, rfl, hcap, hmax, hwf, hat⟩ := hv
  obtain ⟨n, hn⟩ : ∃ n, Hid (min zs.length 100 = n) := ⟨_, rfl⟩
  have hn1 : n ≤ zs.length ∧ n ≤ 100 := by rw [← hn.out]; omega
  have bz : Byted (zs.take n) := (byted_of hwf).take n
  have lz : n = (zs.take n).length := by rw [List.length_take]; omega
  have az : At .u8 w p (zs.take n) := At.take hat n
  obtain ⟨xs, hxs⟩ : ∃ xs, zs.take n = xs := ⟨_, rfl⟩
  rw [hxs] at bz lz az
  have hl := Lib.hid (show zs.length ≤ 9223372036854775807 by unfold maxLen at hmax; omega)
  have hl2 := Lib.hid (show n ≤ cap ∧ cap ≤ maxLen ∧ n ≤ 100 by omega)
  have q1 := Lib.hid bz
  have q2 := Lib.hid lz
  have q3 := Lib.hid az
  clear bz lz az hxs hat hwf hn1 hmax
  obtain ⟨x0, x1, x2, x3, hx⟩ := four (a % 4294967296)
  obtain ⟨y0, y1, y2, y3, y4, y5, y6, y7, hy⟩ := eight (c % 18446744073709551616)
  have bx := digs_byted 4 (a % 4294967296)
  have by_ := digs_byted 8 (c % 18446744073709551616)
  rw [hx] at bx
  rw [hy] at by_
  have d2 : Hid (∀ W1 : World, Calls Try.prog 19 #[.int .i32 a] W1 fun e w' => e = .returned (.agg #[.int .u8 x0, .int .u8 x1, .int .u8 x2, .int .u8 x3]) ∧ Below W1.heap.size W1 w') := fun W1 => by
    have := smallPut a ha W1
    rw [digs4_mod, hx] at this
    exact this
  have d3 : Hid (∀ W1 : World, Calls Try.prog 20 #[.int .i64 c] W1 fun e w' => e = .returned (.agg #[.int .u8 y0, .int .u8 y1, .int .u8 y2, .int .u8 y3, .int .u8 y4, .int .u8 y5, .int .u8 y6, .int .u8 y7]) ∧ Below W1.heap.size W1 w') := fun W1 => by
    have := smallPutFix c hc W1
    rw [IntKind.wrap_u64, hy] at this
    exact this
  have d4 : Hid (∀ W1 : World, Calls Try.prog 27 #[.int .i32 a] W1 (NewRow .u8 5 W1 [x0, x1, x2, x3])) := fun W1 => by
    have := ref3Put a ha W1
    rw [hx] at this
    exact this
  have d5 : Hid (∀ W1 : World, Calls Try.prog 28 #[.int .i64 c] W1 (NewRow .u8 5 W1 [y0, y1, y2, y3, y4, y5, y6, y7])) := fun W1 => by
    have := ref3PutFix c hc W1
    rw [hy] at this
    exact this
  clear hx hy
  have s4 := Lib.hid (fun (W1 : World) (p q : Option Addr) (c d : Nat) (hp : At .u8 W1 p [x0, x1, x2, x3]) (hq : At .u8 W1 q [x0, x1, x2, x3]) => sameBytes _ _ bx bx 4 4 p q c d rfl rfl W1 hp hq)
  have s8 := Lib.hid (fun (W1 : World) (p q : Option Addr) (c d : Nat) (hp : At .u8 W1 p [y0, y1, y2, y3, y4, y5, y6, y7]) (hq : At .u8 W1 q [y0, y1, y2, y3, y4, y5, y6, y7]) => sameBytes _ _ by_ by_ 8 8 p q c d rfl rfl W1 hp hq)
  rw [decide_eq_true rfl] at s4 s8
  have hB : Below w.heap.size w w := Below.refl _ _
  clear bx by_
  obtain ⟨a0, a1⟩ := ha
  obtain ⟨c0, c1⟩ := hc
  go_enter Try.func4, Try.ntmps4
  go_wp2_with fail
  refine (d2.out _).mono ?_
  rintro e w1 ⟨rfl, hb1⟩
  replace hB := below_then hB hb1
  clear hb1
  go_wp2_with fail
  refine (d3.out _).mono ?_
  rintro e w2 ⟨rfl, hb2⟩
  replace hB := below_then hB hb2
  clear hb2
  go_wp2_with fail
  all_goals
    first
      | (have hn2 : n = 100 := by have := hn.out; have := hl.out; omega)
      | (have hn2 : n = zs.length := by have := hn.out; omega)
    subst hn2
    have ax := Lib.hid ((At.new_at (k := .u8) w2 [x0, x1, x2, x3] #[.int .u8 x0, .int .u8 x1, .int .u8 x2, .int .u8 x3] 33 _ rfl rfl).alloc (.cells #[.int .u8 y0, .int .u8 y1, .int .u8 y2, .int .u8 y3, .int .u8 y4, .int .u8 y5, .int .u8 y6, .int .u8 y7] 35))
    have ay := Lib.hid (At.new_at (k := .u8) (w2.alloc (.cells #[.int .u8 x0, .int .u8 x1, .int .u8 x2, .int .u8 x3] 33)) [y0, y1, y2, y3, y4, y5, y6, y7] #[.int .u8 y0, .int .u8 y1, .int .u8 y2, .int .u8 y3, .int .u8 y4, .int .u8 y5, .int .u8 y6, .int .u8 y7] 35 (w2.heap.size + 1) (by simp) rfl)
    have az := Lib.hid (((q3.out.call hB).alloc (.cells #[.int .u8 x0, .int .u8 x1, .int .u8 x2, .int .u8 x3] 33)).alloc (.cells #[.int .u8 y0, .int .u8 y1, .int .u8 y2, .int .u8 y3, .int .u8 y4, .int .u8 y5, .int .u8 y6, .int .u8 y7] 35))
    replace hB := (hB.alloc hB.size (.cells #[.int .u8 x0, .int .u8 x1, .int .u8 x2, .int .u8 x3] 33)).alloc (by have := hB.size; simp; omega) (.cells #[.int .u8 y0, .int .u8 y1, .int .u8 y2, .int .u8 y3, .int .u8 y4, .int .u8 y5, .int .u8 y6, .int .u8 y7] 35)
    refine (baseBytes xs (by have := hl2.out; have := q2.out; omega) _ q2.out p _ _ az.out).mono ?_
    rintro e w3 ⟨p3, c3, rfl, own3, h31, h32, hb3⟩
    replace hB := below_then hB hb3
    have a3 := Lib.hid (At.of_own own3)
    replace az := Lib.hid (az.out.call hb3)
    replace ax := Lib.hid (ax.out.call hb3)
    replace ay := Lib.hid (ay.out.call hb3)
    clear own3 hb3
    go_wp2_with fail
    refine (smallGet_any xs q1.out _ rfl p3 c3 h31 h32 _ a3.out).mono ?_
    rintro e w4 ⟨rfl, rfl⟩
    go_wp2_with fail
    refine (ref3Get xs q1.out _ q2.out p _ (by have := hl2.out; omega) (by have := hl2.out; omega) _ az.out).mono ?_
    rintro e w5 ⟨rfl, rfl⟩
    go_wp2_with fail
    refine (baseBytes xs (by have := hl2.out; have := q2.out; omega) _ q2.out p _ _ az.out).mono ?_
    rintro e w4 ⟨p4, c4, rfl, own4, h41, h42, hb4⟩
    replace hB := below_then hB hb4
    have a4 := Lib.hid (At.of_own own4)
    replace az := Lib.hid (az.out.call hb4)
    replace ax := Lib.hid (ax.out.call hb4)
    replace ay := Lib.hid (ay.out.call hb4)
    clear own4 hb4
    go_wp2_with fail
    refine (smallGetFix_any xs q1.out _ rfl p4 c4 h41 h42 _ a4.out).mono ?_
    rintro e w5 ⟨rfl, rfl⟩
    go_wp2_with fail
    refine (ref3GetFix xs q1.out _ q2.out p _ (by have := hl2.out; omega) (by have := hl2.out; omega) _ az.out).mono ?_
    rintro e w6 ⟨rfl, rfl⟩
    obtain ⟨g1, hg1⟩ : ∃ g, Hid (got32 xs = g) := ⟨_, rfl⟩
    obtain ⟨g2, hg2⟩ : ∃ g, Hid (got64 xs = g) := ⟨_, rfl⟩
    obtain ⟨g3, hg3⟩ : ∃ g, Hid (few 4 xs = g) := ⟨_, rfl⟩
    obtain ⟨g4, hg4⟩ : ∃ g, Hid (few 8 xs = g) := ⟨_, rfl⟩
    rw [hg1.out, hg2.out, hg3.out, hg4.out]
    clear hg1 hg2 hg3 hg4 hcap hl q1 q3 hl2 q2 az a3 a4 d2 d3 h31 h32 h41 h42 hn
    go_wp2_with fail
    go_region_held3 (fun _ => True) (trivial) ((first | (go_at_call 27; refine (d4.out _).mono ?_; rintro e w7 ⟨p7, c7, rfl, own7, h71, h72, hb7⟩; have ax7 := Lib.hid (ax.out.drew.call hb7); have ay7 := Lib.hid (ay.out.drew.call hb7); have a7 := Lib.hid (At.of_own own7); have hB7 := below_then hB.drew hb7) | (go_at_call 26; (with_reducible refine (s4.out _ _ _ _ _ ax7.out a7.out).mono ?_); rintro e w8 ⟨rfl, rfl⟩) | (go_at_call 28; refine (d5.out _).mono ?_; rintro e w9 ⟨p9, c9, rfl, own9, h91, h92, hb9⟩; have ay9 := Lib.hid (ay7.out.call hb9); have a9 := Lib.hid (At.of_own own9); have hB9 := below_then hB7 hb9) | (go_at_call 26; (with_reducible refine (s8.out _ _ _ _ _ ay9.out a9.out).mono ?_); rintro e w10 ⟨rfl, rfl⟩) | (go_at_call 18; refine (works _).mono ?_; rintro e w11 ⟨rfl, hb11⟩; have hB11 := below_then hB9 hb11)))
    go_wp2
    go_ret
    exact ⟨rfl, hB11⟩


set_option maxRecDepth 100000 in
theorem lifted (os : Os) (started : os.Started) (H : Type) (enc : TypeId × Value → H) :
    ReturnsInHanded {} Try.checked os 4 .any (Rows.smallBytesSpec.pre6 enc Try.prog Try.f4 Rows.smallBytesRow.domain false) (Rows.smallBytesSpec.post enc Try.prog Try.f4 false true false false) := by
  refine returnsInHanded_of_change (C := Try.checked) own started (by kernel_rfl) Try.func4
    (ChangeSpec.witness6 (enc := enc) (C := Try.checked) false ⟨#[], #[.int .i32 0, .int .i64 0, .slice none 0 0], []⟩ 8 (by kernel_rfl) (by kernel_rfl) (by kernel_rfl) (by kernel_rfl)) ?_
  intro W1 base args ds gs before hval0 hW hcnd _
  have hval : ∀ (j : Nat) t v, Try.f4.params[j]? = some t → args[j]? = some v → Value.okWide Try.prog W1 .any base t v := hval0
  have hW' := hW
  obtain ⟨p, q, hA0, hV, rfl, hfz, hnd⟩ := hW
  have hA : DataW.TrodAll enc Try.prog W1 0 (fun _ => true) true Try.f4.params.toList args.toList ds p := hA0
  rw [Try.params4] at hA hval
  obtain ⟨v0, vs0, d0, ds0, p0, q0, hargs, rfl, rfl, h0, r0⟩ := trodAll_cons hA
  obtain ⟨v1, vs1, d1, ds1, p1, q1, rfl, rfl, rfl, h1, r1⟩ := trodAll_cons r0
  obtain ⟨v2, vs2, d2, ds2, p2, q2, rfl, rfl, rfl, h2, r2⟩ := trodAll_cons r1
  obtain ⟨rfl, rfl, rfl⟩ := trodAll_nil r2
  obtain rfl : args = #[v0, v1, v2] := by cases args; simp_all
  obtain ⟨rfl, rfl⟩ := trodVars_none hV
  obtain ⟨a, rfl, e0, -, w0⟩ := open_int Try.underlying22 (hval 0 22 v0 rfl rfl) h0
  obtain ⟨c, rfl, e1, -, w1⟩ := open_int Try.underlying23 (hval 1 23 v1 rfl rfl) h1
  obtain ⟨b, w2⟩ := open_list (k := .u8) Try.underlying32 Try.underlying5 (by kernel_rfl) (hval 2 32 v2 rfl rfl) h2
  clear hA0 hval0 hval hA
  refine (walk a c v2 b W1 (short_of_wf w0) (half_of_wf w1) w2).mono fun e W' ⟨he, hg⟩ => ?_
  subst he
  exact ⟨_, rfl, law_post laidOut (by kernel_rfl) rfl (by kernel_rfl) Try.underlying4 hW' rfl hg⟩

theorem over : Rows.smallBytesRow.holds Try.pinned (OpenSpec.ofChange Rows.smallBytesSpec) :=
  OpenClaim.holds_of_wide 4 Try.f4 rfl rfl rfl rfl rfl rfl rfl ⟨rfl, rfl, rfl, rfl, rfl⟩ rfl rfl rfl rfl rfl (by kernel_rfl) Try.func4 (by kernel_rfl)
    (of_decide_eq_true (by kernel_rfl)) (by unfold Func.isWrapper; first | (rw [if_pos (by decide +kernel)]; kernel_rfl) | (rw [if_neg (by decide +kernel)]; exact ⟨rfl, rfl⟩))
    (fun os started H enc _ => lifted os started H enc)

theorem proved : Rows.SmallBytesSaid :=
  over
end Go.Proofs.Ytlpajjhkiaobbaa.smallBytes
