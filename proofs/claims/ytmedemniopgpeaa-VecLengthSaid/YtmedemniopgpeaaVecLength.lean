/- No axis is longer than the length, and the length of the opposite is the same. -/
import Derived.Test.YtmedemniopgpeaaRows
import Derived.Test.YtmedemniopgpeaaVecW
import Derived.Test.YtmedemniopgpeaaLawK
import Derived.WalkKit
import Derived.ProofKit
import Derived.OpenShut
import Derived.Deep.RegionHeld3
namespace Go.Proofs.Ytmedemniopgpeaa.vecLength
open Go.ChangeShapes Go.WideShapes Go.ChangeAt Go.RowKit
set_option linter.unusedVariables false

attribute [local go_sem] cell_re eqW_self eqV_self
attribute [local go_sem ↓] run_eqlW run_neqW run_eqlV

theorem greatest_le {a b c : Int} (ha : Half a) (hb : Half b) (hc : Half c) : greatest a b c ≤ len a b c ∧ greatest a b c ≤ 9223372036854775807 := by
  have := bare_le_len ha hb hc
  unfold greatest
  omega

set_option maxRecDepth 100000 in
set_option maxHeartbeats 4000000 in
theorem walk (a b c : Int) (h0 : Half a ∧ Half b ∧ Half c) (w : World) : Calls Try.prog 6 #[V a b c] w fun e w' => e = .returned (.bool true) ∧ Below w.heap.size w w' := by
  obtain ⟨ha, hb, hc⟩ := h0
  have d1 := Lib.hid (fun W1 : World => vecLength a b c ha hb hc W1)
  have d2 := Lib.hid (fun W1 : World => vecGreatest a b c ha hb hc W1)
  have g1 := greatest_le ha hb hc
  have l0 := len_lo ha hb hc
  have d3 : Hid (-9223372036854775807 ≤ a → -9223372036854775807 ≤ b → -9223372036854775807 ≤ c → ∀ W1 : World, Calls Try.prog 13 #[V (-a) (-b) (-c)] W1 fun e w' => e = .returned (sat (len a b c)) ∧ Below W1.heap.size W1 w') := fun h1 h2 h3 W1 => by
    have := vecLength (-a) (-b) (-c) (by unfold Half at *; omega) (by unfold Half at *; omega) (by unfold Half at *; omega) W1
    rw [len_neg] at this
    exact this
  obtain ⟨g, hg⟩ : ∃ g, greatest a b c = g := ⟨_, rfl⟩
  rw [hg] at d2 g1
  clear hg
  have ways : Hid (∃ (n : Int) (k : Bool), sat (len a b c) = .tuple #[.int .i64 n, .bool k] ∧ g ≤ n ∧ 0 ≤ n ∧ (k = true → n = 9223372036854775807)) := by
    rcases Int.lt_or_le 9223372036854775807 (len a b c) with h | h
    · exact ⟨_, _, clip_over h, g1.2, by omega, fun _ => rfl⟩
    · exact ⟨_, _, sat_in _ (by unfold Half; omega), g1.1, l0, fun h => by cases h⟩
  obtain ⟨n, k, hn, n0, n1, n2⟩ := ways.out
  rw [hn] at d1 d3
  clear ways hn g1 l0
  obtain ⟨a0, a1⟩ := ha
  obtain ⟨b0, b1⟩ := hb
  obtain ⟨c0, c1⟩ := hc
  have hA := Tri.new w a b c 24
  have hO : Below w.heap.size w (w.alloc (.cells #[.int .i64 a, .int .i64 b, .int .i64 c] 24)) := by go_grown
  have kw : (k = false ∧ 0 ≤ n) ∨ (k = true ∧ 9223372036854775807 = n) := by
    cases k
    · exact Or.inl ⟨rfl, n1⟩
    · exact Or.inr ⟨rfl, (n2 rfl).symm⟩
  clear n2
  rcases kw with ⟨rfl, -⟩ | ⟨rfl, rfl⟩
  all_goals
    rcases Int.lt_or_le (-9223372036854775808) a with h1 | h1
    · rcases Int.lt_or_le (-9223372036854775808) b with h2 | h2
      · rcases Int.lt_or_le (-9223372036854775808) c with h3 | h3
        · replace d3 := Lib.hid (d3.out (by omega) (by omega) (by omega))
          have m1 : (a == -9223372036854775808) = false := by simp; omega
          have m2 : (b == -9223372036854775808) = false := by simp; omega
          have m3 : (c == -9223372036854775808) = false := by simp; omega
          go_enter Try.func6, Try.ntmps6
          go_wp2_with fail
          refine (works _).mono ?_
          rintro e w1 ⟨rfl, hb1⟩
          replace hA := hA.call hb1
          replace hO := below_then hO hb1
          clear hb1
          obtain ⟨xl, x0, x1, x2, -, -, -⟩ := (id hA : Tri _ _ a b c)
          go_wp2_with fail
          refine (d1.out _).mono ?_
          rintro e w2 ⟨rfl, hb1⟩
          replace hA := hA.call hb1
          replace hO := below_then hO hb1
          clear hb1
          obtain ⟨xl, x0, x1, x2, -, -, -⟩ := (id hA : Tri _ _ a b c)
          go_wp2_with fail
          refine (d2.out _).mono ?_
          rintro e w3 ⟨rfl, hb1⟩
          replace hA := hA.call hb1
          replace hO := below_then hO hb1
          clear hb1
          obtain ⟨xl, x0, x1, x2, -, -, -⟩ := (id hA : Tri _ _ a b c)
          go_wp2_with fail
          refine (d3.out _).mono ?_
          rintro e w4 ⟨rfl, hb1⟩
          replace hA := hA.call hb1
          replace hO := below_then hO hb1
          clear hb1
          go_wp2
          go_ret
          exact ⟨rfl, hO⟩
        · obtain rfl : c = -9223372036854775808 := by omega
          clear d3
          go_enter Try.func6, Try.ntmps6
          go_wp2_with fail
          refine (works _).mono ?_
          rintro e w1 ⟨rfl, hb1⟩
          replace hA := hA.call hb1
          replace hO := below_then hO hb1
          clear hb1
          obtain ⟨xl, x0, x1, x2, -, -, -⟩ := (id hA : Tri _ _ a b (-9223372036854775808))
          go_wp2_with fail
          refine (d1.out _).mono ?_
          rintro e w2 ⟨rfl, hb1⟩
          replace hA := hA.call hb1
          replace hO := below_then hO hb1
          clear hb1
          obtain ⟨xl, x0, x1, x2, -, -, -⟩ := (id hA : Tri _ _ a b (-9223372036854775808))
          go_wp2_with fail
          refine (d2.out _).mono ?_
          rintro e w3 ⟨rfl, hb1⟩
          replace hA := hA.call hb1
          replace hO := below_then hO hb1
          clear hb1
          obtain ⟨xl, x0, x1, x2, -, -, -⟩ := (id hA : Tri _ _ a b (-9223372036854775808))
          go_wp2
          go_ret
          exact ⟨rfl, hO⟩
      · obtain rfl : b = -9223372036854775808 := by omega
        clear d3
        go_enter Try.func6, Try.ntmps6
        go_wp2_with fail
        refine (works _).mono ?_
        rintro e w1 ⟨rfl, hb1⟩
        replace hA := hA.call hb1
        replace hO := below_then hO hb1
        clear hb1
        obtain ⟨xl, x0, x1, x2, -, -, -⟩ := (id hA : Tri _ _ a (-9223372036854775808) c)
        go_wp2_with fail
        refine (d1.out _).mono ?_
        rintro e w2 ⟨rfl, hb1⟩
        replace hA := hA.call hb1
        replace hO := below_then hO hb1
        clear hb1
        obtain ⟨xl, x0, x1, x2, -, -, -⟩ := (id hA : Tri _ _ a (-9223372036854775808) c)
        go_wp2_with fail
        refine (d2.out _).mono ?_
        rintro e w3 ⟨rfl, hb1⟩
        replace hA := hA.call hb1
        replace hO := below_then hO hb1
        clear hb1
        obtain ⟨xl, x0, x1, x2, -, -, -⟩ := (id hA : Tri _ _ a (-9223372036854775808) c)
        go_wp2
        go_ret
        exact ⟨rfl, hO⟩
    · obtain rfl : a = -9223372036854775808 := by omega
      clear d3
      go_enter Try.func6, Try.ntmps6
      go_wp2_with fail
      refine (works _).mono ?_
      rintro e w1 ⟨rfl, hb1⟩
      replace hA := hA.call hb1
      replace hO := below_then hO hb1
      clear hb1
      obtain ⟨xl, x0, x1, x2, -, -, -⟩ := (id hA : Tri _ _ (-9223372036854775808) b c)
      go_wp2_with fail
      refine (d1.out _).mono ?_
      rintro e w2 ⟨rfl, hb1⟩
      replace hA := hA.call hb1
      replace hO := below_then hO hb1
      clear hb1
      obtain ⟨xl, x0, x1, x2, -, -, -⟩ := (id hA : Tri _ _ (-9223372036854775808) b c)
      go_wp2_with fail
      refine (d2.out _).mono ?_
      rintro e w3 ⟨rfl, hb1⟩
      replace hA := hA.call hb1
      replace hO := below_then hO hb1
      clear hb1
      obtain ⟨xl, x0, x1, x2, -, -, -⟩ := (id hA : Tri _ _ (-9223372036854775808) b c)
      go_wp2
      go_ret
      exact ⟨rfl, hO⟩


set_option maxRecDepth 100000 in
theorem lifted (os : Os) (started : os.Started) (H : Type) (enc : TypeId × Value → H) :
    ReturnsInHanded {} Try.checked os 6 .any (Rows.vecLengthSpec.pre6 enc Try.prog Try.f6 Rows.vecLengthRow.domain false) (Rows.vecLengthSpec.post enc Try.prog Try.f6 false true false false) := by
  refine returnsInHanded_of_change (C := Try.checked) own started (by kernel_rfl) Try.func6
    (ChangeSpec.witness6 (enc := enc) (C := Try.checked) false ⟨#[], #[.agg #[.int .i64 0, .int .i64 0, .int .i64 0]], []⟩ 8 (by kernel_rfl) (by kernel_rfl) (by kernel_rfl) (by kernel_rfl)) ?_
  intro W1 base args ds gs before hval0 hW hcnd _
  have hval : ∀ (j : Nat) t v, Try.f6.params[j]? = some t → args[j]? = some v → Value.okWide Try.prog W1 .any base t v := hval0
  have hW' := hW
  obtain ⟨p, q, hA0, hV, rfl, hfz, hnd⟩ := hW
  have hA : DataW.TrodAll enc Try.prog W1 0 (fun _ => true) true Try.f6.params.toList args.toList ds p := hA0
  rw [Try.params6] at hA hval
  obtain ⟨v0, vs0, d0, ds0, p0, q0, hargs, rfl, rfl, h0, r0⟩ := trodAll_cons hA
  obtain ⟨rfl, rfl, rfl⟩ := trodAll_nil r0
  obtain rfl : args = #[v0] := by cases args; simp_all
  obtain ⟨rfl, rfl⟩ := trodVars_none hV
  obtain ⟨a, b, c, w0, rfl, -⟩ := open_V (hval 0 24 v0 rfl rfl) h0
  clear hA0 hval0 hval hA
  refine (walk a b c w0 W1).mono fun e W' ⟨he, hg⟩ => ?_
  subst he
  exact ⟨_, rfl, law_post laidOut (by kernel_rfl) rfl (by kernel_rfl) Try.underlying4 hW' rfl hg⟩

theorem over : Rows.vecLengthRow.holds Try.pinned (OpenSpec.ofChange Rows.vecLengthSpec) :=
  OpenClaim.holds_of_wide 6 Try.f6 rfl rfl rfl rfl rfl rfl rfl ⟨rfl, rfl, rfl, rfl, rfl⟩ rfl rfl rfl rfl rfl (by kernel_rfl) Try.func6 (by kernel_rfl)
    (of_decide_eq_true (by kernel_rfl)) (by unfold Func.isWrapper; first | (rw [if_pos (by decide +kernel)]; kernel_rfl) | (rw [if_neg (by decide +kernel)]; exact ⟨rfl, rfl⟩))
    (fun os started H enc _ => lifted os started H enc)

theorem proved : Rows.VecLengthSaid :=
  over
end Go.Proofs.Ytmedemniopgpeaa.vecLength
