/- What is clamped is within, and what is within stays. -/
import Derived.Test.YtmedemniopgpeaaRows
import Derived.Test.YtmedemniopgpeaaVecW
import Derived.Test.YtmedemniopgpeaaVecR
import Derived.Test.YtmedemniopgpeaaLawK
import Derived.WalkKit
import Derived.ProofKit
import Derived.OpenShut
import Derived.Deep.RegionHeld3
namespace Go.Proofs.Ytmedemniopgpeaa.vecWithin
open Go.ChangeShapes Go.WideShapes Go.ChangeAt Go.RowKit
set_option linter.unusedVariables false

attribute [local go_sem] cell_re eqW_self eqV_self
attribute [local go_sem ↓] run_eqlW run_neqW run_eqlV

/-- What is known of one axis x, clamped by M: where it went, whether it moved, and where it was. -/
def Axis (x M p : Int) (k : Bool) : Prop := (-M ≤ p ∧ p ≤ M) ∧ (k = false → p = x) ∧ ((k = false ∧ x ≤ M ∧ -M ≤ x) ∨ (k = true ∧ M < x) ∨ (k = true ∧ x < -M))
theorem axis_of (x : Int) {M : Int} (h : 0 ≤ M) : Axis x M (clamp x (-M) M) (clamped x (-M) M) := by
  refine ⟨clamp_within h, fun k => ?_, ?_⟩
  · rw [clamped_iff h] at k
    simp at k
    exact clamp_in k.1 k.2
  · rw [clamped_iff h]
    simp
    omega
/-- Whether all axes that were looked at by round i did not move. -/
def Ins (ka kb kc : Bool) (i : Int) (e : Bool) : Prop := (i = 0 ∧ e = true) ∨ (i = 1 ∧ e = !ka) ∨ (i = 2 ∧ e = !(ka || kb)) ∨ (i = 3 ∧ e = !(ka || kb || kc))
theorem all_in {a b c M p q r : Int} {ka kb kc K : Bool} (fs : Axis a M p ka ∧ Axis b M q kb ∧ Axis c M r kc) (hK : (ka || kb || kc) = K) (h : K = false) : p = a ∧ q = b ∧ r = c := by
  subst h
  simp only [Bool.or_eq_false_iff] at hK
  exact ⟨fs.1.2.1 hK.1.1, fs.2.1.2.1 hK.1.2, fs.2.2.2.1 hK.2⟩

set_option maxRecDepth 100000 in
set_option maxHeartbeats 4000000 in
theorem walk (a b c m : Int) (h0 : Half a ∧ Half b ∧ Half c) (hm : Half m) (w : World) : Calls Try.prog 7 #[V a b c, .int .i64 m] w fun e w' => e = .returned (.bool true) ∧ Below w.heap.size w w' := by
  obtain ⟨ha, hb, hc⟩ := h0
  have hm' := hm
  obtain ⟨m0, m1⟩ := hm'
  rcases Int.lt_trichotomy m 0 with h | h | h
  · have hbd : bound m = 0 := by unfold bound; omega
    have d1 := Lib.hid (fun W1 : World => vecClamp a b c (m) ha hb hc hm W1)
    rw [hbd] at d1
    unfold clampV at d1
    have fs : Hid (Axis a (0) (clamp a (-(0)) (0)) (clamped a (-(0)) (0)) ∧ Axis b (0) (clamp b (-(0)) (0)) (clamped b (-(0)) (0)) ∧ Axis c (0) (clamp c (-(0)) (0)) (clamped c (-(0)) (0))) := ⟨axis_of a (by omega), axis_of b (by omega), axis_of c (by omega)⟩
    obtain ⟨p, hp⟩ : ∃ p, Hid ((clamp a (-(0)) (0)) = p) := ⟨_, rfl⟩
    obtain ⟨q, hq⟩ : ∃ q, Hid ((clamp b (-(0)) (0)) = q) := ⟨_, rfl⟩
    obtain ⟨r, hr⟩ : ∃ r, Hid ((clamp c (-(0)) (0)) = r) := ⟨_, rfl⟩
    obtain ⟨ka, hka⟩ : ∃ ka, Hid ((clamped a (-(0)) (0)) = ka) := ⟨_, rfl⟩
    obtain ⟨kb, hkb⟩ : ∃ kb, Hid ((clamped b (-(0)) (0)) = kb) := ⟨_, rfl⟩
    obtain ⟨kc, hkc⟩ : ∃ kc, Hid ((clamped c (-(0)) (0)) = kc) := ⟨_, rfl⟩
    rw [hp.out, hq.out, hr.out, hka.out, hkb.out, hkc.out] at d1 fs
    clear hp hq hr hka hkb hkc ha hb hc hm hbd
    obtain ⟨K, hK⟩ : ∃ K, Hid ((ka || kb || kc) = K) := ⟨_, rfl⟩
    rw [hK.out] at d1
    have hA := Tri.new w a b c 24
    have hO : Below w.heap.size w (w.alloc (.cells #[.int .i64 a, .int .i64 b, .int .i64 c] 24)) := by go_grown
    go_enter Try.func7, Try.ntmps7
    go_wp2_with fail
    refine (works _).mono ?_
    rintro e w1 ⟨rfl, hb1⟩
    replace hA := hA.call hb1
    replace hO := below_then hO hb1
    clear hb1
    obtain ⟨al, a0, a1, a2, -, -, -⟩ := (id hA : Tri _ _ a b c)
    go_wp2_with fail
    refine (d1.out _).mono ?_
    rintro e w2 ⟨rfl, hb1⟩
    replace hA := hA.call hb1
    replace hO := below_then hO hb1
    clear hb1
    have gA := hA.lt
    have hX := Tri.new w2 p q r 24
    replace hA := hA.alloc (.cells #[.int .i64 p, .int .i64 q, .int .i64 r] 24)
    replace hO := hO.alloc hO.size (.cells #[.int .i64 p, .int .i64 q, .int .i64 r] 24)
    obtain ⟨al, a0, a1, a2, -, -, -⟩ := (id hA : Tri _ _ a b c)
    obtain ⟨xl, x0, x1, x2, -, -, -⟩ := (id hX : Tri _ w2.heap.size p q r)
    have w2n : w.heap.size ≠ w2.heap.size := by omega
    go_wp2
    go_loopw [9, 8] (fun v9 v8 wr => ∃ (i : Int) (e : Bool), v9 = .int .i64 i ∧ v8 = .bool e ∧ Ins ka kb kc i e ∧ Tri wr w.heap.size a b c ∧ Tri wr w2.heap.size p q r ∧ Below w.heap.size w wr) (fun v9 _ _ => 3 - (intOf v9).toNat)
    case atStart => exact ⟨0, true, rfl, rfl, Or.inl ⟨rfl, rfl⟩, hA, hX, hO⟩
    case round =>
      clear hA hX hO a0 a1 a2 x0 x1 x2
      obtain ⟨i, e, rfl, rfl, hst, hA, hX, hO⟩ := hrel
      obtain ⟨al, a0, a1, a2, -, -, -⟩ := (id hA : Tri wr w.heap.size a b c)
      obtain ⟨xl, x0, x1, x2, -, -, -⟩ := (id hX : Tri wr w2.heap.size p q r)
      rcases hst with ⟨rfl, he⟩ | ⟨rfl, he⟩ | ⟨rfl, he⟩ | ⟨rfl, he⟩
      · obtain ⟨f1, f2, f3⟩ := fs.out.1
        rcases f3 with ⟨g1, g2, g3⟩ | ⟨g1, g2⟩ | ⟨g1, g2⟩
        all_goals
          have he' := Lib.hid he
          have g1' := Lib.hid g1
          clear he g1
          cases e
          all_goals
            go_wp2
            all_goals
             go_roundw
             case rel => exact ⟨1, _, by go_num, rfl, Or.inr (Or.inl ⟨rfl, by have h1 := he'.out; have h2 := g1'.out; revert h1 h2; cases ka <;> cases kb <;> cases kc <;> simp <;> omega⟩), hA, hX, hO⟩
             case measure => simp [intOf]
      · obtain ⟨f1, f2, f3⟩ := fs.out.2.1
        rcases f3 with ⟨g1, g2, g3⟩ | ⟨g1, g2⟩ | ⟨g1, g2⟩
        all_goals
          have he' := Lib.hid he
          have g1' := Lib.hid g1
          clear he g1
          cases e
          all_goals
            go_wp2
            all_goals
             go_roundw
             case rel => exact ⟨2, _, by go_num, rfl, Or.inr (Or.inr (Or.inl ⟨rfl, by have h1 := he'.out; have h2 := g1'.out; revert h1 h2; cases ka <;> cases kb <;> cases kc <;> simp <;> omega⟩)), hA, hX, hO⟩
             case measure => simp [intOf]
      · obtain ⟨f1, f2, f3⟩ := fs.out.2.2
        rcases f3 with ⟨g1, g2, g3⟩ | ⟨g1, g2⟩ | ⟨g1, g2⟩
        all_goals
          have he' := Lib.hid he
          have g1' := Lib.hid g1
          clear he g1
          cases e
          all_goals
            go_wp2
            all_goals
             go_roundw
             case rel => exact ⟨3, _, by go_num, rfl, Or.inr (Or.inr (Or.inr ⟨rfl, by have h1 := he'.out; have h2 := g1'.out; revert h1 h2; cases ka <;> cases kb <;> cases kc <;> simp <;> omega⟩)), hA, hX, hO⟩
             case measure => simp [intOf]
      · have he2 : e = !K := he.trans (by rw [hK.out])
        subst he2
        clear he
        have same := all_in fs.out hK.out
        cases K
        · obtain ⟨rfl, rfl, rfl⟩ := same rfl
          clear same
          go_wp2
          go_ret
          exact ⟨rfl, hO⟩
        · clear same
          go_wp2
          go_ret
          exact ⟨rfl, hO⟩
  · subst h
    have hbd : bound 0 = 0 := by decide
    have d1 := Lib.hid (fun W1 : World => vecClamp a b c (0) ha hb hc hm W1)
    rw [hbd] at d1
    unfold clampV at d1
    have fs : Hid (Axis a (0) (clamp a (-(0)) (0)) (clamped a (-(0)) (0)) ∧ Axis b (0) (clamp b (-(0)) (0)) (clamped b (-(0)) (0)) ∧ Axis c (0) (clamp c (-(0)) (0)) (clamped c (-(0)) (0))) := ⟨axis_of a (by omega), axis_of b (by omega), axis_of c (by omega)⟩
    obtain ⟨p, hp⟩ : ∃ p, Hid ((clamp a (-(0)) (0)) = p) := ⟨_, rfl⟩
    obtain ⟨q, hq⟩ : ∃ q, Hid ((clamp b (-(0)) (0)) = q) := ⟨_, rfl⟩
    obtain ⟨r, hr⟩ : ∃ r, Hid ((clamp c (-(0)) (0)) = r) := ⟨_, rfl⟩
    obtain ⟨ka, hka⟩ : ∃ ka, Hid ((clamped a (-(0)) (0)) = ka) := ⟨_, rfl⟩
    obtain ⟨kb, hkb⟩ : ∃ kb, Hid ((clamped b (-(0)) (0)) = kb) := ⟨_, rfl⟩
    obtain ⟨kc, hkc⟩ : ∃ kc, Hid ((clamped c (-(0)) (0)) = kc) := ⟨_, rfl⟩
    rw [hp.out, hq.out, hr.out, hka.out, hkb.out, hkc.out] at d1 fs
    clear hp hq hr hka hkb hkc ha hb hc hm hbd
    obtain ⟨K, hK⟩ : ∃ K, Hid ((ka || kb || kc) = K) := ⟨_, rfl⟩
    rw [hK.out] at d1
    have hA := Tri.new w a b c 24
    have hO : Below w.heap.size w (w.alloc (.cells #[.int .i64 a, .int .i64 b, .int .i64 c] 24)) := by go_grown
    go_enter Try.func7, Try.ntmps7
    go_wp2_with fail
    refine (works _).mono ?_
    rintro e w1 ⟨rfl, hb1⟩
    replace hA := hA.call hb1
    replace hO := below_then hO hb1
    clear hb1
    obtain ⟨al, a0, a1, a2, -, -, -⟩ := (id hA : Tri _ _ a b c)
    go_wp2_with fail
    refine (d1.out _).mono ?_
    rintro e w2 ⟨rfl, hb1⟩
    replace hA := hA.call hb1
    replace hO := below_then hO hb1
    clear hb1
    have gA := hA.lt
    have hX := Tri.new w2 p q r 24
    replace hA := hA.alloc (.cells #[.int .i64 p, .int .i64 q, .int .i64 r] 24)
    replace hO := hO.alloc hO.size (.cells #[.int .i64 p, .int .i64 q, .int .i64 r] 24)
    obtain ⟨al, a0, a1, a2, -, -, -⟩ := (id hA : Tri _ _ a b c)
    obtain ⟨xl, x0, x1, x2, -, -, -⟩ := (id hX : Tri _ w2.heap.size p q r)
    have w2n : w.heap.size ≠ w2.heap.size := by omega
    go_wp2
    go_loopw [9, 8] (fun v9 v8 wr => ∃ (i : Int) (e : Bool), v9 = .int .i64 i ∧ v8 = .bool e ∧ Ins ka kb kc i e ∧ Tri wr w.heap.size a b c ∧ Tri wr w2.heap.size p q r ∧ Below w.heap.size w wr) (fun v9 _ _ => 3 - (intOf v9).toNat)
    case atStart => exact ⟨0, true, rfl, rfl, Or.inl ⟨rfl, rfl⟩, hA, hX, hO⟩
    case round =>
      clear hA hX hO a0 a1 a2 x0 x1 x2
      obtain ⟨i, e, rfl, rfl, hst, hA, hX, hO⟩ := hrel
      obtain ⟨al, a0, a1, a2, -, -, -⟩ := (id hA : Tri wr w.heap.size a b c)
      obtain ⟨xl, x0, x1, x2, -, -, -⟩ := (id hX : Tri wr w2.heap.size p q r)
      rcases hst with ⟨rfl, he⟩ | ⟨rfl, he⟩ | ⟨rfl, he⟩ | ⟨rfl, he⟩
      · obtain ⟨f1, f2, f3⟩ := fs.out.1
        rcases f3 with ⟨g1, g2, g3⟩ | ⟨g1, g2⟩ | ⟨g1, g2⟩
        all_goals
          have he' := Lib.hid he
          have g1' := Lib.hid g1
          clear he g1
          cases e
          all_goals
            go_wp2
            all_goals
             go_roundw
             case rel => exact ⟨1, _, by go_num, rfl, Or.inr (Or.inl ⟨rfl, by have h1 := he'.out; have h2 := g1'.out; revert h1 h2; cases ka <;> cases kb <;> cases kc <;> simp <;> omega⟩), hA, hX, hO⟩
             case measure => simp [intOf]
      · obtain ⟨f1, f2, f3⟩ := fs.out.2.1
        rcases f3 with ⟨g1, g2, g3⟩ | ⟨g1, g2⟩ | ⟨g1, g2⟩
        all_goals
          have he' := Lib.hid he
          have g1' := Lib.hid g1
          clear he g1
          cases e
          all_goals
            go_wp2
            all_goals
             go_roundw
             case rel => exact ⟨2, _, by go_num, rfl, Or.inr (Or.inr (Or.inl ⟨rfl, by have h1 := he'.out; have h2 := g1'.out; revert h1 h2; cases ka <;> cases kb <;> cases kc <;> simp <;> omega⟩)), hA, hX, hO⟩
             case measure => simp [intOf]
      · obtain ⟨f1, f2, f3⟩ := fs.out.2.2
        rcases f3 with ⟨g1, g2, g3⟩ | ⟨g1, g2⟩ | ⟨g1, g2⟩
        all_goals
          have he' := Lib.hid he
          have g1' := Lib.hid g1
          clear he g1
          cases e
          all_goals
            go_wp2
            all_goals
             go_roundw
             case rel => exact ⟨3, _, by go_num, rfl, Or.inr (Or.inr (Or.inr ⟨rfl, by have h1 := he'.out; have h2 := g1'.out; revert h1 h2; cases ka <;> cases kb <;> cases kc <;> simp <;> omega⟩)), hA, hX, hO⟩
             case measure => simp [intOf]
      · have he2 : e = !K := he.trans (by rw [hK.out])
        subst he2
        clear he
        have same := all_in fs.out hK.out
        cases K
        · obtain ⟨rfl, rfl, rfl⟩ := same rfl
          clear same
          go_wp2
          go_ret
          exact ⟨rfl, hO⟩
        · clear same
          go_wp2
          go_ret
          exact ⟨rfl, hO⟩
  · have hbd : bound m = m := by unfold bound; omega
    have d1 := Lib.hid (fun W1 : World => vecClamp a b c (m) ha hb hc hm W1)
    rw [hbd] at d1
    unfold clampV at d1
    have fs : Hid (Axis a (m) (clamp a (-(m)) (m)) (clamped a (-(m)) (m)) ∧ Axis b (m) (clamp b (-(m)) (m)) (clamped b (-(m)) (m)) ∧ Axis c (m) (clamp c (-(m)) (m)) (clamped c (-(m)) (m))) := ⟨axis_of a (by omega), axis_of b (by omega), axis_of c (by omega)⟩
    obtain ⟨p, hp⟩ : ∃ p, Hid ((clamp a (-(m)) (m)) = p) := ⟨_, rfl⟩
    obtain ⟨q, hq⟩ : ∃ q, Hid ((clamp b (-(m)) (m)) = q) := ⟨_, rfl⟩
    obtain ⟨r, hr⟩ : ∃ r, Hid ((clamp c (-(m)) (m)) = r) := ⟨_, rfl⟩
    obtain ⟨ka, hka⟩ : ∃ ka, Hid ((clamped a (-(m)) (m)) = ka) := ⟨_, rfl⟩
    obtain ⟨kb, hkb⟩ : ∃ kb, Hid ((clamped b (-(m)) (m)) = kb) := ⟨_, rfl⟩
    obtain ⟨kc, hkc⟩ : ∃ kc, Hid ((clamped c (-(m)) (m)) = kc) := ⟨_, rfl⟩
    rw [hp.out, hq.out, hr.out, hka.out, hkb.out, hkc.out] at d1 fs
    clear hp hq hr hka hkb hkc ha hb hc hm hbd
    obtain ⟨K, hK⟩ : ∃ K, Hid ((ka || kb || kc) = K) := ⟨_, rfl⟩
    rw [hK.out] at d1
    have hA := Tri.new w a b c 24
    have hO : Below w.heap.size w (w.alloc (.cells #[.int .i64 a, .int .i64 b, .int .i64 c] 24)) := by go_grown
    go_enter Try.func7, Try.ntmps7
    go_wp2_with fail
    refine (works _).mono ?_
    rintro e w1 ⟨rfl, hb1⟩
    replace hA := hA.call hb1
    replace hO := below_then hO hb1
    clear hb1
    obtain ⟨al, a0, a1, a2, -, -, -⟩ := (id hA : Tri _ _ a b c)
    go_wp2_with fail
    refine (d1.out _).mono ?_
    rintro e w2 ⟨rfl, hb1⟩
    replace hA := hA.call hb1
    replace hO := below_then hO hb1
    clear hb1
    have gA := hA.lt
    have hX := Tri.new w2 p q r 24
    replace hA := hA.alloc (.cells #[.int .i64 p, .int .i64 q, .int .i64 r] 24)
    replace hO := hO.alloc hO.size (.cells #[.int .i64 p, .int .i64 q, .int .i64 r] 24)
    obtain ⟨al, a0, a1, a2, -, -, -⟩ := (id hA : Tri _ _ a b c)
    obtain ⟨xl, x0, x1, x2, -, -, -⟩ := (id hX : Tri _ w2.heap.size p q r)
    have w2n : w.heap.size ≠ w2.heap.size := by omega
    go_wp2
    go_loopw [9, 8] (fun v9 v8 wr => ∃ (i : Int) (e : Bool), v9 = .int .i64 i ∧ v8 = .bool e ∧ Ins ka kb kc i e ∧ Tri wr w.heap.size a b c ∧ Tri wr w2.heap.size p q r ∧ Below w.heap.size w wr) (fun v9 _ _ => 3 - (intOf v9).toNat)
    case atStart => exact ⟨0, true, rfl, rfl, Or.inl ⟨rfl, rfl⟩, hA, hX, hO⟩
    case round =>
      clear hA hX hO a0 a1 a2 x0 x1 x2
      obtain ⟨i, e, rfl, rfl, hst, hA, hX, hO⟩ := hrel
      obtain ⟨al, a0, a1, a2, -, -, -⟩ := (id hA : Tri wr w.heap.size a b c)
      obtain ⟨xl, x0, x1, x2, -, -, -⟩ := (id hX : Tri wr w2.heap.size p q r)
      rcases hst with ⟨rfl, he⟩ | ⟨rfl, he⟩ | ⟨rfl, he⟩ | ⟨rfl, he⟩
      · obtain ⟨f1, f2, f3⟩ := fs.out.1
        rcases f3 with ⟨g1, g2, g3⟩ | ⟨g1, g2⟩ | ⟨g1, g2⟩
        all_goals
          have he' := Lib.hid he
          have g1' := Lib.hid g1
          clear he g1
          cases e
          all_goals
            go_wp2
            all_goals
             go_roundw
             case rel => exact ⟨1, _, by go_num, rfl, Or.inr (Or.inl ⟨rfl, by have h1 := he'.out; have h2 := g1'.out; revert h1 h2; cases ka <;> cases kb <;> cases kc <;> simp <;> omega⟩), hA, hX, hO⟩
             case measure => simp [intOf]
      · obtain ⟨f1, f2, f3⟩ := fs.out.2.1
        rcases f3 with ⟨g1, g2, g3⟩ | ⟨g1, g2⟩ | ⟨g1, g2⟩
        all_goals
          have he' := Lib.hid he
          have g1' := Lib.hid g1
          clear he g1
          cases e
          all_goals
            go_wp2
            all_goals
             go_roundw
             case rel => exact ⟨2, _, by go_num, rfl, Or.inr (Or.inr (Or.inl ⟨rfl, by have h1 := he'.out; have h2 := g1'.out; revert h1 h2; cases ka <;> cases kb <;> cases kc <;> simp <;> omega⟩)), hA, hX, hO⟩
             case measure => simp [intOf]
      · obtain ⟨f1, f2, f3⟩ := fs.out.2.2
        rcases f3 with ⟨g1, g2, g3⟩ | ⟨g1, g2⟩ | ⟨g1, g2⟩
        all_goals
          have he' := Lib.hid he
          have g1' := Lib.hid g1
          clear he g1
          cases e
          all_goals
            go_wp2
            all_goals
             go_roundw
             case rel => exact ⟨3, _, by go_num, rfl, Or.inr (Or.inr (Or.inr ⟨rfl, by have h1 := he'.out; have h2 := g1'.out; revert h1 h2; cases ka <;> cases kb <;> cases kc <;> simp <;> omega⟩)), hA, hX, hO⟩
             case measure => simp [intOf]
      · have he2 : e = !K := he.trans (by rw [hK.out])
        subst he2
        clear he
        have same := all_in fs.out hK.out
        cases K
        · obtain ⟨rfl, rfl, rfl⟩ := same rfl
          clear same
          go_wp2
          go_ret
          exact ⟨rfl, hO⟩
        · clear same
          go_wp2
          go_ret
          exact ⟨rfl, hO⟩


set_option maxRecDepth 100000 in
theorem lifted (os : Os) (started : os.Started) (H : Type) (enc : TypeId × Value → H) :
    ReturnsInHanded {} Try.checked os 7 .any (Rows.vecWithinSpec.pre6 enc Try.prog Try.f7 Rows.vecWithinRow.domain false) (Rows.vecWithinSpec.post enc Try.prog Try.f7 false true false false) := by
  refine returnsInHanded_of_change (C := Try.checked) own started (by kernel_rfl) Try.func7
    (ChangeSpec.witness6 (enc := enc) (C := Try.checked) false ⟨#[], #[.agg #[.int .i64 0, .int .i64 0, .int .i64 0], .int .i64 0], []⟩ 8 (by kernel_rfl) (by kernel_rfl) (by kernel_rfl) (by kernel_rfl)) ?_
  intro W1 base args ds gs before hval0 hW hcnd _
  have hval : ∀ (j : Nat) t v, Try.f7.params[j]? = some t → args[j]? = some v → Value.okWide Try.prog W1 .any base t v := hval0
  have hW' := hW
  obtain ⟨p, q, hA0, hV, rfl, hfz, hnd⟩ := hW
  have hA : DataW.TrodAll enc Try.prog W1 0 (fun _ => true) true Try.f7.params.toList args.toList ds p := hA0
  rw [Try.params7] at hA hval
  obtain ⟨v0, vs0, d0, ds0, p0, q0, hargs, rfl, rfl, h0, r0⟩ := trodAll_cons hA
  obtain ⟨v1, vs1, d1, ds1, p1, q1, rfl, rfl, rfl, h1, r1⟩ := trodAll_cons r0
  obtain ⟨rfl, rfl, rfl⟩ := trodAll_nil r1
  obtain rfl : args = #[v0, v1] := by cases args; simp_all
  obtain ⟨rfl, rfl⟩ := trodVars_none hV
  obtain ⟨a, b, c, w0, rfl, -⟩ := open_V (hval 0 24 v0 rfl rfl) h0
  obtain ⟨m, rfl, e1, -, w1⟩ := open_int Try.underlying22 (hval 1 22 v1 rfl rfl) h1
  clear hA0 hval0 hval hA
  refine (walk a b c m w0 (half_of_wf w1) W1).mono fun e W' ⟨he, hg⟩ => ?_
  subst he
  exact ⟨_, rfl, law_post laidOut (by kernel_rfl) rfl (by kernel_rfl) Try.underlying4 hW' rfl hg⟩

theorem over : Rows.vecWithinRow.holds Try.pinned (OpenSpec.ofChange Rows.vecWithinSpec) :=
  OpenClaim.holds_of_wide 7 Try.f7 rfl rfl rfl rfl rfl rfl rfl ⟨rfl, rfl, rfl, rfl, rfl⟩ rfl rfl rfl rfl rfl (by kernel_rfl) Try.func7 (by kernel_rfl)
    (of_decide_eq_true (by kernel_rfl)) (by unfold Func.isWrapper; first | (rw [if_pos (by decide +kernel)]; kernel_rfl) | (rw [if_neg (by decide +kernel)]; exact ⟨rfl, rfl⟩))
    (fun os started H enc _ => lifted os started H enc)

theorem proved : Rows.VecWithinSaid :=
  over
end Go.Proofs.Ytmedemniopgpeaa.vecWithin
