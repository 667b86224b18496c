/- The digest of bytes, in the document's answers. -/
import Derived.Test.YtmhehnimgkmmaaaDoorHashE
import Derived.Test.YtmhehnimgkmmaaaDoorHasC
import Derived.Deep.RegionHeld3
import Derived.Deep.DeepCutAuto
import Derived.IntWalk
namespace Go.Proofs.YtmhehnimgkmmaaaDoor
set_option maxRecDepth 100000
open Go.RowKit
set_option linter.unusedVariables false
attribute [local go_sem] cell_re

theorem of_step {i M0 : Nat} (e : wrap64 ((i : Int) + 64) = ((i + 64 : Nat) : Int)) (h : M0 - (i + 64) < M0 - i) : M0 - (intOf (.int .i64 (wrap64 ((i : Int) + 64)))).toNat < M0 - (intOf (.int .i64 (i : Int))).toNat := by
  rw [e]
  simp only [intOf, Int.toNat_natCast]
  exact h
theorem part_getD (l : List Int) (o j : Nat) (h : j < 64) : ((l.drop o).take 64).getD j 0 = l.getD (o + j) 0 := by
  rw [List.getD_eq_getElem?_getD, List.getD_eq_getElem?_getD, List.getElem?_take, if_pos h, List.getElem?_drop]
theorem part_words (l : List Int) (o : Nat) : words16 ((l.drop o).take 64) 0 = words16 l o := by
  unfold words16
  refine List.map_congr_left fun i hi => ?_
  have hi := List.mem_range.mp hi
  unfold wordAt
  rw [part_getD _ _ _ (by omega), part_getD _ _ _ (by omega), part_getD _ _ _ (by omega), part_getD _ _ _ (by omega)]
  simp only [Nat.zero_add, Nat.add_assoc]
theorem padded_byted {xs : List Int} (h : Byted xs) : Byted (padded xs) := by
  unfold padded
  refine (h.append ?_).append ?_
  · intro x hx
    rcases List.mem_cons.mp hx with rfl | hx
    · omega
    · rw [List.eq_of_mem_replicate hx]; omega
  · intro x hx
    simp only [bytes8, List.mem_cons, List.not_mem_nil, or_false] at hx
    rcases hx with rfl | rfl | rfl | rfl | rfl | rfl | rfl | rfl <;> omega
set_option maxRecDepth 200000 in
set_option maxHeartbeats 16000000 in
theorem ref8Of (xs : List Int) (hb : Byted xs) (hl : xs.length ≤ 1000000000) (n : Nat) (hn : n = xs.length) (p : Option Addr) (c : Nat) (w : World) (hx : At .u8 w p xs) :
    Calls Tryd.prog 25 #[.slice p n c] w fun e w' => e = .returned (.agg (ints .u8 (sha xs)).toArray) ∧ Below w.heap.size w w' := by
  have hR := Arr.new (k := .u8) w (List.replicate 32 0) #[.int .u8 0, .int .u8 0, .int .u8 0, .int .u8 0, .int .u8 0, .int .u8 0, .int .u8 0, .int .u8 0, .int .u8 0, .int .u8 0, .int .u8 0, .int .u8 0, .int .u8 0, .int .u8 0, .int .u8 0, .int .u8 0, .int .u8 0, .int .u8 0, .int .u8 0, .int .u8 0, .int .u8 0, .int .u8 0, .int .u8 0, .int .u8 0, .int .u8 0, .int .u8 0, .int .u8 0, .int .u8 0, .int .u8 0, .int .u8 0, .int .u8 0, .int .u8 0] 46 rfl
  have hO : Below w.heap.size w (w.alloc (.cells #[.int .u8 0, .int .u8 0, .int .u8 0, .int .u8 0, .int .u8 0, .int .u8 0, .int .u8 0, .int .u8 0, .int .u8 0, .int .u8 0, .int .u8 0, .int .u8 0, .int .u8 0, .int .u8 0, .int .u8 0, .int .u8 0, .int .u8 0, .int .u8 0, .int .u8 0, .int .u8 0, .int .u8 0, .int .u8 0, .int .u8 0, .int .u8 0, .int .u8 0, .int .u8 0, .int .u8 0, .int .u8 0, .int .u8 0, .int .u8 0, .int .u8 0, .int .u8 0] 46)) := by go_grown
  have d1 := Lib.hid (ref8Padded xs hl n hn p c _ (hx.alloc (.cells #[.int .u8 0, .int .u8 0, .int .u8 0, .int .u8 0, .int .u8 0, .int .u8 0, .int .u8 0, .int .u8 0, .int .u8 0, .int .u8 0, .int .u8 0, .int .u8 0, .int .u8 0, .int .u8 0, .int .u8 0, .int .u8 0, .int .u8 0, .int .u8 0, .int .u8 0, .int .u8 0, .int .u8 0, .int .u8 0, .int .u8 0, .int .u8 0, .int .u8 0, .int .u8 0, .int .u8 0, .int .u8 0, .int .u8 0, .int .u8 0, .int .u8 0, .int .u8 0] 46)))
  have hB8 := Lib.hid (padded_byted hb)
  have hPl := Lib.hid (padded_length xs).1
  have hPz := Lib.hid (show (padded xs).length ≤ 1000000200 by have := padded_length xs; unfold noughts at this; omega)
  obtain ⟨P, hP⟩ : ∃ P, Hid (padded xs = P) := ⟨_, rfl⟩
  rw [hP.out] at d1 hB8 hPl hPz
  obtain ⟨T, hT⟩ : ∃ T, Hid (P.length = 64 * T) := ⟨_, hPl.out⟩
  clear hb hl hn hx hPl
  go_enter Tryd.func25, Tryd.ntmps25
  go_wp2_with (first
    | (go_at_call 32; refine d1.out.mono ?_; intro e' w1 hr; obtain ⟨q, n', cap, rfl, m, hb1⟩ := hr.mine)
    | (go_at_call 33; refine (ref8First _).mono ?_; rintro e' w2 ⟨rfl, hb2⟩))
  have hO1 := below_then hO hb1
  have hR1 := hR.call hb1
  have hE : Eight (w2.alloc (.cells #[.int .u32 first8.a, .int .u32 first8.b, .int .u32 first8.c, .int .u32 first8.d, .int .u32 first8.e, .int .u32 first8.f, .int .u32 first8.g, .int .u32 first8.h] 64)) w2.heap.size first8 := Eight.new w2 first8 64
  have hC0 : Below w1.heap.size w1 (w2.alloc (.cells #[.int .u32 first8.a, .int .u32 first8.b, .int .u32 first8.c, .int .u32 first8.d, .int .u32 first8.e, .int .u32 first8.f, .int .u32 first8.g, .int .u32 first8.h] 64)) := hb2.alloc hb2.size _
  have hge : w1.heap.size ≤ w2.heap.size := hb2.size
  generalize World.alloc w2 (.cells #[.int .u32 first8.a, .int .u32 first8.b, .int .u32 first8.c, .int .u32 first8.d, .int .u32 first8.e, .int .u32 first8.f, .int .u32 first8.g, .int .u32 first8.h] 64) = w3 at hE hC0 ⊢
  generalize w2.heap.size = gs at hE hge ⊢
  have hn' := Lib.hid m.len
  have hcap := m.hi
  have hat := m.at_
  clear d1 hb1 hb2 m hO hR
  go_wp2
  obtain ⟨M0, hM0⟩ : ∃ M0, Hid (64 * T + 64 = M0) := ⟨_, rfl⟩
  go_loopw [5] (fun v5 wr => ∃ (i k : Nat), Hid (i = 64 * k) ∧ k ≤ T ∧ v5 = .int .i64 i ∧ Eight wr gs (blocks8 P first8 k) ∧ Below w1.heap.size w1 wr) (fun v5 _ => M0 - (intOf v5).toNat)
  case atStart => exact ⟨0, 0, Lib.hid rfl, Nat.zero_le _, rfl, hE, hC0⟩
  case round =>
    clear hE hC0
    obtain ⟨i, k, hik, hk, rfl, hE, hC⟩ := hrel
    have hik' := hik.out
    have hnP := hn'.out
    have hTT := hT.out
    have hz := hPz.out
    by_cases hlt : k < T
    · have hsk := Lib.hid (blocks8_ok first8_ok P k)
      have hnext : Hid (block8 (blocks8 P first8 k) (words16 P i) = blocks8 P first8 (k + 1)) := by show _ = _; rw [hik']; rfl
      rcases (id hat) with h | ⟨bb, off, rfl, hbl, hcs⟩
      · exact absurd hTT (by rw [h]; simp; omega)
      clear hcs hbl
      have hat2 : At .u8 w1 (some ⟨bb, off + i, none⟩) ((P.drop i).take 64) := (hat.drop i).take 64
      have hby := (hB8.out.drop i).take 64
      have hpl : ((P.drop i).take 64).length = 64 := by rw [List.length_take, List.length_drop]; omega
      have d2 : Hid (∀ W1 : World, Below w1.heap.size w1 W1 → Calls Tryd.prog 34 #[A8 (blocks8 P first8 k), .slice (some ⟨bb, off + i, none⟩) 64 (cap - i)] W1 fun e w' => e = .returned (A8 (blocks8 P first8 (k + 1))) ∧ Below W1.heap.size W1 w') := fun W1 h => by
        have := ref8Block (blocks8 P first8 k) hsk.out _ hby hpl (some ⟨bb, off + i, none⟩) (cap - i) W1 (hat2.call h)
        rw [part_words] at this
        rw [← hnext.out]
        exact this
      clear hat2 hby hpl hsk hnext
      generalize hS2 : blocks8 P first8 (k + 1) = S2 at *
      have hS2' := Lib.hid hS2
      clear hS2
      generalize blocks8 P first8 k = S at *
      have j1 : (i : Int) + 64 ≤ (n' : Int) := by omega
      have j2 : i + 64 ≤ n' := by omega
      have j3 : n' ≤ cap := hcap
      have y1 : IntKind.i64.wrap ((i : Int) + 64) = (i : Int) + 64 := IntWalk.i64_in _ (by omega)
      have z1 : ((i : Int) + 64).toNat = i + 64 := by omega
      have y3 : (0 : Int) ≤ (i : Int) + 64 := by omega
      have j4 : i + 64 ≤ cap := by omega
      have j5 : i ≤ i + 64 := by omega
      have j8 : ¬ cap = i := by omega
      have j6 : (i : Int) ≤ (i : Int) + 64 := by omega
      have j7 : (i : Int) + 64 ≤ (cap : Int) := by omega
      have j9 := Lib.hid (show k + 1 ≤ T by omega)
      have jm := Lib.hid (show i < 64 * T by omega)
      have hms := Lib.hid (show M0 - (i + 64) < M0 - i by have := hM0.out; omega)
      have hiw := Lib.hid (show wrap64 ((i : Int) + 64) = ((i + 64 : Nat) : Int) by unfold wrap64; omega)
      clear hik' hnP hTT hz hcap
      obtain ⟨sl, s0, s1, s2, s3, s4, s5, s6, s7, -, -, -, -, -, -, -, -⟩ := (id hE)
      go_upto_region 6 with fail
      go_region_with (first
        | (go_at_call 34; refine (d2.out _ hC.drew).mono ?_; rintro e' wx ⟨rfl, hbx⟩; have hE1 := hE.drew.call hbx; have hC1 := below_then hC.drew hbx; obtain ⟨xl, x0, x1, x2, x3, x4, x5, x6, x7, x8, x9, x10, x11, x12, x13, x14, x15⟩ := (id hE1)))
      all_goals
        clear hE hC y1 z1 y3 j4 j5 j6 j7 j8 x0 s0 x1 s1 x2 s2 x3 s3 x4 s4 x5 s5 x6 s6 x7 s7
        have hE2 := hE1.same S2
        have hC2 := below_putE hC1 hge S2
        clear hE1 hC1
        go_wp2
        go_roundw
        case rel => exact ⟨i + 64, k + 1, by have := hik.out; show _ = _; omega, j9.out, by rw [hiw.out], by rw [hS2'.out]; exact hE2, hC2⟩
        case measure => exact of_step hiw.out hms.out
    · obtain rfl : k = T := by omega
      have j1 : ¬ (i : Int) + 64 ≤ (n' : Int) := by omega
      have iw : (i : Int) ≤ 1000000200 := by omega
      have hSok : (blocks8 P first8 k).Ok := blocks8_ok first8_ok P k
      have hD0 : sha xs = digestOf (blocks8 P first8 k) := by
        have e : sha xs = digestOf (blocks8 (padded xs) first8 ((padded xs).length / 64)) := rfl
        rw [e, hP.out, hTT, Nat.mul_div_cancel_left _ (by decide : 0 < 64)]
      generalize blocks8 P first8 k = S at *
      have hdg := Lib.hid (fun (a b : Nat) (ha : a < 8) (hb : b < 4) => digest_get S hSok a b ha hb)
      have hwu := Lib.hid (fun a => wordsOf_u32 hSok a)
      have hDl := Lib.hid (digestOf_length S)
      have hWl := Lib.hid (show (wordsOf S).length = 8 from rfl)
      have hA0 : Arr .u32 wr gs (wordsOf S) := by
        obtain ⟨sl, s0, s1, s2, s3, s4, s5, s6, s7, f0, f1, f2, f3, f4, f5, f6, f7⟩ := hE
        refine ⟨sl, fun j hj => ?_, fun j hj => ?_⟩ <;> (replace hj : j < 8 := hj; have hj8 : j = 0 ∨ j = 1 ∨ j = 2 ∨ j = 3 ∨ j = 4 ∨ j = 5 ∨ j = 6 ∨ j = 7 := (by omega); rcases hj8 with rfl | rfl | rfl | rfl | rfl | rfl | rfl | rfl) <;> assumption
      have hR2 := hR1.call hC
      have hB2 := below_then hO1 hC
      have hgs : w.heap.size ≤ gs := Nat.le_trans hO1.size hge
      have hrs : w.heap.size ≠ gs := by have h1 := hR1.lt; omega
      obtain ⟨WS, hWS⟩ : ∃ W, Hid (wordsOf S = W) := ⟨_, rfl⟩
      obtain ⟨D, hD⟩ : ∃ D, Hid (digestOf S = D) := ⟨_, rfl⟩
      rw [hWS.out] at hdg hwu hWl hA0
      rw [hD.out] at hdg hDl hD0
      replace hD0 := Lib.hid hD0
      obtain ⟨Z, hZ⟩ : ∃ Z, Hid ((List.replicate 32 0 : List Int) = Z) := ⟨_, rfl⟩
      have hZl : Hid (Z.length = 32) := (by rw [← hZ.out]; exact (rfl : _ = _))
      rw [hZ.out] at hR2
      obtain ⟨Y, hY⟩ : ∃ Y, Hid ((ints .u8 D).toArray = Y) := ⟨_, rfl⟩
      obtain ⟨wa, rfl⟩ : ∃ wa, wa = wr := ⟨wr, rfl⟩
      clear hE hC hO1 hR1 hSok hlt hk hTT hz hnP hik' hB8 hPz
      go_upto_region 8 with (first
        | (refine walk_arr (o := ⟨some 6, _, _, _, _, _⟩) rfl 46 rfl .u8 (List.replicate 32 0) (by kernel_rfl) ?_; intro w4 hA4 hB4 hs4)
        | (refine walk_store rfl 46 _ _ rfl hA4 rfl (ints .u8 (List.replicate 32 0)).toArray rfl rfl (by kernel_rfl) rfl ?_; intro w5 hA5 hs5 ho5))
      have hG0 : wa.heap.size = w4.heap.size - 1 := by omega
      have hgG : gs ≠ wa.heap.size := Nat.ne_of_lt hA0.lt
      have hrG : w.heap.size ≠ wa.heap.size := Nat.ne_of_lt hR2.lt
      have hwG : w.heap.size ≤ wa.heap.size := hB2.size
      have hA6 := (hA0.call hB4).only ho5 hgG hs5
      have hR6 := (hR2.call hB4).only ho5 hrG hs5
      have hB6 := below_only (below_then hB2 hB4) ho5 hwG hs5
      replace hA5 : Arr .u8 w5 wa.heap.size (fillTo D 32 (4 * 0)) := hA5
      clear hA4 hB4 hs4 hs5 ho5 hA0 hR2 hB2 hG0
      generalize wa.heap.size = go at *
      go_wp2
      go_loopw [7] (fun v7 wr => ∃ (j : Nat), j ≤ 8 ∧ v7 = .int .i64 j ∧ Arr .u32 wr gs WS ∧ Arr .u8 wr w.heap.size Z ∧ Arr .u8 wr go (fillTo D 32 (4 * j)) ∧ Below w.heap.size w wr) (fun v7 _ => 8 - (intOf v7).toNat)
      case atStart => exact ⟨0, by omega, rfl, hA6, hR6, hA5, hB6⟩
      case round =>
        clear hA6 hR6 hA5 hB6
        obtain ⟨j, hj, rfl, hA, hR, hF, hB⟩ := hrel
        by_cases hlt : j < 8
        · have cs := hA.c j (by rw [hWl.out]; exact hlt)
          have la := hA.lt
          have lf := hF.lt
          obtain ⟨x0, x1⟩ := hwu.out j
          have v3 := hdg.out j 3 hlt (by decide)
          have v2 := hdg.out j 2 hlt (by decide)
          have v1 := hdg.out j 1 hlt (by decide)
          have v0 := hdg.out j 0 hlt (by decide)
          rw [show (256 : Int) ^ (3 - 3) = 1 by decide] at v3
          rw [show (256 : Int) ^ (3 - 2) = 256 by decide] at v2
          rw [show (256 : Int) ^ (3 - 1) = 65536 by decide] at v1
          rw [show (256 : Int) ^ (3 - 0) = 16777216 by decide] at v0
          have hfour := Lib.hid (fillTo_set4 D 32 (4 * j) (by rw [hDl.out]; omega) (by omega))
          have hfl := Lib.hid (fillTo_length D 32 (4 * j) (by rw [hDl.out]; omega) (by omega))
          generalize WS.getD j 0 = x at *
          obtain ⟨y1, hy1⟩ : ∃ y, Hid (x / 256 = y) := ⟨_, rfl⟩
          obtain ⟨y2, hy2⟩ : ∃ y, Hid (y1 / 256 = y) := ⟨_, rfl⟩
          obtain ⟨y3, hy3⟩ : ∃ y, Hid (y2 / 256 = y) := ⟨_, rfl⟩
          have e3 : Hid (x % 256 = D.getD (4 * j + 3) 0) := by show _ = _; rw [v3]; omega
          have e2 : Hid (y1 % 256 = D.getD (4 * j + 2) 0) := by show _ = _; rw [v2, hy1.out]
          have e1 : Hid (y2 % 256 = D.getD (4 * j + 1) 0) := by show _ = _; rw [v1, ← hy2.out, ← hy1.out]; omega
          have e0 : Hid (y3 % 256 = D.getD (4 * j) 0) := by show _ = _; rw [show 4 * j = 4 * j + 0 from rfl, v0, ← hy3.out, ← hy2.out, ← hy1.out]; omega
          have p1 : 0 ≤ y1 ∧ y1 ≤ 4294967295 := by rw [← hy1.out]; omega
          have p2 : 0 ≤ y2 ∧ y2 ≤ 4294967295 := by rw [← hy2.out]; omega
          have p3 : 0 ≤ y3 ∧ y3 ≤ 4294967295 := by rw [← hy3.out]; omega
          obtain ⟨p10, p11⟩ := p1
          obtain ⟨p20, p21⟩ := p2
          obtain ⟨p30, p31⟩ := p3
          rw [← e3.out, ← e2.out, ← e1.out, ← e0.out] at hfour
          have q1 := hy1.out
          have q2 := hy2.out
          have q3 := hy3.out
          have z3 : (4 * (j : Int) + 3).toNat = 4 * j + 3 := by omega
          have z2 : (4 * (j : Int) + 2).toNat = 4 * j + 2 := by omega
          have z1 : (4 * (j : Int) + 1).toNat = 4 * j + 1 := by omega
          have z0 : (4 * (j : Int)).toNat = 4 * j := by omega
          have jj : (j : Int) < 8 := by omega
          have t3 : 4 * (j : Int) + 3 < 32 := by omega
          have t2 : 4 * (j : Int) + 2 < 32 := by omega
          have t1 : 4 * (j : Int) + 1 < 32 := by omega
          have t0 : 4 * (j : Int) < 32 := by omega
          clear v0 v1 v2 v3
          go_wp2
          refine wp_loop_rounds 5 ?_
          rw [rounds_succ]
          obtain ⟨u3', ck⟩ : ∃ u, wr.cell? ⟨go, 4 * j + 3, none⟩ = some (.int .u8 u) := ⟨_, hF.c (4 * j + 3) (by have := hfl.out; omega)⟩
          have fk := hF.f (4 * j + 3) (by have := hfl.out; omega)
          go_wp2
          clear ck fk
          replace hF := hF.set (4 * j + 3) (x % 256) (by have := hfl.out; omega)
          replace hA := hA.apart hgG (4 * j + 3) (.int .u8 (x % 256))
          replace hR := hR.apart hrG (4 * j + 3) (.int .u8 (x % 256))
          replace hB := hB.setCell (p := ⟨go, 4 * j + 3, none⟩) hwG (.int .u8 (x % 256))
          replace lf := hF.lt
          generalize wr.setCell ⟨go, 4 * j + 3, none⟩ (.int .u8 (x % 256)) = wz0 at hF hA hR hB lf ⊢
          rw [rounds_succ]
          obtain ⟨u2', ck⟩ : ∃ u, wz0.cell? ⟨go, 4 * j + 2, none⟩ = some (.int .u8 u) := ⟨_, hF.c (4 * j + 2) (by simp only [List.length_set]; have := hfl.out; omega)⟩
          have fk := hF.f (4 * j + 2) (by simp only [List.length_set]; have := hfl.out; omega)
          go_wp2
          clear ck fk
          replace hF := hF.set (4 * j + 2) (y1 % 256) (by simp only [List.length_set]; have := hfl.out; omega)
          replace hA := hA.apart hgG (4 * j + 2) (.int .u8 (y1 % 256))
          replace hR := hR.apart hrG (4 * j + 2) (.int .u8 (y1 % 256))
          replace hB := hB.setCell (p := ⟨go, 4 * j + 2, none⟩) hwG (.int .u8 (y1 % 256))
          replace lf := hF.lt
          generalize wz0.setCell ⟨go, 4 * j + 2, none⟩ (.int .u8 (y1 % 256)) = wz1 at hF hA hR hB lf ⊢
          rw [rounds_succ]
          obtain ⟨u1', ck⟩ : ∃ u, wz1.cell? ⟨go, 4 * j + 1, none⟩ = some (.int .u8 u) := ⟨_, hF.c (4 * j + 1) (by simp only [List.length_set]; have := hfl.out; omega)⟩
          have fk := hF.f (4 * j + 1) (by simp only [List.length_set]; have := hfl.out; omega)
          go_wp2
          clear ck fk
          replace hF := hF.set (4 * j + 1) (y2 % 256) (by simp only [List.length_set]; have := hfl.out; omega)
          replace hA := hA.apart hgG (4 * j + 1) (.int .u8 (y2 % 256))
          replace hR := hR.apart hrG (4 * j + 1) (.int .u8 (y2 % 256))
          replace hB := hB.setCell (p := ⟨go, 4 * j + 1, none⟩) hwG (.int .u8 (y2 % 256))
          replace lf := hF.lt
          generalize wz1.setCell ⟨go, 4 * j + 1, none⟩ (.int .u8 (y2 % 256)) = wz2 at hF hA hR hB lf ⊢
          rw [rounds_succ]
          obtain ⟨u0', ck⟩ : ∃ u, wz2.cell? ⟨go, 4 * j, none⟩ = some (.int .u8 u) := ⟨_, hF.c (4 * j) (by simp only [List.length_set]; have := hfl.out; omega)⟩
          have fk := hF.f (4 * j) (by simp only [List.length_set]; have := hfl.out; omega)
          go_wp2
          clear ck fk
          replace hF := hF.set (4 * j) (y3 % 256) (by simp only [List.length_set]; have := hfl.out; omega)
          replace hA := hA.apart hgG (4 * j) (.int .u8 (y3 % 256))
          replace hR := hR.apart hrG (4 * j) (.int .u8 (y3 % 256))
          replace hB := hB.setCell (p := ⟨go, 4 * j, none⟩) hwG (.int .u8 (y3 % 256))
          replace lf := hF.lt
          generalize wz2.setCell ⟨go, 4 * j, none⟩ (.int .u8 (y3 % 256)) = wz3 at hF hA hR hB lf ⊢
          rw [rounds_succ]
          rw [hfour.out] at hF
          go_wp2
          go_roundw
          case rel => exact ⟨j + 1, by omega, by go_num, hA, hR, by rw [show 4 * (j + 1) = 4 * j + 4 by omega]; exact hF, hB⟩
          case measure => simp [intOf]; omega
        · obtain rfl : j = 8 := by omega
          rw [show ((8 : Nat) : Int) = 8 from rfl]
          rw [show 4 * 8 = 32 from rfl, fillTo_all D 32 hDl.out] at hF
          go_wp2_with (first
            | (refine walk_read rfl 46 _ rfl hF rfl 32 _ Tryd.underlying46 (by kernel_rfl) hDl.out Y hY ?_)
            | (refine walk_store rfl 46 _ _ rfl hR rfl Y hY rfl (by rw [hDl.out]; kernel_rfl) (by rw [hDl.out, hZl.out]) ?_; intro w9 hR9 hs9 ho9))
          refine bodyPost_ret (results_cell_mid rfl _ _ w.heap.size (ints .u8 D) _ rfl hR9.range Tryd.underlying46 rfl (by rw [ints, List.length_map, hDl.out]; kernel_rfl)) rfl ?_
          exact ⟨by rw [hD0.out], below_only hB ho9 (Nat.le_refl _) hs9⟩

end Go.Proofs.YtmhehnimgkmmaaaDoor
