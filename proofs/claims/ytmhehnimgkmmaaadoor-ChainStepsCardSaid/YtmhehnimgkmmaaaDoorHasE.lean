/- A block turns a state, in the program. -/
import Derived.Test.YtmhehnimgkmmaaaDoorHasD
import Derived.Deep.RegionHeld3
import Derived.Deep.DeepCutAuto
import Derived.IntWalk
import Derived.Deep.QuietTactic
import Derived.BigQuiet
namespace Go.Proofs.YtmhehnimgkmmaaaDoor
set_option maxRecDepth 100000
open Go.RowKit
set_option linter.unusedVariables false
attribute [local go_sem] cell_re

/-- Block 0 holds the table. -/
def Steps (w : World) : Prop := ∃ t fr, w.heap[0]? = some (.cells (ints .u32 tableL).toArray t fr)
theorem Steps.lt {w : World} (h : Steps w) : 0 < w.heap.size := by
  obtain ⟨t, fr, h⟩ := h
  rcases Nat.eq_zero_or_pos w.heap.size with h0 | h0
  · rw [Array.getElem?_eq_none (by omega)] at h; cases h
  · exact h0
theorem Steps.call {w w' : World} (h : Steps w) (hb : Below w.heap.size w w') : Steps w' := by
  obtain ⟨t, fr, h1⟩ := id h
  exact ⟨t, fr, (hb.block 0 h.lt).trans h1⟩
theorem Steps.cell {w : World} (h : Steps w) (i : Nat) (hi : i < 64) : w.cell? ⟨0, i, none⟩ = some (.int .u32 (tableL.getD i 0)) := by
  obtain ⟨t, fr, h⟩ := h
  have : (ints .u32 tableL).toArray[i]? = some (.int .u32 (tableL.getD i 0)) := by
    rw [List.getElem?_toArray, ints, List.getElem?_map, List.getD_eq_getElem?_getD, List.getElem?_eq_getElem (show i < tableL.length from hi)]; rfl
  rw [← this]
  exact cell_of_row w 0 i _ t fr h
/-- Kept beside: the result's variable, and what was there before. -/
structure TAt (gs gr : Nat) (l Z : List Int) (w W : World) : Prop where
  s : Arr .u32 W gs l
  r : Arr .u32 W gr Z
  b : Below w.heap.size w W
theorem TAt.call {gs gr : Nat} {l Z : List Int} {w W W' : World} (h : TAt gs gr l Z w W) (hb : Below W.heap.size W W') : TAt gs gr l Z w W' := ⟨h.s.call hb, h.r.call hb, below_then h.b hb⟩
theorem TAt.drew {gs gr : Nat} {l Z : List Int} {w W : World} (h : TAt gs gr l Z w W) : TAt gs gr l Z w W.drew := ⟨h.s.drew, h.r.drew, h.b.drew⟩
theorem TAt.other {gs gr G : Nat} {l Z : List Int} {w W W' : World} (h : TAt gs gr l Z w W) (ho : Only' G W W') (hs : W'.heap.size = W.heap.size) (h1 : gs ≠ G) (h2 : gr ≠ G) (h3 : w.heap.size ≤ G) : TAt gs gr l Z w W' := ⟨h.s.only ho h1 hs, h.r.only ho h2 hs, below_only h.b ho h3 hs⟩
theorem Steps.other {G : Nat} {w w' : World} (h : Steps w) (ho : Only' G w w') (hg : 0 < G) : Steps w' := by
  obtain ⟨t, fr, h1⟩ := h
  exact ⟨t, fr, (ho.2 0 (by omega)).trans h1⟩
theorem TAt.set {gs gr : Nat} {l Z : List Int} {w W : World} (h : TAt gs gr l Z w W) (hg : w.heap.size ≤ gs) (hn : gr ≠ gs) (i : Nat) (v : Int) (hi : i < l.length) : TAt gs gr (l.set i v) Z w (W.setCell ⟨gs, i, none⟩ (.int .u32 v)) :=
  ⟨h.s.set i v hi, h.r.apart hn i _, h.b.setCell (p := ⟨gs, i, none⟩) hg _⟩
set_option maxRecDepth 200000 in
set_option maxHeartbeats 8000000 in
theorem hashTurned (s : S8) (hs : s.Ok) (l : List Int) (hb : Byted l) (hl : l.length = 64) (w : World) (hT : Steps w) :
    Calls Tryd.prog 42 #[.agg (ints .u32 (wordsOf s)).toArray, .agg (ints .u8 l).toArray] w fun e w' => e = .returned (.agg (ints .u32 (wordsOf (block8 s (words16 l 0)))).toArray) ∧ Below w.heap.size w w' := by
  have d1 := Lib.hid (fun W1 : World => hashWords l hb hl W1)
  have hH := Lib.hid hs
  have hL := Lib.hid hl
  have hMl := Lib.hid (show (sched (words16 l 0) 48).length = 64 by rw [sched_length, words16_length])
  obtain ⟨X0, hX0⟩ : ∃ X, Hid ((ints .u32 (wordsOf s)).toArray = X) := ⟨_, rfl⟩
  obtain ⟨X1, hX1⟩ : ∃ X, Hid ((ints .u8 l).toArray = X) := ⟨_, rfl⟩
  obtain ⟨S, hS⟩ : ∃ S, Hid (sched (words16 l 0) 48 = S) := ⟨_, rfl⟩
  have hend : Hid (add8 s (rounds8 tableW (fun j => S.getD j 0) s 64) = block8 s (words16 l 0)) := by show _ = _; rw [← hS.out]; rfl
  rw [hS.out] at d1 hMl
  obtain ⟨X2, hX2⟩ : ∃ X, Hid ((ints .u32 S).toArray = X) := ⟨_, rfl⟩
  have hix := Lib.hid (fun (i : Nat) (hi : i < 64) (W1 : World) => index_agg (P := Tryd.prog) 79 63 .u32 S 64 Tryd.underlying79 Tryd.underlying63 (by kernel_rfl) hMl.out i hi W1)
  obtain ⟨res, hres⟩ : ∃ r, Hid (block8 s (words16 l 0) = r) := ⟨_, rfl⟩
  rw [hX1.out, hX2.out] at d1
  rw [hX2.out] at hix
  rw [hres.out] at hend
  rw [hX0.out, hX1.out, hres.out]
  clear hs hb hl hS hres
  go_enter Tryd.func42, Tryd.ntmps42
  go_upto_region 1 with (first
    | (refine walk_boxed (o := ⟨some 2, _, _, _, _, _⟩) rfl 67 _ rfl .u32 (wordsOf s) X0 hX0 rfl ?_; intro w1 hA1 hB1 hs1)
    | (refine walk_boxed (o := ⟨some 3, _, _, _, _, _⟩) rfl 68 _ rfl .u8 l X1 hX1 rfl ?_; intro w2 hP2 hB2 hs2)
    | (refine walk_arr (o := ⟨some 4, _, _, _, _, _⟩) rfl 67 rfl .u32 (List.replicate 8 0) (by kernel_rfl) ?_; intro w3 hR3 hB3 hs3))
  obtain ⟨Z, hZ⟩ : ∃ Z, Hid ((List.replicate 8 0 : List Int) = Z) := ⟨_, rfl⟩
  have hZl : Hid (Z.length = 8) := (by rw [← hZ.out]; exact (rfl : _ = _))
  rw [hZ.out] at hR3
  have hP := hP2.call hB3
  have hK : TAt w.heap.size w2.heap.size (wordsOf s) Z w w3 := ⟨(hA1.call hB2).call hB3, hR3, below_then (below_then hB1 hB2) hB3⟩
  have hw0 := hT.lt
  replace hT := ((hT.call hB1).call hB2).call hB3
  have hgS : w.heap.size ≤ w.heap.size := Nat.le_refl _
  have hgR : w.heap.size ≤ w2.heap.size := by omega
  have hne : w2.heap.size ≠ w.heap.size := by omega
  clear hA1 hP2 hR3 hB1 hB2 hB3 hs1 hs2 hs3 hZ
  generalize w1.heap.size = gp at *
  generalize w2.heap.size = gr at *
  go_upto_region 2 with (first
    | (refine walk_read rfl 68 _ rfl hP rfl 64 _ Tryd.underlying68 (by kernel_rfl) hL.out X1 hX1 ?_)
    | (go_at_call 43; refine (d1.out _).mono ?_; rintro e' w4 ⟨rfl, hb4⟩; have hK4 := hK.call hb4; have hT4 := hT.call hb4; clear hb4)
    | (refine walk_arr (o := ⟨some 5, _, _, _, _, _⟩) rfl 79 rfl .u32 (List.replicate 64 0) (by kernel_rfl) ?_; intro w5 hW5 hB5 hs5)
    | (refine walk_store rfl 79 _ _ rfl hW5 rfl X2 hX2 rfl (by rw [hMl.out]; kernel_rfl) (by rw [hMl.out]; rfl) ?_; intro w6 hW6 hs6 ho6))
  have hgG : w.heap.size ≤ w4.heap.size := hK4.b.size
  have hsG : w.heap.size ≠ w4.heap.size := Nat.ne_of_lt hK4.s.lt
  have hrG : gr ≠ w4.heap.size := Nat.ne_of_lt hK4.r.lt
  have h0G : 0 < w4.heap.size := hT4.lt
  have hK6 := (hK4.call hB5).other ho6 hs6 hsG hrG hgG
  have hT6 := (hT4.call hB5).other ho6 h0G
  have hgS0 : w.heap.size ≠ 0 := Nat.ne_of_gt hw0
  clear hK hT hK4 hT4 hW5 hB5 hs5 hs6 ho6 hP hX0 hX1 hL d1 hgG hsG hrG h0G
  generalize w4.heap.size = gw at *
  have r0 := fun (W' : World) (h : Arr .u32 W' w.heap.size (wordsOf s)) => (show W'.cell? ⟨w.heap.size, 0, none⟩ = some (.int .u32 s.a) from h.c 0 (by show 0 < 8; decide))
  have r1 := fun (W' : World) (h : Arr .u32 W' w.heap.size (wordsOf s)) => (show W'.cell? ⟨w.heap.size, 1, none⟩ = some (.int .u32 s.b) from h.c 1 (by show 1 < 8; decide))
  have r2 := fun (W' : World) (h : Arr .u32 W' w.heap.size (wordsOf s)) => (show W'.cell? ⟨w.heap.size, 2, none⟩ = some (.int .u32 s.c) from h.c 2 (by show 2 < 8; decide))
  have r3 := fun (W' : World) (h : Arr .u32 W' w.heap.size (wordsOf s)) => (show W'.cell? ⟨w.heap.size, 3, none⟩ = some (.int .u32 s.d) from h.c 3 (by show 3 < 8; decide))
  have r4 := fun (W' : World) (h : Arr .u32 W' w.heap.size (wordsOf s)) => (show W'.cell? ⟨w.heap.size, 4, none⟩ = some (.int .u32 s.e) from h.c 4 (by show 4 < 8; decide))
  have r5 := fun (W' : World) (h : Arr .u32 W' w.heap.size (wordsOf s)) => (show W'.cell? ⟨w.heap.size, 5, none⟩ = some (.int .u32 s.f) from h.c 5 (by show 5 < 8; decide))
  have r6 := fun (W' : World) (h : Arr .u32 W' w.heap.size (wordsOf s)) => (show W'.cell? ⟨w.heap.size, 6, none⟩ = some (.int .u32 s.g) from h.c 6 (by show 6 < 8; decide))
  have r7 := fun (W' : World) (h : Arr .u32 W' w.heap.size (wordsOf s)) => (show W'.cell? ⟨w.heap.size, 7, none⟩ = some (.int .u32 s.h) from h.c 7 (by show 7 < 8; decide))
  have hA := hK6.s
  generalize hWS : wordsOf s = WS at hA hK6 r0 r1 r2 r3 r4 r5 r6 r7
  replace hWS := Lib.hid hWS
  go_region_held3 (fun W' => Arr .u32 W' w.heap.size WS) (first | (with_reducible exact hA) | (with_reducible exact hA.drew)) (fail)
  clear r0 r1 r2 r3 r4 r5 r6 r7 hA
  have hW7 := hW6.drew
  have hK7 := hK6.drew
  have hT7 : Steps w6.drew := hT6
  clear hW6 hK6 hT6
  generalize w6.drew = w7 at *
  go_wp2_with (refine walk_read rfl 79 _ rfl hW7 rfl 64 _ Tryd.underlying79 (by kernel_rfl) hMl.out X2 hX2 ?_)
  clear hW7
  go_loopw [6, 7, 8, 9, 10, 11, 12, 13, 39] (fun v6 v7 v8 v9 v10 v11 v12 v13 v39 wr => ∃ (i : Nat) (t : S8), i ≤ 64 ∧ v39 = .int .i64 i ∧ v6 = .int .u32 t.a ∧ v7 = .int .u32 t.b ∧ v8 = .int .u32 t.c ∧ v9 = .int .u32 t.d ∧ v10 = .int .u32 t.e ∧ v11 = .int .u32 t.f ∧ v12 = .int .u32 t.g ∧ v13 = .int .u32 t.h ∧ Hid (t = rounds8 tableW (fun j => S.getD j 0) s i) ∧ TAt w.heap.size gr WS Z w wr ∧ Steps wr) (fun _ _ _ _ _ _ _ _ v39 _ => 64 - (intOf v39).toNat)
  case atStart => exact ⟨0, s, by omega, rfl, rfl, rfl, rfl, rfl, rfl, rfl, rfl, rfl, Lib.hid rfl, hK7, hT7⟩
  case round =>
    clear hK7 hT7
    obtain ⟨i, t, hi, rfl, rfl, rfl, rfl, rfl, rfl, rfl, rfl, rfl, ht, hK, hT⟩ := hrel
    have htok : t.Ok := by rw [ht.out]; exact rounds8_ok hH.out _ _ _
    by_cases hlt : i < 64
    · have hr := hix.out i hlt wr
      have ck := hT.cell i hlt
      have lk := hT.lt
      have hnx : Hid (round1 t (tableL.getD i 0) (S.getD i 0) = rounds8 tableW (fun j => S.getD j 0) s (i + 1)) := by show _ = _; rw [ht.out]; rfl
      generalize tableL.getD i 0 = kv at *
      generalize S.getD i 0 = wv at *
      have d6 : Hid (∀ W1 : World, Calls Tryd.prog 44 #[.int .u32 t.e, .int .i64 6] W1 fun e w' => e = .returned (.int .u32 (rot 6 t.e)) ∧ Below W1.heap.size W1 w') := fun W1 => hashRight6 t.e htok.e W1
      have d11 : Hid (∀ W1 : World, Calls Tryd.prog 44 #[.int .u32 t.e, .int .i64 11] W1 fun e w' => e = .returned (.int .u32 (rot 11 t.e)) ∧ Below W1.heap.size W1 w') := fun W1 => hashRight11 t.e htok.e W1
      have d25 : Hid (∀ W1 : World, Calls Tryd.prog 44 #[.int .u32 t.e, .int .i64 25] W1 fun e w' => e = .returned (.int .u32 (rot 25 t.e)) ∧ Below W1.heap.size W1 w') := fun W1 => hashRight25 t.e htok.e W1
      have d2 : Hid (∀ W1 : World, Calls Tryd.prog 44 #[.int .u32 t.a, .int .i64 2] W1 fun e w' => e = .returned (.int .u32 (rot 2 t.a)) ∧ Below W1.heap.size W1 w') := fun W1 => hashRight2 t.a htok.a W1
      have d13 : Hid (∀ W1 : World, Calls Tryd.prog 44 #[.int .u32 t.a, .int .i64 13] W1 fun e w' => e = .returned (.int .u32 (rot 13 t.a)) ∧ Below W1.heap.size W1 w') := fun W1 => hashRight13 t.a htok.a W1
      have d22 : Hid (∀ W1 : World, Calls Tryd.prog 44 #[.int .u32 t.a, .int .i64 22] W1 fun e w' => e = .returned (.int .u32 (rot 22 t.a)) ∧ Below W1.heap.size W1 w') := fun W1 => hashRight22 t.a htok.a W1
      have htE := Lib.hid htok.e
      have j1 : (i : Int) < 64 := by omega
      clear ht htok
      go_upto_region 6 with fail
      refine wp_region_quiet_below (by kernel_rfl) (by kernel_rfl) ?_
      repeat (go_big_quiet_step (first | (go_at_call 44; first | with_reducible exact Calls.regrown_of (d6.out _) | with_reducible exact Calls.regrown_of (d11.out _) | with_reducible exact Calls.regrown_of (d25.out _))))
      refine wpQuiet_nil ?_
      intro wq hwq
      have hbq := below_of_re hwq
      clear hwq
      replace hK := hK.call hbq
      replace hT := hT.call hbq
      clear hbq ck lk
      go_wp2_with (go_at_call 44; first
        | (with_reducible refine (d2.out _).mono ?_; rintro e' w8 ⟨rfl, hb8⟩; replace hK := hK.call hb8; replace hT := hT.call hb8; clear hb8)
        | (with_reducible refine (d13.out _).mono ?_; rintro e' w8 ⟨rfl, hb8⟩; replace hK := hK.call hb8; replace hT := hT.call hb8; clear hb8)
        | (with_reducible refine (d22.out _).mono ?_; rintro e' w8 ⟨rfl, hb8⟩; replace hK := hK.call hb8; replace hT := hT.call hb8; clear hb8))
      go_roundw
      case rel =>
        refine ⟨i + 1, round1 t kv wv, by omega, by go_num, ?_, rfl, rfl, rfl, ?_, rfl, rfl, rfl, hnx, hK, hT⟩
        · rw [not32 htE.out]; rfl
        · rw [not32 htE.out]; rfl
      case measure => simp [intOf]; omega
    · obtain rfl : i = 64 := by omega
      rw [show ((64 : Nat) : Int) = 64 from rfl]
      obtain ⟨wb, rfl⟩ : ∃ wb, wb = wr := ⟨wr, rfl⟩
      rw [← hWS.out] at hK
      replace hend := hend.out
      rw [← ht.out] at hend
      have hend' := Lib.hid hend
      obtain ⟨⟨a0, a1⟩, ⟨b0, b1⟩, ⟨c0, c1⟩, ⟨e0, e1⟩, ⟨f0, f1⟩, ⟨g0, g1⟩, ⟨h0, h1⟩, ⟨i0, i1⟩⟩ := htok
      obtain ⟨⟨a2, a3⟩, ⟨b2, b3⟩, ⟨c2, c3⟩, ⟨e2, e3⟩, ⟨f2, f3⟩, ⟨g2, g3⟩, ⟨h2, h3⟩, ⟨i2, i3⟩⟩ := hH.out
      clear hT hix hMl hX2 hH hWS ht hend hlt hi
      have hi8 := fun (k : Nat) (hk : k < 8) (W1 : World) => index_agg (P := Tryd.prog) 64 63 .u32 (wordsOf t) 8 Tryd.underlying64 Tryd.underlying63 (by kernel_rfl) rfl k hk W1
      have hi0' := fun W1 : World => (show (Instr.index 64 (.agg #[.int .u32 t.a, .int .u32 t.b, .int .u32 t.c, .int .u32 t.d, .int .u32 t.e, .int .u32 t.f, .int .u32 t.g, .int .u32 t.h]) (.int .i64 0)).run Tryd.prog W1 = .ok (.int .u32 t.a) W1 from hi8 0 (by decide) W1)
      have hi1' := fun W1 : World => (show (Instr.index 64 (.agg #[.int .u32 t.a, .int .u32 t.b, .int .u32 t.c, .int .u32 t.d, .int .u32 t.e, .int .u32 t.f, .int .u32 t.g, .int .u32 t.h]) (.int .i64 1)).run Tryd.prog W1 = .ok (.int .u32 t.b) W1 from hi8 1 (by decide) W1)
      have hi2' := fun W1 : World => (show (Instr.index 64 (.agg #[.int .u32 t.a, .int .u32 t.b, .int .u32 t.c, .int .u32 t.d, .int .u32 t.e, .int .u32 t.f, .int .u32 t.g, .int .u32 t.h]) (.int .i64 2)).run Tryd.prog W1 = .ok (.int .u32 t.c) W1 from hi8 2 (by decide) W1)
      have hi3' := fun W1 : World => (show (Instr.index 64 (.agg #[.int .u32 t.a, .int .u32 t.b, .int .u32 t.c, .int .u32 t.d, .int .u32 t.e, .int .u32 t.f, .int .u32 t.g, .int .u32 t.h]) (.int .i64 3)).run Tryd.prog W1 = .ok (.int .u32 t.d) W1 from hi8 3 (by decide) W1)
      have hi4' := fun W1 : World => (show (Instr.index 64 (.agg #[.int .u32 t.a, .int .u32 t.b, .int .u32 t.c, .int .u32 t.d, .int .u32 t.e, .int .u32 t.f, .int .u32 t.g, .int .u32 t.h]) (.int .i64 4)).run Tryd.prog W1 = .ok (.int .u32 t.e) W1 from hi8 4 (by decide) W1)
      have hi5' := fun W1 : World => (show (Instr.index 64 (.agg #[.int .u32 t.a, .int .u32 t.b, .int .u32 t.c, .int .u32 t.d, .int .u32 t.e, .int .u32 t.f, .int .u32 t.g, .int .u32 t.h]) (.int .i64 5)).run Tryd.prog W1 = .ok (.int .u32 t.f) W1 from hi8 5 (by decide) W1)
      have hi6' := fun W1 : World => (show (Instr.index 64 (.agg #[.int .u32 t.a, .int .u32 t.b, .int .u32 t.c, .int .u32 t.d, .int .u32 t.e, .int .u32 t.f, .int .u32 t.g, .int .u32 t.h]) (.int .i64 6)).run Tryd.prog W1 = .ok (.int .u32 t.g) W1 from hi8 6 (by decide) W1)
      have hi7' := fun W1 : World => (show (Instr.index 64 (.agg #[.int .u32 t.a, .int .u32 t.b, .int .u32 t.c, .int .u32 t.d, .int .u32 t.e, .int .u32 t.f, .int .u32 t.g, .int .u32 t.h]) (.int .i64 7)).run Tryd.prog W1 = .ok (.int .u32 t.h) W1 from hi8 7 (by decide) W1)
      clear hi8
      go_wp2
      refine wp_loop_rounds 9 ?_
      rw [rounds_succ]
      have ck := (show wb.cell? ⟨w.heap.size, 0, none⟩ = some (.int .u32 s.a) from hK.s.c 0 (by show 0 < 8; decide))
      have fk := (show wb.frozen? ⟨w.heap.size, 0, none⟩ = false from hK.s.f 0 (by show 0 < 8; decide))
      have lk : w.heap.size < wb.heap.size := hK.s.lt
      go_wp2
      clear ck fk lk
      replace hK := hK.set hgS hne 0 ((s.a + t.a) % 4294967296) (by show 0 < 8; decide)
      generalize wb.setCell ⟨w.heap.size, 0, none⟩ (.int .u32 ((s.a + t.a) % 4294967296)) = u0 at hK ⊢
      rw [rounds_succ]
      have ck := (show u0.cell? ⟨w.heap.size, 1, none⟩ = some (.int .u32 s.b) from hK.s.c 1 (by show 1 < 8; decide))
      have fk := (show u0.frozen? ⟨w.heap.size, 1, none⟩ = false from hK.s.f 1 (by show 1 < 8; decide))
      have lk : w.heap.size < u0.heap.size := hK.s.lt
      go_wp2
      clear ck fk lk
      replace hK := hK.set hgS hne 1 ((s.b + t.b) % 4294967296) (by show 1 < 8; decide)
      generalize u0.setCell ⟨w.heap.size, 1, none⟩ (.int .u32 ((s.b + t.b) % 4294967296)) = u1 at hK ⊢
      rw [rounds_succ]
      have ck := (show u1.cell? ⟨w.heap.size, 2, none⟩ = some (.int .u32 s.c) from hK.s.c 2 (by show 2 < 8; decide))
      have fk := (show u1.frozen? ⟨w.heap.size, 2, none⟩ = false from hK.s.f 2 (by show 2 < 8; decide))
      have lk : w.heap.size < u1.heap.size := hK.s.lt
      go_wp2
      clear ck fk lk
      replace hK := hK.set hgS hne 2 ((s.c + t.c) % 4294967296) (by show 2 < 8; decide)
      generalize u1.setCell ⟨w.heap.size, 2, none⟩ (.int .u32 ((s.c + t.c) % 4294967296)) = u2 at hK ⊢
      rw [rounds_succ]
      have ck := (show u2.cell? ⟨w.heap.size, 3, none⟩ = some (.int .u32 s.d) from hK.s.c 3 (by show 3 < 8; decide))
      have fk := (show u2.frozen? ⟨w.heap.size, 3, none⟩ = false from hK.s.f 3 (by show 3 < 8; decide))
      have lk : w.heap.size < u2.heap.size := hK.s.lt
      go_wp2
      clear ck fk lk
      replace hK := hK.set hgS hne 3 ((s.d + t.d) % 4294967296) (by show 3 < 8; decide)
      generalize u2.setCell ⟨w.heap.size, 3, none⟩ (.int .u32 ((s.d + t.d) % 4294967296)) = u3 at hK ⊢
      rw [rounds_succ]
      have ck := (show u3.cell? ⟨w.heap.size, 4, none⟩ = some (.int .u32 s.e) from hK.s.c 4 (by show 4 < 8; decide))
      have fk := (show u3.frozen? ⟨w.heap.size, 4, none⟩ = false from hK.s.f 4 (by show 4 < 8; decide))
      have lk : w.heap.size < u3.heap.size := hK.s.lt
      go_wp2
      clear ck fk lk
      replace hK := hK.set hgS hne 4 ((s.e + t.e) % 4294967296) (by show 4 < 8; decide)
      generalize u3.setCell ⟨w.heap.size, 4, none⟩ (.int .u32 ((s.e + t.e) % 4294967296)) = u4 at hK ⊢
      rw [rounds_succ]
      have ck := (show u4.cell? ⟨w.heap.size, 5, none⟩ = some (.int .u32 s.f) from hK.s.c 5 (by show 5 < 8; decide))
      have fk := (show u4.frozen? ⟨w.heap.size, 5, none⟩ = false from hK.s.f 5 (by show 5 < 8; decide))
      have lk : w.heap.size < u4.heap.size := hK.s.lt
      go_wp2
      clear ck fk lk
      replace hK := hK.set hgS hne 5 ((s.f + t.f) % 4294967296) (by show 5 < 8; decide)
      generalize u4.setCell ⟨w.heap.size, 5, none⟩ (.int .u32 ((s.f + t.f) % 4294967296)) = u5 at hK ⊢
      rw [rounds_succ]
      have ck := (show u5.cell? ⟨w.heap.size, 6, none⟩ = some (.int .u32 s.g) from hK.s.c 6 (by show 6 < 8; decide))
      have fk := (show u5.frozen? ⟨w.heap.size, 6, none⟩ = false from hK.s.f 6 (by show 6 < 8; decide))
      have lk : w.heap.size < u5.heap.size := hK.s.lt
      go_wp2
      clear ck fk lk
      replace hK := hK.set hgS hne 6 ((s.g + t.g) % 4294967296) (by show 6 < 8; decide)
      generalize u5.setCell ⟨w.heap.size, 6, none⟩ (.int .u32 ((s.g + t.g) % 4294967296)) = u6 at hK ⊢
      rw [rounds_succ]
      have ck := (show u6.cell? ⟨w.heap.size, 7, none⟩ = some (.int .u32 s.h) from hK.s.c 7 (by show 7 < 8; decide))
      have fk := (show u6.frozen? ⟨w.heap.size, 7, none⟩ = false from hK.s.f 7 (by show 7 < 8; decide))
      have lk : w.heap.size < u6.heap.size := hK.s.lt
      go_wp2
      clear ck fk lk
      replace hK := hK.set hgS hne 7 ((s.h + t.h) % 4294967296) (by show 7 < 8; decide)
      generalize u6.setCell ⟨w.heap.size, 7, none⟩ (.int .u32 ((s.h + t.h) % 4294967296)) = u7 at hK ⊢
      rw [rounds_succ]
      replace hK : TAt w.heap.size gr (wordsOf (add8 s t)) Z w u7 := hK
      rw [hend'.out] at hK
      obtain ⟨hA, hR, hB⟩ := hK
      obtain ⟨Y, hY⟩ : ∃ Y, Hid ((ints .u32 (wordsOf res)).toArray = Y) := ⟨_, rfl⟩
      have hwl : Hid ((wordsOf res).length = 8) := rfl
      have hwi : Hid ((ints .u32 (wordsOf res)).length = 8) := rfl
      generalize hwr : wordsOf res = WR at hA hY hwl hwi
      replace hwr := Lib.hid hwr
      go_wp2_with (first
        | (refine walk_read rfl 67 _ rfl hA rfl 8 _ Tryd.underlying67 (by kernel_rfl) hwl.out Y hY ?_)
        | (refine walk_store rfl 67 _ _ rfl hR rfl Y hY rfl (by rw [hwl.out]; kernel_rfl) (by rw [hwl.out, hZl.out]) ?_; intro w9 hR9 hs9 ho9))
      refine bodyPost_ret (results_cell_mid rfl _ _ gr (ints .u32 WR) _ rfl hR9.range Tryd.underlying67 rfl (by rw [hwi.out]; kernel_rfl)) rfl ?_
      exact ⟨by rw [hwr.out], below_only hB ho9 hgR hs9⟩

end Go.Proofs.YtmhehnimgkmmaaaDoor
