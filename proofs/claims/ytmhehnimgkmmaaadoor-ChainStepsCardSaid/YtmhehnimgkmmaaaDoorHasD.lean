/- A block's words, in the program. -/
import Derived.Test.YtmhehnimgkmmaaaDoorHasB
import Derived.Test.YtmhehnimgkmmaaaDoorHasC
import Derived.Test.YtmhehnimgkmmaaaDoorHashE
import Derived.Deep.RegionHeld3
import Derived.Deep.DeepCutAuto
import Derived.IntWalk
import Derived.Deep.QuietTactic
import Derived.BigQuiet
namespace Go.Proofs.YtmhehnimgkmmaaaDoor
set_option maxRecDepth 100000
open Go.RowKit
set_option linter.unusedVariables false
attribute [local go_sem] cell_re

/-- What the second loop's region reads, and what is kept beside it. -/
structure WAt (gw gr : Nat) (F Z : List Int) (w W : World) : Prop where
  a : Arr .u32 W gw F
  r : Arr .u32 W gr Z
  b : Below w.heap.size w W
theorem WAt.call {gw gr : Nat} {F Z : List Int} {w W W' : World} (h : WAt gw gr F Z w W) (hb : Below W.heap.size W W') : WAt gw gr F Z w W' := ⟨h.a.call hb, h.r.call hb, below_then h.b hb⟩
theorem WAt.drew {gw gr : Nat} {F Z : List Int} {w W : World} (h : WAt gw gr F Z w W) : WAt gw gr F Z w W.drew := ⟨h.a.drew, h.r.drew, h.b.drew⟩
structure PreAt (gw i : Nat) (F : List Int) (W : World) : Prop where
  c : ∀ j, j < i → W.cell? ⟨gw, j, none⟩ = some (.int .u32 (F.getD j 0))
theorem WAt.pre {gw gr i : Nat} {F Z : List Int} {w W : World} (h : WAt gw gr F Z w W) (hi : i ≤ F.length) : PreAt gw i F W := ⟨fun j hj => h.a.c j (by omega)⟩
theorem PreAt.store {gw i : Nat} {F : List Int} {W : World} (h : PreAt gw i F W) (v : Value) : PreAt gw i F (W.setCell ⟨gw, i, none⟩ v) :=
  ⟨fun j hj => (World.cell?_setCell_other _ _ _ _ (fun e => by injection e; omega)).trans (h.c j hj)⟩
theorem add4 {a b c d : Int} : ((((a + b) % 4294967296 + c) % 4294967296 + d) % 4294967296) = (a + b + c + d) % 4294967296 := by omega
set_option maxRecDepth 200000 in
set_option maxHeartbeats 8000000 in
theorem hashWords (l : List Int) (hb : Byted l) (hl : l.length = 64) (w : World) :
    Calls Tryd.prog 43 #[.agg (ints .u8 l).toArray] w fun e w' => e = .returned (.agg (ints .u32 (sched (words16 l 0) 48)).toArray) ∧ Below w.heap.size w w' := by
  have hH := Lib.hid hb
  have hix := Lib.hid (fun (i : Nat) (hi : i < 64) (W1 : World) => index_agg (P := Tryd.prog) 68 5 .u8 l 64 Tryd.underlying68 Tryd.underlying5 (by kernel_rfl) hl i hi W1)
  obtain ⟨X, hX⟩ : ∃ X, Hid ((ints .u8 l).toArray = X) := ⟨_, rfl⟩
  have hL := Lib.hid hl
  rw [hX.out] at hix ⊢
  clear hb hl
  go_enter Tryd.func43, Tryd.ntmps43
  go_upto_region 2 with (first
    | (refine walk_boxed rfl 68 _ rfl .u8 l X hX rfl ?_; intro w1 hP hB1 hs1)
    | (refine walk_arr (o := ⟨some 2, _, _, _, _, _⟩) rfl 79 rfl .u32 (List.replicate 64 0) (by kernel_rfl) ?_; intro w2 hR hB2 hs2)
    | (refine walk_arr (o := ⟨some 3, _, _, _, _, _⟩) rfl 79 rfl .u32 (List.replicate 64 0) (by kernel_rfl) ?_; intro w3 hW hB3 hs3))
  replace hP := (hP.call hB2).call hB3
  replace hR := hR.call hB3
  have hB := below_then (below_then hB1 hB2) hB3
  have hgR : w.heap.size ≤ w1.heap.size := hB1.size
  have hne : w1.heap.size ≠ w2.heap.size := by omega
  have hgW : w.heap.size ≤ w2.heap.size := by omega
  clear hB1 hB2 hB3 hs1 hs2 hs3
  generalize w1.heap.size = gr at *
  generalize w2.heap.size = gw at *
  go_wp2_with (refine walk_read rfl 68 _ rfl hP rfl 64 _ Tryd.underlying68 (by kernel_rfl) hL.out X hX ?_)
  clear hP
  replace hW : Arr .u32 w3 gw (packed l 0) := hW
  go_loopw [8] (fun v8 wr => ∃ (i : Nat), i ≤ 64 ∧ v8 = .int .i64 i ∧ Arr .u32 wr gr (List.replicate 64 0) ∧ Arr .u32 wr gw (packed l i) ∧ Below w.heap.size w wr) (fun v8 _ => 64 - (intOf v8).toNat)
  case atStart => exact ⟨0, by omega, rfl, hR, hW, hB⟩
  case round =>
    clear hR hW hB
    obtain ⟨i, hi, rfl, hR, hW, hB⟩ := hrel
    by_cases hlt : i < 64
    · have hr := hix.out i hlt wr
      have hpl := packed_length l i
      have hc := hW.c (i / 4) (by omega)
      have hf := hW.f (i / 4) (by omega)
      have hv := getD_u32' (packed_u32 hH.out i) (i / 4)
      have hb := hH.out.at_ i
      have hpb := Lib.hid (put_byte hv hb)
      have hnx : Hid ((packed l i).set (i / 4) ((packed l i).getD (i / 4) 0 * 256 % 4294967296 + l.getD i 0) = packed l (i + 1)) := rfl
      have hset := Lib.hid (fun v : Int => hW.set (i / 4) v (by omega))
      have hsR := Lib.hid (fun v : Value => hR.apart hne (i / 4) v)
      have hBs := Lib.hid (fun v : Value => hB.setCell (p := ⟨gw, i / 4, none⟩) hgW v)
      generalize (packed l i).getD (i / 4) 0 = v at *
      generalize l.getD i 0 = b at *
      obtain ⟨v0, v1⟩ := hv
      obtain ⟨b0, b1⟩ := hb
      have u1 : IntKind.u32.wrap b = b := by rw [IntKind.wrap_u32']; omega
      have q0 : ((i : Int) / 4).toNat = i / 4 := by omega
      have q1 : (0 : Int) ≤ (i : Int) / 4 := by omega
      have q2 : (i : Int) / 4 < 64 := by omega
      have j1 : (i : Int) < 64 := by omega
      have hgl := hW.lt
      clear hW hR hpl hB
      go_wp2
      go_round
      case rel => exact ⟨i + 1, by omega, by go_num, hsR.out _, by rw [hpb.out, ← hnx.out]; exact hset.out _, hBs.out _⟩
      case measure => simp [intOf]; omega
    · obtain rfl : i = 64 := by omega
      rw [show ((64 : Nat) : Int) = 64 from rfl]
      obtain ⟨wa, rfl⟩ : ∃ wa, wa = wr := ⟨wr, rfl⟩
      have hsn := Lib.hid (fun (i : Nat) (h0 : 16 ≤ i) (h1 : i < 64) => sched_next (words16_length l 0) i h0 h1)
      have hSl := Lib.hid (show (sched (words16 l 0) 48).length = 64 by rw [sched_length, words16_length])
      have hSu := Lib.hid (fun j => getD_u32' (sched_u32 (m := words16 l 0) (words16_u32 hH.out) 48) j)
      rw [packed_all hH.out] at hW
      obtain ⟨S, hS⟩ : ∃ S, Hid (sched (words16 l 0) 48 = S) := ⟨_, rfl⟩
      rw [hS.out] at hsn hSl hSu hW
      clear hix hH hL hX
      go_wp2
      obtain ⟨Z, hZ⟩ : ∃ Z, Hid ((List.replicate 64 0 : List Int) = Z) := ⟨_, rfl⟩
      have hZl : Hid (Z.length = 64) := (by rw [← hZ.out]; exact (rfl : _ = _))
      rw [hZ.out] at hR
      clear hZ
      go_loopw [6] (fun v6 wr => ∃ (i : Nat), 16 ≤ i ∧ i ≤ 64 ∧ v6 = .int .i64 i ∧ WAt gw gr (fillTo S 64 i) Z w wr) (fun v6 _ => 64 - (intOf v6).toNat)
      case atStart => exact ⟨16, by omega, by omega, rfl, hW, hR, hB⟩
      case round =>
        clear hR hW hB
        obtain ⟨i, hi0, hi, rfl, hK⟩ := hrel
        by_cases hlt : i < 64
        · have hg := fun j (hj : j < i) => (fillTo_get S 64 i j (by rw [hSl.out]; omega) (by omega)).trans (if_pos hj)
          have hfl := fillTo_length S 64 i (by rw [hSl.out]; omega) (by omega)
          have hp := Lib.hid (fun (W' : World) (h : WAt gw gr (fillTo S 64 i) Z w W') => h.pre (i := i) (by omega))
          have hc := fun (W' : World) (h : PreAt gw i (fillTo S 64 i) W') (j : Nat) (hj : j < i) => by
            have := h.c j hj
            rw [hg j hj] at this
            exact this
          have hcell := Lib.hid (fun (W' : World) (h : WAt gw gr (fillTo S 64 i) Z w W') => h.a.c i (by omega))
          have hfr := Lib.hid (fun (W' : World) (h : WAt gw gr (fillTo S 64 i) Z w W') => h.a.f i (by omega))
          have hst := Lib.hid (fun (W' : World) (h : WAt gw gr (fillTo S 64 i) Z w W') (v : Int) (hv : v = S.getD i 0) => (show WAt gw gr (fillTo S 64 (i + 1)) Z w (W'.setCell ⟨gw, i, none⟩ (.int .u32 v)) from by
            subst hv
            exact ⟨by rw [← fillTo_set S 64 i (by rw [hSl.out]; omega) hlt]; exact h.a.set i _ (by omega), h.r.apart hne i _, h.b.setCell (p := ⟨gw, i, none⟩) hgW _⟩))
          have hnx := hsn.out i hi0 hlt
          have c15 := fun W' h => hc W' h (i - 15) (by omega)
          have c2 := fun W' h => hc W' h (i - 2) (by omega)
          have c7 := fun W' h => hc W' h (i - 7) (by omega)
          have c16 := fun W' h => hc W' h (i - 16) (by omega)
          have g15 := hSu.out (i - 15)
          have g2 := hSu.out (i - 2)
          obtain ⟨g7a, g7b⟩ := hSu.out (i - 7)
          obtain ⟨g16a, g16b⟩ := hSu.out (i - 16)
          clear hc hg hfl
          generalize (fillTo S 64 i).getD i 0 = pI at *
          generalize S.getD (i - 15) 0 = p15 at *
          generalize S.getD (i - 2) 0 = p2 at *
          generalize S.getD (i - 7) 0 = p7 at *
          generalize S.getD (i - 16) 0 = p16 at *
          generalize S.getD i 0 = pN at *
          have dA := Lib.hid (fun W1 : World => hashMixA p15 g15 W1)
          have dB := Lib.hid (fun W1 : World => hashMixB p2 g2 W1)
          obtain ⟨A1, A2⟩ : U32 (lowA p15) := u32_xor3 _ _ _
          obtain ⟨B1, B2⟩ : U32 (lowB p2) := u32_xor3 _ _ _
          generalize lowA p15 = a at *
          generalize lowB p2 = b at *
          rw [← add4] at hnx
          replace hnx := Lib.hid hnx
          generalize fillTo S 64 i = F at *
          have j1 : (i : Int) < 64 := by omega
          have z15 : ((i : Int) - 15).toNat = i - 15 := by omega
          have z2 : ((i : Int) - 2).toNat = i - 2 := by omega
          have z7 : ((i : Int) - 7).toNat = i - 7 := by omega
          have z16 : ((i : Int) - 16).toNat = i - 16 := by omega
          have o15 : (15 : Int) ≤ (i : Int) := by omega
          have o2 : (2 : Int) ≤ (i : Int) := by omega
          have o7 : (7 : Int) ≤ (i : Int) := by omega
          have o16 : (16 : Int) ≤ (i : Int) := by omega
          have m15 : 15 ≤ i := by omega
          have m2 : 2 ≤ i := by omega
          have m7 : 7 ≤ i := by omega
          have n15 : (0 : Int) ≤ (i : Int) - 15 := by omega
          have n2 : (0 : Int) ≤ (i : Int) - 2 := by omega
          have n7 : (0 : Int) ≤ (i : Int) - 7 := by omega
          have n16 : (0 : Int) ≤ (i : Int) - 16 := by omega
          have t15 : (i : Int) - 15 < 64 := by omega
          have t2 : (i : Int) - 2 < 64 := by omega
          have t7 : (i : Int) - 7 < 64 := by omega
          have t16 : (i : Int) - 16 < 64 := by omega
          have y15 : IntKind.i64.wrap ((i : Int) - 15) = (i : Int) - 15 := IntWalk.i64_in _ (by omega)
          have y2 : IntKind.i64.wrap ((i : Int) - 2) = (i : Int) - 2 := IntWalk.i64_in _ (by omega)
          have y7 : IntKind.i64.wrap ((i : Int) - 7) = (i : Int) - 7 := IntWalk.i64_in _ (by omega)
          have y16 : IntKind.i64.wrap ((i : Int) - 16) = (i : Int) - 16 := IntWalk.i64_in _ (by omega)
          go_upto_region 10 with fail
          go_region_held3 (PreAt gw i F) (first | exact hp.out _ hK | exact hp.out _ hK.drew | exact hp.out _ hK1 | exact hp.out _ hK2 | exact (hp.out _ hK2).store _) (first
            | (go_at_call 45; refine (dB.out _).mono ?_; rintro e' wb ⟨rfl, hbb⟩; first
                | (have hK2 : WAt gw gr F Z w wb := (by with_reducible exact hK1.call hbb); clear hbb; have cI := hcell.out _ hK2; have fI := hfr.out _ hK2)
                | (have hK1 : WAt gw gr F Z w wb := (by with_reducible exact hK.drew.call hbb); clear hbb))
            | (go_at_call 46; refine (dA.out _).mono ?_; rintro e' wa ⟨rfl, hba⟩; first
                | (have hK2 : WAt gw gr F Z w wa := (by with_reducible exact hK1.call hba); clear hba; have cI := hcell.out _ hK2; have fI := hfr.out _ hK2)
                | (have hK1 : WAt gw gr F Z w wa := (by with_reducible exact hK.drew.call hba); clear hba)))
          all_goals
            clear y15 y2 y7 y16 z15 z2 z7 z16 n15 n2 n7 n16 t15 t2 t7 t16 c15 c2 c7 c16 cI fI hfr hlt
            go_wp2
            go_round
            case rel => exact ⟨i + 1, by omega, by omega, by go_num, hst.out _ hK2 _ hnx.out.symm⟩
            case measure => simp [intOf]; omega
        · obtain rfl : i = 64 := by omega
          rw [show ((64 : Nat) : Int) = 64 from rfl]
          obtain ⟨hW, hR, hB⟩ := hK
          rw [fillTo_all S 64 hSl.out] at hW
          obtain ⟨Y, hY⟩ : ∃ Y, Hid ((ints .u32 S).toArray = Y) := ⟨_, rfl⟩
          go_wp2_with (first
            | (refine walk_read rfl 79 _ rfl hW rfl 64 _ Tryd.underlying79 (by kernel_rfl) hSl.out Y hY ?_)
            | (refine walk_store rfl 79 _ _ rfl hR rfl Y hY rfl (by rw [hSl.out]; kernel_rfl) (by rw [hSl.out, hZl.out]) ?_; intro w4 hR4 hs4 ho4))
          refine bodyPost_ret (results_cell_mid rfl _ _ gr (ints .u32 S) _ rfl hR4.range Tryd.underlying79 rfl (by rw [ints, List.length_map, hSl.out]; kernel_rfl)) rfl ?_
          exact ⟨by rw [hS.out], below_only hB ho4 hgR hs4⟩

end Go.Proofs.YtmhehnimgkmmaaaDoor
