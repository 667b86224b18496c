/- A hasher has what was written, whatever becomes of its forks. -/
import Derived.Test.YtjgmmocadkcghaaDoorRows
import Derived.Test.YtjgmmocadkcghaaDoorCards
import Derived.Test.YtjgmmocadkcghaaDoorTie
import Derived.Test.YtjgmmocadkcghaaDoorHasEq
import Derived.Test.YtjgmmocadkcghaaDoorHashG
import Derived.Test.YtjgmmocadkcghaaDoorLawAll
import Derived.Test.YtjgmmocadkcghaaDoorHasRows
import Derived.Test.YtjgmmocadkcghaaDoorBaseN
import Derived.Test.YtjgmmocadkcghaaDoorLawH
import Derived.WalkKit
import Derived.ProofKit
import Derived.OpenShut
import Derived.SevenTiedAt
import Derived.LaidMore
import Derived.Stop.Joined
import Derived.Deep.RegionHeld3
namespace Go.Proofs.YtjgmmocadkcghaaDoor.hashWrites
set_option maxRecDepth 100000
open Go.ChangeShapes Go.WideShapes Go.ChangeAt Go.RowKit
set_option linter.unusedVariables false

attribute [local go_sem] cell_re
theorem joined_byted {w : World} {p : Option Addr} {l : List (List Int)} (h : Parts w p l) (k : Nat) : Byted (joinTo (cutL l) k) := fun x hx => by
  unfold joinTo at hx
  rw [List.mem_flatten] at hx
  obtain ⟨y, hy, hxy⟩ := hx
  obtain ⟨j, hj, e⟩ := List.mem_iff_getElem.mp (List.mem_of_mem_take hy)
  have := cutL_byted h j hj
  rw [List.getD_eq_getElem?_getD, List.getElem?_eq_getElem hj] at this
  exact this x (by rw [← e] at hxy; exact hxy)
theorem mine_only {k : IntKind} {e : TypeId} {B n cap g : Nat} {w w' : World} {p : Option Addr} {zs : List Int} (h : Mine k e B w p n cap zs) (ho : Only g w w') (hg : g < B) : Mine k e B w' p n cap zs :=
  ⟨h.len, h.own.kept (row := some g) ho (by
    cases hv : (Value.slice p n cap).ownBlock with
    | none => exact Or.inl rfl
    | some j => exact Or.inr (fun e => by injection e with e; have := (h.own.lt j hv).1; omega)), h.hi, h.top⟩
theorem three (W : World) : At .u8 (W.alloc (.cells #[.int .u8 1, .int .u8 2, .int .u8 3] 5)) (some ⟨W.heap.size, 0, none⟩) [1, 2, 3] := (Mine.lit (B := 0) (e := 5) W [1, 2, 3] _ 3 rfl rfl (Nat.zero_le _) (by unfold maxLen; omega)).at_
theorem one23 : Byted [1, 2, 3] := fun x hx => by simp at hx; omega
set_option maxRecDepth 200000 in
set_option maxHeartbeats 8000000 in
theorem walk (v : Value) (l : List (List Int)) (v2 : Value) (fs : List Int) (w : World) (hx : RowsAt w v l) (hf : IntsAt .i64 w v2 fs) (hS : Steps w) : Calls Tryd.prog 4 #[v, v2] w fun e w' => e = .returned (.bool true) ∧ Below w.heap.size w w' := by
  obtain ⟨p, cap, rfl, hc0, hc1, hP⟩ := hx
  obtain ⟨p2, cap2, rfl, hc2, hc3, hwf2, hat2⟩ := hf
  unfold maxLen at hc1 hc3
  obtain ⟨i0, hi0, hz0, hz1, hz2⟩ := info_parts infoByte
  have hiE' : (Tryd.prog.info? 5).isSome = true := by kernel_rfl
  obtain ⟨iE, hiE0⟩ := Option.isSome_iff_exists.mp hiE'
  have hiE := Lib.hid hiE0
  clear hiE0 hiE'
  obtain ⟨n, hn⟩ : ∃ n, Hid (n = l.length) := ⟨_, rfl⟩
  obtain ⟨n2, hn2⟩ : ∃ n, Hid (n = fs.length) := ⟨_, rfl⟩
  have hFA : Hid (At .i64 w p2 fs) := hat2
  have dA := Lib.hid (law8All l n cap hn.out (by rw [hn.out]; omega) p w hP)
  have hbj := Lib.hid (fun k => joined_byted hP k)
  have hfl := Lib.hid (cutL_flat l)
  have hcl := Lib.hid (show (cutL l).length ≤ 12 by rw [cutL_length]; omega)
  have hS0 := Lib.hid hS
  have hw0 := hS.lt
  have jn2 : Hid (n2 ≤ 9223372036854775807) := by have := hn2.out; show _ ≤ _; omega
  rw [← hn.out, ← hn2.out]
  obtain ⟨K, hK⟩ : ∃ K, Hid (cutL l = K) := ⟨_, rfl⟩
  unfold AllPost at dA
  rw [hK.out] at dA hbj hfl hcl
  have hjl := Lib.hid (fun k => Nat.le_trans (joinTo_le K k) hfl.out)
  clear hc0 hc1 hc2 hc3 hP hS hwf2 hat2
  go_enter Tryd.func4, Tryd.ntmps4
  go_wp2_with (first
    | (go_at_call 7; refine dA.out.mono ?_; rintro e' w1 ⟨q1, m1, c1, q2, m2, c2, rfl, hm1, -, hPa, -, -, -, hB1⟩; replace hm1 := Lib.hid hm1; replace hPa := Lib.hid hPa)
    | (go_at_call 11; refine (hashNew w1).mono ?_; rintro e' w2 ⟨g, rfl, hg, hR2, hB2⟩))
  have hW1 := Lib.hid hB1
  have hgw : w.heap.size ≤ g := by have := hB1.size; omega
  have hg0 : 0 < g := by omega
  have hg2 := hR2.lt
  have hM3 := Mine.lit (k := .u8) (e := 5) (B := w2.heap.size) w2 [] #[] 0 rfl rfl (Nat.le_refl _) (by unfold maxLen; omega)
  have hR3 := hR2.alloc (.cells #[] 5)
  have hB3 := hB2.alloc hB2.size (.cells #[] 5)
  have hz3 : w2.heap.size ≤ (w2.alloc (.cells #[] 5)).heap.size := by simp
  have hm12 : Hid (m1 ≤ 12) := by have := hm1.out; have := hcl.out; show _ ≤ _; omega
  clear hR2 hB2 hB1
  go_loopw [8, 9, 10] (fun v8 v9 v10 wr => ∃ (i : Nat) (qb : Option Addr) (mb cb : Nat), i ≤ m1 ∧ v9 = .int .i64 i ∧ v8 = .slice qb mb cb ∧ Has wr g (joinTo K i) ∧ Mine .u8 5 w2.heap.size wr qb mb cb (joinTo K i) ∧ Hid (w2.heap.size ≤ wr.heap.size) ∧ Below w1.heap.size w1 wr) (fun _ v9 _ _ => m1 - (intOf v9).toNat)
  case atStart => exact ⟨0, _, 0, 0, Nat.zero_le _, rfl, rfl, hR3, hM3, Lib.hid hz3, hB3⟩
  case round =>
    clear hR3 hM3 hz3 hB3
    obtain ⟨i, qb, mb, cb, hi, rfl, rfl, hR, hM, hzr, hB⟩ := hrel
    have hBw : Below w.heap.size w wr := below_then hW1.out hB
    by_cases hlt : i < m1
    · have hm1' := hm1.out
      have hm12' := hm12.out
      have hlen := hjl.out i
      have hlen1 := hjl.out (i + 1)
      have hnx := joinTo_succ K i (by omega)
      obtain ⟨xs, hxs⟩ : ∃ xs, K.getD i [] = xs := ⟨_, rfl⟩
      rw [hxs] at hnx
      have hxl : xs.length ≤ 3600 := by rw [← hnx, List.length_append] at hlen1; omega
      have hnx' := Lib.hid hnx
      have j1 : (i : Int) < (m1 : Int) := by omega
      have j2 : (i : Int) ≤ 12 := by omega
      have hml : Hid (mb = (joinTo K i).length) := hM.len
      rcases hPa.out with h | ⟨b, off, rfl, hbl, hc⟩
      · exact absurd hm1' (by rw [h]; simp; omega)
      obtain ⟨v, hv, q, m, d, rfl, hm, hmd, hat, hxb⟩ := hc i (by omega)
      rw [hxs] at hm hat hxb
      have hc := Lib.hid (fun (W : World) (h : Below w1.heap.size w1 W) => (h.cell (p := ⟨b, off + i, none⟩) hbl).trans hv)
      have dWr := Lib.hid (fun (W : World) (h : Below w1.heap.size w1 W) (hT : Steps W) (hRW : Has W g (joinTo K i)) => hashWrite (joinTo K i) xs (hbj.out i) hxb (by omega) g hg0 q m d (fun _ => hat.in_block (by omega) hg) hm hmd W (hat.call h) hT hRW)
      rw [hnx] at dWr
      have hatH := Lib.hid hat
      have hmH := Lib.hid hm
      clear hv hat hxb hm
      have dS2 := Lib.hid (fun (W : World) (hT : Steps W) (h : Has W g (joinTo K (i + 1))) => hashSum (joinTo K (i + 1)) (hbj.out _) (by omega) g W hT h)
      have dR2 := Lib.hid (fun (W : World) (q : Option Addr) (m c : Nat) (hm : m = (joinTo K (i + 1)).length) (h : At .u8 W q (joinTo K (i + 1))) => ref8Of (joinTo K (i + 1)) (hbj.out _) (by omega) m hm q c W h)
      obtain ⟨N2, hN2⟩ : ∃ N2, Hid ((joinTo K (i + 1)).length = N2) := ⟨_, Lib.hid rfl⟩
      have dL2 := Lib.hid (fun (W : World) (h : Has W g (joinTo K (i + 1))) => hashLen (joinTo K (i + 1)) g W h)
      rw [hN2.out] at dL2
      have hbi := hbj.out i
      have hb3 : Byted (joinTo K i ++ [1, 2, 3]) := hbi.append one23
      obtain ⟨Y1, hY1⟩ : ∃ Y1, Hid ((ints .u8 (sha (joinTo K i ++ [1, 2, 3]))).toArray = Y1) := ⟨_, Lib.hid rfl⟩
      have hq1 := fun W1 : World => equal_ints (P := Tryd.prog) (t := 27) (e := 5) (k := .u8) Tryd.underlying27 hiE.out (by kernel_rfl) (by kernel_rfl) Tryd.underlying5 (sha (joinTo K i ++ [1, 2, 3])) rfl W1
      rw [hY1.out] at hq1
      obtain ⟨Y2, hY2⟩ : ∃ Y2, Hid ((ints .u8 (sha (joinTo K (i + 1)))).toArray = Y2) := ⟨_, Lib.hid rfl⟩
      have hq2 := fun W1 : World => equal_ints (P := Tryd.prog) (t := 27) (e := 5) (k := .u8) Tryd.underlying27 hiE.out (by kernel_rfl) (by kernel_rfl) Tryd.underlying5 (sha (joinTo K (i + 1))) rfl W1
      rw [hY2.out] at hq2
      have dI := Lib.hid (baseHasInt fs i n2 cap2 hn2.out jn2.out p2 wr (hFA.out.call hBw))
      have dF := Lib.hid (fun (W : World) (h : Has W g (joinTo K i)) => hashFork (joinTo K i) g W h)
      have dW := Lib.hid (fun (W : World) (gf : Nat) (h0 : 0 < gf) (hlt : gf < W.heap.size) (hT : Steps W) (h : Has W gf (joinTo K i)) => hashWrite (joinTo K i) [1, 2, 3] hbi one23 (by show _ + 3 ≤ _; omega) gf h0 (some ⟨W.heap.size, 0, none⟩) 3 3 (fun _ a ha => by injection ha with ha; subst ha; show W.heap.size ≠ gf; omega) rfl (Nat.le_refl _) (W.alloc (.cells #[.int .u8 1, .int .u8 2, .int .u8 3] 5)) (three W) (hT.call ((Below.refl _ _).alloc (Nat.le_refl _) _)) (h.alloc _))
      have dS1 := Lib.hid (fun (W : World) (gf : Nat) (hT : Steps W) (h : Has W gf (joinTo K i ++ [1, 2, 3])) => hashSum (joinTo K i ++ [1, 2, 3]) hb3 (by rw [List.length_append]; show _ + 3 ≤ _; omega) gf W hT h)
      have dB := Lib.hid (fun (W : World) (h : At .u8 W qb (joinTo K i)) => baseBytes (joinTo K i) (by omega) mb hml.out qb cb W h)
      have dR1 := Lib.hid (fun (W : World) (q : Option Addr) (m c : Nat) (hm : m = (joinTo K i ++ [1, 2, 3]).length) (h : At .u8 W q (joinTo K i ++ [1, 2, 3])) => ref8Of (joinTo K i ++ [1, 2, 3]) hb3 (by rw [List.length_append]; show _ + 3 ≤ _; omega) m hm q c W h)
      rw [hY1.out] at dS1 dR1
      rw [hY2.out] at dS2 dR2
      have hle4 := Lib.hid (show (mb + m) * (1 + 1) ≤ 1000000000000 by have := hml.out; have := hmH.out; omega)
      have hle3 := Lib.hid (show ((joinTo K i).length + 3) * (1 + 1) ≤ 1000000000000 by omega)
      have hlenH := Lib.hid hlen
      have hlen1H := Lib.hid hlen1
      have hxlH := Lib.hid hxl
      have hm1H := Lib.hid hm1'
      clear hlen hlen1 hnx hm1' hm12' hxl
      go_upto_if 26 with (go_at_call 12; refine dI.out.mono ?_; rintro e' w3 ⟨bb, rfl, hB3⟩)
      go_cut [8, 9, 10] from 18 to 64 (fun s8 s9 s10 wx => s8 = .slice qb mb cb ∧ s9 = .int .i64 i ∧ Below wr.heap.size wr wx)
      case first =>
        go_wp2_with (first
          | (go_at_call 13; refine (dF.out w3 (hR.call hB3)).mono ?_; rintro e' w4 ⟨gf, rfl, hgf, hR4, hB4⟩; have hBr4 := below_then hB3 hB4; have hT4 := hS0.out.call (below_then hBw hBr4); have hg4 : wr.heap.size ≤ gf := (by have := hB3.size; omega); have hl4 := hR4.lt; have hz4 : 0 < gf := (by have := hzr.out; omega))
          | (go_at_call 14; refine (dW.out w4 gf hz4 hl4 hT4 hR4).mono ?_; rintro e' w5 ⟨rfl, hR5, hO5⟩; have hBr5 := (hBr4.alloc hBr4.size (.cells #[.int .u8 1, .int .u8 2, .int .u8 3] 5)).trans (hO5.below hg4 (by have := hBr4.size; simp; omega)); have hT5 := hS0.out.call (below_then hBw hBr5))
          | (go_at_call 15; refine (dS1.out w5 gf hT5 hR5).mono ?_; rintro e' w6 ⟨rfl, hB6⟩; have hBr6 := below_then hBr5 hB6; have hM6 := hM.call hBr6)
          | (go_at_call 16; refine (dB.out w6 hM6.at_).mono ?_; intro e' w7 hr; obtain ⟨qp, np, cp, rfl, mp, hb7⟩ := hr.mine; have hBr7 := below_then hBr6 hb7; have hnp : Hid ((np + 3) * (1 + 1) ≤ 1000000000000) := (by have := hle3.out; rw [← mp.len] at this; exact this); have hz7 : w6.heap.size ≤ (w7.alloc (.cells #[.int .u8 1, .int .u8 2, .int .u8 3] 5)).heap.size := (by have := hb7.size; simp; omega))
          | (at_builtin; refine walk_mine (k := .u8) (o := ⟨some 37, _, _, _, _, _⟩) rfl _ _ 23 rfl i0 (.int .u8 0) 1 Tryd.underlying23 hi0 hz0 hz1 hz2 rfl (mp.alloc (.cells #[.int .u8 1, .int .u8 2, .int .u8 3] 5)) rfl (three w7) (m := 3) rfl rfl hnp.out hz7 (w0 := w7.alloc (.cells #[.int .u8 1, .int .u8 2, .int .u8 3] 5)) (Below.refl _ _) ?_; intro q8 n8 c8 w8 hM8 hB8 hn8 hz8; have hBr8 := (hBr7.alloc hBr7.size (.cells #[.int .u8 1, .int .u8 2, .int .u8 3] 5)).trans (hB8.mono hBr6.size))
          | (go_at_call 9; refine (dR1.out w8 q8 n8 c8 hM8.len hM8.at_).mono ?_; rintro e' w9 ⟨rfl, hB9⟩; have hBr9 := hBr8.trans (hB9.mono hBr8.size)))
        all_goals (go_meet; exact ⟨rfl, rfl, by first | exact hBr9 | exact hB3⟩)
      case rest =>
        obtain ⟨rfl, rfl, hBx⟩ := hcut
        have hBc := below_then hB hBx
        have hBwc := below_then hBw hBx
        have hTc := hS0.out.call hBwc
        have hRc := hR.call hBx
        have hMc := hM.call hBx
        have cv := hc.out wc hBc
        have lb : b < wc.heap.size := Nat.lt_of_lt_of_le hbl hBc.size
        clear hq1 hY1 dS1 dR1 dF dB dI
        go_upto_region 14 with (go_at_call 14; refine (dWr.out wc hBc hTc hRc).mono ?_; rintro e' w11 ⟨rfl, hR11, hO11⟩)
        have hBc11 := hBc.trans (hO11.below hg hBc.size)
        have hBw11 := below_then hW1.out hBc11
        have hT11 := hS0.out.call hBw11
        have hM11 := mine_only hMc hO11 hg2
        have cv11 := hc.out w11 hBc11
        have at11 := hatH.out.call hBc11
        have hs11 : Hid (w2.heap.size ≤ w11.heap.size) := by have h1 := hzr.out; have h2 := hBx.size; have h3 := hO11.size; show _ ≤ _; omega
        have lb11 : b < w11.heap.size := Nat.lt_of_lt_of_le lb hO11.size
        clear hRc hMc cv lb hR hM
        go_wp2_with (first
          | (at_builtin; refine walk_mine (k := .u8) (o := ⟨some 52, _, _, _, _, _⟩) rfl _ _ 23 rfl i0 (.int .u8 0) 1 Tryd.underlying23 hi0 hz0 hz1 hz2 rfl hM11 rfl at11 hmH.out rfl hle4.out hs11.out (w0 := w11) (Below.refl _ _) ?_; intro q12 n12 c12 w12 hM12 hB12 hn12 hz12; rw [hnx'.out] at hM12; obtain ⟨e12, he12⟩ : ∃ e12, e12 = n12 := ⟨_, rfl⟩; rw [← he12] at hM12 ⊢; obtain rfl : N2 = e12 := (by rw [hM12.len]; exact hN2.out.symm); clear he12; have hR12 := hR11.below hB12 hg2; have hBc12 := hBc11.trans (hB12.mono (by omega)); have hT12 := hS0.out.call (below_then hW1.out hBc12))
          | (go_at_call 15; refine (dS2.out w12 hT12 hR12).mono ?_; rintro e' w13 ⟨rfl, hB13⟩; have hR13 := hR12.call hB13; have hM13 := hM12.call hB13; have hBc13 := below_then hBc12 hB13)
          | (go_at_call 9; refine (dR2.out w13 q12 _ c12 hM13.len hM13.at_).mono ?_; rintro e' w14 ⟨rfl, hB14⟩; have hR14 := hR13.call hB14; have hM14 := hM13.call hB14; have hBc14 := below_then hBc13 hB14)
          | (go_at_call 17; refine (dL2.out w14 hR14).mono ?_; rintro e' w15 ⟨rfl, rfl⟩))
        go_roundw
        case rel => exact ⟨i + 1, q12, N2, c12, by omega, by go_num, rfl, hR14, hM14, (by have h1 := hs11.out; have h2 := hz12.out; have h3 := hB13.size; have h4 := hB14.size; show _ ≤ _; omega), hBc14⟩
        case measure => simp [intOf]; omega
    · obtain rfl : m1 = i := by omega
      have hm1' := hm1.out
      have hlen := hjl.out m1
      have j2 : (m1 : Int) ≤ 12 := by have := hm12.out; omega
      obtain ⟨Y3, hY3⟩ : ∃ Y3, Hid ((ints .u8 (sha (joinTo K m1))).toArray = Y3) := ⟨_, Lib.hid rfl⟩
      have hq3 := fun W1 : World => equal_ints (P := Tryd.prog) (t := 27) (e := 5) (k := .u8) Tryd.underlying27 hiE.out (by kernel_rfl) (by kernel_rfl) Tryd.underlying5 (sha (joinTo K m1)) rfl W1
      rw [hY3.out] at hq3
      have hT := hS0.out.call hBw
      have dS3 := Lib.hid (hashSum (joinTo K m1) (hbj.out _) (by omega) g wr hT hR)
      have dR3 := Lib.hid (fun (W : World) (m : Nat) (hm : m = (joinTo K m1).length) (h : At .u8 W qb (joinTo K m1)) => ref8Of (joinTo K m1) (hbj.out _) (by omega) m hm qb cb W h)
      rw [hY3.out] at dS3 dR3
      have hml := Lib.hid hM.len
      clear hm1' hlen
      go_wp2_with (first
        | (go_at_call 15; refine dS3.out.mono ?_; rintro e' w3 ⟨rfl, hB3⟩; have hM3 := hM.call hB3; have hBw3 := below_then hBw hB3)
        | (go_at_call 9; refine (dR3.out w3 _ hml.out hM3.at_).mono ?_; rintro e' w4 ⟨rfl, hB4⟩; have hBw4 := below_then hBw3 hB4; have hT4 := hS0.out.call hBw4)
        | (go_at_call 10; refine (works w4 hT4).mono ?_; rintro e' w5 ⟨rfl, hB5⟩; have hBw5 := below_then hBw4 hB5))
      go_ret
      exact ⟨rfl, hBw5⟩


set_option maxRecDepth 100000 in
theorem lifted (os : Os) (started : os.Started) (H : Type) (enc : TypeId × Value → H) :
    ReturnsInHanded {} Tryd.checked os 4 .any (fun w args => (Rows.hashWritesSpec.pre enc Tryd.prog Tryd.f4 [] false w args ∧ laidMetH Tryd.prog laidT w) ∧ sizedMet enc Tryd.prog Tryd.f4 (OpenSpec.ofChange Rows.hashWritesSpec) false w args)
      (Rows.hashWritesSpec.post enc Tryd.prog Tryd.f4 false true false false) := by
  refine returnsInHanded_of_change_and (C := Tryd.checked) (X := fun w _ => laidMetH Tryd.prog laidT w) (fun _ _ _ hh h => h.of_heap hh) own started (by kernel_rfl) Tryd.func4
    (ChangeSpec.witness_shaped (enc := enc) (C := Tryd.checked) (os := os) (X := fun w _ => laidMetH Tryd.prog laidT w) false (World.doorLaid Tryd.prog 400 os) #[.slice none 0 0, .slice none 0 0] 8 rfl (World.shaped_of_RefB (by kernel_rfl) (by kernel_rfl)) (by kernel_rfl) (by kernel_rfl) (by kernel_rfl) (door_met os _)) ?_
  intro W1 base args ds gs before hval0 hW _ _ hL _
  have hval : ∀ (j : Nat) t v, Tryd.f4.params[j]? = some t → args[j]? = some v → Value.okWide Tryd.prog W1 .any base t v := hval0
  have hW' := hW
  obtain ⟨p, q, hA0, hV, rfl, hfz, hnd⟩ := hW
  have hA : DataW.TrodAll enc Tryd.prog W1 0 (fun _ => true) true Tryd.f4.params.toList args.toList ds p := hA0
  rw [Tryd.params4] at hA hval
  obtain ⟨v0, vs0, d0, ds0, p0, q0, hargs, rfl, rfl, h0, r0⟩ := trodAll_cons hA
  obtain ⟨v1, vs1, d1, ds1, p1, q1, rfl, rfl, rfl, h1, r1⟩ := trodAll_cons r0
  obtain ⟨rfl, rfl, rfl⟩ := trodAll_nil r1
  obtain rfl : args = #[v0, v1] := by cases args; simp_all
  obtain ⟨rfl, rfl⟩ := trodVars_none hV
  obtain ⟨l, w0⟩ := open_rows Tryd.underlying22 Tryd.underlying23 Tryd.underlying5 (by kernel_rfl) (by kernel_rfl) (hval 0 22 v0 rfl rfl) h0
  obtain ⟨fs, w1⟩ := open_list (k := .i64) Tryd.underlying32 Tryd.underlying3 (by kernel_rfl) (hval 1 32 v1 rfl rfl) h1
  have hS := steps_of_laid hL
  clear hA0 hval0 hval hA hL
  refine (walk v0 l v1 fs W1 w0 w1 hS).mono fun e W' ⟨he, hg⟩ => ?_
  subst he
  exact ⟨_, rfl, law_post laidOut (by kernel_rfl) rfl (by kernel_rfl) Tryd.underlying4 hW' rfl hg⟩

theorem over : Rows.HashWritesSaid :=
  OpenClaim.holds_of_wide 4 Tryd.f4 rfl rfl rfl rfl rfl rfl rfl ⟨rfl, rfl, rfl, rfl, rfl⟩ rfl rfl rfl rfl rfl (by kernel_rfl) Tryd.func4 (by kernel_rfl)
    (of_decide_eq_true (by kernel_rfl)) (by unfold Func.isWrapper; first | (rw [if_pos (by decide +kernel)]; kernel_rfl) | (rw [if_neg (by decide +kernel)]; exact ⟨rfl, rfl⟩))
    (fun os started H enc _ => lifted os started H enc)

theorem proved : Rows.HashWritesCardSaid :=
  Claim7.holds_tied_plain_at .later [] [.data] true (true, "808dd09b969e894a5e111d73f5f435a29610888f0f5953703ea7ec9454c4ac23") false
    over (fun _ h => by cases h) (by kernel_rfl) (fun _ h => by cases h) hashWrites_row_tie rfl ⟨rfl, rfl⟩ (by kernel_rfl) rfl
    (fun f fn hf hfn => by
      obtain rfl : f = 4 := Option.some.inj ((show Tryd.prog.funcNamed "pelorus/peloruslaw08.HashWrites" = some 4 by kernel_rfl).symm.trans hf) |>.symm
      obtain rfl : fn = Tryd.f4 := (Option.some.inj (Tryd.func4.symm.trans hfn)).symm
      exact ⟨by kernel_rfl, fun j t ht => by
        rw [Tryd.params4] at ht
        have hm : t ∈ [22, 32] := by simpa using Array.mem_of_getElem? ht
        have hall : ([22, 32].all fun u => !Tryd.prog.wantsStandIn u) = true := by kernel_rfl
        exact (show Tryd.prog.wantsStandIn t = false by simpa using List.all_eq_true.1 hall t hm)⟩)
    (by kernel_rfl)
end Go.Proofs.YtjgmmocadkcghaaDoor.hashWrites
