/- The document's key, filled and added to. -/
import Derived.Test.YtmhehnimgkmmaaaDoorMacB
import Derived.Test.YtmhehnimgkmmaaaDoorHashG
import Derived.Test.YtmhehnimgkmmaaaDoorBase
import Derived.Deep.RegionHeld3
import Derived.Deep.DeepCutAuto
import Derived.IntWalk
import Derived.Lib.Hide
namespace Go.Proofs.YtmhehnimgkmmaaaDoor
set_option maxRecDepth 100000
open Go.RowKit
set_option linter.unusedVariables false
set_option linter.unusedSimpArgs false
attribute [local go_sem] cell_re

theorem Mine.set {k : IntKind} {e : TypeId} {B n cap g : Nat} {w : World} {zs : List Int} (h : Mine k e B w (some ⟨g, 0, none⟩) n cap zs) (i : Nat) (v : Int) : Mine k e B (w.setCell ⟨g, i, none⟩ (.int k v)) (some ⟨g, 0, none⟩) n cap (zs.set i v) :=
  ⟨by rw [List.length_set]; exact h.len, by have := (h.own.stored i (.int k v)).1; rw [ints, List.map_set]; exact this, h.hi, h.top⟩
theorem Mine.form {k : IntKind} {e : TypeId} {B n cap : Nat} {w : World} {q : Option Addr} {zs : List Int} (h : Mine k e B w q n cap zs) (hn : 0 < n) : ∃ g, q = some ⟨g, 0, none⟩ ∧ B ≤ g ∧ g < w.heap.size := by
  rcases h.own.2 with ⟨h1, h2⟩ | ⟨g, cap', cur, h1, -⟩
  · omega
  · injection h1 with h1
    subst h1
    obtain ⟨k1, k2⟩ := h.own.lt g rfl
    exact ⟨g, rfl, k1, k2⟩
set_option maxRecDepth 200000 in
set_option maxHeartbeats 8000000 in
theorem ref9Pad (key : List Int) (hb : Byted key) (hl : key.length ≤ 1000000) (by_ : Int) (hby : 0 ≤ by_ ∧ by_ ≤ 255) (p : Option Addr) (n c : Nat) (hn : n = key.length) (w : World) (hK : At .u8 w p key) :
    Calls Tryd.prog 28 #[.slice p n c, .int .u8 by_] w (NewRow .u8 5 w (addedL (filledL key) by_)) := by
  obtain ⟨i0, hi0, hz0, hz1, hz2⟩ := info_parts infoByte
  have own0 := Mine.lit (k := .u8) (e := 5) (B := w.heap.size) w [] #[] 0 rfl rfl (Nat.le_refl _) (by unfold maxLen; omega)
  have hB0 := (Below.refl w.heap.size w).alloc (Nat.le_refl _) (.cells #[] 5)
  have hK0 := Lib.hid (hK.alloc (.cells #[] 5))
  have hKx := Lib.hid hK
  have hN := Lib.hid hn
  have jn : (n : Int) ≤ 1000000 := by omega
  have jl := Lib.hid (show (0 + n) * (1 + 1) ≤ 1000000000000 by omega)
  have hkl := keyOf_length key
  have hfl := Lib.hid (filledL_length key)
  have hfb := Lib.hid (filledL_byted hb)
  have hfe : Hid (keyOf key ++ List.replicate (64 - (keyOf key).length) 0 = filledL key) := Lib.hid rfl
  have hko : Hid ((64 < key.length → keyOf key = sha key) ∧ (¬ 64 < key.length → keyOf key = key)) := ⟨fun h => if_pos h, fun h => if_neg h⟩
  have dO := Lib.hid (fun (W : World) (h : Below w.heap.size w W) => ref8Of key hb (by omega) n hn p c W (hK.call h))
  obtain ⟨KO, hKO⟩ : ∃ K, Hid (keyOf key = K) := ⟨_, rfl⟩
  rw [hKO.out] at hkl hfe hko
  obtain ⟨F, hF⟩ : ∃ F, Hid (filledL key = F) := ⟨_, rfl⟩
  rw [hF.out] at hfl hfb hfe ⊢
  obtain ⟨D, hD⟩ : ∃ D, Hid (sha key = D) := ⟨_, Lib.hid rfl⟩
  have hDl : Hid (D.length = 32) := by rw [← hD.out]; exact Lib.hid rfl
  rw [hD.out] at dO hko
  obtain ⟨Y, hY⟩ : ∃ Y, Hid ((ints .u8 D).toArray = Y) := ⟨_, rfl⟩
  rw [hY.out] at dO
  clear hb hl hn hK
  go_enter Tryd.func28, Tryd.ntmps28
  go_upto_if 13 with (at_builtin; refine walk_mine (k := .u8)  rfl _ _ 48 rfl i0 (.int .u8 0) 1 Tryd.underlying48 hi0 hz0 hz1 hz2 rfl own0 rfl hK0.out hN.out rfl jl.out hB0.size hB0 ?_; intro q1 n1 c1 w1 m1 hB1 e1 g1)
  rw [List.nil_append] at m1
  go_cut [5, 6] from 8 to 18 (fun s5 s6 wx => ∃ q m d, s5 = .slice q m d ∧ Mine .u8 5 w.heap.size wx q m d KO ∧ Below w.heap.size w wx)
  case first =>
    clear own0 hB0 hK0
    by_cases hlong : 64 < n
    · have j1 : (64 : Int) < (n : Int) := by omega
      have hko1 := Lib.hid (hko.out.1 (by rw [← hN.out]; exact hlong))
      have hle : Hid ((0 + 32) * (1 + 1) ≤ 1000000000000) := by show _ ≤ _; omega
      go_wp2_with (first
        | (go_at_call 25; refine (dO.out w1 hB1).mono ?_; rintro e' w2 ⟨rfl, b2⟩; have hB2 := below_then hB1 b2)
        | (refine walk_arr (o := ⟨some 6, _, _, _, _, _⟩) rfl 46 rfl .u8 (List.replicate 32 0) (by kernel_rfl) ?_; intro w3 k3 b3 s3; clear s3; have hB3 := below_then hB2 b3)
        | (refine walk_store rfl 46 _ _ rfl k3 rfl Y hY rfl (by rw [hDl.out]; kernel_rfl) (by rw [hDl.out]; rfl) ?_; intro w4 k4 s4 o4; have hB4 := below_only hB3 o4 hB2.size s4; clear s4; have hBx := hB4.alloc hB4.size (.cells #[] 5); have own4 := Mine.lit (k := .u8) (e := 5) (B := w.heap.size) w4 [] #[] 0 rfl rfl hB4.size (by unfold maxLen; omega); have at4 := (k4.alloc (.cells #[] 5)).at_)
        | (at_builtin; refine walk_mine (k := .u8) (o := ⟨some 18, _, _, _, _, _⟩) rfl _ _ 48 rfl i0 (.int .u8 0) 1 Tryd.underlying48 hi0 hz0 hz1 hz2 rfl own4 rfl at4 hDl.out.symm rfl hle.out hBx.size hBx ?_; intro q5 n5 c5 w5 m5 hB5 e5 g5))
      rw [List.nil_append, ← hko1.out] at m5
      go_meet
      exact ⟨_, _, _, rfl, m5, hB5⟩
    · have j1 : ¬ (64 : Int) < (n : Int) := by omega
      have j2 : (n : Int) ≤ 64 := by omega
      have hko1 := hko.out.2 (by rw [← hN.out]; exact hlong)
      rw [← hko1] at m1
      clear hko1
      go_wp2_with fail
      go_meet
      exact ⟨_, _, _, rfl, m1, hB1⟩
  case rest =>
    clear m1 hB1 own0 hB0 hK0 g1 e1
    obtain ⟨q, m, d, rfl, mK, hB⟩ := hcut
    have hmk := Lib.hid mK.len
    have hkl' := Lib.hid hkl
    go_wp2
    go_loopw [5] (fun v5 wr => ∃ (j : Nat) (q : Option Addr) (n' cap : Nat), j ≤ 64 - KO.length ∧ v5 = .slice q n' cap ∧ Hid (n' = KO.length + j) ∧ Mine .u8 5 w.heap.size wr q n' cap (KO ++ List.replicate j 0) ∧ Below w.heap.size w wr) (fun v5 _ => 64 - sliceLen v5)
    case atStart => exact ⟨0, q, m, d, Nat.zero_le _, rfl, hmk.out, by rw [List.replicate_zero, List.append_nil]; exact mK, hB⟩
    case round =>
      clear mK hB hmk
      obtain ⟨j, q, n', cap, hj, rfl, hn', mJ, hB⟩ := hrel
      have hkl2 := hkl'.out
      have hn2 := hn'.out
      by_cases hlt : n' < 64
      · have j1 : (n' : Int) < 64 := by omega
        have hlen := Lib.hid (show (n' + 1) * (1 + 1) ≤ 1000000000000 by omega)
        have hms := Lib.hid (show 64 - (n' + 1) < 64 - n' by omega)
        have hjj := Lib.hid (show j + 1 ≤ 64 - KO.length by omega)
        have hB' := Lib.hid (hB.alloc hB.size (.cells #[.int .u8 0] 5))
        have m' := Lib.hid (mJ.alloc (.cells #[.int .u8 0] 5))
        have at1 := Lib.hid (Mine.lit (k := .u8) (e := 5) (B := wr.heap.size) wr [0] #[.int .u8 0] 1 rfl rfl (Nat.le_refl _) (by unfold maxLen; omega)).at_
        clear mJ hB hn2 hkl2 hj
        go_wp2_with (at_builtin; refine walk_mine (k := .u8) (m := 1) rfl _ _ 48 rfl i0 (.int .u8 0) 1 Tryd.underlying48 hi0 hz0 hz1 hz2 rfl m'.out rfl at1.out rfl rfl hlen.out hB'.out.size hB'.out ?_; intro q3 n3 c3 w3 m3 hB3 e3 g3)
        go_roundw
        case rel =>
          refine ⟨j + 1, q3, n3, c3, hjj.out, rfl, ?_, ?_, hB3⟩
          · have := e3.out; have := hn'.out; show _ = _; omega
          · have e := m3
            rw [List.append_assoc] at e
            rw [List.replicate_succ']
            exact e
        case measure =>
          have := e3.out
          have := hms.out
          simp only [sliceLen]
          omega
      · obtain rfl : n' = 64 := by omega
        obtain rfl : j = 64 - KO.length := by omega
        rw [hfe.out] at mJ
        obtain ⟨g, rfl, hg, hgl⟩ := mJ.form (by omega)
        obtain ⟨wa, rfl⟩ : ∃ wa, wa = wr := ⟨wr, rfl⟩
        rw [← addedTo_zero F by_] at mJ
        have hBy := Lib.hid hby
        have hal := Lib.hid (fun k => addedTo_length F by_ k)
        obtain ⟨y0, y1⟩ := hby
        clear hn2 hkl2 hj hlt
        go_wp2
        go_loopw [7] (fun v7 w2 => ∃ (i : Nat), i ≤ 64 ∧ v7 = .int .i64 i ∧ Mine .u8 5 w.heap.size w2 (some ⟨g, 0, none⟩) 64 cap (addedTo F by_ i) ∧ Below w.heap.size w w2) (fun v7 _ => 64 - (intOf v7).toNat)
        case atStart => exact ⟨0, by omega, rfl, mJ, hB⟩
        case round =>
          clear mJ hB hgl
          rename_i w2
          obtain ⟨i, hi, rfl, mI, hB⟩ := hrel
          by_cases hlt : i < 64
          · have hc := mI.own.cellAt i (by omega)
            have hf := mI.own.frozenAt i
            have hgl := (mI.own.lt g rfl).2
            rw [ints, List.getElem?_map, List.getElem?_eq_getElem (by rw [hal.out, hfl.out]; exact hlt)] at hc
            have hv0 : (addedTo F by_ i)[i]'(by rw [hal.out, hfl.out]; exact hlt) = F.getD i 0 := by
              have := addedTo_get F by_ i (by rw [hfl.out]; exact hlt)
              rw [List.getD_eq_getElem?_getD, List.getElem?_eq_getElem (by rw [hal.out, hfl.out]; exact hlt)] at this
              exact this
            rw [Option.map_some, hv0] at hc
            have hv := hfb.out.at_ i
            have hnx := Lib.hid (addedTo_succ F by_ i (by rw [hfl.out]; exact hlt))
            have hset := Lib.hid (fun v : Int => mI.set i v)
            have hBs := Lib.hid (fun v : Value => hB.setCell (p := ⟨g, i, none⟩) hg v)
            clear hv0
            generalize F.getD i 0 = v at *
            obtain ⟨v0, v1⟩ := hv
            have j1 : (i : Int) < 64 := by omega
            clear mI hB
            go_wp2
            go_roundw
            case rel => exact ⟨i + 1, by omega, by go_num, by rw [← hnx.out]; exact hset.out _, hBs.out _⟩
            case measure => simp [intOf]; omega
          · obtain rfl : i = 64 := by omega
            rw [addedTo_all F by_ 64 hfl.out] at mI
            have hfin := Lib.hid (mI.new hB)
            go_wp2
            go_ret
            exact hfin.out

end Go.Proofs.YtmhehnimgkmmaaaDoor
