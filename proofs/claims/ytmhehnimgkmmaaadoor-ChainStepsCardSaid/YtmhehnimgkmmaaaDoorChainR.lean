/- All keys of a chain, in the program and in the document; a key's next one there, and where it leads. -/
import Derived.Test.YtmhehnimgkmmaaaDoorChainC
import Derived.Test.YtmhehnimgkmmaaaDoorHashG
import Derived.Test.YtmhehnimgkmmaaaDoorBase
import Derived.Deep.RegionHeld3
import Derived.Deep.DeepCutAuto
import Derived.IntWalk
import Derived.Lib.Hide
namespace Go.Proofs.YtmhehnimgkmmaaaDoor
set_option maxRecDepth 100000
open Go.RowKit
set_option linter.unusedVariables false
set_option linter.unusedSimpArgs false
attribute [local go_sem] cell_re

/-- What a call that makes all keys of a chain hands out: so many of them. -/
def AllKeys (key : List Int) (n : Nat) (w : World) (e : Ending) (w' : World) : Prop := ∃ q cap, e = .returned (.tuple #[.slice q n cap, .int .i64 0]) ∧ n ≤ cap ∧ At .u8 w' q (keysTo key n) ∧ Below w.heap.size w w'
theorem infoKey : (Tryd.prog.info? 23).map (fun i => (i.zero, i.size, i.bytes)) = some (some (.agg (ints .u8 (List.replicate 32 0)).toArray), 32, 32) := by kernel_rfl
set_option maxRecDepth 200000 in
set_option maxHeartbeats 8000000 in
theorem chainAll_no (key : List Int) (hkb : Byted key) (hkl : key.length = 32) (K : Array Value) (hK : Hid ((ints .u8 key).toArray = K)) (n : Int) (h : n < 0 ∨ 512 < n) (w : World) :
    Calls Tryd.prog 10 #[.agg K, .int .i64 n] w fun e w' => e = .returned (.tuple #[.slice none 0 0, .int .i64 2]) ∧ Below w.heap.size w w' := by
  have dO := Lib.hid (fun W => chainOut n h W)
  go_enter Tryd.func10, Tryd.ntmps10
  go_wp2_with (first
    | (refine walk_boxed rfl 23 _ rfl .u8 key K hK rfl ?_; intro w1 k1 b1 s1; clear s1)
    | (go_at_call 18; refine (dO.out w1).mono ?_; rintro e' w3 ⟨rfl, rfl⟩))
  go_ret2
  exact ⟨rfl, b1⟩
set_option maxRecDepth 200000 in
set_option maxHeartbeats 8000000 in
theorem chainAll (key : List Int) (hkb : Byted key) (hkl : key.length = 32) (K : Array Value) (hK : Hid ((ints .u8 key).toArray = K)) (n : Nat) (hn : n ≤ 512) (w : World) (hT : Steps w) : Calls Tryd.prog 10 #[.agg K, .int .i64 n] w (AllKeys key (n + 1) w) := by
  have hT0 := Lib.hid hT
  have dI := Lib.hid (fun W => chainIn n hn W)
  have hb0 := Lib.hid (fun i => keyAt_byted hkb i)
  have hl0 := Lib.hid (fun i => keyAt_length hkl i)
  have hfl := Lib.hid (fun i hi => filledTo_length hkl (n + 1) i hi)
  have hfs := Lib.hid (fun i hi => filledTo_succ hkl (n + 1) i hi)
  obtain ⟨i0, hi0, hz0, hz1, hz2⟩ := info_parts infoKey
  have jn : (n : Int) ≤ 512 := by omega
  have hn6 : Hid (n + 1 ≤ 1000000) := by show _ ≤ _; omega
  clear hkb hT hn
  go_enter Tryd.func10, Tryd.ntmps10
  go_upto_region 4 with (first
    | (refine walk_boxed rfl 23 _ rfl .u8 key K hK rfl ?_; intro w1 k1 b1 s1; clear s1)
    | (go_at_call 18; refine (dI.out w1).mono ?_; rintro e' w3 ⟨rfl, rfl⟩)
    | (refine walk_makeN rfl 29 23 _ _ rfl .u8 i0 32 (by decide) Tryd.underlying29 hi0 hz0 hz1 (by rw [hz2]; decide) (n + 1) rfl rfl hn6.out ?_; intro w4 a4 b4 s4; clear s4; have k4 := k1.call b4; have hB4 := below_then b1 b4; have hwl : w.heap.size ≤ w1.heap.size := b1.size))
  have hne := Nat.ne_of_lt k1.lt
  clear k1 b1 b4
  generalize w1.heap.size = ga at *
  rw [← filledTo_zero key (n + 1)] at a4
  go_wp2
  go_loopw [15] (fun v15 wr => ∃ (i : Nat) (A : List Int), i ≤ n + 1 ∧ v15 = .int .i64 i ∧ Hid (keyAt key i = A) ∧ Arr .u8 wr w.heap.size A ∧ Arr .u8 wr ga (filledTo key (n + 1) i) ∧ Below w.heap.size w wr) (fun v15 _ => n + 1 - (intOf v15).toNat)
  case atStart => exact ⟨0, key, Nat.zero_le _, rfl, Lib.hid rfl, k4, a4, hB4⟩
  case round =>
    clear k4 a4 hB4
    obtain ⟨i, A, hi, rfl, hA, kI, aI, hB⟩ := hrel
    by_cases hlt : i < n + 1
    · have hAb : Byted A := by rw [← hA.out]; exact hb0.out i
      have hAl : A.length = 32 := by rw [← hA.out]; exact hl0.out i
      obtain ⟨X, hX⟩ : ∃ X, Hid ((ints .u8 A).toArray = X) := ⟨_, rfl⟩
      obtain ⟨D, hD⟩ : ∃ D, Hid (nextL A = D) := ⟨_, Lib.hid rfl⟩
      have hDl : Hid (D.length = 32) := by rw [← hD.out]; exact Lib.hid rfl
      obtain ⟨Y, hY⟩ : ∃ Y, Hid ((ints .u8 D).toArray = Y) := ⟨_, rfl⟩
      have dN := Lib.hid (fun (W : World) (h : Below w.heap.size w W) => chainNext A hAb hAl X hX W (hT0.out.call h))
      rw [hD.out, hY.out] at dN
      have hnx : Hid (keyAt key (i + 1) = D) := by show nextL (keyAt key i) = D; rw [hA.out, hD.out]
      obtain ⟨F, hF⟩ : ∃ F, Hid (filledTo key (n + 1) i = F) := ⟨_, rfl⟩
      have hFl : Hid (F.length = (n + 1) * 32) := by rw [← hF.out]; exact Lib.hid (hfl.out i hi)
      have hsp := hfs.out i hlt
      rw [hF.out, hA.out] at hsp
      replace hsp := Lib.hid hsp
      rw [hF.out] at aI
      have hAl' := Lib.hid hAl
      have hfit : Hid (i * 32 + A.length ≤ F.length) := by show _ ≤ _; rw [hFl.out, hAl]; omega
      have j1 : (i : Int) < (n : Int) + 1 := by omega
      have j2 : i < n + 1 := hlt
      clear hAb hAl hA hF
      go_wp2_with (first
        | (refine walk_read rfl 23 _ rfl kI rfl 32 _ Tryd.underlying23 (by kernel_rfl) hAl'.out X hX ?_)
        | (refine walk_storeAt (i := i * 32) rfl 23 _ _ rfl aI (by first | rfl | (simp; rfl)) X hX rfl (by rw [hAl'.out]; kernel_rfl) hfit.out ?_; intro w5 a5 s5 o5; have k5 := kI.only o5 hne s5; have hB5 := below_only hB o5 hwl s5)
        | (refine walk_read rfl 23 _ rfl k5 rfl 32 _ Tryd.underlying23 (by kernel_rfl) hAl'.out X hX ?_)
        | (go_at_call 19; refine (dN.out w5 hB5).mono ?_; rintro e' w6 ⟨rfl, b6⟩; have k6 := k5.call b6; have a6 := a5.call b6; have hB6 := below_then hB5 b6)
        | (refine walk_store rfl 23 _ _ rfl k6 rfl Y hY rfl (by rw [hDl.out]; kernel_rfl) (by rw [hDl.out, hAl'.out]) ?_; intro w7 k7 s7 o7; have a7 := a6.only o7 (Ne.symm hne) s7; have hB7 := below_only hB6 o7 (Nat.le_refl _) s7))
      rw [hsp.out] at a7
      go_roundw
      case rel => exact ⟨i + 1, D, by omega, by go_num, hnx, k7, a7, hB7⟩
      case measure => simp [intOf]; omega
    · obtain rfl : i = n + 1 := by omega
      rw [filledTo_all] at aI
      have j1 : ¬ ((n + 1 : Nat) : Int) < (n : Int) + 1 := by omega
      go_wp2
      go_ret2
      exact ⟨_, _, rfl, Nat.le_refl _, aI.at_, hB⟩
set_option maxRecDepth 200000 in
set_option maxHeartbeats 8000000 in
theorem ref10Next (key : List Int) (hkb : Byted key) (hkl : key.length = 32) (K : Array Value) (hK : Hid ((ints .u8 key).toArray = K)) (w : World) :
    Calls Tryd.prog 20 #[.agg K] w fun e w' => e = .returned (.agg (ints .u8 (nextL key)).toArray) ∧ Below w.heap.size w w' := by
  obtain ⟨i0, hi0, hz0, hz1, hz2⟩ := info_parts infoByte
  have hkl' := Lib.hid hkl
  have hxb : Byted (preL ++ key) := preL_byted.append hkb
  have hxl : 13 + 32 = (preL ++ key).length := by rw [List.length_append, hkl]; rfl
  have dO := Lib.hid (fun (W : World) (g cap : Nat) (h : At .u8 W (some ⟨g, 0, none⟩) (preL ++ key)) => ref8Of (preL ++ key) hxb (by rw [← hxl]; decide) (13 + 32) hxl (some ⟨g, 0, none⟩) cap W h)
  obtain ⟨D, hD⟩ : ∃ D, Hid (nextL key = D) := ⟨_, Lib.hid rfl⟩
  have hDl : Hid (D.length = 32) := by show _ = _; rw [← hD.out]; exact (Lib.hid rfl).out
  rw [show sha (preL ++ key) = D from hD.out] at dO
  rw [hD.out]
  obtain ⟨Y, hY⟩ : ∃ Y, Hid ((ints .u8 D).toArray = Y) := ⟨_, rfl⟩
  rw [hY.out] at dO ⊢
  clear hkb hkl hxb hxl
  go_enter Tryd.func20, Tryd.ntmps20
  go_upto_region 1 with (first
    | (refine walk_boxed rfl 23 _ rfl .u8 key K hK rfl ?_; intro w1 k1 b1 s1; clear s1)
    | (refine walk_arr (o := ⟨some 2, _, _, _, _, _⟩) rfl 23 rfl .u8 (List.replicate 32 0) (by kernel_rfl) ?_; intro w2 aR b2 s2; clear s2; have k2 := k1.call b2; have hB2 := below_then b1 b2; have hwl : w.heap.size ≤ w1.heap.size := b1.size))
  have r1 := Lib.run_convert_bytes_const (P := Tryd.prog) w2 48 5 #[.int .u8 112, .int .u8 101, .int .u8 108, .int .u8 111, .int .u8 114, .int .u8 117, .int .u8 115, .int .u8 46, .int .u8 99, .int .u8 104, .int .u8 97, .int .u8 105, .int .u8 110] 13 13 Tryd.underlying48 Tryd.underlying5
  have hpr := Lib.hid (pre_row w2)
  have hpb := Lib.hid (pre_below w2)
  have hk2 := Lib.hid (k2.call hpb.out).at_
  clear k1 b1 k2
  go_wp2_with (first
    | (at_builtin; refine walk_grows rfl _ _ 48 rfl 5 i0 (.int .u8 0) 1 Tryd.underlying48 hi0 hz0 hz1 hz2 rfl hpr.out rfl rfl (by decide) hk2.out rfl hkl'.out.symm (by decide) (by decide) (by decide) ?_; intro g4 cap4 w4 ro b4; have hpb4 := below_then hpb.out (b4.mono (Nat.le_refl _)); have aR4 := aR.call hpb4; have hB4 := below_then hB2 hpb4)
    | (go_at_call 25; refine (dO.out w4 g4 cap4 ro.at_).mono ?_; rintro e' w5 ⟨rfl, b5⟩; have aR5 := aR4.call b5; have hB5 := below_then hB4 b5)
    | (refine walk_store rfl 23 _ _ rfl aR5 rfl Y hY rfl (by rw [hDl.out]; kernel_rfl) (by rw [hDl.out]; rfl) ?_; intro w6 aR6 s6 o6))
  refine bodyPost_ret (results_cell_mid rfl _ _ w1.heap.size (ints .u8 D) _ rfl aR6.range Tryd.underlying23 rfl (by rw [ints, List.length_map, hDl.out]; kernel_rfl)) rfl ?_
  exact ⟨by rw [hY.out], below_only hB5 o6 hwl s6⟩
set_option maxRecDepth 200000 in
set_option maxHeartbeats 8000000 in
theorem ref10All_no (key : List Int) (hkb : Byted key) (hkl : key.length = 32) (K : Array Value) (hK : Hid ((ints .u8 key).toArray = K)) (n : Int) (h : n < 0 ∨ 512 < n) (w : World) :
    Calls Tryd.prog 11 #[.agg K, .int .i64 n] w fun e w' => e = .returned (.tuple #[.slice none 0 0, .int .i64 2]) ∧ Below w.heap.size w w' := by
  by_cases h0 : n < 0
  · go_enter Tryd.func11, Tryd.ntmps11
    go_wp2_with (refine walk_boxed rfl 23 _ rfl .u8 key K hK rfl ?_; intro w1 k1 b1 s1; clear s1)
    go_ret2
    exact ⟨rfl, b1⟩
  · have h1 : 512 < n := by omega
    go_enter Tryd.func11, Tryd.ntmps11
    go_wp2_with (refine walk_boxed rfl 23 _ rfl .u8 key K hK rfl ?_; intro w1 k1 b1 s1; clear s1)
    go_ret2
    exact ⟨rfl, b1⟩
set_option maxRecDepth 200000 in
set_option maxHeartbeats 8000000 in
theorem ref10All (key : List Int) (hkb : Byted key) (hkl : key.length = 32) (K : Array Value) (hK : Hid ((ints .u8 key).toArray = K)) (n : Nat) (hn : n ≤ 512) (w : World) : Calls Tryd.prog 11 #[.agg K, .int .i64 n] w (AllKeys key (n + 1) w) := by
  have hb0 := Lib.hid (fun i => keyAt_byted hkb i)
  have hl0 := Lib.hid (fun i => keyAt_length hkl i)
  have hkl0 := Lib.hid (fun i => keysTo_length hkl i)
  have hkp := Lib.hid (fun i m hm => keysTo_part hkl i m hm)
  have hks := Lib.hid (fun i => keysTo_succ key i)
  have hk1 := keysTo_one key
  have hkl' := Lib.hid hkl
  obtain ⟨i0, hi0, hz0, hz1, hz2⟩ := info_parts infoKey
  have jn : (n : Int) ≤ 512 := by omega
  have hn9 := Lib.hid hn
  have hn6 : Hid (n + 1 ≤ 1000000) := by show _ ≤ _; omega
  clear hkb hn
  go_enter Tryd.func11, Tryd.ntmps11
  go_upto_region 3 with (refine walk_boxed rfl 23 _ rfl .u8 key K hK rfl ?_; intro w1 k1 b1 s1; clear s1)
  go_wp2_with (first
    | (refine walk_read rfl 23 _ rfl k1 rfl 32 _ Tryd.underlying23 (by kernel_rfl) hkl'.out K hK ?_)
    | (refine walk_row1 rfl 29 23 _ rfl (by decide) (by decide) i0 Tryd.underlying29 hi0 hz0 hz1 hkl'.out K hK rfl b1 b1.size ?_; intro w2 own0 a2 b2 hB0))
  rw [← hk1] at own0
  clear a2 b2
  go_loopw [6, 7] (fun v6 v7 wr => ∃ (i : Nat) (q : Option Addr) (cap : Nat), i ≤ n ∧ v7 = .int .i64 i ∧ v6 = .slice q (i + 1) cap ∧ Block .u8 23 32 w.heap.size wr q (i + 1) cap (keysTo key (i + 1)) ∧ Below w.heap.size w wr) (fun _ v7 _ => n - (intOf v7).toNat)
  case atStart => exact ⟨0, _, 1, Nat.zero_le _, rfl, rfl, own0, hB0⟩
  case round =>
    clear own0 hB0 k1 b1
    obtain ⟨i, q, cap, hi, rfl, rfl, own, hB⟩ := hrel
    by_cases hlt : i < n
    · obtain ⟨b, off, rfl, hbl, hrg⟩ := own.at_.lies (i * 32) 32 (by decide) (by rw [hkl0.out]; omega)
      rw [hkp.out i (i + 1) (Nat.lt_succ_self i)] at hrg
      have hAb := hb0.out i
      have hAl := hl0.out i
      obtain ⟨A, hA⟩ : ∃ A, Hid (keyAt key i = A) := ⟨_, Lib.hid rfl⟩
      rw [hA.out] at hrg hAb hAl
      obtain ⟨X, hX⟩ : ∃ X, Hid ((ints .u8 A).toArray = X) := ⟨_, rfl⟩
      obtain ⟨D, hD⟩ : ∃ D, Hid (nextL A = D) := ⟨_, Lib.hid rfl⟩
      have hDl : Hid (D.length = 32) := by rw [← hD.out]; exact Lib.hid rfl
      obtain ⟨Y, hY⟩ : ∃ Y, Hid ((ints .u8 D).toArray = Y) := ⟨_, rfl⟩
      have dN := Lib.hid (ref10Next A hAb hAl X hX wr)
      rw [hD.out, hY.out] at dN
      have hnx : Hid (keysTo key (i + 1) ++ D = keysTo key (i + 1 + 1)) := by
        show _ = _
        rw [← hks.out (i + 1)]
        show _ = _ ++ nextL (keyAt key i)
        rw [hA.out, hD.out]
      have hAl' := Lib.hid hAl
      replace hrg := Lib.hid hrg
      have hle : Hid ((i + 1 + 1) * (32 + 1) ≤ 1000000000) := by have := hn9.out; show _ ≤ _; omega
      have j1 : (i : Int) < (n : Int) := by omega
      have j2 : i < i + 1 := Nat.lt_succ_self i
      have j3 : (i : Int) < (i : Int) + 1 := by omega
      have j4 : (i : Int) ≤ 512 := by omega
      have own' := Lib.hid own
      clear hAb hAl hA own
      go_wp2_with (first
        | (refine walk_readAt (off := off + i * 32) rfl 23 _ rfl hrg.out (by first | rfl | (simp; rfl)) 32 _ Tryd.underlying23 (by kernel_rfl) hAl'.out X hX ?_)
        | (go_at_call 20; refine dN.out.mono ?_; rintro e' w5 ⟨rfl, b5⟩; have own5 := own'.out.call b5; have hB5 := below_then hB b5)
        | (refine walk_row1 rfl 29 23 _ rfl (by decide) (by decide) i0 Tryd.underlying29 hi0 hz0 hz1 hDl.out Y hY rfl hB5 hB5.size ?_; intro w6 v6' y6' b6 hB6; clear v6'; have own6 := own5.call b6; have y6 := y6'.at_)
        | (at_builtin; refine walk_block rfl _ _ 29 rfl i0 _ 32 (by decide) Tryd.underlying29 hi0 hz0 hz1 hz2 (by kernel_rfl) own6 rfl y6 hDl.out rfl hle.out hB6.size hB6 ?_; intro q7 n7 cap7 w7 own7 hB7 e7 g7))
      obtain rfl := e7.out
      rw [hnx.out] at own7
      go_roundw
      case rel => exact ⟨i + 1, q7, cap7, by omega, by go_num, rfl, own7, hB7⟩
      case measure => simp [intOf]; omega
    · obtain rfl : i = n := by omega
      go_wp2
      go_ret2
      exact ⟨_, _, rfl, own.hi, own.at_, hB⟩
set_option maxRecDepth 200000 in
set_option maxHeartbeats 8000000 in
theorem ref10Walk_no (key : List Int) (hkb : Byted key) (hkl : key.length = 32) (K : Array Value) (hK : Hid ((ints .u8 key).toArray = K)) (n : Int) (h : n < 0 ∨ 512 < n) (w : World) :
    Calls Tryd.prog 8 #[.agg K, .int .i64 n] w fun e w' => e = .returned (.tuple #[.agg (ints .u8 zeroL).toArray, .int .i64 2]) ∧ Below w.heap.size w w' := by
  have dA := Lib.hid (fun W => ref10All_no key hkb hkl K hK n h W)
  have hkl' := Lib.hid hkl
  obtain ⟨Z, hZ⟩ : ∃ Z, Hid (zeroL = Z) := ⟨_, rfl⟩
  have hZl : Hid (Z.length = 32) := by rw [← hZ.out]; exact Lib.hid rfl
  have hZz : Hid ((ints .u8 Z).toArray = #[.int .u8 0, .int .u8 0, .int .u8 0, .int .u8 0, .int .u8 0, .int .u8 0, .int .u8 0, .int .u8 0, .int .u8 0, .int .u8 0, .int .u8 0, .int .u8 0, .int .u8 0, .int .u8 0, .int .u8 0, .int .u8 0, .int .u8 0, .int .u8 0, .int .u8 0, .int .u8 0, .int .u8 0, .int .u8 0, .int .u8 0, .int .u8 0, .int .u8 0, .int .u8 0, .int .u8 0, .int .u8 0, .int .u8 0, .int .u8 0, .int .u8 0, .int .u8 0]) := by rw [← hZ.out]; exact Lib.hid rfl
  rw [hZ.out]
  clear h hkb hkl
  go_enter Tryd.func8, Tryd.ntmps8
  go_wp2_with (first
    | (refine walk_boxed rfl 23 _ rfl .u8 key K hK rfl ?_; intro w1 k1 b1 s1; clear s1)
    | (refine walk_arr (o := ⟨some 4, _, _, _, _, _⟩) rfl 23 rfl .u8 (List.replicate 32 0) (by kernel_rfl) ?_; intro w2 aR b2 s2; clear s2; have k2 := k1.call b2; have hB2 := below_then b1 b2; have hwl : w.heap.size ≤ w1.heap.size := b1.size)
    | (refine walk_read rfl 23 _ rfl k2 rfl 32 _ Tryd.underlying23 (by kernel_rfl) hkl'.out K hK ?_)
    | (go_at_call 11; refine (dA.out w2).mono ?_; rintro e' w3 ⟨rfl, b3⟩; have aR3 := aR.call b3; have hB3 := below_then hB2 b3)
    | (refine walk_store rfl 23 _ _ rfl aR3 rfl #[.int .u8 0, .int .u8 0, .int .u8 0, .int .u8 0, .int .u8 0, .int .u8 0, .int .u8 0, .int .u8 0, .int .u8 0, .int .u8 0, .int .u8 0, .int .u8 0, .int .u8 0, .int .u8 0, .int .u8 0, .int .u8 0, .int .u8 0, .int .u8 0, .int .u8 0, .int .u8 0, .int .u8 0, .int .u8 0, .int .u8 0, .int .u8 0, .int .u8 0, .int .u8 0, .int .u8 0, .int .u8 0, .int .u8 0, .int .u8 0, .int .u8 0, .int .u8 0] hZz rfl (by rw [hZl.out]; kernel_rfl) (by rw [hZl.out]; rfl) ?_; intro w4 aR4 s4 o4))
  refine bodyPost_ret (results_cell_slot rfl _ _ w1.heap.size (ints .u8 Z) _ rfl aR4.range Tryd.underlying23 rfl (by rw [ints, List.length_map, hZl.out]; kernel_rfl) _ rfl) rfl ?_
  exact ⟨rfl, below_only hB3 o4 hwl s4⟩
set_option maxRecDepth 200000 in
set_option maxHeartbeats 8000000 in
theorem ref10Walk (key : List Int) (hkb : Byted key) (hkl : key.length = 32) (K : Array Value) (hK : Hid ((ints .u8 key).toArray = K)) (n : Nat) (hn : n ≤ 512) (w : World) :
    Calls Tryd.prog 8 #[.agg K, .int .i64 n] w fun e w' => e = .returned (.tuple #[.agg (ints .u8 (keyAt key n)).toArray, .int .i64 0]) ∧ Below w.heap.size w w' := by
  have dA := Lib.hid (fun W => ref10All key hkb hkl K hK n hn W)
  have hkl' := Lib.hid hkl
  have hEl : Hid ((keyAt key n).length = 32) := Lib.hid (keyAt_length hkl n)
  have hkn := keysTo_length hkl (n + 1)
  have hkp := keysTo_part hkl n (n + 1) (Nat.lt_succ_self n)
  obtain ⟨E, hE⟩ : ∃ E, Hid (keyAt key n = E) := ⟨_, Lib.hid rfl⟩
  rw [hE.out] at hEl hkp ⊢
  have hls : Hid (∀ (W : World) (q : Option Addr), At .u8 W q (keysTo key (n + 1)) → ∃ b off, q = some ⟨b, off, none⟩ ∧ b < W.heap.size ∧ W.rangeAt b (off + n * 32) (ints .u8 E)) := fun W q h => by
    have := h.lies (n * 32) 32 (by decide) (by rw [hkn]; omega)
    rw [hkp] at this
    exact this
  obtain ⟨Y, hY⟩ : ∃ Y, Hid ((ints .u8 E).toArray = Y) := ⟨_, rfl⟩
  have jn : (n : Int) ≤ 512 := by omega
  have j2 : n < n + 1 := Nat.lt_succ_self n
  have j3 : (n : Int) < (n : Int) + 1 := by omega
  clear hn hkb hkl hkn hkp hE
  go_enter Tryd.func8, Tryd.ntmps8
  go_wp2_with (first
    | (refine walk_boxed rfl 23 _ rfl .u8 key K hK rfl ?_; intro w1 k1 b1 s1; clear s1)
    | (refine walk_arr (o := ⟨some 4, _, _, _, _, _⟩) rfl 23 rfl .u8 (List.replicate 32 0) (by kernel_rfl) ?_; intro w2 aR b2 s2; clear s2; have k2 := k1.call b2; have hB2 := below_then b1 b2; have hwl : w.heap.size ≤ w1.heap.size := b1.size)
    | (refine walk_read rfl 23 _ rfl k2 rfl 32 _ Tryd.underlying23 (by kernel_rfl) hkl'.out K hK ?_)
    | (go_at_call 11; refine (dA.out w2).mono ?_; rintro e' w3 ⟨q, cap, rfl, hqc, hq, b3⟩; obtain ⟨b, off, rfl, hbl, hrg⟩ := hls.out w3 q hq; replace hrg := Lib.hid hrg; have aR3 := aR.call b3; have hB3 := below_then hB2 b3)
    | (refine walk_readAt (off := off + n * 32) rfl 23 _ rfl hrg.out (by first | rfl | (simp; rfl)) 32 _ Tryd.underlying23 (by kernel_rfl) hEl.out Y hY ?_)
    | (refine walk_store rfl 23 _ _ rfl aR3 rfl Y hY rfl (by rw [hEl.out]; kernel_rfl) (by rw [hEl.out]; rfl) ?_; intro w4 aR4 s4 o4))
  refine bodyPost_ret (results_cell_slot rfl _ _ w1.heap.size (ints .u8 E) _ rfl aR4.range Tryd.underlying23 rfl (by rw [ints, List.length_map, hEl.out]; kernel_rfl) _ rfl) rfl ?_
  exact ⟨rfl, below_only hB3 o4 hwl s4⟩

end Go.Proofs.YtmhehnimgkmmaaaDoor
