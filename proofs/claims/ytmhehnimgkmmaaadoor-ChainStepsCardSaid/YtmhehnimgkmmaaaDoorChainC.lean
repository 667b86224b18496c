/- A key's next one, in the program. -/
import Derived.Test.YtmhehnimgkmmaaaDoorChainB
import Derived.Deep.RegionHeld3
import Derived.Deep.DeepCutAuto
import Derived.IntWalk
import Derived.Lib.Hide
namespace Go.Proofs.YtmhehnimgkmmaaaDoor
set_option maxRecDepth 100000
open Go.RowKit
set_option linter.unusedVariables false
set_option linter.unusedSimpArgs false
attribute [local go_sem] cell_re

theorem results_cell_slot {P : Program} {fn : Func} {p q : Tmp} {ty : TypeId} (h : fn.results = #[.cell p ty, .tmp q]) (tmps : Array Value) (w : World) (g : Nat) (cs : List Value) (d : TypeDesc)
    (hp : tmps.getD p undef = .pointer (some ⟨g, 0, none⟩)) (hc : w.rangeAt g 0 cs) (hu : P.underlying ty = some d) (hd : d.isRow = true) (hi : (P.info? ty).map (·.size) = some cs.length) (v : Value) (hq : tmps.getD q undef = v) :
    (results fn tmps).run P w = .ok (.tuple #[.agg cs.toArray, v]) w := by
  have hp' : tmps[p]?.getD undef = .pointer (some ⟨g, 0, none⟩) := by simpa using hp
  have hq' : tmps[q]?.getD undef = v := by simpa using hq
  simp [results, h, hp', hq', asAddr, run_loadVar_mid w g 0 ty cs d hc hu hd hi]
theorem pre_row (w : World) : At .u8 (w.alloc (.cells #[.int .u8 112, .int .u8 101, .int .u8 108, .int .u8 111, .int .u8 114, .int .u8 117, .int .u8 115, .int .u8 46, .int .u8 99, .int .u8 104, .int .u8 97, .int .u8 105, .int .u8 110] 5 (13, 14))) (some ⟨w.heap.size, 0, none⟩) preL :=
  Or.inr ⟨w.heap.size, 0, rfl, by rw [World.size_alloc]; exact Nat.lt_succ_self _, fun j hj => by
    rw [Nat.zero_add, cell_of_row (w.alloc (.cells #[.int .u8 112, .int .u8 101, .int .u8 108, .int .u8 111, .int .u8 114, .int .u8 117, .int .u8 115, .int .u8 46, .int .u8 99, .int .u8 104, .int .u8 97, .int .u8 105, .int .u8 110] 5 (13, 14))) w.heap.size j #[.int .u8 112, .int .u8 101, .int .u8 108, .int .u8 111, .int .u8 114, .int .u8 117, .int .u8 115, .int .u8 46, .int .u8 99, .int .u8 104, .int .u8 97, .int .u8 105, .int .u8 110] 5 (13, 14) (by show (w.heap.push _)[w.heap.size]? = _; simp)]
    have h13 : j < 13 := hj
    have hz : preL[j]? = some (preL.getD j 0) := by rw [List.getD_eq_getElem?_getD, List.getElem?_eq_getElem hj]; rfl
    have e : (#[.int .u8 112, .int .u8 101, .int .u8 108, .int .u8 111, .int .u8 114, .int .u8 117, .int .u8 115, .int .u8 46, .int .u8 99, .int .u8 104, .int .u8 97, .int .u8 105, .int .u8 110] : Array Value) = (ints .u8 preL).toArray := rfl
    rw [e, List.getElem?_toArray, ints, List.getElem?_map, hz]; rfl⟩
theorem pre_below (w : World) : Below w.heap.size w (w.alloc (.cells #[.int .u8 112, .int .u8 101, .int .u8 108, .int .u8 111, .int .u8 114, .int .u8 117, .int .u8 115, .int .u8 46, .int .u8 99, .int .u8 104, .int .u8 97, .int .u8 105, .int .u8 110] 5 (13, 14))) := (Below.refl _ _).alloc (Nat.le_refl _) _
set_option maxRecDepth 200000 in
set_option maxHeartbeats 8000000 in
theorem chainNext (key : List Int) (hkb : Byted key) (hkl : key.length = 32) (K : Array Value) (hK : Hid ((ints .u8 key).toArray = K)) (w : World) (hT : Steps w) :
    Calls Tryd.prog 19 #[.agg K] w fun e w' => e = .returned (.agg (ints .u8 (nextL key)).toArray) ∧ Below w.heap.size w w' := by
  have hT0 := Lib.hid hT
  have hlb : ∀ k, Byted (joinTo [preL, key] k) := joinTo_byted (fun x hx => by
    simp only [List.mem_cons, List.not_mem_nil, or_false] at hx
    rcases hx with rfl | rfl
    · exact preL_byted
    · exact hkb)
  have hfl : [preL, key].flatten = preL ++ key := by simp
  have hll : [preL, key].flatten.length ≤ 1000000000 := by rw [hfl, List.length_append, hkl]; decide
  have dO := Lib.hid (fun (W : World) (h : Below w.heap.size w W) (hA : Arr .u8 W w.heap.size key) => hashOf [preL, key] hlb hll 2 2 rfl (by decide) (some ⟨W.heap.size + 1, 0, none⟩) ((W.alloc (.cells #[.int .u8 112, .int .u8 101, .int .u8 108, .int .u8 111, .int .u8 114, .int .u8 117, .int .u8 115, .int .u8 46, .int .u8 99, .int .u8 104, .int .u8 97, .int .u8 105, .int .u8 110] 5 (13, 14))).alloc (.cells #[.slice (some ⟨W.heap.size, 0, none⟩) 13 13, .slice (some ⟨w.heap.size, 0, none⟩) 32 32] 48)) (hT.call (below_then h (below_then (pre_below W) ((Below.refl _ _).alloc (Nat.le_refl _) _)))) (by
    have := Parts.lit (w := W.alloc (.cells #[.int .u8 112, .int .u8 101, .int .u8 108, .int .u8 111, .int .u8 114, .int .u8 117, .int .u8 115, .int .u8 46, .int .u8 99, .int .u8 104, .int .u8 97, .int .u8 105, .int .u8 110] 5 (13, 14))) [.slice (some ⟨W.heap.size, 0, none⟩) 13 13, .slice (some ⟨w.heap.size, 0, none⟩) 32 32] #[.slice (some ⟨W.heap.size, 0, none⟩) 13 13, .slice (some ⟨w.heap.size, 0, none⟩) 32 32] 48 rfl [preL, key] (fun j hj => by
      have : j = 0 ∨ j = 1 := by simp at hj; omega
      rcases this with rfl | rfl
      · exact ⟨_, rfl, (pre_row W).part rfl (Nat.le_refl _) preL_byted⟩
      · exact ⟨_, rfl, (hA.call (pre_below W)).part hkl.symm hkb⟩)
    rw [World.size_alloc] at this
    exact this))
  rw [hfl] at dO
  obtain ⟨D, hD⟩ : ∃ D, Hid (nextL key = D) := ⟨_, rfl⟩
  have hDl : Hid (D.length = 32) := by show _ = _; rw [← hD.out]; rfl
  rw [show sha (preL ++ key) = D from hD.out] at dO
  rw [hD.out]
  obtain ⟨Y, hY⟩ : ∃ Y, Hid ((ints .u8 D).toArray = Y) := ⟨_, rfl⟩
  rw [hY.out] at dO ⊢
  clear hkb hkl hlb hfl hll hT
  go_enter Tryd.func19, Tryd.ntmps19
  go_upto_region 1 with (first
    | (refine walk_boxed rfl 23 _ rfl .u8 key K hK rfl ?_; intro w1 k1 b1 s1; clear s1)
    | (refine walk_arr (o := ⟨some 2, _, _, _, _, _⟩) rfl 23 rfl .u8 (List.replicate 32 0) (by kernel_rfl) ?_; intro w2 aR b2 s2; clear s2; have k2 := k1.call b2; have hB2 := below_then b1 b2; have hwl : w.heap.size ≤ w1.heap.size := b1.size))
  have r1 := Lib.run_convert_bytes_const (P := Tryd.prog) w2 48 5 #[.int .u8 112, .int .u8 101, .int .u8 108, .int .u8 111, .int .u8 114, .int .u8 117, .int .u8 115, .int .u8 46, .int .u8 99, .int .u8 104, .int .u8 97, .int .u8 105, .int .u8 110] 13 13 Tryd.underlying48 Tryd.underlying5
  have hne := Nat.ne_of_lt k1.lt
  clear k1 b1
  go_wp2_with (first
    | (go_at_call 24; refine (dO.out w2 hB2 k2).mono ?_; rintro e' w3 ⟨rfl, b3⟩; have b3' := below_then (below_then (pre_below w2) ((Below.refl _ _).alloc (Nat.le_refl _) _)) b3; have aR3 := aR.call b3'; have hB3 := below_then hB2 b3')
    | (refine walk_store rfl 23 _ _ rfl aR3 rfl Y hY rfl (by rw [hDl.out]; kernel_rfl) (by rw [hDl.out]; rfl) ?_; intro w4 aR4 s4 o4))
  refine bodyPost_ret (results_cell_mid rfl _ _ w1.heap.size (ints .u8 D) _ rfl aR4.range Tryd.underlying23 rfl (by rw [ints, List.length_map, hDl.out]; kernel_rfl)) rfl ?_
  exact ⟨by rw [hY.out], below_only hB3 o4 hwl s4⟩
set_option maxRecDepth 200000 in
set_option maxHeartbeats 8000000 in
theorem chainOut (n : Int) (h : n < 0 ∨ 512 < n) (w : World) : Calls Tryd.prog 18 #[.int .i64 n] w fun e w' => e = .returned (.bool true) ∧ w = w' := by
  by_cases h0 : n < 0
  · go_enter Tryd.func18, Tryd.ntmps18
    go_wp2
    go_ret
    exact ⟨rfl, rfl⟩
  · have h1 : 512 < n := by omega
    go_enter Tryd.func18, Tryd.ntmps18
    go_wp2
    go_ret
    exact ⟨rfl, rfl⟩
theorem chainIn (n : Nat) (h : n ≤ 512) (w : World) : Calls Tryd.prog 18 #[.int .i64 n] w fun e w' => e = .returned (.bool false) ∧ w = w' := by
  have j0 : decide ((n : Int) < 0) = false := decide_eq_false (by omega)
  have j1 : decide ((512 : Int) < (n : Int)) = false := decide_eq_false (by omega)
  go_enter Tryd.func18, Tryd.ntmps18
  go_wp2
  go_ret
  exact ⟨rfl, rfl⟩
/-- Noughts. -/
def zeroL : List Int := List.replicate 32 0
theorem zeroL_length : zeroL.length = 32 := rfl
set_option maxRecDepth 200000 in
set_option maxHeartbeats 8000000 in
theorem chainWalk_no (key : List Int) (hkb : Byted key) (hkl : key.length = 32) (K : Array Value) (hK : Hid ((ints .u8 key).toArray = K)) (n : Int) (h : n < 0 ∨ 512 < n) (w : World) :
    Calls Tryd.prog 7 #[.agg K, .int .i64 n] w fun e w' => e = .returned (.tuple #[.agg (ints .u8 zeroL).toArray, .int .i64 2]) ∧ Below w.heap.size w w' := by
  have dO := Lib.hid (fun W => chainOut n h W)
  obtain ⟨Z, hZ⟩ : ∃ Z, Hid (zeroL = Z) := ⟨_, rfl⟩
  have hZl : Hid (Z.length = 32) := by rw [← hZ.out]; exact Lib.hid rfl
  have hZz : Hid ((ints .u8 Z).toArray = #[.int .u8 0, .int .u8 0, .int .u8 0, .int .u8 0, .int .u8 0, .int .u8 0, .int .u8 0, .int .u8 0, .int .u8 0, .int .u8 0, .int .u8 0, .int .u8 0, .int .u8 0, .int .u8 0, .int .u8 0, .int .u8 0, .int .u8 0, .int .u8 0, .int .u8 0, .int .u8 0, .int .u8 0, .int .u8 0, .int .u8 0, .int .u8 0, .int .u8 0, .int .u8 0, .int .u8 0, .int .u8 0, .int .u8 0, .int .u8 0, .int .u8 0, .int .u8 0]) := by rw [← hZ.out]; exact Lib.hid rfl
  rw [hZ.out]
  go_enter Tryd.func7, Tryd.ntmps7
  go_wp2_with (first
    | (refine walk_boxed rfl 23 _ rfl .u8 key K hK rfl ?_; intro w1 k1 b1 s1; clear s1)
    | (refine walk_arr (o := ⟨some 4, _, _, _, _, _⟩) rfl 23 rfl .u8 (List.replicate 32 0) (by kernel_rfl) ?_; intro w2 aR b2 s2; clear s2; have hB2 := below_then b1 b2; have hwl : w.heap.size ≤ w1.heap.size := b1.size)
    | (go_at_call 18; refine (dO.out w2).mono ?_; rintro e' w3 ⟨rfl, rfl⟩)
    | (refine walk_store rfl 23 _ _ rfl aR rfl #[.int .u8 0, .int .u8 0, .int .u8 0, .int .u8 0, .int .u8 0, .int .u8 0, .int .u8 0, .int .u8 0, .int .u8 0, .int .u8 0, .int .u8 0, .int .u8 0, .int .u8 0, .int .u8 0, .int .u8 0, .int .u8 0, .int .u8 0, .int .u8 0, .int .u8 0, .int .u8 0, .int .u8 0, .int .u8 0, .int .u8 0, .int .u8 0, .int .u8 0, .int .u8 0, .int .u8 0, .int .u8 0, .int .u8 0, .int .u8 0, .int .u8 0, .int .u8 0] hZz rfl (by rw [hZl.out]; kernel_rfl) (by rw [hZl.out]; rfl) ?_; intro w4 aR4 s4 o4))
  refine bodyPost_ret (results_cell_slot rfl _ _ w1.heap.size (ints .u8 Z) _ rfl aR4.range Tryd.underlying23 rfl (by rw [ints, List.length_map, hZl.out]; kernel_rfl) _ rfl) rfl ?_
  exact ⟨rfl, below_only hB2 o4 hwl s4⟩
set_option maxRecDepth 200000 in
set_option maxHeartbeats 8000000 in
theorem chainWalk (key : List Int) (hkb : Byted key) (hkl : key.length = 32) (K : Array Value) (hK : Hid ((ints .u8 key).toArray = K)) (n : Nat) (hn : n ≤ 512) (w : World) (hT : Steps w) :
    Calls Tryd.prog 7 #[.agg K, .int .i64 n] w fun e w' => e = .returned (.tuple #[.agg (ints .u8 (keyAt key n)).toArray, .int .i64 0]) ∧ Below w.heap.size w w' := by
  have hT0 := Lib.hid hT
  have dI := Lib.hid (fun W => chainIn n hn W)
  have hb0 := Lib.hid (fun i => keyAt_byted hkb i)
  have hl0 := Lib.hid (fun i => keyAt_length hkl i)
  have jn : (n : Int) ≤ 512 := by omega
  clear hkb hT hn
  go_enter Tryd.func7, Tryd.ntmps7
  go_upto_if 7 with (first
    | (refine walk_boxed rfl 23 _ rfl .u8 key K hK rfl ?_; intro w1 k1 b1 s1; clear s1)
    | (refine walk_arr (o := ⟨some 4, _, _, _, _, _⟩) rfl 23 rfl .u8 (List.replicate 32 0) (by kernel_rfl) ?_; intro w2 aR b2 s2; clear s2; have k2 := k1.call b2; have hB2 := below_then b1 b2; have hwl : w.heap.size ≤ w1.heap.size := b1.size)
    | (go_at_call 18; refine (dI.out w2).mono ?_; rintro e' w3 ⟨rfl, rfl⟩))
  have hne := Nat.ne_of_lt k1.lt
  clear k1 b1 b2
  generalize w1.heap.size = gr at *
  go_wp2
  go_loopw [10] (fun v10 wr => ∃ (i : Nat) (A : List Int), i ≤ n ∧ v10 = .int .i64 i ∧ Hid (keyAt key i = A) ∧ Arr .u8 wr w.heap.size A ∧ Arr .u8 wr gr (List.replicate 32 0) ∧ Below w.heap.size w wr) (fun v10 _ => n - (intOf v10).toNat)
  case atStart => exact ⟨0, key, Nat.zero_le _, rfl, Lib.hid rfl, k2, aR, hB2⟩
  case round =>
    clear k2 aR hB2
    obtain ⟨i, A, hi, rfl, hA, kI, rI, hB⟩ := hrel
    have hAb : Byted A := by rw [← hA.out]; exact hb0.out i
    have hAl : A.length = 32 := by rw [← hA.out]; exact hl0.out i
    obtain ⟨X, hX⟩ : ∃ X, Hid ((ints .u8 A).toArray = X) := ⟨_, rfl⟩
    by_cases hlt : i < n
    · obtain ⟨D, hD⟩ : ∃ D, Hid (nextL A = D) := ⟨_, Lib.hid rfl⟩
      have hDl : Hid (D.length = 32) := by rw [← hD.out]; exact Lib.hid rfl
      obtain ⟨Y, hY⟩ : ∃ Y, Hid ((ints .u8 D).toArray = Y) := ⟨_, rfl⟩
      have dN := Lib.hid (chainNext A hAb hAl X hX wr (hT0.out.call hB))
      rw [hD.out, hY.out] at dN
      have hnx : Hid (keyAt key (i + 1) = D) := by show nextL (keyAt key i) = D; rw [hA.out, hD.out]
      have hAl' := Lib.hid hAl
      have j1 : (i : Int) < (n : Int) := by omega
      clear hAb hAl hA
      go_wp2_with (first
        | (refine walk_read rfl 23 _ rfl kI rfl 32 _ Tryd.underlying23 (by kernel_rfl) hAl'.out X hX ?_)
        | (go_at_call 19; refine dN.out.mono ?_; rintro e' w5 ⟨rfl, b5⟩; have k5 := kI.call b5; have r5 := rI.call b5; have hB5 := below_then hB b5)
        | (refine walk_store rfl 23 _ _ rfl k5 rfl Y hY rfl (by rw [hDl.out]; kernel_rfl) (by rw [hDl.out, hAl'.out]) ?_; intro w6 k6 s6 o6; have r6 := r5.only o6 (Ne.symm hne) s6; have hB6 := below_only hB5 o6 (Nat.le_refl _) s6))
      go_roundw
      case rel => exact ⟨i + 1, D, by omega, by go_num, hnx, k6, r6, hB6⟩
      case measure => simp [intOf]; omega
    · obtain rfl : i = n := by omega
      have hAl' := Lib.hid hAl
      clear hAb hAl
      go_wp2_with (first
        | (refine walk_read rfl 23 _ rfl kI rfl 32 _ Tryd.underlying23 (by kernel_rfl) hAl'.out X hX ?_)
        | (refine walk_store rfl 23 _ _ rfl rI rfl X hX rfl (by rw [hAl'.out]; kernel_rfl) (by rw [hAl'.out]; rfl) ?_; intro w6 r6 s6 o6; have hB6 := below_only hB o6 hwl s6))
      refine bodyPost_ret (results_cell_slot rfl _ _ gr (ints .u8 A) _ rfl r6.range Tryd.underlying23 rfl (by rw [ints, List.length_map, hAl'.out]; kernel_rfl) _ rfl) rfl ?_
      exact ⟨by rw [hA.out]; rfl, hB6⟩

end Go.Proofs.YtmhehnimgkmmaaaDoor
