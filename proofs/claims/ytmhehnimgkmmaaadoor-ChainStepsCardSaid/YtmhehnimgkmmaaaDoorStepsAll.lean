/- Keys that are walked one behind the other. -/
import Derived.Test.YtmhehnimgkmmaaaDoorLawC
import Derived.Test.YtmhehnimgkmmaaaDoorChainD
import Derived.Test.YtmhehnimgkmmaaaDoorChainR
import Derived.Test.YtmhehnimgkmmaaaDoorHasEq
import Derived.Test.YtmhehnimgkmmaaaDoorBaseN
import Derived.Deep.RegionHeld3
import Derived.Deep.DeepCutAuto
import Derived.IntWalk
import Derived.Lib.Hide
namespace Go.Proofs.YtmhehnimgkmmaaaDoor
set_option maxRecDepth 100000
open Go.RowKit
set_option linter.unusedVariables false
set_option linter.unusedSimpArgs false
attribute [local go_sem] cell_re

theorem keys_lie {key : List Int} (hkl : key.length = 32) (n : Nat) {W : World} {q : Option Addr} (h : At .u8 W q (keysTo key (n + 1))) : ∃ b off, q = some ⟨b, off, none⟩ ∧ b < W.heap.size ∧ ∀ i, i < n + 1 → W.rangeAt b (off + i * 32) (ints .u8 (keyAt key i)) := by
  have hln := keysTo_length hkl (n + 1)
  obtain ⟨b, off, rfl, hb, -⟩ := h.lies (0 * 32) 32 (by decide) (by rw [hln]; omega)
  refine ⟨b, off, rfl, hb, fun i hi => ?_⟩
  obtain ⟨b', off', e, -, hr⟩ := h.lies (i * 32) 32 (by decide) (by rw [hln]; omega)
  injection e with e
  injection e with e1 e2
  subst e1 e2
  rw [keysTo_part hkl i (n + 1) hi] at hr
  exact hr
set_option maxRecDepth 200000 in
set_option maxHeartbeats 8000000 in
theorem stepsAll (key : List Int) (n m : Int) (w : World) (hkl : key.length = 32) (hkb : Byted key) (hn : Half n) (hm : Half m) (hS : Steps w) : Calls Tryd.prog 6 #[.agg (ints .u8 key).toArray, .int .i64 n, .int .i64 m] w fun e w' => e = .returned (.bool true) ∧ Below w.heap.size w w' := by
  have hT0 := Lib.hid hS
  have hkb' := Lib.hid hkb
  have hkl' := Lib.hid hkl
  have hn' : Hid (-9223372036854775808 ≤ n ∧ n ≤ 9223372036854775807) := hn
  have hm' : Hid (-9223372036854775808 ≤ m ∧ m ≤ 9223372036854775807) := hm
  have dW := Lib.hid (fun (W : World) (h : Below w.heap.size w W) => works W (hS.call h))
  obtain ⟨iE, hiE⟩ := Option.isSome_iff_exists.mp (show (Tryd.prog.info? 5).isSome = true by kernel_rfl)
  obtain ⟨Ck, hCk⟩ : ∃ c, Hid (ints .u8 key = c) := ⟨_, Lib.hid rfl⟩
  have hKa : Hid ((ints .u8 key).toArray = Ck.toArray) := by show _ = _; rw [hCk.out]
  have hiK' : Hid ((Tryd.prog.info? 23).map (·.size) = some Ck.length) := by show _ = _; rw [← hCk.out, ints, List.length_map, hkl]; kernel_rfl
  rw [hKa.out]
  replace hiE := Lib.hid hiE
  clear hS hkl hkb hn hm
  go_enter Tryd.func6, Tryd.ntmps6
  go_upto_region 3 with (first
    | (refine walk_boxed rfl 23 _ rfl .u8 key Ck.toArray hKa rfl ?_; intro w1 k hB s1; clear s1)
    | (go_at_call 12; refine (dW.out w1 hB).mono ?_; rintro e' w2 ⟨rfl, b2⟩))
  replace k := k.call b2
  replace hB := below_then hB b2
  clear b2
  obtain ⟨a, ha, dN⟩ := baseAmongN n hn'.out 20 (by decide) (by decide) w2
  rw [show ((20 : Nat) : Int) = 20 from rfl] at dN
  replace dN := Lib.hid dN
  go_upto_region 4 with (first
    | (go_at_call 15; first
        | (with_reducible refine dN.out.mono ?_; rintro e' w3 ⟨rfl, b3⟩; obtain ⟨b, hb, dM⟩ := baseAmongN m hm'.out 20 (by decide) (by decide) w3; rw [show ((20 : Nat) : Int) = 20 from rfl] at dM; replace dM := Lib.hid dM)
        | (with_reducible refine dM.out.mono ?_; rintro e' w4 ⟨rfl, b4⟩)))
  replace k := (k.call b3).call b4
  replace hB := below_then (below_then hB b3) b4
  clear b3 b4 dN dM
  obtain ⟨N, hN⟩ : ∃ N, Hid (a + b = N) := ⟨_, rfl⟩
  have hNi : (a : Int) + (b : Int) = (N : Int) := by have := hN.out; omega
  have hN38 : N ≤ 38 := by have := hN.out; omega
  have jN : (N : Int) ≤ 38 := by omega
  have ja : (a : Int) < 20 := by omega
  have jb : (b : Int) < 20 := by omega
  have haN : a < N + 1 := by have := hN.out; omega
  have jaN : (a : Int) < (N : Int) + 1 := by omega
  have jN1 : N < N + 1 := Nat.lt_succ_self N
  have jN2 : (N : Int) < (N : Int) + 1 := by omega
  -- the keys
  have hAb := keyAt_byted hkb'.out a
  have hAl := keyAt_length hkl'.out a
  have hSl := keyAt_length hkl'.out N
  have hAS : keyAt (keyAt key a) b = keyAt key N := by rw [keyAt_add, hN.out]
  have hW1 := fun (W : World) (hb : Below w.heap.size w W) => chainWalk key hkb'.out hkl'.out Ck.toArray hKa a (by omega) W (hT0.out.call hb)
  have hW3 := fun (W : World) (hb : Below w.heap.size w W) => chainWalk key hkb'.out hkl'.out Ck.toArray hKa N (by omega) W (hT0.out.call hb)
  have hlo := Lib.hid (fun i => And.intro (keyAt_byted hkb'.out i) (keyAt_length hkl'.out i))
  have had := Lib.hid (fun i d => keyAt_add key i d)
  obtain ⟨A, hA⟩ : ∃ A, Hid (keyAt key a = A) := ⟨_, Lib.hid rfl⟩
  obtain ⟨S, hS⟩ : ∃ S, Hid (keyAt key N = S) := ⟨_, Lib.hid rfl⟩
  rw [hA.out] at hW1 hAb hAl hAS
  rw [hS.out] at hW3 hSl hAS
  obtain ⟨CA, hCA⟩ : ∃ X, Hid (ints .u8 A = X) := ⟨_, Lib.hid rfl⟩
  obtain ⟨CS, hCS⟩ : ∃ X, Hid (ints .u8 S = X) := ⟨_, Lib.hid rfl⟩
  have hYA : Hid ((ints .u8 A).toArray = CA.toArray) := by rw [← hCA.out]; exact Lib.hid rfl
  have hYS : Hid ((ints .u8 S).toArray = CS.toArray) := by rw [← hCS.out]; exact Lib.hid rfl
  have hW2 := fun (W : World) (hb : Below w.heap.size w W) => chainWalk A hAb hAl CA.toArray hYA b (by omega) W (hT0.out.call hb)
  rw [hAS, hYS.out] at hW2
  rw [hYA.out] at hW1
  rw [hYS.out] at hW3
  have hqA := Lib.hid (fun W1 : World => equal_ints (P := Tryd.prog) (t := 23) (e := 5) (k := .u8) Tryd.underlying23 hiE.out (by kernel_rfl) (by kernel_rfl) Tryd.underlying5 A hAl W1)
  have hqS := Lib.hid (fun W1 : World => equal_ints (P := Tryd.prog) (t := 23) (e := 5) (k := .u8) Tryd.underlying23 hiE.out (by kernel_rfl) (by kernel_rfl) Tryd.underlying5 S hSl W1)
  rw [hYA.out] at hqA
  rw [hYS.out] at hqS
  have hiA' : Hid ((Tryd.prog.info? 23).map (·.size) = some CA.length) := by show _ = _; rw [← hCA.out, ints, List.length_map, hAl]; kernel_rfl
  have hiS' : Hid ((Tryd.prog.info? 23).map (·.size) = some CS.length) := by show _ = _; rw [← hCS.out, ints, List.length_map, hSl]; kernel_rfl
  have dW1 := Lib.hid hW1
  have dW2 := Lib.hid hW2
  have dW3 := Lib.hid hW3
  have dA := Lib.hid (fun (W : World) (hb : Below w.heap.size w W) => chainAll key hkb'.out hkl'.out Ck.toArray hKa N (by omega) W (hT0.out.call hb))
  replace hAb := Lib.hid hAb
  replace hAl := Lib.hid hAl
  replace hSl := Lib.hid hSl
  clear hW1 hW2 hW3 hAS
  go_upto_region 5 with (first
      | (refine walk_read rfl 23 _ rfl k rfl 32 _ Tryd.underlying23 (by kernel_rfl) hkl'.out Ck.toArray hKa ?_)
      | (go_at_call 7; refine (dW1.out w4 hB).mono ?_; rintro e' w5 ⟨rfl, b5⟩)
      | (refine walk_arr rfl 23 rfl .u8 (List.replicate 32 0) (by kernel_rfl) ?_; intro w6 a6 b6 s6)
      | (refine walk_store rfl 23 _ _ rfl a6 rfl CA.toArray hYA rfl (by rw [hAl.out]; kernel_rfl) (by rw [hAl.out]; rfl) ?_; intro w7 p7 s7 o7))
  clear s6 a6
  replace k := k.call b5
  replace hB := below_then hB b5
  have qk := Nat.ne_of_lt k.lt
  have qB := hB.size
  replace k := (k.call b6).only o7 qk s7
  replace hB := below_only (below_then hB b6) o7 qB s7
  clear b5 b6 o7 s7 qB qk
  try simp only [Act.put, List.setIfInBounds_toArray, List.set_cons_zero, List.set_cons_succ]
  generalize w5.heap.size = g7 at *
  go_upto_region 6 with (first
      | (refine walk_read rfl 23 _ rfl p7 rfl 32 _ Tryd.underlying23 (by kernel_rfl) hAl.out CA.toArray hYA ?_)
      | (go_at_call 7; refine (dW2.out w7 hB).mono ?_; rintro e' w8 ⟨rfl, b8⟩)
      | (refine walk_arr rfl 23 rfl .u8 (List.replicate 32 0) (by kernel_rfl) ?_; intro w9 a9 b9 s9)
      | (refine walk_store rfl 23 _ _ rfl a9 rfl CS.toArray hYS rfl (by rw [hSl.out]; kernel_rfl) (by rw [hSl.out]; rfl) ?_; intro w10 p9 s10 o10))
  clear s9 a9
  replace k := k.call b8
  replace p7 := p7.call b8
  replace hB := below_then hB b8
  have qk := Nat.ne_of_lt k.lt
  have qp7 := Nat.ne_of_lt p7.lt
  have qB := hB.size
  replace k := (k.call b9).only o10 qk s10
  replace p7 := (p7.call b9).only o10 qp7 s10
  replace hB := below_only (below_then hB b9) o10 qB s10
  clear b8 b9 o10 s10 qB qk qp7
  try simp only [Act.put, List.setIfInBounds_toArray, List.set_cons_zero, List.set_cons_succ]
  generalize w8.heap.size = g9 at *
  go_upto_region 7 with (first
      | (refine walk_read rfl 23 _ rfl k rfl 32 _ Tryd.underlying23 (by kernel_rfl) hkl'.out Ck.toArray hKa ?_)
      | (go_at_call 7; refine (dW3.out w10 hB).mono ?_; rintro e' w11 ⟨rfl, b11⟩)
      | (refine walk_arr rfl 23 rfl .u8 (List.replicate 32 0) (by kernel_rfl) ?_; intro w12 a12 b12 s12)
      | (refine walk_store rfl 23 _ _ rfl a12 rfl CS.toArray hYS rfl (by rw [hSl.out]; kernel_rfl) (by rw [hSl.out]; rfl) ?_; intro w13 p11 s13 o13))
  clear s12 a12
  replace k := k.call b11
  replace p7 := p7.call b11
  replace p9 := p9.call b11
  replace hB := below_then hB b11
  have qk := Nat.ne_of_lt k.lt
  have qp7 := Nat.ne_of_lt p7.lt
  have qp9 := Nat.ne_of_lt p9.lt
  have qB := hB.size
  replace k := (k.call b12).only o13 qk s13
  replace p7 := (p7.call b12).only o13 qp7 s13
  replace p9 := (p9.call b12).only o13 qp9 s13
  replace hB := below_only (below_then hB b12) o13 qB s13
  clear b11 b12 o13 s13 qB qk qp7 qp9
  try simp only [Act.put, List.setIfInBounds_toArray, List.set_cons_zero, List.set_cons_succ]
  generalize w11.heap.size = g11 at *
  go_upto_region 8 with (first
      | (refine walk_read rfl 23 _ rfl k rfl 32 _ Tryd.underlying23 (by kernel_rfl) hkl'.out Ck.toArray hKa ?_)
      | (go_at_call 10; refine (dA.out w13 hB).mono ?_; rintro e' w14 ⟨qA, capA, rfl, hcA, hqA, b14⟩; obtain ⟨bA, offA, rfl, hlA, hrA⟩ := keys_lie hkl'.out N hqA; replace hrA := Lib.hid hrA; clear hqA))
  replace p7 := p7.call b14
  replace p9 := p9.call b14
  replace p11 := p11.call b14
  replace hB := below_then hB b14
  clear b14 k
  try simp only [Act.put, List.setIfInBounds_toArray, List.set_cons_zero, List.set_cons_succ]
  have huK : Tryd.prog.underlying 23 = some (.array 32 5) := Tryd.underlying23
  have hiA := hiA'.out
  have hiS := hiS'.out
  have hq1 := hqA.out
  have hq2 := hqS.out
  have hp11 := Lib.hid (fun (W : World) (h : Below w14.heap.size w14 W) => (show W.rangeAt g11 0 CS by rw [← hCS.out]; exact (p11.call h).range))
  have hrS : w14.rangeAt g9 0 CS ∧ w14.rangeAt g11 0 CS ∧ w14.rangeAt bA (offA + a * 32) CA ∧ w14.rangeAt g7 0 CA ∧ w14.rangeAt bA (offA + N * 32) CS := by
    refine ⟨?_, ?_, ?_, ?_, ?_⟩
    · rw [← hCS.out]; exact p9.range
    · rw [← hCS.out]; exact p11.range
    · have := hrA.out a haN; rw [hA.out, hCA.out] at this; exact this
    · rw [← hCA.out]; exact p7.range
    · have := hrA.out N jN1; rw [hS.out, hCS.out] at this; exact this
  refine wp_region_held_drew (S := fun W' => W'.rangeAt g9 0 CS ∧ W'.rangeAt g11 0 CS ∧ W'.rangeAt bA (offA + a * 32) CA ∧ W'.rangeAt g7 0 CA ∧ W'.rangeAt bA (offA + N * 32) CS) (by kernel_rfl) hrS (fun _ => ?_)
  have hBd : Below w14.heap.size w14 w14.drew := (Below.refl _ _).drew
  replace hrS : w14.drew.rangeAt g9 0 CS ∧ w14.drew.rangeAt g11 0 CS ∧ w14.drew.rangeAt bA (offA + a * 32) CA ∧ w14.drew.rangeAt g7 0 CA ∧ w14.drew.rangeAt bA (offA + N * 32) CS := hrS
  generalize w14.drew = wd at hBd hrS ⊢
  refine wpAnyH_take (i := 0) (oi := ⟨some 52, .move (.tmp 12), _, _, _, _⟩) (v := .int .i64 0) rfl (by kernel_rfl) (by kernel_rfl) (by kernel_rfl) (fun _ _ _ h => h) (Or.inl ⟨by rfl, by intro W _; go_simp⟩) (hrS) ?_
  try simp only [Act.put, List.setIfInBounds_toArray, List.set_cons_zero, List.set_cons_succ]
  refine wpAnyH_take (i := 1) (oi := ⟨some 53, .binOp .neq 24 (.tmp 52) (.const (.int .i64 0)) 24, _, _, _, _⟩) (v := .bool false) rfl (by kernel_rfl) (by kernel_rfl) (by kernel_rfl) (fun _ _ _ h => h) (Or.inl ⟨by rfl, by intro W _; go_simp⟩) (hrS) ?_
  try simp only [Act.put, List.setIfInBounds_toArray, List.set_cons_zero, List.set_cons_succ]
  refine wpAnyH_take (i := 2) (oi := ⟨some 54, .move (.tmp 53), _, _, _, _⟩) (v := .bool false) rfl (by kernel_rfl) (by kernel_rfl) (by kernel_rfl) (fun _ _ _ h => h) (Or.inl ⟨by rfl, by intro W _; go_simp⟩) (hrS) ?_
  try simp only [Act.put, List.setIfInBounds_toArray, List.set_cons_zero, List.set_cons_succ]
  refine wpAnyH_take (i := 3) (oi := ⟨some 55, .move (.tmp 14), _, _, _, _⟩) (v := .int .i64 0) rfl (by kernel_rfl) (by kernel_rfl) (by kernel_rfl) (fun _ _ _ h => h) (Or.inl ⟨by rfl, by intro W _; go_simp⟩) (hrS) ?_
  try simp only [Act.put, List.setIfInBounds_toArray, List.set_cons_zero, List.set_cons_succ]
  refine wpAnyH_take (i := 4) (oi := ⟨some 56, .binOp .neq 24 (.tmp 55) (.const (.int .i64 0)) 24, _, _, _, _⟩) (v := .bool false) rfl (by kernel_rfl) (by kernel_rfl) (by kernel_rfl) (fun _ _ _ h => h) (Or.inl ⟨by rfl, by intro W _; go_simp⟩) (hrS) ?_
  try simp only [Act.put, List.setIfInBounds_toArray, List.set_cons_zero, List.set_cons_succ]
  refine wpAnyH_take (i := 5) (oi := ⟨some 57, .pick (.tmp 54) (.const (.bool true)) (.tmp 56), _, _, _, _⟩) (v := .bool false) rfl (by kernel_rfl) (by kernel_rfl) (by kernel_rfl) (fun _ _ _ h => h) (Or.inl ⟨by rfl, by intro W _; go_simp⟩) (hrS) ?_
  try simp only [Act.put, List.setIfInBounds_toArray, List.set_cons_zero, List.set_cons_succ]
  refine wpAnyH_take (i := 6) (oi := ⟨some 58, .move (.tmp 57), _, _, _, _⟩) (v := .bool false) rfl (by kernel_rfl) (by kernel_rfl) (by kernel_rfl) (fun _ _ _ h => h) (Or.inl ⟨by rfl, by intro W _; go_simp⟩) (hrS) ?_
  try simp only [Act.put, List.setIfInBounds_toArray, List.set_cons_zero, List.set_cons_succ]
  refine wpAnyH_take (i := 7) (oi := ⟨some 59, .load 23 (.tmp 9), _, _, _, _⟩) (v := .agg CS.toArray) rfl (by kernel_rfl) (by kernel_rfl) (by kernel_rfl) (fun _ _ _ h => h) (yieldsIf_load_mid (by rfl) 23 (.tmp 9) rfl g9 0 rfl CS _ (fun _ h => h.1) huK rfl hiS) (hrS) ?_
  try simp only [Act.put, List.setIfInBounds_toArray, List.set_cons_zero, List.set_cons_succ]
  refine wpAnyH_take (i := 8) (oi := ⟨some 60, .load 23 (.tmp 11), _, _, _, _⟩) (v := .agg CS.toArray) rfl (by kernel_rfl) (by kernel_rfl) (by kernel_rfl) (fun _ _ _ h => h) (yieldsIf_load_mid (by rfl) 23 (.tmp 11) rfl g11 0 rfl CS _ (fun _ h => h.2.1) huK rfl hiS) (hrS) ?_
  try simp only [Act.put, List.setIfInBounds_toArray, List.set_cons_zero, List.set_cons_succ]
  refine wpAnyH_take (i := 9) (oi := ⟨some 61, .binOp .neq 23 (.tmp 59) (.tmp 60) 23, _, _, _, _⟩) (v := .bool false) rfl (by kernel_rfl) (by kernel_rfl) (by kernel_rfl) (fun _ _ _ h => h) (Or.inl ⟨by rfl, by intro W _; go_simp⟩) (hrS) ?_
  try simp only [Act.put, List.setIfInBounds_toArray, List.set_cons_zero, List.set_cons_succ]
  refine wpAnyH_take (i := 10) (oi := ⟨some 62, .pick (.tmp 58) (.const (.bool true)) (.tmp 61), _, _, _, _⟩) (v := .bool false) rfl (by kernel_rfl) (by kernel_rfl) (by kernel_rfl) (fun _ _ _ h => h) (Or.inl ⟨by rfl, by intro W _; go_simp⟩) (hrS) ?_
  try simp only [Act.put, List.setIfInBounds_toArray, List.set_cons_zero, List.set_cons_succ]
  refine wpAnyH_take (i := 11) (oi := ⟨some 63, .move (.tmp 62), _, _, _, _⟩) (v := .bool false) rfl (by kernel_rfl) (by kernel_rfl) (by kernel_rfl) (fun _ _ _ h => h) (Or.inl ⟨by rfl, by intro W _; go_simp⟩) (hrS) ?_
  try simp only [Act.put, List.setIfInBounds_toArray, List.set_cons_zero, List.set_cons_succ]
  refine wpAnyH_take (i := 12) (oi := ⟨some 64, .move (.tmp 13), _, _, _, _⟩) (v := .slice (some ⟨bA, offA, none⟩) (N + 1) capA) rfl (by kernel_rfl) (by kernel_rfl) (by kernel_rfl) (fun _ _ _ h => h) (Or.inl ⟨by rfl, by intro W _; go_simp⟩) (hrS) ?_
  try simp only [Act.put, List.setIfInBounds_toArray, List.set_cons_zero, List.set_cons_succ]
  refine wpAnyH_take (i := 13) (oi := ⟨some 65, .call { callee := .builtin .len, args := #[.tmp 64], argTypes := #[29] }, _, _, _, _⟩) (v := .int .i64 ((N : Int) + 1)) rfl (by kernel_rfl) (by kernel_rfl) (by kernel_rfl) (fun _ _ _ h => h) (Or.inl ⟨by rfl, by intro W _; go_simp⟩) (hrS) ?_
  try simp only [Act.put, List.setIfInBounds_toArray, List.set_cons_zero, List.set_cons_succ]
  refine wpAnyH_take (i := 14) (oi := ⟨some 66, .move (.tmp 1), _, _, _, _⟩) (v := .int .i64 (a : Int)) rfl (by kernel_rfl) (by kernel_rfl) (by kernel_rfl) (fun _ _ _ h => h) (Or.inl ⟨by rfl, by intro W _; go_simp⟩) (hrS) ?_
  try simp only [Act.put, List.setIfInBounds_toArray, List.set_cons_zero, List.set_cons_succ]
  refine wpAnyH_take (i := 15) (oi := ⟨some 67, .move (.tmp 2), _, _, _, _⟩) (v := .int .i64 (b : Int)) rfl (by kernel_rfl) (by kernel_rfl) (by kernel_rfl) (fun _ _ _ h => h) (Or.inl ⟨by rfl, by intro W _; go_simp⟩) (hrS) ?_
  try simp only [Act.put, List.setIfInBounds_toArray, List.set_cons_zero, List.set_cons_succ]
  refine wpAnyH_take (i := 16) (oi := ⟨some 68, .binOp .add 3 (.tmp 66) (.tmp 67) 3, _, _, _, _⟩) (v := .int .i64 (N : Int)) rfl (by kernel_rfl) (by kernel_rfl) (by kernel_rfl) (fun _ _ _ h => h) (Or.inl ⟨by rfl, by intro W _; go_simp; rw [IntKind.wrap_i64]; omega⟩) (hrS) ?_
  try simp only [Act.put, List.setIfInBounds_toArray, List.set_cons_zero, List.set_cons_succ]
  refine wpAnyH_take (i := 17) (oi := ⟨some 69, .binOp .add 3 (.tmp 68) (.const (.int .i64 1)) 3, _, _, _, _⟩) (v := .int .i64 ((N : Int) + 1)) rfl (by kernel_rfl) (by kernel_rfl) (by kernel_rfl) (fun _ _ _ h => h) (Or.inl ⟨by rfl, by intro W _; go_simp; rw [IntKind.wrap_i64]; omega⟩) (hrS) ?_
  try simp only [Act.put, List.setIfInBounds_toArray, List.set_cons_zero, List.set_cons_succ]
  refine wpAnyH_take (i := 18) (oi := ⟨some 70, .binOp .neq 3 (.tmp 65) (.tmp 69) 3, _, _, _, _⟩) (v := .bool false) rfl (by kernel_rfl) (by kernel_rfl) (by kernel_rfl) (fun _ _ _ h => h) (Or.inl ⟨by rfl, by intro W _; go_simp⟩) (hrS) ?_
  try simp only [Act.put, List.setIfInBounds_toArray, List.set_cons_zero, List.set_cons_succ]
  refine wpAnyH_take (i := 19) (oi := ⟨some 71, .pick (.tmp 63) (.const (.bool true)) (.tmp 70), _, _, _, _⟩) (v := .bool false) rfl (by kernel_rfl) (by kernel_rfl) (by kernel_rfl) (fun _ _ _ h => h) (Or.inl ⟨by rfl, by intro W _; go_simp⟩) (hrS) ?_
  try simp only [Act.put, List.setIfInBounds_toArray, List.set_cons_zero, List.set_cons_succ]
  refine wpAnyH_take (i := 20) (oi := ⟨some 72, .move (.tmp 71), _, _, _, _⟩) (v := .bool false) rfl (by kernel_rfl) (by kernel_rfl) (by kernel_rfl) (fun _ _ _ h => h) (Or.inl ⟨by rfl, by intro W _; go_simp⟩) (hrS) ?_
  try simp only [Act.put, List.setIfInBounds_toArray, List.set_cons_zero, List.set_cons_succ]
  refine wpAnyH_take (i := 21) (oi := ⟨some 73, .move (.tmp 13), _, _, _, _⟩) (v := .slice (some ⟨bA, offA, none⟩) (N + 1) capA) rfl (by kernel_rfl) (by kernel_rfl) (by kernel_rfl) (fun _ _ _ h => h) (Or.inl ⟨by rfl, by intro W _; go_simp⟩) (hrS) ?_
  try simp only [Act.put, List.setIfInBounds_toArray, List.set_cons_zero, List.set_cons_succ]
  refine wpAnyH_take (i := 22) (oi := ⟨some 74, .move (.tmp 1), _, _, _, _⟩) (v := .int .i64 (a : Int)) rfl (by kernel_rfl) (by kernel_rfl) (by kernel_rfl) (fun _ _ _ h => h) (Or.inl ⟨by rfl, by intro W _; go_simp⟩) (hrS) ?_
  try simp only [Act.put, List.setIfInBounds_toArray, List.set_cons_zero, List.set_cons_succ]
  refine wpAnyH_take (i := 23) (oi := ⟨some 75, .indexAddr 29 (.tmp 73) (.tmp 74), _, _, _, _⟩) (v := .pointer (some ⟨bA, offA + a * 32, none⟩)) rfl (by kernel_rfl) (by kernel_rfl) (by kernel_rfl) (fun _ _ _ h => h) (Or.inl ⟨by rfl, by intro W _; go_simp⟩) (hrS) ?_
  try simp only [Act.put, List.setIfInBounds_toArray, List.set_cons_zero, List.set_cons_succ]
  refine wpAnyH_take (i := 24) (oi := ⟨some 76, .load 23 (.tmp 75), _, _, _, _⟩) (v := .agg CA.toArray) rfl (by kernel_rfl) (by kernel_rfl) (by kernel_rfl) (fun _ _ _ h => h) (yieldsIf_load_mid (by rfl) 23 (.tmp 75) rfl bA (offA + a * 32) rfl CA _ (fun _ h => h.2.2.1) huK rfl hiA) (hrS) ?_
  try simp only [Act.put, List.setIfInBounds_toArray, List.set_cons_zero, List.set_cons_succ]
  refine wpAnyH_take (i := 25) (oi := ⟨some 77, .load 23 (.tmp 7), _, _, _, _⟩) (v := .agg CA.toArray) rfl (by kernel_rfl) (by kernel_rfl) (by kernel_rfl) (fun _ _ _ h => h) (yieldsIf_load_mid (by rfl) 23 (.tmp 7) rfl g7 0 rfl CA _ (fun _ h => h.2.2.2.1) huK rfl hiA) (hrS) ?_
  try simp only [Act.put, List.setIfInBounds_toArray, List.set_cons_zero, List.set_cons_succ]
  refine wpAnyH_take (i := 26) (oi := ⟨some 78, .binOp .neq 23 (.tmp 76) (.tmp 77) 23, _, _, _, _⟩) (v := .bool false) rfl (by kernel_rfl) (by kernel_rfl) (by kernel_rfl) (fun _ _ _ h => h) (Or.inl ⟨by rfl, by intro W _; go_simp⟩) (hrS) ?_
  try simp only [Act.put, List.setIfInBounds_toArray, List.set_cons_zero, List.set_cons_succ]
  refine wpAnyH_take (i := 27) (oi := ⟨some 79, .pick (.tmp 72) (.const (.bool true)) (.tmp 78), _, _, _, _⟩) (v := .bool false) rfl (by kernel_rfl) (by kernel_rfl) (by kernel_rfl) (fun _ _ _ h => h) (Or.inl ⟨by rfl, by intro W _; go_simp⟩) (hrS) ?_
  try simp only [Act.put, List.setIfInBounds_toArray, List.set_cons_zero, List.set_cons_succ]
  refine wpAnyH_take (i := 28) (oi := ⟨some 80, .move (.tmp 79), _, _, _, _⟩) (v := .bool false) rfl (by kernel_rfl) (by kernel_rfl) (by kernel_rfl) (fun _ _ _ h => h) (Or.inl ⟨by rfl, by intro W _; go_simp⟩) (hrS) ?_
  try simp only [Act.put, List.setIfInBounds_toArray, List.set_cons_zero, List.set_cons_succ]
  refine wpAnyH_take (i := 29) (oi := ⟨some 81, .move (.tmp 13), _, _, _, _⟩) (v := .slice (some ⟨bA, offA, none⟩) (N + 1) capA) rfl (by kernel_rfl) (by kernel_rfl) (by kernel_rfl) (fun _ _ _ h => h) (Or.inl ⟨by rfl, by intro W _; go_simp⟩) (hrS) ?_
  try simp only [Act.put, List.setIfInBounds_toArray, List.set_cons_zero, List.set_cons_succ]
  refine wpAnyH_take (i := 30) (oi := ⟨some 82, .move (.tmp 1), _, _, _, _⟩) (v := .int .i64 (a : Int)) rfl (by kernel_rfl) (by kernel_rfl) (by kernel_rfl) (fun _ _ _ h => h) (Or.inl ⟨by rfl, by intro W _; go_simp⟩) (hrS) ?_
  try simp only [Act.put, List.setIfInBounds_toArray, List.set_cons_zero, List.set_cons_succ]
  refine wpAnyH_take (i := 31) (oi := ⟨some 83, .move (.tmp 2), _, _, _, _⟩) (v := .int .i64 (b : Int)) rfl (by kernel_rfl) (by kernel_rfl) (by kernel_rfl) (fun _ _ _ h => h) (Or.inl ⟨by rfl, by intro W _; go_simp⟩) (hrS) ?_
  try simp only [Act.put, List.setIfInBounds_toArray, List.set_cons_zero, List.set_cons_succ]
  refine wpAnyH_take (i := 32) (oi := ⟨some 84, .binOp .add 3 (.tmp 82) (.tmp 83) 3, _, _, _, _⟩) (v := .int .i64 (N : Int)) rfl (by kernel_rfl) (by kernel_rfl) (by kernel_rfl) (fun _ _ _ h => h) (Or.inl ⟨by rfl, by intro W _; go_simp; rw [IntKind.wrap_i64]; omega⟩) (hrS) ?_
  try simp only [Act.put, List.setIfInBounds_toArray, List.set_cons_zero, List.set_cons_succ]
  refine wpAnyH_take (i := 33) (oi := ⟨some 85, .indexAddr 29 (.tmp 81) (.tmp 84), _, _, _, _⟩) (v := .pointer (some ⟨bA, offA + N * 32, none⟩)) rfl (by kernel_rfl) (by kernel_rfl) (by kernel_rfl) (fun _ _ _ h => h) (Or.inl ⟨by rfl, by intro W _; go_simp⟩) (hrS) ?_
  try simp only [Act.put, List.setIfInBounds_toArray, List.set_cons_zero, List.set_cons_succ]
  refine wpAnyH_take (i := 34) (oi := ⟨some 86, .load 23 (.tmp 85), _, _, _, _⟩) (v := .agg CS.toArray) rfl (by kernel_rfl) (by kernel_rfl) (by kernel_rfl) (fun _ _ _ h => h) (yieldsIf_load_mid (by rfl) 23 (.tmp 85) rfl bA (offA + N * 32) rfl CS _ (fun _ h => h.2.2.2.2) huK rfl hiS) (hrS) ?_
  try simp only [Act.put, List.setIfInBounds_toArray, List.set_cons_zero, List.set_cons_succ]
  refine wpAnyH_take (i := 35) (oi := ⟨some 87, .load 23 (.tmp 9), _, _, _, _⟩) (v := .agg CS.toArray) rfl (by kernel_rfl) (by kernel_rfl) (by kernel_rfl) (fun _ _ _ h => h) (yieldsIf_load_mid (by rfl) 23 (.tmp 9) rfl g9 0 rfl CS _ (fun _ h => h.1) huK rfl hiS) (hrS) ?_
  try simp only [Act.put, List.setIfInBounds_toArray, List.set_cons_zero, List.set_cons_succ]
  refine wpAnyH_take (i := 36) (oi := ⟨some 88, .binOp .neq 23 (.tmp 86) (.tmp 87) 23, _, _, _, _⟩) (v := .bool false) rfl (by kernel_rfl) (by kernel_rfl) (by kernel_rfl) (fun _ _ _ h => h) (Or.inl ⟨by rfl, by intro W _; go_simp⟩) (hrS) ?_
  try simp only [Act.put, List.setIfInBounds_toArray, List.set_cons_zero, List.set_cons_succ]
  refine wpAnyH_take (i := 37) (oi := ⟨some 89, .pick (.tmp 80) (.const (.bool true)) (.tmp 88), _, _, _, _⟩) (v := .bool false) rfl (by kernel_rfl) (by kernel_rfl) (by kernel_rfl) (fun _ _ _ h => h) (Or.inl ⟨by rfl, by intro W _; go_simp⟩) (hrS) ?_
  try simp only [Act.put, List.setIfInBounds_toArray, List.set_cons_zero, List.set_cons_succ]
  refine wpAnyH_done (by kernel_rfl) ?_ _
  clear hrS hq1 hq2 hiA p7 p9 p11 hqA hqS
  go_wp2
  go_loopw [15] (fun v15 wr => ∃ i : Nat, i ≤ N + 1 ∧ v15 = .int .i64 i ∧ Below w14.heap.size w14 wr) (fun v15 _ => N + 1 - (intOf v15).toNat)
  case atStart => exact ⟨0, Nat.zero_le _, rfl, hBd⟩
  case round =>
    clear hBd
    obtain ⟨i, hi, rfl, hBr⟩ := hrel
    by_cases hlt : i < N + 1
    · have h1 := range_below (hrA.out i hlt) hBr hlA
      obtain ⟨d, hd⟩ : ∃ d, i + d = N := ⟨N - i, by omega⟩
      have hdi : (N : Int) - (i : Int) = (d : Int) := by omega
      have hIb := (hlo.out i).1
      have hIl := (hlo.out i).2
      have hID := had.out i d
      rw [hd, hS.out] at hID
      obtain ⟨I, hI⟩ : ∃ I, Hid (keyAt key i = I) := ⟨_, Lib.hid rfl⟩
      rw [hI.out] at h1 hIb hIl hID
      obtain ⟨CI, hCI⟩ : ∃ X, Hid (ints .u8 I = X) := ⟨_, Lib.hid rfl⟩
      have hYI : Hid ((ints .u8 I).toArray = CI.toArray) := by rw [← hCI.out]; exact Lib.hid rfl
      rw [hCI.out] at h1
      have hL0 := fun (W : World) (hb : Below w14.heap.size w14 W) => chainLeads I hIb hIl CI.toArray hYI S hSl.out CS.toArray hYS d (by omega) W (hT0.out.call (below_then hB hb))
      rw [hID, decide_eq_true rfl] at hL0
      have dLi := Lib.hid hL0
      have hrSt := Lib.hid (fun (W : World) (hb : Below w14.heap.size w14 W) => And.intro (show W.rangeAt bA (offA + i * 32) CI by have := range_below (hrA.out i hlt) hb hlA; rw [hI.out, hCI.out] at this; exact this) (hp11.out W hb))
      have hiI : (Tryd.prog.info? 23).map (·.size) = some CI.length := by rw [← hCI.out, ints, List.length_map, hIl]; kernel_rfl
      have j1 : (i : Int) < (N : Int) + 1 := by omega
      have j2 : i < N + 1 := hlt
      have j3 : (i : Int) ≤ 39 := by omega
      have j4 : (d : Int) ≤ 38 := by omega
      replace hd := Lib.hid hd
      clear h1 hIb hIl hID hL0 hI
      go_upto_region 13 with fail
      have hBd := hBr.drew
      refine wp_region_held_drew (S := fun W' => W'.rangeAt bA (offA + i * 32) CI ∧ W'.rangeAt g11 0 CS) (by kernel_rfl) (hrSt.out _ hBd) (fun _ => ?_)
      have hrS := hrSt.out _ hBd
      generalize wr.drew = wd at hBd hrS ⊢
      refine wpAnyH_take (i := 0) (oi := ⟨some 97, .move (.tmp 13), _, _, _, _⟩) (v := .slice (some ⟨bA, offA, none⟩) (N + 1) capA) rfl (by kernel_rfl) (by kernel_rfl) (by kernel_rfl) (fun _ _ _ h => h) (Or.inl ⟨by rfl, by intro W _; go_simp⟩) (hrS) ?_
      try simp only [Act.put, List.setIfInBounds_toArray, List.set_cons_zero, List.set_cons_succ]
      refine wpAnyH_take (i := 1) (oi := ⟨some 98, .move (.tmp 15), _, _, _, _⟩) (v := .int .i64 (i : Int)) rfl (by kernel_rfl) (by kernel_rfl) (by kernel_rfl) (fun _ _ _ h => h) (Or.inl ⟨by rfl, by intro W _; go_simp⟩) (hrS) ?_
      try simp only [Act.put, List.setIfInBounds_toArray, List.set_cons_zero, List.set_cons_succ]
      refine wpAnyH_take (i := 2) (oi := ⟨some 99, .indexAddr 29 (.tmp 97) (.tmp 98), _, _, _, _⟩) (v := .pointer (some ⟨bA, offA + i * 32, none⟩)) rfl (by kernel_rfl) (by kernel_rfl) (by kernel_rfl) (fun _ _ _ h => h) (Or.inl ⟨by rfl, by intro W _; go_simp⟩) (hrS) ?_
      try simp only [Act.put, List.setIfInBounds_toArray, List.set_cons_zero, List.set_cons_succ]
      refine wpAnyH_take (i := 3) (oi := ⟨some 100, .load 23 (.tmp 99), _, _, _, _⟩) (v := .agg CI.toArray) rfl (by kernel_rfl) (by kernel_rfl) (by kernel_rfl) (fun _ _ _ h => h) (yieldsIf_load_mid (by rfl) 23 (.tmp 99) rfl bA (offA + i * 32) rfl CI _ (fun _ h => h.1) huK rfl hiI) (hrS) ?_
      try simp only [Act.put, List.setIfInBounds_toArray, List.set_cons_zero, List.set_cons_succ]
      refine wpAnyH_take (i := 4) (oi := ⟨some 101, .load 23 (.tmp 11), _, _, _, _⟩) (v := .agg CS.toArray) rfl (by kernel_rfl) (by kernel_rfl) (by kernel_rfl) (fun _ _ _ h => h) (yieldsIf_load_mid (by rfl) 23 (.tmp 11) rfl g11 0 rfl CS _ (fun _ h => h.2) huK rfl hiS) (hrS) ?_
      try simp only [Act.put, List.setIfInBounds_toArray, List.set_cons_zero, List.set_cons_succ]
      refine wpAnyH_take (i := 5) (oi := ⟨some 102, .move (.tmp 1), _, _, _, _⟩) (v := .int .i64 (a : Int)) rfl (by kernel_rfl) (by kernel_rfl) (by kernel_rfl) (fun _ _ _ h => h) (Or.inl ⟨by rfl, by intro W _; go_simp⟩) (hrS) ?_
      try simp only [Act.put, List.setIfInBounds_toArray, List.set_cons_zero, List.set_cons_succ]
      refine wpAnyH_take (i := 6) (oi := ⟨some 103, .move (.tmp 2), _, _, _, _⟩) (v := .int .i64 (b : Int)) rfl (by kernel_rfl) (by kernel_rfl) (by kernel_rfl) (fun _ _ _ h => h) (Or.inl ⟨by rfl, by intro W _; go_simp⟩) (hrS) ?_
      try simp only [Act.put, List.setIfInBounds_toArray, List.set_cons_zero, List.set_cons_succ]
      refine wpAnyH_take (i := 7) (oi := ⟨some 104, .binOp .add 3 (.tmp 102) (.tmp 103) 3, _, _, _, _⟩) (v := .int .i64 (N : Int)) rfl (by kernel_rfl) (by kernel_rfl) (by kernel_rfl) (fun _ _ _ h => h) (Or.inl ⟨by rfl, by intro W _; go_simp; rw [IntKind.wrap_i64]; omega⟩) (hrS) ?_
      try simp only [Act.put, List.setIfInBounds_toArray, List.set_cons_zero, List.set_cons_succ]
      refine wpAnyH_take (i := 8) (oi := ⟨some 105, .move (.tmp 15), _, _, _, _⟩) (v := .int .i64 (i : Int)) rfl (by kernel_rfl) (by kernel_rfl) (by kernel_rfl) (fun _ _ _ h => h) (Or.inl ⟨by rfl, by intro W _; go_simp⟩) (hrS) ?_
      try simp only [Act.put, List.setIfInBounds_toArray, List.set_cons_zero, List.set_cons_succ]
      refine wpAnyH_take (i := 9) (oi := ⟨some 106, .binOp .sub 3 (.tmp 104) (.tmp 105) 3, _, _, _, _⟩) (v := .int .i64 (d : Int)) rfl (by kernel_rfl) (by kernel_rfl) (by kernel_rfl) (fun _ _ _ h => h) (Or.inl ⟨by rfl, by intro W _; go_simp; rw [IntKind.wrap_i64]; omega⟩) (hrS) ?_
      try simp only [Act.put, List.setIfInBounds_toArray, List.set_cons_zero, List.set_cons_succ]
      refine wpAnyH_ready (rs := [10]) (by kernel_rfl) (by simp) ?_
      refine AllReadyH.cons (o := ⟨some 107, .call { callee := .value (.func 9), args := #[.tmp 100, .tmp 101, .tmp 106], argTypes := #[23, 23, 3] }, _, _, _, _⟩) rfl (fun K hK => ?_) AllReadyH.nil
      go_simp
      refine (dLi.out wd hBd).mono ?_
      rintro e' w20 ⟨rfl, b20⟩
      have hB20 := below_then hBd b20
      have hr20 := hrSt.out _ hB20
      refine hK.out _ _ (hr20) (fun _ => ?_)
      clear hK K
      try simp only [Act.put, List.setIfInBounds_toArray, List.set_cons_zero, List.set_cons_succ]
      refine wpAnyH_take (i := 11) (oi := ⟨some 96, .move (.tmp 107), _, _, _, _⟩) (v := .tuple #[.bool true, .int .i64 0]) rfl (by kernel_rfl) (by kernel_rfl) (by kernel_rfl) (fun _ _ _ h => h) (Or.inl ⟨by rfl, by intro W _; go_simp⟩) (hr20) ?_
      try simp only [Act.put, List.setIfInBounds_toArray, List.set_cons_zero, List.set_cons_succ]
      refine wpAnyH_take (i := 12) (oi := ⟨some 108, .extract (.tmp 96) 0, _, _, _, _⟩) (v := .bool true) rfl (by kernel_rfl) (by kernel_rfl) (by kernel_rfl) (fun _ _ _ h => h) (Or.inl ⟨by rfl, by intro W _; go_simp⟩) (hr20) ?_
      try simp only [Act.put, List.setIfInBounds_toArray, List.set_cons_zero, List.set_cons_succ]
      refine wpAnyH_take (i := 13) (oi := ⟨some 109, .extract (.tmp 96) 1, _, _, _, _⟩) (v := .int .i64 0) rfl (by kernel_rfl) (by kernel_rfl) (by kernel_rfl) (fun _ _ _ h => h) (Or.inl ⟨by rfl, by intro W _; go_simp⟩) (hr20) ?_
      try simp only [Act.put, List.setIfInBounds_toArray, List.set_cons_zero, List.set_cons_succ]
      refine wpAnyH_take (i := 14) (oi := ⟨some 16, .assign (.tmp 108), _, _, _, _⟩) (v := .bool true) rfl (by kernel_rfl) (by kernel_rfl) (by kernel_rfl) (fun _ _ _ h => h) (Or.inl ⟨by rfl, by intro W _; go_simp⟩) (hr20) ?_
      try simp only [Act.put, List.setIfInBounds_toArray, List.set_cons_zero, List.set_cons_succ]
      refine wpAnyH_take (i := 15) (oi := ⟨some 17, .assign (.tmp 109), _, _, _, _⟩) (v := .int .i64 0) rfl (by kernel_rfl) (by kernel_rfl) (by kernel_rfl) (fun _ _ _ h => h) (Or.inl ⟨by rfl, by intro W _; go_simp⟩) (hr20) ?_
      try simp only [Act.put, List.setIfInBounds_toArray, List.set_cons_zero, List.set_cons_succ]
      refine wpAnyH_done (by kernel_rfl) ?_ _
      go_wp2
      go_roundw
      case rel => exact ⟨i + 1, by omega, by go_num, hB20⟩
      case measure => simp [intOf]; omega
    · obtain rfl : i = N + 1 := by omega
      have j1 : ¬ ((N + 1 : Nat) : Int) < (N : Int) + 1 := by omega
      go_wp2
      go_ret
      exact ⟨rfl, below_then hB hBr⟩

end Go.Proofs.YtmhehnimgkmmaaaDoor
