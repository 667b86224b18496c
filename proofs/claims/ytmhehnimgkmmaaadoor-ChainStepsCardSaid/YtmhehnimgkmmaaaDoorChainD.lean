/- What leads to a commitment, in the program. -/
import Derived.Test.YtmhehnimgkmmaaaDoorChainC
import Derived.Test.YtmhehnimgkmmaaaDoorMacV
import Derived.Deep.RegionHeld3
import Derived.Deep.DeepCutAuto
import Derived.IntWalk
import Derived.Lib.Hide
namespace Go.Proofs.YtmhehnimgkmmaaaDoor
set_option maxRecDepth 100000
open Go.RowKit
set_option linter.unusedVariables false
set_option linter.unusedSimpArgs false
attribute [local go_sem] cell_re

set_option maxRecDepth 200000 in
set_option maxHeartbeats 8000000 in
theorem chainLeads_no (key : List Int) (hkb : Byted key) (hkl : key.length = 32) (K : Array Value) (hK : Hid ((ints .u8 key).toArray = K)) (com : List Int) (hcl : com.length = 32) (C : Array Value) (hC : Hid ((ints .u8 com).toArray = C)) (n : Int) (h : n < 0 ∨ 512 < n) (w : World) :
    Calls Tryd.prog 9 #[.agg K, .agg C, .int .i64 n] w fun e w' => e = .returned (.tuple #[.bool false, .int .i64 2]) ∧ Below w.heap.size w w' := by
  have dW := Lib.hid (fun W => chainWalk_no key hkb hkl K hK n h W)
  have hkl' := Lib.hid hkl
  obtain ⟨Z, hZ⟩ : ∃ Z, Hid (zeroL = Z) := ⟨_, rfl⟩
  have hZl : Hid (Z.length = 32) := by rw [← hZ.out]; exact Lib.hid rfl
  obtain ⟨Y, hY⟩ : ∃ Y, Hid ((ints .u8 Z).toArray = Y) := ⟨_, rfl⟩
  rw [hZ.out, hY.out] at dW
  clear h hkb hkl hcl
  go_enter Tryd.func9, Tryd.ntmps9
  go_wp2_with (first
    | (refine walk_boxed (o := ⟨some 3, _, _, _, _, _⟩) rfl 23 _ rfl .u8 key K hK rfl ?_; intro w1 k1 b1 s1; clear s1)
    | (refine walk_boxed (o := ⟨some 4, _, _, _, _, _⟩) rfl 23 _ rfl .u8 com C hC rfl ?_; intro w2 c2 b2 s2; clear s2; have k2 := k1.call b2; have hB2 := below_then b1 b2)
    | (refine walk_read rfl 23 _ rfl k2 rfl 32 _ Tryd.underlying23 (by kernel_rfl) hkl'.out K hK ?_)
    | (go_at_call 7; refine (dW.out w2).mono ?_; rintro e' w3 ⟨rfl, b3⟩; have hB3 := below_then hB2 b3)
    | (refine walk_arr (o := ⟨some 8, _, _, _, _, _⟩) rfl 23 rfl .u8 (List.replicate 32 0) (by kernel_rfl) ?_; intro w4 a4 b4 s4; clear s4; have hB4 := below_then hB3 b4)
    | (refine walk_store rfl 23 _ _ rfl a4 rfl Y hY rfl (by rw [hZl.out]; kernel_rfl) (by rw [hZl.out]; rfl) ?_; intro w5 a5 s5 o5; have hB5 := below_only hB4 o5 hB3.size s5))
  go_ret2
  exact ⟨rfl, hB5⟩
set_option maxRecDepth 200000 in
set_option maxHeartbeats 8000000 in
theorem chainLeads (key : List Int) (hkb : Byted key) (hkl : key.length = 32) (K : Array Value) (hK : Hid ((ints .u8 key).toArray = K)) (com : List Int) (hcl : com.length = 32) (C : Array Value) (hC : Hid ((ints .u8 com).toArray = C)) (n : Nat) (hn : n ≤ 512) (w : World) (hT : Steps w) :
    Calls Tryd.prog 9 #[.agg K, .agg C, .int .i64 n] w fun e w' => e = .returned (.tuple #[.bool (decide (keyAt key n = com)), .int .i64 0]) ∧ Below w.heap.size w w' := by
  have dW := Lib.hid (fun (W : World) (h : Below w.heap.size w W) => chainWalk key hkb hkl K hK n hn W (hT.call h))
  have hkl' := Lib.hid hkl
  have hcl' := Lib.hid hcl
  have hel : Hid ((keyAt key n).length = 32) := Lib.hid (keyAt_length hkl n)
  obtain ⟨iE, hiE⟩ := Option.isSome_iff_exists.mp (show (Tryd.prog.info? 5).isSome = true by kernel_rfl)
  obtain ⟨E, hE⟩ : ∃ E, Hid (keyAt key n = E) := ⟨_, Lib.hid rfl⟩
  rw [hE.out] at dW hel ⊢
  obtain ⟨Y, hY⟩ : ∃ Y, Hid ((ints .u8 E).toArray = Y) := ⟨_, rfl⟩
  have hq := Lib.hid (fun W1 : World => equal_two (P := Tryd.prog) (t := 23) (e := 5) (k := .u8) Tryd.underlying23 hiE (by kernel_rfl) (by kernel_rfl) Tryd.underlying5 E com hel.out hcl W1)
  rw [hY.out, hC.out] at hq
  rw [hY.out] at dW
  obtain ⟨R, hR⟩ : ∃ R, Hid (decide (E = com) = R) := ⟨_, rfl⟩
  rw [hR.out] at hq ⊢
  clear hn hkb hkl hcl hT hiE
  go_enter Tryd.func9, Tryd.ntmps9
  go_upto_region 2 with (first
    | (refine walk_boxed (o := ⟨some 3, _, _, _, _, _⟩) rfl 23 _ rfl .u8 key K hK rfl ?_; intro w1 k1 b1 s1; clear s1)
    | (refine walk_boxed (o := ⟨some 4, _, _, _, _, _⟩) rfl 23 _ rfl .u8 com C hC rfl ?_; intro w2 c2 b2 s2; clear s2; have k2 := k1.call b2; have hB2 := below_then b1 b2)
    | (refine walk_read rfl 23 _ rfl k2 rfl 32 _ Tryd.underlying23 (by kernel_rfl) hkl'.out K hK ?_)
    | (go_at_call 7; refine (dW.out w2 hB2).mono ?_; rintro e' w3 ⟨rfl, b3⟩; have c3 := c2.call b3; have hB3 := below_then hB2 b3)
    | (refine walk_arr (o := ⟨some 8, _, _, _, _, _⟩) rfl 23 rfl .u8 (List.replicate 32 0) (by kernel_rfl) ?_; intro w4 a4 b4 s4; clear s4; have c4 := c3.call b4; have hB4 := below_then hB3 b4)
    | (refine walk_store rfl 23 _ _ rfl a4 rfl Y hY rfl (by rw [hel.out]; kernel_rfl) (by rw [hel.out]; rfl) ?_; intro w5 a5 s5 o5; have c5 := c4.only o5 (Nat.ne_of_lt c3.lt) s5; have hB5 := below_only hB4 o5 hB3.size s5))
  try simp only [Act.put, List.setIfInBounds_toArray, List.set_cons_zero, List.set_cons_succ]
  clear k1 b1 c2 b2 k2 hB2 b3 c3 hB3 a4 b4 c4 hB4 s5 o5
  have hq1 := hq.out
  go_wp2_with (first
    | (refine walk_readG (by rfl) 23 _ rfl a5 rfl 32 _ Tryd.underlying23 (by kernel_rfl) hel.out Y hY ?_)
    | (refine walk_readG (by rfl) 23 _ rfl c5 rfl 32 _ Tryd.underlying23 (by kernel_rfl) hcl'.out C hC ?_))
  go_ret2
  exact ⟨rfl, hB5⟩
set_option maxRecDepth 200000 in
set_option maxHeartbeats 8000000 in
theorem chainFind_no (key : List Int) (hkb : Byted key) (hkl : key.length = 32) (K : Array Value) (hK : Hid ((ints .u8 key).toArray = K)) (com : List Int) (hcl : com.length = 32) (C : Array Value) (hC : Hid ((ints .u8 com).toArray = C)) (n : Int) (h : n < 0 ∨ 512 < n) (w : World) :
    Calls Tryd.prog 13 #[.agg K, .agg C, .int .i64 n] w fun e w' => e = .returned (.tuple #[.int .i64 0, .int .i64 2]) ∧ Below w.heap.size w w' := by
  have dO := Lib.hid (fun W => chainOut n h W)
  go_enter Tryd.func13, Tryd.ntmps13
  go_wp2_with (first
    | (refine walk_boxed (o := ⟨some 3, _, _, _, _, _⟩) rfl 23 _ rfl .u8 key K hK rfl ?_; intro w1 k1 b1 s1; clear s1)
    | (refine walk_boxed (o := ⟨some 4, _, _, _, _, _⟩) rfl 23 _ rfl .u8 com C hC rfl ?_; intro w2 c2 b2 s2; clear s2; have hB2 := below_then b1 b2)
    | (go_at_call 18; refine (dO.out w2).mono ?_; rintro e' w3 ⟨rfl, rfl⟩))
  go_ret2
  exact ⟨rfl, hB2⟩
set_option maxRecDepth 200000 in
set_option maxHeartbeats 8000000 in
theorem chainFind (key : List Int) (hkb : Byted key) (hkl : key.length = 32) (K : Array Value) (hK : Hid ((ints .u8 key).toArray = K)) (com : List Int) (hcl : com.length = 32) (C : Array Value) (hC : Hid ((ints .u8 com).toArray = C)) (n : Nat) (hn : n ≤ 512) (w : World) (hT : Steps w) :
    Calls Tryd.prog 13 #[.agg K, .agg C, .int .i64 n] w fun e w' => e = .returned (.tuple #[.int .i64 (findN key com (n + 1)), .int .i64 (findE 5 key com (n + 1))]) ∧ Below w.heap.size w w' := by
  have hT0 := Lib.hid hT
  have dI := Lib.hid (fun W => chainIn n hn W)
  have hb0 := Lib.hid (fun i => keyAt_byted hkb i)
  have hl0 := Lib.hid (fun i => keyAt_length hkl i)
  have hcl' := Lib.hid hcl
  obtain ⟨iE, hiE'⟩ := Option.isSome_iff_exists.mp (show (Tryd.prog.info? 5).isSome = true by kernel_rfl)
  have hiE := Lib.hid hiE'
  have jn : (n : Int) ≤ 512 := by omega
  have hS := Lib.hid (fun (i : Nat) (hi : i < n + 1) (h : keyAt key i = com) (hb : ∀ j, j < i → keyAt key j ≠ com) => And.intro (findN_some hi h hb) (findE_some (ko := 5) hi h hb))
  have hN := Lib.hid (fun (h : ∀ i, i < n + 1 → keyAt key i ≠ com) => And.intro (findN_none h) (findE_none (ko := 5) h))
  obtain ⟨RN, hRN⟩ : ∃ R, Hid (findN key com (n + 1) = R) := ⟨_, rfl⟩
  obtain ⟨RE, hRE⟩ : ∃ R, Hid (findE 5 key com (n + 1) = R) := ⟨_, rfl⟩
  rw [hRN.out, hRE.out] at hS hN ⊢
  clear hkb hT hn hiE'
  go_enter Tryd.func13, Tryd.ntmps13
  go_upto_if 10 with (first
    | (refine walk_boxed (o := ⟨some 3, _, _, _, _, _⟩) rfl 23 _ rfl .u8 key K hK rfl ?_; intro w1 k1 b1 s1; clear s1)
    | (refine walk_boxed (o := ⟨some 4, _, _, _, _, _⟩) rfl 23 _ rfl .u8 com C hC rfl ?_; intro w2 c2 b2 s2; clear s2; have k2 := k1.call b2; have hB2 := below_then b1 b2)
    | (go_at_call 18; refine (dI.out w2).mono ?_; rintro e' w3 ⟨rfl, rfl⟩))
  have hne := Nat.ne_of_lt k1.lt
  clear k1 b1 b2
  generalize w1.heap.size = gc at *
  go_wp2
  go_loopw [13] (fun v13 wr => ∃ (i : Nat) (A : List Int), i ≤ n + 1 ∧ v13 = .int .i64 i ∧ Hid (keyAt key i = A) ∧ Hid (∀ j, j < i → keyAt key j ≠ com) ∧ Arr .u8 wr w.heap.size A ∧ Arr .u8 wr gc com ∧ Below w.heap.size w wr) (fun v13 _ => n + 1 - (intOf v13).toNat)
  case atStart => exact ⟨0, key, Nat.zero_le _, rfl, Lib.hid rfl, Lib.hid (fun j hj => absurd hj (Nat.not_lt_zero _)), k2, c2, hB2⟩
  case round =>
    clear k2 c2 hB2
    obtain ⟨i, A, hi, rfl, hA, hbef, kI, cI, hB⟩ := hrel
    have hAb : Byted A := by rw [← hA.out]; exact hb0.out i
    have hAl : A.length = 32 := by rw [← hA.out]; exact hl0.out i
    obtain ⟨X, hX⟩ : ∃ X, Hid ((ints .u8 A).toArray = X) := ⟨_, rfl⟩
    by_cases hlt : i < n + 1
    · obtain ⟨D, hD⟩ : ∃ D, Hid (nextL A = D) := ⟨_, Lib.hid rfl⟩
      have hDl : Hid (D.length = 32) := by rw [← hD.out]; exact Lib.hid rfl
      obtain ⟨Y, hY⟩ : ∃ Y, Hid ((ints .u8 D).toArray = Y) := ⟨_, rfl⟩
      have dN := Lib.hid (chainNext A hAb hAl X hX wr (hT0.out.call hB))
      rw [hD.out, hY.out] at dN
      have hnx : Hid (keyAt key (i + 1) = D) := by show nextL (keyAt key i) = D; rw [hA.out, hD.out]
      have hq := Lib.hid (fun W1 : World => equal_two (P := Tryd.prog) (t := 23) (e := 5) (k := .u8) Tryd.underlying23 hiE.out (by kernel_rfl) (by kernel_rfl) Tryd.underlying5 A com hAl hcl'.out W1)
      rw [hX.out, hC.out] at hq
      have hAl' := Lib.hid hAl
      have j1 : (i : Int) < (n : Int) + 1 := by omega
      by_cases heq : A = com
      · have hf := hS.out i hlt (hA.out.trans heq) hbef.out
        have hf1 := Lib.hid hf.1
        have hf2 := Lib.hid hf.2
        rw [decide_eq_true heq] at hq
        replace heq := Lib.hid heq
        have hq1 := hq.out
        clear hAb hAl dN hf hS hN hRN hRE hbef
        go_wp2_with (first
          | (refine walk_read rfl 23 _ rfl kI rfl 32 _ Tryd.underlying23 (by kernel_rfl) hAl'.out X hX ?_)
          | (refine walk_read rfl 23 _ rfl cI rfl 32 _ Tryd.underlying23 (by kernel_rfl) hcl'.out C hC ?_))
        go_ret2
        exact ⟨by rw [hf1.out, hf2.out]; rfl, hB⟩
      · rw [decide_eq_false heq] at hq
        have hbef' : Hid (∀ j, j < i + 1 → keyAt key j ≠ com) := fun j hj e => by
          by_cases hji : j < i
          · exact hbef.out j hji e
          · obtain rfl : j = i := by omega
            exact heq (hA.out.symm.trans e)
        replace heq := Lib.hid heq
        have hq1 := hq.out
        clear hAb hAl hA hS hN hRN hRE hbef
        go_wp2_with (first
          | (refine walk_read rfl 23 _ rfl kI rfl 32 _ Tryd.underlying23 (by kernel_rfl) hAl'.out X hX ?_)
          | (refine walk_read rfl 23 _ rfl cI rfl 32 _ Tryd.underlying23 (by kernel_rfl) hcl'.out C hC ?_)
          | (go_at_call 19; refine dN.out.mono ?_; rintro e' w5 ⟨rfl, b5⟩; have k5 := kI.call b5; have c5 := cI.call b5; have hB5 := below_then hB b5)
          | (refine walk_store rfl 23 _ _ rfl k5 rfl Y hY rfl (by rw [hDl.out]; kernel_rfl) (by rw [hDl.out, hAl'.out]) ?_; intro w6 k6 s6 o6; have c6 := c5.only o6 (Ne.symm hne) s6; have hB6 := below_only hB5 o6 (Nat.le_refl _) s6))
        go_roundw
        case rel => exact ⟨i + 1, D, by omega, by go_num, hnx, hbef', k6, c6, hB6⟩
        case measure => simp [intOf]; omega
    · obtain rfl : i = n + 1 := by omega
      have hf := hN.out hbef.out
      have hf1 := Lib.hid hf.1
      have hf2 := Lib.hid hf.2
      have j1 : ¬ ((n + 1 : Nat) : Int) < (n : Int) + 1 := by omega
      clear hAb hAl hf hS hN hRN hRE hbef
      go_wp2
      go_ret2
      exact ⟨by rw [hf1.out, hf2.out]; rfl, hB⟩

end Go.Proofs.YtmhehnimgkmmaaaDoor
