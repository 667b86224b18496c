/- In how few steps a key leads to a commitment, in the document. -/
import Derived.Test.YtmhehnimgkmmaaaDoorChainR
import Derived.Test.YtmhehnimgkmmaaaDoorMacV
import Derived.Deep.RegionHeld3
import Derived.Deep.DeepCutAuto
import Derived.IntWalk
import Derived.Lib.Hide
namespace Go.Proofs.YtmhehnimgkmmaaaDoor
set_option maxRecDepth 100000
open Go.RowKit
set_option linter.unusedVariables false
set_option linter.unusedSimpArgs false
attribute [local go_sem] cell_re

set_option maxRecDepth 200000 in
set_option maxHeartbeats 8000000 in
theorem ref10Find_no (key : List Int) (hkb : Byted key) (hkl : key.length = 32) (K : Array Value) (hK : Hid ((ints .u8 key).toArray = K)) (com : List Int) (hcl : com.length = 32) (C : Array Value) (hC : Hid ((ints .u8 com).toArray = C)) (n : Int) (h : n < 0 ∨ 512 < n) (w : World) :
    Calls Tryd.prog 14 #[.agg K, .agg C, .int .i64 n] w fun e w' => e = .returned (.tuple #[.int .i64 0, .int .i64 2]) ∧ Below w.heap.size w w' := by
  have dA := Lib.hid (fun W => ref10All_no key hkb hkl K hK n h W)
  have hkl' := Lib.hid hkl
  clear h hkb hkl hcl
  go_enter Tryd.func14, Tryd.ntmps14
  go_wp2_with (first
    | (refine walk_boxed (o := ⟨some 3, _, _, _, _, _⟩) rfl 23 _ rfl .u8 key K hK rfl ?_; intro w1 k1 b1 s1; clear s1)
    | (refine walk_boxed (o := ⟨some 4, _, _, _, _, _⟩) rfl 23 _ rfl .u8 com C hC rfl ?_; intro w2 c2 b2 s2; clear s2; have k2 := k1.call b2; have hB2 := below_then b1 b2)
    | (refine walk_read rfl 23 _ rfl k2 rfl 32 _ Tryd.underlying23 (by kernel_rfl) hkl'.out K hK ?_)
    | (go_at_call 11; refine (dA.out w2).mono ?_; rintro e' w3 ⟨rfl, b3⟩; have hB3 := below_then hB2 b3))
  go_ret2
  exact ⟨rfl, hB3⟩
set_option maxRecDepth 200000 in
set_option maxHeartbeats 8000000 in
theorem ref10Find (key : List Int) (hkb : Byted key) (hkl : key.length = 32) (K : Array Value) (hK : Hid ((ints .u8 key).toArray = K)) (com : List Int) (hcl : com.length = 32) (C : Array Value) (hC : Hid ((ints .u8 com).toArray = C)) (n : Nat) (hn : n ≤ 512) (w : World) :
    Calls Tryd.prog 14 #[.agg K, .agg C, .int .i64 n] w fun e w' => e = .returned (.tuple #[.int .i64 (findN key com (n + 1)), .int .i64 (findE 5 key com (n + 1))]) ∧ Below w.heap.size w w' := by
  have dA := Lib.hid (fun W => ref10All key hkb hkl K hK n hn W)
  have hl0 := Lib.hid (fun i => keyAt_length hkl i)
  have hkl' := Lib.hid hkl
  have hcl' := Lib.hid hcl
  have hls : Hid (∀ (W : World) (q : Option Addr), At .u8 W q (keysTo key (n + 1)) → ∃ b off, q = some ⟨b, off, none⟩ ∧ b < W.heap.size ∧ ∀ i, i < n + 1 → W.rangeAt b (off + i * 32) (ints .u8 (keyAt key i))) := fun W q h => by
    have hln := keysTo_length hkl (n + 1)
    obtain ⟨b, off, rfl, hb, -⟩ := h.lies (0 * 32) 32 (by decide) (by rw [hln]; omega)
    refine ⟨b, off, rfl, hb, fun i hi => ?_⟩
    obtain ⟨b', off', e, -, hr⟩ := h.lies (i * 32) 32 (by decide) (by rw [hln]; omega)
    injection e with e
    injection e with e1 e2
    subst e1 e2
    rw [keysTo_part hkl i (n + 1) hi] at hr
    exact hr
  obtain ⟨iE, hiE'⟩ := Option.isSome_iff_exists.mp (show (Tryd.prog.info? 5).isSome = true by kernel_rfl)
  have hiE := Lib.hid hiE'
  have jn : (n : Int) ≤ 512 := by omega
  have hS := Lib.hid (fun (i : Nat) (hi : i < n + 1) (h : keyAt key i = com) (hb : ∀ j, j < i → keyAt key j ≠ com) => And.intro (findN_some hi h hb) (findE_some (ko := 5) hi h hb))
  have hN := Lib.hid (fun (h : ∀ i, i < n + 1 → keyAt key i ≠ com) => And.intro (findN_none h) (findE_none (ko := 5) h))
  obtain ⟨RN, hRN⟩ : ∃ R, Hid (findN key com (n + 1) = R) := ⟨_, rfl⟩
  obtain ⟨RE, hRE⟩ : ∃ R, Hid (findE 5 key com (n + 1) = R) := ⟨_, rfl⟩
  rw [hRN.out, hRE.out] at hS hN ⊢
  clear hkb hn hiE'
  go_enter Tryd.func14, Tryd.ntmps14
  go_upto_region 4 with (first
    | (refine walk_boxed (o := ⟨some 3, _, _, _, _, _⟩) rfl 23 _ rfl .u8 key K hK rfl ?_; intro w1 k1 b1 s1; clear s1)
    | (refine walk_boxed (o := ⟨some 4, _, _, _, _, _⟩) rfl 23 _ rfl .u8 com C hC rfl ?_; intro w2 c2 b2 s2; clear s2; have k2 := k1.call b2; have hB2 := below_then b1 b2)
    | (refine walk_read rfl 23 _ rfl k2 rfl 32 _ Tryd.underlying23 (by kernel_rfl) hkl'.out K hK ?_)
    | (go_at_call 11; refine (dA.out w2).mono ?_; rintro e' w3 ⟨q, cap, rfl, hqc, hq, b3⟩; obtain ⟨b, off, rfl, hbl, hrg⟩ := hls.out w3 q hq; replace hrg := Lib.hid hrg; have c3 := c2.call b3; have hB3 := below_then hB2 b3))
  clear k1 k2 c2 b1 b2 hB2 b3 hq hls
  generalize w1.heap.size = gc at *
  have hBr : Below w3.heap.size w3 w3 := Below.refl _ _
  have hgcl := c3.lt
  obtain ⟨CC, hCC⟩ : ∃ X, Hid (ints .u8 com = X) := ⟨_, Lib.hid rfl⟩
  have hCr : w3.rangeAt gc 0 CC := by rw [← hCC.out]; exact c3.range
  have hCa : Hid ((ints .u8 com).toArray = CC.toArray) := by rw [← hCC.out]; exact Lib.hid rfl
  have huK : Tryd.prog.underlying 23 = some (.array 32 5) := Tryd.underlying23
  have hiC : (Tryd.prog.info? 23).map (·.size) = some CC.length := by rw [← hCC.out, ints, List.length_map, hcl'.out]; kernel_rfl
  clear c3
  go_wp2
  go_loopw [10] (fun v10 wr => ∃ (i : Nat), i ≤ n + 1 ∧ v10 = .int .i64 i ∧ Hid (∀ j, j < i → keyAt key j ≠ com) ∧ Below w3.heap.size w3 wr) (fun v10 _ => n + 1 - (intOf v10).toNat)
  case atStart => exact ⟨0, Nat.zero_le _, rfl, Lib.hid (fun j hj => absurd hj (Nat.not_lt_zero _)), hBr⟩
  case round =>
    clear hBr
    obtain ⟨i, hi, rfl, hbef, hB⟩ := hrel
    by_cases hlt : i < n + 1
    · have hrA := range_below (hrg.out i hlt) hB hbl
      have hrC := range_below hCr hB hgcl
      have hAl := hl0.out i
      obtain ⟨A, hA⟩ : ∃ A, Hid (keyAt key i = A) := ⟨_, Lib.hid rfl⟩
      rw [hA.out] at hrA hAl
      obtain ⟨CA, hCA⟩ : ∃ X, Hid (ints .u8 A = X) := ⟨_, Lib.hid rfl⟩
      rw [hCA.out] at hrA
      have hrS := And.intro hrA hrC
      have hiA : (Tryd.prog.info? 23).map (·.size) = some CA.length := by rw [← hCA.out, ints, List.length_map, hAl]; kernel_rfl
      have hq := Lib.hid (fun W1 : World => equal_two (P := Tryd.prog) (t := 23) (e := 5) (k := .u8) Tryd.underlying23 hiE.out (by kernel_rfl) (by kernel_rfl) Tryd.underlying5 A com hAl hcl'.out W1)
      rw [hCa.out, hCA.out] at hq
      have j1 : (i : Int) < (n : Int) + 1 := by omega
      have j2 : i < n + 1 := hlt
      have j3 : (i : Int) ≤ 513 := by omega
      clear hrA hrC hAl
      by_cases heq : A = com
      · have hf := hS.out i hlt (hA.out.trans heq) hbef.out
        have hf1 := Lib.hid hf.1
        have hf2 := Lib.hid hf.2
        rw [decide_eq_true heq] at hq
        replace heq := Lib.hid heq
        have hq1 := hq.out
        clear hf hS hN hRN hRE hbef
        go_upto_region 7 with fail
        refine wp_region_held_drew (S := fun W' => W'.rangeAt b (off + i * 32) CA ∧ W'.rangeAt gc 0 CC) (by kernel_rfl) hrS (fun _ => ?_)
        have hBd := hB.drew
        replace hrS : wr.drew.rangeAt b (off + i * 32) CA ∧ wr.drew.rangeAt gc 0 CC := hrS
        generalize wr.drew = wd at hBd hrS ⊢
        refine wpAnyH_take (i := 0) (oi := ⟨some 26, .move (.tmp 8), _, _, _, _⟩) (v := .slice (some ⟨b, off, none⟩) (n + 1) cap) rfl (by kernel_rfl) (by kernel_rfl) (by kernel_rfl) (fun _ _ _ h => h) (Or.inl ⟨by rfl, by intro W _; go_simp⟩) (hrS) ?_
        try simp only [Act.put, List.setIfInBounds_toArray, List.set_cons_zero, List.set_cons_succ]
        refine wpAnyH_take (i := 1) (oi := ⟨some 27, .move (.tmp 10), _, _, _, _⟩) (v := .int .i64 (i : Int)) rfl (by kernel_rfl) (by kernel_rfl) (by kernel_rfl) (fun _ _ _ h => h) (Or.inl ⟨by rfl, by intro W _; go_simp⟩) (hrS) ?_
        try simp only [Act.put, List.setIfInBounds_toArray, List.set_cons_zero, List.set_cons_succ]
        refine wpAnyH_take (i := 2) (oi := ⟨some 28, .indexAddr 29 (.tmp 26) (.tmp 27), _, _, _, _⟩) (v := .pointer (some ⟨b, off + i * 32, none⟩)) rfl (by kernel_rfl) (by kernel_rfl) (by kernel_rfl) (fun _ _ _ h => h) (Or.inl ⟨by rfl, by intro W _; go_simp⟩) (hrS) ?_
        try simp only [Act.put, List.setIfInBounds_toArray, List.set_cons_zero, List.set_cons_succ]
        refine wpAnyH_take (i := 3) (oi := ⟨some 29, .load 23 (.tmp 28), _, _, _, _⟩) (v := .agg CA.toArray) rfl (by kernel_rfl) (by kernel_rfl) (by kernel_rfl) (fun _ _ _ h => h) (yieldsIf_load_mid (by rfl) 23 (.tmp 28) rfl b (off + i * 32) rfl CA _ (fun _ h => h.1) huK rfl hiA) (hrS) ?_
        try simp only [Act.put, List.setIfInBounds_toArray, List.set_cons_zero, List.set_cons_succ]
        refine wpAnyH_take (i := 4) (oi := ⟨some 30, .load 23 (.tmp 4), _, _, _, _⟩) (v := .agg CC.toArray) rfl (by kernel_rfl) (by kernel_rfl) (by kernel_rfl) (fun _ _ _ h => h) (yieldsIf_load_mid (by rfl) 23 (.tmp 4) rfl gc 0 rfl CC _ (fun _ h => h.2) huK rfl hiC) (hrS) ?_
        try simp only [Act.put, List.setIfInBounds_toArray, List.set_cons_zero, List.set_cons_succ]
        refine wpAnyH_take (i := 5) (oi := ⟨some 31, .binOp .eql 23 (.tmp 29) (.tmp 30) 23, _, _, _, _⟩) (v := .bool true) rfl (by kernel_rfl) (by kernel_rfl) (by kernel_rfl) (fun _ _ _ h => h) (Or.inl ⟨by rfl, by intro W _; go_simp⟩) (hrS) ?_
        try simp only [Act.put, List.setIfInBounds_toArray, List.set_cons_zero, List.set_cons_succ]
        refine wpAnyH_done (by kernel_rfl) ?_ _
        go_wp2
        go_ret2
        exact ⟨by rw [hf1.out, hf2.out]; rfl, below_then hB3 hBd⟩
      · rw [decide_eq_false heq] at hq
        have hbef' : Hid (∀ j, j < i + 1 → keyAt key j ≠ com) := fun j hj e => by
          by_cases hji : j < i
          · exact hbef.out j hji e
          · obtain rfl : j = i := by omega
            exact heq (hA.out.symm.trans e)
        replace heq := Lib.hid heq
        have hq1 := hq.out
        clear hA hS hN hRN hRE hbef
        go_upto_region 7 with fail
        refine wp_region_held_drew (S := fun W' => W'.rangeAt b (off + i * 32) CA ∧ W'.rangeAt gc 0 CC) (by kernel_rfl) hrS (fun _ => ?_)
        have hBd := hB.drew
        replace hrS : wr.drew.rangeAt b (off + i * 32) CA ∧ wr.drew.rangeAt gc 0 CC := hrS
        generalize wr.drew = wd at hBd hrS ⊢
        refine wpAnyH_take (i := 0) (oi := ⟨some 26, .move (.tmp 8), _, _, _, _⟩) (v := .slice (some ⟨b, off, none⟩) (n + 1) cap) rfl (by kernel_rfl) (by kernel_rfl) (by kernel_rfl) (fun _ _ _ h => h) (Or.inl ⟨by rfl, by intro W _; go_simp⟩) (hrS) ?_
        try simp only [Act.put, List.setIfInBounds_toArray, List.set_cons_zero, List.set_cons_succ]
        refine wpAnyH_take (i := 1) (oi := ⟨some 27, .move (.tmp 10), _, _, _, _⟩) (v := .int .i64 (i : Int)) rfl (by kernel_rfl) (by kernel_rfl) (by kernel_rfl) (fun _ _ _ h => h) (Or.inl ⟨by rfl, by intro W _; go_simp⟩) (hrS) ?_
        try simp only [Act.put, List.setIfInBounds_toArray, List.set_cons_zero, List.set_cons_succ]
        refine wpAnyH_take (i := 2) (oi := ⟨some 28, .indexAddr 29 (.tmp 26) (.tmp 27), _, _, _, _⟩) (v := .pointer (some ⟨b, off + i * 32, none⟩)) rfl (by kernel_rfl) (by kernel_rfl) (by kernel_rfl) (fun _ _ _ h => h) (Or.inl ⟨by rfl, by intro W _; go_simp⟩) (hrS) ?_
        try simp only [Act.put, List.setIfInBounds_toArray, List.set_cons_zero, List.set_cons_succ]
        refine wpAnyH_take (i := 3) (oi := ⟨some 29, .load 23 (.tmp 28), _, _, _, _⟩) (v := .agg CA.toArray) rfl (by kernel_rfl) (by kernel_rfl) (by kernel_rfl) (fun _ _ _ h => h) (yieldsIf_load_mid (by rfl) 23 (.tmp 28) rfl b (off + i * 32) rfl CA _ (fun _ h => h.1) huK rfl hiA) (hrS) ?_
        try simp only [Act.put, List.setIfInBounds_toArray, List.set_cons_zero, List.set_cons_succ]
        refine wpAnyH_take (i := 4) (oi := ⟨some 30, .load 23 (.tmp 4), _, _, _, _⟩) (v := .agg CC.toArray) rfl (by kernel_rfl) (by kernel_rfl) (by kernel_rfl) (fun _ _ _ h => h) (yieldsIf_load_mid (by rfl) 23 (.tmp 4) rfl gc 0 rfl CC _ (fun _ h => h.2) huK rfl hiC) (hrS) ?_
        try simp only [Act.put, List.setIfInBounds_toArray, List.set_cons_zero, List.set_cons_succ]
        refine wpAnyH_take (i := 5) (oi := ⟨some 31, .binOp .eql 23 (.tmp 29) (.tmp 30) 23, _, _, _, _⟩) (v := .bool false) rfl (by kernel_rfl) (by kernel_rfl) (by kernel_rfl) (fun _ _ _ h => h) (Or.inl ⟨by rfl, by intro W _; go_simp⟩) (hrS) ?_
        try simp only [Act.put, List.setIfInBounds_toArray, List.set_cons_zero, List.set_cons_succ]
        refine wpAnyH_done (by kernel_rfl) ?_ _
        go_wp2
        go_roundw
        case rel => exact ⟨i + 1, by omega, by go_num, hbef', hBd⟩
        case measure => simp [intOf]; omega
    · obtain rfl : i = n + 1 := by omega
      have hf := hN.out hbef.out
      have hf1 := Lib.hid hf.1
      have hf2 := Lib.hid hf.2
      have j1 : ¬ ((n + 1 : Nat) : Int) < (n : Int) + 1 := by omega
      clear hf hS hN hRN hRE hbef
      go_wp2
      go_ret2
      exact ⟨by rw [hf1.out, hf2.out]; rfl, below_then hB3 hB⟩

end Go.Proofs.YtmhehnimgkmmaaaDoor
