/- Any key, walked in a number of steps that may be. -/
import Derived.Test.YtmhehnimgkmmaaaDoorLawC
import Derived.Test.YtmhehnimgkmmaaaDoorChainD
import Derived.Test.YtmhehnimgkmmaaaDoorChainR
import Derived.Test.YtmhehnimgkmmaaaDoorHasEq
import Derived.Deep.RegionHeld3
import Derived.Deep.DeepCutAuto
import Derived.IntWalk
import Derived.Lib.Hide
namespace Go.Proofs.YtmhehnimgkmmaaaDoor
set_option maxRecDepth 100000
open Go.RowKit
set_option linter.unusedVariables false
set_option linter.unusedSimpArgs false
attribute [local go_sem] cell_re

theorem keys_lie {key : List Int} (hkl : key.length = 32) (n : Nat) {W : World} {q : Option Addr} (h : At .u8 W q (keysTo key (n + 1))) : ∃ b off, q = some ⟨b, off, none⟩ ∧ b < W.heap.size ∧ ∀ i, i < n + 1 → W.rangeAt b (off + i * 32) (ints .u8 (keyAt key i)) := by
  have hln := keysTo_length hkl (n + 1)
  obtain ⟨b, off, rfl, hb, -⟩ := h.lies (0 * 32) 32 (by decide) (by rw [hln]; omega)
  refine ⟨b, off, rfl, hb, fun i hi => ?_⟩
  obtain ⟨b', off', e, -, hr⟩ := h.lies (i * 32) 32 (by decide) (by rw [hln]; omega)
  injection e with e
  injection e with e1 e2
  subst e1 e2
  rw [keysTo_part hkl i (n + 1) hi] at hr
  exact hr
set_option maxRecDepth 200000 in
set_option maxHeartbeats 8000000 in
theorem walksIn (key com : List Int) (n : Int) (w : World) (hkl : key.length = 32) (hkb : Byted key) (hcl : com.length = 32) (h : 0 ≤ n ∧ n ≤ 512) (hS : Steps w) : Calls Tryd.prog 3 #[.agg (ints .u8 key).toArray, .agg (ints .u8 com).toArray, .int .i64 n] w fun e w' => e = .returned (.bool true) ∧ Below w.heap.size w w' := by
  obtain ⟨hm0, hm1⟩ := h
  have hT0 := Lib.hid hS
  have hkb' := Lib.hid hkb
  have hkl' := Lib.hid hkl
  have hcl' := Lib.hid hcl
  have dW := Lib.hid (fun (W : World) (h : Below w.heap.size w W) => works W (hS.call h))
  obtain ⟨iE, hiE⟩ := Option.isSome_iff_exists.mp (show (Tryd.prog.info? 5).isSome = true by kernel_rfl)
  obtain ⟨Ck, hCk⟩ : ∃ c, Hid (ints .u8 key = c) := ⟨_, Lib.hid rfl⟩
  have hKa : Hid ((ints .u8 key).toArray = Ck.toArray) := by show _ = _; rw [hCk.out]
  have hiK' : Hid ((Tryd.prog.info? 23).map (·.size) = some Ck.length) := by show _ = _; rw [← hCk.out, ints, List.length_map, hkl]; kernel_rfl
  rw [hKa.out]
  obtain ⟨C, hC⟩ : ∃ C, Hid ((ints .u8 com).toArray = C) := ⟨_, rfl⟩
  rw [hC.out]
  replace hiE := Lib.hid hiE
  clear hS hkl hkb hcl
  go_enter Tryd.func3, Tryd.ntmps3
  go_upto_region 1 with (first
    | (refine walk_boxed (o := ⟨some 3, _, _, _, _, _⟩) rfl 23 _ rfl .u8 key Ck.toArray hKa rfl ?_; intro w1 k1 b1 s1; clear s1)
    | (refine walk_boxed (o := ⟨some 4, _, _, _, _, _⟩) rfl 23 _ rfl .u8 com C hC rfl ?_; intro w2 co b2 s2; clear s2; have k := k1.call b2; have hB := below_then b1 b2))
  clear k1 b1 b2
  generalize w1.heap.size = gc at *
  obtain ⟨B, hBd⟩ : ∃ B : Bool, Hid (B = decide (30 < n)) := ⟨_, Lib.hid rfl⟩
  go_cut [2, 25] (fun s2 s25 wx => s2 = .int .i64 n ∧ s25 = .bool B ∧ Arr .u8 wx w.heap.size key ∧ Arr .u8 wx gc com ∧ Below w.heap.size w wx)
  case first =>
    by_cases h1 : 30 < n
    · have e : Hid (B = true) := by show _ = _; rw [hBd.out, decide_eq_true h1]
      go_wp2
      go_meet
      exact ⟨rfl, by rw [e.out], k, co, hB⟩
    · have e : Hid (B = false) := by show _ = _; rw [hBd.out, decide_eq_false h1]
      go_wp2
      go_meet
      exact ⟨rfl, by rw [e.out], k, co, hB⟩
  clear k co hB
  obtain ⟨rfl, rfl, k, co, hB⟩ := hcut
  go_upto_if 25 with fail
  go_cut [2] from 26 to 28 (fun s2 wx => ∃ j : Nat, s2 = .int .i64 j ∧ j ≤ 30 ∧ Arr .u8 wx w.heap.size key ∧ Arr .u8 wx gc com ∧ Below w.heap.size w wx)
  case first =>
    cases B with
    | true =>
      have h1 := of_decide_eq_true hBd.out.symm
      have hj : Hid (∃ j : Nat, n % 31 = j ∧ j ≤ 30) := ⟨(n % 31).toNat, by omega, by omega⟩
      obtain ⟨j, hj1, hj2⟩ := hj.out
      replace hj1 := Lib.hid hj1
      go_wp2
      go_meet
      exact ⟨j, by rw [hj1.out], hj2, k, co, hB⟩
    | false =>
      have h1 := of_decide_eq_false hBd.out.symm
      obtain ⟨j, rfl⟩ : ∃ j : Nat, n = j := ⟨n.toNat, by omega⟩
      go_wp2
      go_meet
      exact ⟨j, rfl, by omega, k, co, hB⟩
  case rest =>
      clear k co hB hBd hm0 hm1
      obtain ⟨j, rfl, hj, k, co, hB⟩ := hcut
      have hEl' := keyAt_length hkl'.out j
      have hW0 := fun (W : World) (hb : Below w.heap.size w W) => chainWalk key hkb'.out hkl'.out Ck.toArray hKa j (by omega) W (hT0.out.call hb)
      have hR0 := fun W => ref10Walk key hkb'.out hkl'.out Ck.toArray hKa j (by omega) W
      have hL0 := fun (W : World) (hb : Below w.heap.size w W) => chainLeads key hkb'.out hkl'.out Ck.toArray hKa com hcl'.out C hC j (by omega) W (hT0.out.call hb)
      obtain ⟨E, hE⟩ : ∃ E, Hid (keyAt key j = E) := ⟨_, Lib.hid rfl⟩
      obtain ⟨YE, hYE⟩ : ∃ Y, Hid ((ints .u8 E).toArray = Y) := ⟨_, rfl⟩
      rw [hE.out] at hW0 hR0 hL0 hEl'
      have hL20 := fun (W : World) (hb : Below w.heap.size w W) => chainLeads key hkb'.out hkl'.out Ck.toArray hKa E hEl' YE hYE j (by omega) W (hT0.out.call hb)
      rw [hE.out] at hL20
      rw [decide_eq_true rfl] at hL20
      rw [hYE.out] at hW0 hR0
      have hq0 := fun W1 : World => equal_two (P := Tryd.prog) (t := 23) (e := 5) (k := .u8) Tryd.underlying23 hiE.out (by kernel_rfl) (by kernel_rfl) Tryd.underlying5 E com hEl' hcl'.out W1
      have hq := Lib.hid (fun W1 : World => equal_ints (P := Tryd.prog) (t := 23) (e := 5) (k := .u8) Tryd.underlying23 hiE.out (by kernel_rfl) (by kernel_rfl) Tryd.underlying5 E hEl' W1)
      rw [hYE.out] at hq hq0
      rw [hC.out] at hq0
      obtain ⟨R, hR⟩ : ∃ R, Hid (decide (E = com) = R) := ⟨_, rfl⟩
      rw [hR.out] at hq0 hL0
      have hqc := Lib.hid hq0
      have dW1 := Lib.hid hW0
      have dRW := Lib.hid hR0
      have hEl := Lib.hid hEl'
      have dL := Lib.hid hL0
      have dL2 := Lib.hid hL20
      have dA := Lib.hid (fun (W : World) (hb : Below w.heap.size w W) => chainAll key hkb'.out hkl'.out Ck.toArray hKa j (by omega) W (hT0.out.call hb))
      have dRA := Lib.hid (fun W => ref10All key hkb'.out hkl'.out Ck.toArray hKa j (by omega) W)
      clear hW0 hR0 hL0 hL20 hq0 hEl'
      go_upto_region 3 with fail
      go_upto_region 4 with (first
      | (refine walk_read rfl 23 _ rfl k rfl 32 _ Tryd.underlying23 (by kernel_rfl) hkl'.out Ck.toArray hKa ?_)
      | (go_at_call 7; refine (dW1.out wc hB).mono ?_; rintro e' w3 ⟨rfl, b3⟩)
      | (refine walk_arr rfl 23 rfl .u8 (List.replicate 32 0) (by kernel_rfl) ?_; intro w4 a4 b4 s4)
      | (refine walk_store rfl 23 _ _ rfl a4 rfl YE hYE rfl (by rw [hEl.out]; kernel_rfl) (by rw [hEl.out]; rfl) ?_; intro w5 a s5 o5))
      clear s4
      replace k := k.call b3
      replace co := co.call b3
      replace hB := below_then hB b3
      have q7 := Nat.ne_of_lt k.lt
      have qc7 := Nat.ne_of_lt co.lt
      have qb7 := hB.size
      replace k := (k.call b4).only o5 q7 s5
      replace co := (co.call b4).only o5 qc7 s5
      replace hB := below_only (below_then hB b4) o5 qb7 s5
      clear a4 b3 b4 s5 o5 q7 qc7 qb7
      try simp only [Act.put, List.setIfInBounds_toArray, List.set_cons_zero, List.set_cons_succ]
      generalize w3.heap.size = ga at *
      go_upto_region 5 with (first
      | (refine walk_read rfl 23 _ rfl k rfl 32 _ Tryd.underlying23 (by kernel_rfl) hkl'.out Ck.toArray hKa ?_)
      | (go_at_call 8; refine (dRW.out w5).mono ?_; rintro e' w6 ⟨rfl, b6⟩)
      | (refine walk_arr rfl 23 rfl .u8 (List.replicate 32 0) (by kernel_rfl) ?_; intro w7 r7 b7 s7)
      | (refine walk_store rfl 23 _ _ rfl r7 rfl YE hYE rfl (by rw [hEl.out]; kernel_rfl) (by rw [hEl.out]; rfl) ?_; intro w8 rr s8 o8))
      clear s7
      replace k := k.call b6
      replace co := co.call b6
      replace a := a.call b6
      replace hB := below_then hB b6
      have q9 := Nat.ne_of_lt k.lt
      have qc9 := Nat.ne_of_lt co.lt
      have qa9 := Nat.ne_of_lt a.lt
      have qb9 := hB.size
      replace k := (k.call b7).only o8 q9 s8
      replace co := (co.call b7).only o8 qc9 s8
      replace a := (a.call b7).only o8 qa9 s8
      replace hB := below_only (below_then hB b7) o8 qb9 s8
      clear r7 b6 b7 s8 o8 q9 qc9 qa9 qb9
      try simp only [Act.put, List.setIfInBounds_toArray, List.set_cons_zero, List.set_cons_succ]
      generalize w6.heap.size = gr at *
      go_upto_region 6 with (first
      | (refine walk_read rfl 23 _ rfl k rfl 32 _ Tryd.underlying23 (by kernel_rfl) hkl'.out Ck.toArray hKa ?_)
      | (refine walk_read rfl 23 _ rfl co rfl 32 _ Tryd.underlying23 (by kernel_rfl) hcl'.out C hC ?_)
      | (go_at_call 9; refine (dL.out w8 hB).mono ?_; rintro e' w9 ⟨rfl, b9⟩))
      replace k := k.call b9
      replace co := co.call b9
      replace a := a.call b9
      replace rr := rr.call b9
      replace hB := below_then hB b9
      clear b9
      try simp only [Act.put, List.setIfInBounds_toArray, List.set_cons_zero, List.set_cons_succ]
      go_upto_region 8 with (first
      | (refine walk_read rfl 23 _ rfl k rfl 32 _ Tryd.underlying23 (by kernel_rfl) hkl'.out Ck.toArray hKa ?_)
      | (go_at_call 10; refine (dA.out w9 hB).mono ?_; rintro e' w10 ⟨qA, capA, rfl, hcA, hqA, b10⟩; replace k := k.call b10; obtain ⟨bA, offA, rfl, hlA, hrA⟩ := keys_lie hkl'.out j hqA; replace hrA := Lib.hid hrA; clear hqA)
      | (go_at_call 11; refine (dRA.out w10).mono ?_; rintro e' w11 ⟨qB, capB, rfl, hcB, hqB, b11⟩; obtain ⟨bB, offB, rfl, hlB, hrB⟩ := keys_lie hkl'.out j hqB; replace hrB := Lib.hid hrB; clear hqB; have hrA' := Lib.hid (fun i hi => range_below (hrA.out i hi) b11 hlA); have hlA' := Nat.lt_of_lt_of_le hlA b11.size))
      replace k := k.call b11
      replace co := (co.call b10).call b11
      replace a := (a.call b10).call b11
      replace rr := (rr.call b10).call b11
      replace hB := below_then (below_then hB b10) b11
      clear b10 b11 hlA hrA
      try simp only [Act.put, List.setIfInBounds_toArray, List.set_cons_zero, List.set_cons_succ]
      have hq1 := hq.out
      have hq2 := hqc.out
      go_upto_region 10 with (first
      | (refine walk_read rfl 23 _ rfl a rfl 32 _ Tryd.underlying23 (by kernel_rfl) hEl.out YE hYE ?_)
      | (refine walk_read rfl 23 _ rfl rr rfl 32 _ Tryd.underlying23 (by kernel_rfl) hEl.out YE hYE ?_)
      | (refine walk_readG (by rfl) 23 _ rfl rr rfl 32 _ Tryd.underlying23 (by kernel_rfl) hEl.out YE hYE ?_)
      | (refine walk_readG (by rfl) 23 _ rfl co rfl 32 _ Tryd.underlying23 (by kernel_rfl) hcl'.out C hC ?_))
      clear hq1 hq2
      have hBr : Below w11.heap.size w11 w11 := Below.refl _ _
      have huK : Tryd.prog.underlying 23 = some (.array 32 5) := Tryd.underlying23
      have hb0 := Lib.hid (fun i => keyAt_length hkl'.out i)
      go_wp2
      go_loopw [17] (fun v17 wr => ∃ i : Nat, i ≤ j + 1 ∧ v17 = .int .i64 i ∧ Below w11.heap.size w11 wr) (fun v17 _ => j + 1 - (intOf v17).toNat)
      case atStart => exact ⟨0, Nat.zero_le _, rfl, hBr⟩
      case round =>
        clear hBr
        obtain ⟨i, hi, rfl, hBr⟩ := hrel
        by_cases hlt : i < j + 1
        · have h1 := range_below (hrA'.out i hlt) hBr hlA'
          have h2 := range_below (hrB.out i hlt) hBr hlB
          have hAl := hb0.out i
          obtain ⟨A, hA⟩ : ∃ A, Hid (keyAt key i = A) := ⟨_, Lib.hid rfl⟩
          rw [hA.out] at h1 h2 hAl
          obtain ⟨CA, hCA⟩ : ∃ X, Hid (ints .u8 A = X) := ⟨_, Lib.hid rfl⟩
          have hq := Lib.hid (fun W1 : World => equal_ints (P := Tryd.prog) (t := 23) (e := 5) (k := .u8) Tryd.underlying23 hiE.out (by kernel_rfl) (by kernel_rfl) Tryd.underlying5 A hAl W1)
          rw [hCA.out] at h1 h2 hq
          have hrS := And.intro h1 h2
          have hiA : (Tryd.prog.info? 23).map (·.size) = some CA.length := by rw [← hCA.out, ints, List.length_map, hAl]; kernel_rfl
          have j1 : (i : Int) < (j : Int) + 1 := by omega
          have j2 : i < j + 1 := hlt
          have j3 : (i : Int) ≤ 31 := by omega
          have hq1 := hq.out
          clear h1 h2 hAl hA
          go_upto_region 13 with fail
          refine wp_region_held_drew (S := fun W' => W'.rangeAt bA (offA + i * 32) CA ∧ W'.rangeAt bB (offB + i * 32) CA) (by kernel_rfl) hrS (fun _ => ?_)
          have hBd := hBr.drew
          replace hrS : wr.drew.rangeAt bA (offA + i * 32) CA ∧ wr.drew.rangeAt bB (offB + i * 32) CA := hrS
          generalize wr.drew = wd at hBd hrS ⊢
          refine wpAnyH_take (i := 0) (oi := ⟨some 101, .move (.tmp 13), _, _, _, _⟩) (v := .slice (some ⟨bA, offA, none⟩) (j + 1) capA) rfl (by kernel_rfl) (by kernel_rfl) (by kernel_rfl) (fun _ _ _ h => h) (Or.inl ⟨by rfl, by intro W _; go_simp⟩) (hrS) ?_
          try simp only [Act.put, List.setIfInBounds_toArray, List.set_cons_zero, List.set_cons_succ]
          refine wpAnyH_take (i := 1) (oi := ⟨some 102, .move (.tmp 17), _, _, _, _⟩) (v := .int .i64 (i : Int)) rfl (by kernel_rfl) (by kernel_rfl) (by kernel_rfl) (fun _ _ _ h => h) (Or.inl ⟨by rfl, by intro W _; go_simp⟩) (hrS) ?_
          try simp only [Act.put, List.setIfInBounds_toArray, List.set_cons_zero, List.set_cons_succ]
          refine wpAnyH_take (i := 2) (oi := ⟨some 103, .indexAddr 29 (.tmp 101) (.tmp 102), _, _, _, _⟩) (v := .pointer (some ⟨bA, offA + i * 32, none⟩)) rfl (by kernel_rfl) (by kernel_rfl) (by kernel_rfl) (fun _ _ _ h => h) (Or.inl ⟨by rfl, by intro W _; go_simp⟩) (hrS) ?_
          try simp only [Act.put, List.setIfInBounds_toArray, List.set_cons_zero, List.set_cons_succ]
          refine wpAnyH_take (i := 3) (oi := ⟨some 104, .load 23 (.tmp 103), _, _, _, _⟩) (v := .agg CA.toArray) rfl (by kernel_rfl) (by kernel_rfl) (by kernel_rfl) (fun _ _ _ h => h) (yieldsIf_load_mid (by rfl) 23 (.tmp 103) rfl bA (offA + i * 32) rfl CA _ (fun _ h => h.1) huK rfl hiA) (hrS) ?_
          try simp only [Act.put, List.setIfInBounds_toArray, List.set_cons_zero, List.set_cons_succ]
          refine wpAnyH_take (i := 4) (oi := ⟨some 105, .move (.tmp 15), _, _, _, _⟩) (v := .slice (some ⟨bB, offB, none⟩) (j + 1) capB) rfl (by kernel_rfl) (by kernel_rfl) (by kernel_rfl) (fun _ _ _ h => h) (Or.inl ⟨by rfl, by intro W _; go_simp⟩) (hrS) ?_
          try simp only [Act.put, List.setIfInBounds_toArray, List.set_cons_zero, List.set_cons_succ]
          refine wpAnyH_take (i := 5) (oi := ⟨some 106, .move (.tmp 17), _, _, _, _⟩) (v := .int .i64 (i : Int)) rfl (by kernel_rfl) (by kernel_rfl) (by kernel_rfl) (fun _ _ _ h => h) (Or.inl ⟨by rfl, by intro W _; go_simp⟩) (hrS) ?_
          try simp only [Act.put, List.setIfInBounds_toArray, List.set_cons_zero, List.set_cons_succ]
          refine wpAnyH_take (i := 6) (oi := ⟨some 107, .indexAddr 29 (.tmp 105) (.tmp 106), _, _, _, _⟩) (v := .pointer (some ⟨bB, offB + i * 32, none⟩)) rfl (by kernel_rfl) (by kernel_rfl) (by kernel_rfl) (fun _ _ _ h => h) (Or.inl ⟨by rfl, by intro W _; go_simp⟩) (hrS) ?_
          try simp only [Act.put, List.setIfInBounds_toArray, List.set_cons_zero, List.set_cons_succ]
          refine wpAnyH_take (i := 7) (oi := ⟨some 108, .load 23 (.tmp 107), _, _, _, _⟩) (v := .agg CA.toArray) rfl (by kernel_rfl) (by kernel_rfl) (by kernel_rfl) (fun _ _ _ h => h) (yieldsIf_load_mid (by rfl) 23 (.tmp 107) rfl bB (offB + i * 32) rfl CA _ (fun _ h => h.2) huK rfl hiA) (hrS) ?_
          try simp only [Act.put, List.setIfInBounds_toArray, List.set_cons_zero, List.set_cons_succ]
          refine wpAnyH_take (i := 8) (oi := ⟨some 109, .binOp .neq 23 (.tmp 104) (.tmp 108) 23, _, _, _, _⟩) (v := .bool false) rfl (by kernel_rfl) (by kernel_rfl) (by kernel_rfl) (fun _ _ _ h => h) (Or.inl ⟨by rfl, by intro W _; go_simp⟩) (hrS) ?_
          try simp only [Act.put, List.setIfInBounds_toArray, List.set_cons_zero, List.set_cons_succ]
          refine wpAnyH_done (by kernel_rfl) ?_ _
          go_wp2
          go_roundw
          case rel => exact ⟨i + 1, by omega, by go_num, hBd⟩
          case measure => simp [intOf]; omega
        · obtain rfl : i = j + 1 := by omega
          have j1 : ¬ ((j + 1 : Nat) : Int) < (j : Int) + 1 := by omega
          have hBw := below_then hB hBr
          have kw := k.call hBr
          have rw_ := rr.call hBr
          clear k rr a co hB hBr
          go_wp2_with (first
      | (refine walk_read rfl 23 _ rfl kw rfl 32 _ Tryd.underlying23 (by kernel_rfl) hkl'.out Ck.toArray hKa ?_)
      | (refine walk_read rfl 23 _ rfl rw_ rfl 32 _ Tryd.underlying23 (by kernel_rfl) hEl.out YE hYE ?_)
      | (go_at_call 9; refine (dL2.out wr hBw).mono ?_; rintro e' w12 ⟨rfl, b12⟩; replace hBw := below_then hBw b12)
      | (go_at_call 12; refine (dW.out w12 hBw).mono ?_; rintro e' w13 ⟨rfl, b13⟩; replace hBw := below_then hBw b13))
          go_ret
          exact ⟨rfl, hBw⟩

end Go.Proofs.YtmhehnimgkmmaaaDoor
