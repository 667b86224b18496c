/- Any key, walked in a number of steps that may not be. -/
import Derived.Test.YtmhehnimgkmmaaaDoorLawC
import Derived.Test.YtmhehnimgkmmaaaDoorChainD
import Derived.Test.YtmhehnimgkmmaaaDoorChainR
import Derived.Test.YtmhehnimgkmmaaaDoorHasEq
import Derived.Deep.RegionHeld3
import Derived.Deep.DeepCutAuto
import Derived.IntWalk
import Derived.Lib.Hide
namespace Go.Proofs.YtmhehnimgkmmaaaDoor
set_option maxRecDepth 100000
open Go.RowKit
set_option linter.unusedVariables false
set_option linter.unusedSimpArgs false
attribute [local go_sem] cell_re

set_option maxRecDepth 200000 in
set_option maxHeartbeats 8000000 in
theorem walksOut (key com : List Int) (n : Int) (w : World) (hkl : key.length = 32) (hkb : Byted key) (hcl : com.length = 32) (h : n < 0 ∨ 512 < n) (hS : Steps w) : Calls Tryd.prog 3 #[.agg (ints .u8 key).toArray, .agg (ints .u8 com).toArray, .int .i64 n] w fun e w' => e = .returned (.bool true) ∧ Below w.heap.size w w' := by
  have hT0 := Lib.hid hS
  have hkb' := Lib.hid hkb
  have hkl' := Lib.hid hkl
  have hcl' := Lib.hid hcl
  have dW := Lib.hid (fun (W : World) (h : Below w.heap.size w W) => works W (hS.call h))
  obtain ⟨iE, hiE⟩ := Option.isSome_iff_exists.mp (show (Tryd.prog.info? 5).isSome = true by kernel_rfl)
  obtain ⟨Ck, hCk⟩ : ∃ c, Hid (ints .u8 key = c) := ⟨_, Lib.hid rfl⟩
  have hKa : Hid ((ints .u8 key).toArray = Ck.toArray) := by show _ = _; rw [hCk.out]
  have hiK' : Hid ((Tryd.prog.info? 23).map (·.size) = some Ck.length) := by show _ = _; rw [← hCk.out, ints, List.length_map, hkl]; kernel_rfl
  rw [hKa.out]
  obtain ⟨C, hC⟩ : ∃ C, Hid ((ints .u8 com).toArray = C) := ⟨_, rfl⟩
  rw [hC.out]
  replace hiE := Lib.hid hiE
  clear hS hkl hkb hcl
  have hZl' : zeroL.length = 32 := rfl
  obtain ⟨Z, hZ⟩ : ∃ Z, Hid (zeroL = Z) := ⟨_, Lib.hid rfl⟩
  obtain ⟨YZ, hYZ⟩ : ∃ Y, Hid ((ints .u8 Z).toArray = Y) := ⟨_, rfl⟩
  have hW0 := fun W => chainWalk_no key hkb'.out hkl'.out Ck.toArray hKa n h W
  have hR0 := fun W => ref10Walk_no key hkb'.out hkl'.out Ck.toArray hKa n h W
  rw [hZ.out] at hW0 hR0 hZl'
  rw [hYZ.out] at hW0 hR0
  have dW1 := Lib.hid (fun (W : World) (_ : Below w.heap.size w W) => hW0 W)
  have dRW := Lib.hid hR0
  have hZl := Lib.hid hZl'
  have dL := Lib.hid (fun (W : World) (_ : Below w.heap.size w W) => chainLeads_no key hkb'.out hkl'.out Ck.toArray hKa com hcl'.out C hC n h W)
  have dL2 := Lib.hid (fun W : World => chainLeads_no key hkb'.out hkl'.out Ck.toArray hKa Z hZl' YZ hYZ n h W)
  have dA := Lib.hid (fun W => chainAll_no key hkb'.out hkl'.out Ck.toArray hKa n h W)
  have dRA := Lib.hid (fun W => ref10All_no key hkb'.out hkl'.out Ck.toArray hKa n h W)
  have hq := Lib.hid (fun W1 : World => equal_ints (P := Tryd.prog) (t := 23) (e := 5) (k := .u8) Tryd.underlying23 hiE.out (by kernel_rfl) (by kernel_rfl) Tryd.underlying5 Z hZl' W1)
  rw [hYZ.out] at hq
  replace h := Lib.hid h
  clear hW0 hR0 hZl'
  go_enter Tryd.func3, Tryd.ntmps3
  go_upto_region 1 with (first
    | (refine walk_boxed (o := ⟨some 3, _, _, _, _, _⟩) rfl 23 _ rfl .u8 key Ck.toArray hKa rfl ?_; intro w1 k1 b1 s1; clear s1)
    | (refine walk_boxed (o := ⟨some 4, _, _, _, _, _⟩) rfl 23 _ rfl .u8 com C hC rfl ?_; intro w2 co b2 s2; clear s2; have k := k1.call b2; have hB := below_then b1 b2))
  clear k1 b1 b2
  generalize w1.heap.size = gc at *
  go_cut [2, 25] (fun s2 s25 wx => s2 = .int .i64 n ∧ s25 = .bool false ∧ Arr .u8 wx w.heap.size key ∧ Arr .u8 wx gc com ∧ Below w.heap.size w wx)
  case first =>
    rcases h.out with h1 | h1
    · have h2 : ¬ 30 < n := by omega
      go_wp2
      go_meet
      exact ⟨rfl, rfl, k, co, hB⟩
    · have h2 : 30 < n := by omega
      have h3 : ¬ n ≤ 512 := by omega
      go_wp2
      go_meet
      exact ⟨rfl, rfl, k, co, hB⟩
  case rest =>
      clear k co hB h
      obtain ⟨rfl, rfl, k, co, hB⟩ := hcut
      go_upto_region 3 with fail
      go_upto_region 4 with (first
      | (refine walk_read rfl 23 _ rfl k rfl 32 _ Tryd.underlying23 (by kernel_rfl) hkl'.out Ck.toArray hKa ?_)
      | (go_at_call 7; refine (dW1.out wc hB).mono ?_; rintro e' w3 ⟨rfl, b3⟩)
      | (refine walk_arr rfl 23 rfl .u8 (List.replicate 32 0) (by kernel_rfl) ?_; intro w4 a4 b4 s4)
      | (refine walk_store rfl 23 _ _ rfl a4 rfl YZ hYZ rfl (by rw [hZl.out]; kernel_rfl) (by rw [hZl.out]; rfl) ?_; intro w5 a s5 o5))
      clear s4
      replace k := k.call b3
      replace co := co.call b3
      replace hB := below_then hB b3
      have q7 := Nat.ne_of_lt k.lt
      have qc7 := Nat.ne_of_lt co.lt
      have qb7 := hB.size
      replace k := (k.call b4).only o5 q7 s5
      replace co := (co.call b4).only o5 qc7 s5
      replace hB := below_only (below_then hB b4) o5 qb7 s5
      clear a4 b3 b4 s5 o5 q7 qc7 qb7
      try simp only [Act.put, List.setIfInBounds_toArray, List.set_cons_zero, List.set_cons_succ]
      generalize w3.heap.size = ga at *
      go_upto_region 5 with (first
      | (refine walk_read rfl 23 _ rfl k rfl 32 _ Tryd.underlying23 (by kernel_rfl) hkl'.out Ck.toArray hKa ?_)
      | (go_at_call 8; refine (dRW.out w5).mono ?_; rintro e' w6 ⟨rfl, b6⟩)
      | (refine walk_arr rfl 23 rfl .u8 (List.replicate 32 0) (by kernel_rfl) ?_; intro w7 r7 b7 s7)
      | (refine walk_store rfl 23 _ _ rfl r7 rfl YZ hYZ rfl (by rw [hZl.out]; kernel_rfl) (by rw [hZl.out]; rfl) ?_; intro w8 rr s8 o8))
      clear s7
      replace k := k.call b6
      replace co := co.call b6
      replace a := a.call b6
      replace hB := below_then hB b6
      have q9 := Nat.ne_of_lt k.lt
      have qc9 := Nat.ne_of_lt co.lt
      have qa9 := Nat.ne_of_lt a.lt
      have qb9 := hB.size
      replace k := (k.call b7).only o8 q9 s8
      replace co := (co.call b7).only o8 qc9 s8
      replace a := (a.call b7).only o8 qa9 s8
      replace hB := below_only (below_then hB b7) o8 qb9 s8
      clear r7 b6 b7 s8 o8 q9 qc9 qa9 qb9
      try simp only [Act.put, List.setIfInBounds_toArray, List.set_cons_zero, List.set_cons_succ]
      generalize w6.heap.size = gr at *
      go_upto_region 6 with (first
      | (refine walk_read rfl 23 _ rfl k rfl 32 _ Tryd.underlying23 (by kernel_rfl) hkl'.out Ck.toArray hKa ?_)
      | (refine walk_read rfl 23 _ rfl co rfl 32 _ Tryd.underlying23 (by kernel_rfl) hcl'.out C hC ?_)
      | (go_at_call 9; refine (dL.out w8 hB).mono ?_; rintro e' w9 ⟨rfl, b9⟩))
      replace k := k.call b9
      replace co := co.call b9
      replace a := a.call b9
      replace rr := rr.call b9
      replace hB := below_then hB b9
      clear b9
      try simp only [Act.put, List.setIfInBounds_toArray, List.set_cons_zero, List.set_cons_succ]
      go_upto_region 8 with (first
      | (refine walk_read rfl 23 _ rfl k rfl 32 _ Tryd.underlying23 (by kernel_rfl) hkl'.out Ck.toArray hKa ?_)
      | (go_at_call 10; refine (dA.out w9).mono ?_; rintro e' w10 ⟨rfl, b10⟩; replace k := k.call b10)
      | (go_at_call 11; refine (dRA.out w10).mono ?_; rintro e' w11 ⟨rfl, b11⟩))
      replace k := k.call b11
      replace a := (a.call b10).call b11
      replace rr := (rr.call b10).call b11
      replace hB := below_then (below_then hB b10) b11
      clear b10 b11
      try simp only [Act.put, List.setIfInBounds_toArray, List.set_cons_zero, List.set_cons_succ]
      have hq1 := hq.out
      go_upto_region 10 with (first
      | (refine walk_read rfl 23 _ rfl a rfl 32 _ Tryd.underlying23 (by kernel_rfl) hZl.out YZ hYZ ?_)
      | (refine walk_read rfl 23 _ rfl rr rfl 32 _ Tryd.underlying23 (by kernel_rfl) hZl.out YZ hYZ ?_))
      clear hq1
      have hBr : Below w11.heap.size w11 w11 := Below.refl _ _
      go_wp2
      go_loopw [17] (fun v17 wr => v17 = .int .i64 0 ∧ Below w11.heap.size w11 wr) (fun _ _ => 0)
      case atStart => exact ⟨rfl, hBr⟩
      case round =>
        clear hBr
        obtain ⟨rfl, hBr⟩ := hrel
        have hBw := below_then hB hBr
        have kw := k.call hBr
        have rw_ := rr.call hBr
        clear k rr a co hB hBr
        go_wp2_with (first
      | (refine walk_read rfl 23 _ rfl kw rfl 32 _ Tryd.underlying23 (by kernel_rfl) hkl'.out Ck.toArray hKa ?_)
      | (refine walk_read rfl 23 _ rfl rw_ rfl 32 _ Tryd.underlying23 (by kernel_rfl) hZl.out YZ hYZ ?_)
      | (go_at_call 9; refine (dL2.out wr).mono ?_; rintro e' w12 ⟨rfl, b12⟩; replace hBw := below_then hBw b12)
      | (go_at_call 12; refine (dW.out w12 hBw).mono ?_; rintro e' w13 ⟨rfl, b13⟩; replace hBw := below_then hBw b13))
        go_ret
        exact ⟨rfl, hBw⟩

end Go.Proofs.YtmhehnimgkmmaaaDoor
