/- Code and tag of any parts under any key are as the document says, and when a tag is right. -/
import Derived.Test.YtdbmkelcgfmclaaDoorRows
import Derived.Test.YtdbmkelcgfmclaaDoorCards
import Derived.Test.YtdbmkelcgfmclaaDoorTie
import Derived.Test.YtdbmkelcgfmclaaDoorMacAll
import Derived.Test.YtdbmkelcgfmclaaDoorLawM
import Derived.Test.YtdbmkelcgfmclaaDoorMacV
import Derived.WalkKit
import Derived.ProofKit
import Derived.OpenShut
import Derived.SevenTiedAt
import Derived.LaidMore
import Derived.Stop.Joined
import Derived.Deep.RegionHeld3
namespace Go.Proofs.YtdbmkelcgfmclaaDoor.macCodes
set_option maxRecDepth 100000
open Go.ChangeShapes Go.WideShapes Go.ChangeAt Go.RowKit
set_option linter.unusedVariables false

set_option linter.unusedSimpArgs false
attribute [local go_sem] cell_re
set_option maxRecDepth 200000 in
set_option maxHeartbeats 8000000 in
theorem walk (v : Value) (xs0 : List Int) (k : List Int) (t : List Int) (v3 : Value) (l : List (List Int)) (w : World) (hx : IntsAt .u8 w v xs0) (hkl : k.length = 32) (hkb : Byted k) (htl : t.length = 16) (htb : Byted t) (hr : RowsAt w v3 l) (hS : Steps w) : Calls Tryd.prog 3 #[v, .agg (ints .u8 k).toArray, .agg (ints .u8 t).toArray, v3] w fun e w' => e = .returned (.bool true) ∧ Below w.heap.size w w' := by
  obtain ⟨p, cap, rfl, hc0a, hc1a, hwfa, hata⟩ := hx
  unfold maxLen at hc1a
  have hxba := wf_byted hwfa
  have hx0a : At .u8 w p xs0 := hata
  obtain ⟨n0, hn0a⟩ : ∃ n, Hid (xs0.length = n) := ⟨_, rfl⟩
  obtain ⟨m, hma⟩ : ∃ m, Hid (min n0 300 = m) := ⟨_, rfl⟩
  have hm1a : m ≤ 300 := by rw [← hma.out]; omega
  obtain ⟨xs, hxs⟩ : ∃ xs, Hid (xs0.take 300 = xs) := ⟨_, rfl⟩
  have hla : Hid (xs.length = m) := by show _ = _; rw [← hxs.out, List.length_take, hn0a.out, ← hma.out]; omega
  have hBa : Hid (Byted xs) := by rw [← hxs.out]; exact hxba.take _
  have hAa : Hid (At .u8 w p xs) := by rw [← hxs.out]; exact hx0a.take _
  have hmca : m ≤ cap := by have := hn0a.out; have := hma.out; omega
  have j0a : (m : Int) ≤ (cap : Int) := by omega
  have jca : (cap : Int) ≤ 9223372036854775807 := by omega
  have hnca : Hid (n0 ≤ cap) := by have := hn0a.out; show _ ≤ _; omega
  rw [hn0a.out]
  clear hwfa hata hxba hx0a hc0a hc1a
  obtain ⟨pl, capl, rfl, hcl0, hcl1, hPl⟩ := hr
  unfold maxLen at hcl1
  obtain ⟨iE, hiE⟩ := Option.isSome_iff_exists.mp (show (Tryd.prog.info? 5).isSome = true by kernel_rfl)
  obtain ⟨nl, hnl⟩ : ∃ n, Hid (n = l.length) := ⟨_, rfl⟩
  have hT0 := Lib.hid hS
  have dA := Lib.hid (fun (W : World) (h : Below w.heap.size w W) => law9All l nl capl hnl.out (by rw [hnl.out]; omega) pl W (hPl.call h))
  have hfl := Lib.hid (cutL_flat l)
  have hcl := Lib.hid (show (cutL l).length ≤ 8 by rw [cutL_length]; omega)
  rw [← hnl.out]
  unfold AllPost at dA
  rw [joinTo_all] at dA
  obtain ⟨KL, hKL⟩ : ∃ K, Hid (cutL l = K) := ⟨_, rfl⟩
  rw [hKL.out] at dA hfl hcl
  obtain ⟨FL, hFL⟩ : ∃ F, Hid (KL.flatten = F) := ⟨_, rfl⟩
  rw [hFL.out] at dA hfl
  have hDl : Hid ((tagL k FL).length = 16) := Lib.hid (tagL_length k FL)
  have hDb := Lib.hid (tagL_byted k FL)
  have hCl : (codeL xs FL).length = 32 := codeL_length xs FL
  obtain ⟨D, hD⟩ : ∃ D, Hid (tagL k FL = D) := ⟨_, Lib.hid rfl⟩
  obtain ⟨C, hC⟩ : ∃ C, Hid (codeL xs FL = C) := ⟨_, Lib.hid rfl⟩
  rw [hD.out] at hDl hDb
  rw [hC.out] at hCl
  have hqC := Lib.hid (fun W1 : World => equal_ints (P := Tryd.prog) (t := 31) (e := 5) (k := .u8) Tryd.underlying31 hiE (by kernel_rfl) (by kernel_rfl) Tryd.underlying5 C hCl W1)
  have hqD := Lib.hid (fun W1 : World => equal_ints (P := Tryd.prog) (t := 26) (e := 5) (k := .u8) Tryd.underlying26 hiE (by kernel_rfl) (by kernel_rfl) Tryd.underlying5 D hDl.out W1)
  have hqT := Lib.hid (fun W1 : World => equal_two (P := Tryd.prog) (t := 26) (e := 5) (k := .u8) Tryd.underlying26 hiE (by kernel_rfl) (by kernel_rfl) Tryd.underlying5 t D htl hDl.out W1)
  obtain ⟨Ck, hCk⟩ : ∃ c, Hid (ints .u8 k = c) := ⟨_, Lib.hid rfl⟩
  obtain ⟨Ct, hCt⟩ : ∃ c, Hid (ints .u8 t = c) := ⟨_, Lib.hid rfl⟩
  obtain ⟨CD, hCD⟩ : ∃ c, Hid (ints .u8 D = c) := ⟨_, Lib.hid rfl⟩
  obtain ⟨YC, hYC⟩ : ∃ Y, Hid ((ints .u8 C).toArray = Y) := ⟨_, rfl⟩
  have hKa : Hid ((ints .u8 k).toArray = Ck.toArray) := by show _ = _; rw [hCk.out]
  have hTa : Hid ((ints .u8 t).toArray = Ct.toArray) := by show _ = _; rw [hCt.out]
  have hDa : Hid ((ints .u8 D).toArray = CD.toArray) := by show _ = _; rw [hCD.out]
  have huK : Tryd.prog.underlying 24 = some (.array 32 5) := Tryd.underlying24
  have huT : Tryd.prog.underlying 26 = some (.array 16 5) := Tryd.underlying26
  have hiK : (Tryd.prog.info? 24).map (·.size) = some Ck.length := by rw [← hCk.out, ints, List.length_map, hkl]; kernel_rfl
  have hiT : (Tryd.prog.info? 26).map (·.size) = some Ct.length := by rw [← hCt.out, ints, List.length_map, htl]; kernel_rfl
  have hiD : (Tryd.prog.info? 26).map (·.size) = some CD.length := by rw [← hCD.out, ints, List.length_map, hDl.out]; kernel_rfl
  rw [hKa.out, hTa.out]
  rw [hYC.out] at hqC
  rw [hDa.out] at hqD
  rw [hTa.out, hDa.out] at hqT
  have hkl' := Lib.hid hkl
  have hkb' := Lib.hid hkb
  have htl' := Lib.hid htl
  have htb' := Lib.hid htb
  have hiK' := Lib.hid hiK
  have hiT' := Lib.hid hiT
  have hiD' := Lib.hid hiD
  have hB0 : Below w.heap.size w w := Below.refl _ _
  clear hcl0 hcl1 hPl hS hkl hkb htl htb hiK hiT hiD huK huT hiE
  go_enter Tryd.func3, Tryd.ntmps3
  go_upto_region 1 with (first
    | (refine walk_boxed (o := ⟨some 5, _, _, _, _, _⟩) rfl 24 _ rfl .u8 k Ck.toArray hKa rfl ?_; intro w1 k1 b1 s1; clear s1)
    | (refine walk_boxed (o := ⟨some 6, _, _, _, _, _⟩) rfl 26 _ rfl .u8 t Ct.toArray hTa rfl ?_; intro w2 t2 b2 s2; clear s2; have k2 := k1.call b2; have hB2 := below_then b1 b2))
  clear k1 b1 b2
  generalize w1.heap.size = gt at *
  try simp only [Act.put, List.setIfInBounds_toArray, List.set_cons_zero, List.set_cons_succ]
  go_cut [0] (fun s0 wx => s0 = .slice p m cap ∧ Arr .u8 wx w.heap.size k ∧ Arr .u8 wx gt t ∧ Below w.heap.size w wx)
  case first =>
    by_cases hlea : n0 ≤ 300
    · have hmma : Hid (n0 = m) := by have := hma.out; show _ = _; omega
      have k1a : (n0 : Int) ≤ 300 := by omega
      have k9a : ¬ (300 : Int) < (n0 : Int) := by omega
      have k2a : (n0 : Int) ≤ (cap : Int) := by have := hnca.out; omega
      have k3a : n0 ≤ cap := hnca.out
      have k6a : (0 : Int) ≤ (n0 : Int) := by omega
      go_wp2
      go_meet
      exact ⟨by rw [hmma.out], k2, t2, hB2⟩
    · have hmma : Hid (300 = m) := by have := hma.out; show _ = _; omega
      have k1a : ¬ (n0 : Int) ≤ 300 := by omega
      have k4a : (300 : Int) < (n0 : Int) := by omega
      have k2a : (300 : Int) ≤ (cap : Int) := by have := hnca.out; omega
      have k3a : 300 ≤ cap := by have := hnca.out; omega
      go_wp2
      go_meet
      exact ⟨by rw [hmma.out], k2, t2, hB2⟩
  case rest =>
    clear k2 t2 hB2 hma hn0a hxs hnca hB0
    obtain ⟨rfl, k2, t2, hB2⟩ := hcut
    have dG := Lib.hid (fun (W : World) (q : Option Addr) (n c : Nat) (hb : Byted FL) (hn : n = FL.length) (h : At .u8 W q FL) => ref9Tag k hkb'.out hkl'.out Ck.toArray hKa FL hb (by have := hfl.out; omega) q n c hn W h)
    rw [hD.out, hDa.out] at dG
    go_upto_region 4 with (first
      | (go_at_call 7; refine (dA.out wc hB2).mono ?_; rintro e' w3 ⟨q1, m1, c1, q2, m2, c2, rfl, hm1, hmc1, hn1, hPa, hm2, -, hA2, b3⟩; replace hm1 := Lib.hid hm1; replace hm2 := Lib.hid hm2; replace hPa := Lib.hid hPa; replace hA2 := Lib.hid hA2; replace hn1 := Lib.hid hn1; have k3 := k2.call b3; have t3 := t2.call b3; have hB3 := below_then hB2 b3; have hFb : Hid (Byted FL) := (by rw [← hFL.out, ← joinTo_all]; exact joinTo_byted hPa.out.nth _))
      | (refine walk_read rfl 24 _ rfl k3 rfl 32 _ Tryd.underlying24 (by kernel_rfl) hkl'.out Ck.toArray hKa ?_)
      | (go_at_call 8; refine (dG.out w3 q2 m2 c2 hFb.out hm2.out hA2.out).mono ?_; rintro e' w4 ⟨rfl, b4⟩; have k4 := k3.call b4; have t4 := t3.call b4; have hB4 := below_then hB3 b4)
      | (refine walk_arr rfl 26 rfl .u8 (List.replicate 16 0) (by kernel_rfl) ?_; intro w5a r5 b5 s5; clear s5; have k5a := k4.call b5; have t5a := t4.call b5; have hB5a := below_then hB4 b5)
      | (refine walk_store rfl 26 _ _ rfl r5 rfl CD.toArray hDa rfl (by rw [hDl.out]; kernel_rfl) (by rw [hDl.out]; rfl) ?_; intro w5 r5b s5 o5; have k5 := k5a.only o5 (Nat.ne_of_lt k4.lt) s5; have t5 := t5a.only o5 (Nat.ne_of_lt t4.lt) s5; have hB5 := below_only hB5a o5 hB4.size s5; have b45 := below_only b5 o5 (Nat.le_refl _) s5; clear s5))
    have b35 : Below w3.heap.size w3 w5 := below_then b4 b45
    generalize w4.heap.size = g11 at *
    have hrng : Hid (∀ W', Below w5.heap.size w5 W' → W'.rangeAt w.heap.size 0 Ck ∧ W'.rangeAt gt 0 Ct ∧ W'.rangeAt g11 0 CD) := fun W' h => by
      refine ⟨?_, ?_, ?_⟩
      · rw [← hCk.out]; exact (k5.call h).range
      · rw [← hCt.out]; exact (t5.call h).range
      · rw [← hCD.out]; exact (r5b.call h).range
    have hS5 := Lib.hid (fun (W : World) (h : Below w5.heap.size w5 W) => hT0.out.call (below_then hB5 h))
    have hP5 := Lib.hid (fun (W : World) (h : Below w5.heap.size w5 W) => hPa.out.call (below_then b35 h))
    have hA5 := Lib.hid (fun (W : World) (h : Below w5.heap.size w5 W) => hA2.out.call (below_then b35 h))
    have hKb := Lib.hid hPa.out.nth
    have hllx : Hid (KL.flatten.length ≤ 1000000) := by rw [hFL.out]; have := hfl.out; show _ ≤ _; omega
    have dX := Lib.hid (fun (W : World) (h : Below w.heap.size w W) => baseBytes xs (by rw [hla.out]; omega) m hla.out.symm p cap W (hAa.out.call h))
    have dC := Lib.hid (fun (W : World) (q : Option Addr) (n c : Nat) (h : Below w5.heap.size w5 W) (hn : n = xs.length) (hc : n ≤ c) (ha : At .u8 W q xs) => macCode xs hBa.out (by rw [hla.out]; omega) q n c hn hc KL hKb.out hllx.out q1 m1 c1 hm1.out (by have := hm1.out; have := hcl.out; omega) hn1.out W (hS5.out W h) ha (hP5.out W h))
    have dQ := Lib.hid (fun (W : World) (h : Below w5.heap.size w5 W) => ref9Code xs hBa.out (by rw [hla.out]; omega) FL hFb.out (by have := hfl.out; omega) p m cap hla.out.symm q2 m2 c2 hm2.out W (hAa.out.call (below_then hB5 h)) (hA5.out W h))
    have dT := Lib.hid (fun (W : World) (h : Below w5.heap.size w5 W) => macTag k hkb'.out hkl'.out Ck.toArray hKa KL hKb.out hllx.out q1 m1 c1 hm1.out (by have := hm1.out; have := hcl.out; omega) hn1.out W (hS5.out W h) (hP5.out W h))
    have dR := Lib.hid (fun (z : List Int) (hzb : Byted z) (hzl : z.length = 16) (T : Array Value) (hTz : Hid ((ints .u8 z).toArray = T)) (W : World) (h : Below w5.heap.size w5 W) => macRight k hkb'.out hkl'.out Ck.toArray hKa z hzb hzl T hTz KL hKb.out hllx.out q1 m1 c1 hm1.out (by have := hm1.out; have := hcl.out; omega) hn1.out W (hS5.out W h) (hP5.out W h))
    have dW := Lib.hid (fun (W : World) (h : Below w5.heap.size w5 W) => works W (hS5.out W h))
    rw [hFL.out] at dC dT dR
    rw [hC.out, hYC.out] at dC dQ
    rw [hD.out] at dT dR
    rw [hDa.out] at dT
    have dRt := Lib.hid (fun W h => dR.out t htb'.out htl'.out Ct.toArray hTa W h)
    have dRD := Lib.hid (fun W h => dR.out D hDb.out hDl.out CD.toArray hDa W h)
    rw [decide_eq_true (show D = D from rfl)] at dRD
    have huK : Tryd.prog.underlying 24 = some (.array 32 5) := Tryd.underlying24
    have huT : Tryd.prog.underlying 26 = some (.array 16 5) := Tryd.underlying26
    have hiK := hiK'.out
    have hiT := hiT'.out
    have hiD := hiD'.out
    clear k2 t2 hB2 k3 t3 hB3 b3 b4 k4 t4 hB4 r5 b5 k5a t5a hB5a r5b o5 k5 t5 b45 b35 dR hS5 hP5 hA5 hllx hKb hPa hA2 hm1 hm2 hn1 hmc1 dA dG hFb hfl hcl hT0
    try simp only [Act.put, List.setIfInBounds_toArray, List.set_cons_zero, List.set_cons_succ]
    by_cases ht : t = D
    · have hq2 := hqT.out
      rw [decide_eq_true ht] at hq2
      have hq1 := hqC.out
      have hq3 := hqD.out
      have dR0 := dRt.out
      rw [decide_eq_true ht] at dR0
      have dR1 := Lib.hid dR0
      clear dR0
      have zd : Below w5.heap.size w5 w5.drew := (Below.refl _ _).drew
      refine wp_region_held_drew (S := fun W' => W'.rangeAt w.heap.size 0 Ck ∧ W'.rangeAt gt 0 Ct ∧ W'.rangeAt g11 0 CD) (by kernel_rfl) (hrng.out _ zd) (fun _ => ?_)
      generalize w5.drew = wd at zd ⊢
      refine wpAnyH_take (i := 0) (oi := ⟨some 25, .move (.tmp 0), _, _, _, _⟩) (v := .slice p m cap) rfl (by kernel_rfl) (by kernel_rfl) (by kernel_rfl) (fun _ _ _ h => h) (Or.inl ⟨by rfl, by intro W _; go_simp⟩) (hrng.out _ zd) ?_
      try simp only [Act.put, List.setIfInBounds_toArray, List.set_cons_zero, List.set_cons_succ]
      refine wpAnyH_take (i := 2) (oi := ⟨some 27, .move (.tmp 9), _, _, _, _⟩) (v := .slice q1 m1 c1) rfl (by kernel_rfl) (by kernel_rfl) (by kernel_rfl) (fun _ _ _ h => h) (Or.inl ⟨by rfl, by intro W _; go_simp⟩) (hrng.out _ zd) ?_
      try simp only [Act.put, List.setIfInBounds_toArray, List.set_cons_zero, List.set_cons_succ]
      refine wpAnyH_take (i := 4) (oi := ⟨some 29, .move (.tmp 0), _, _, _, _⟩) (v := .slice p m cap) rfl (by kernel_rfl) (by kernel_rfl) (by kernel_rfl) (fun _ _ _ h => h) (Or.inl ⟨by rfl, by intro W _; go_simp⟩) (hrng.out _ zd) ?_
      try simp only [Act.put, List.setIfInBounds_toArray, List.set_cons_zero, List.set_cons_succ]
      refine wpAnyH_take (i := 5) (oi := ⟨some 30, .move (.tmp 10), _, _, _, _⟩) (v := .slice q2 m2 c2) rfl (by kernel_rfl) (by kernel_rfl) (by kernel_rfl) (fun _ _ _ h => h) (Or.inl ⟨by rfl, by intro W _; go_simp⟩) (hrng.out _ zd) ?_
      try simp only [Act.put, List.setIfInBounds_toArray, List.set_cons_zero, List.set_cons_succ]
      refine wpAnyH_ready (rs := [1]) (by kernel_rfl) (by simp) ?_
      refine AllReadyH.cons (o := ⟨some 26, .call { callee := .value (.func 10), args := #[.tmp 25], argTypes := #[22] }, _, _, _, _⟩) rfl (fun K hK => ?_) AllReadyH.nil
      go_simp
      refine (dX.out wd (below_then hB5 zd)).mono ?_
      intro e' w6 hr
      obtain ⟨q6, n6, c6, rfl, m6, b6⟩ := hr.mine
      have z6 := below_then zd b6
      refine hK.out _ _ (hrng.out _ z6) (fun _ => ?_)
      clear hK K
      try simp only [Act.put, List.setIfInBounds_toArray, List.set_cons_zero, List.set_cons_succ]
      refine wpAnyH_ready (rs := [3]) (by kernel_rfl) (by simp) ?_
      refine AllReadyH.cons (o := ⟨some 28, .call { callee := .value (.func 9), args := #[.tmp 26, .tmp 27], argTypes := #[22, 27] }, _, _, _, _⟩) rfl (fun K hK => ?_) AllReadyH.nil
      go_simp
      refine (dC.out w6 q6 n6 c6 z6 m6.len m6.hi m6.at_).mono ?_
      rintro e' w7 ⟨rfl, b7⟩
      have z7 := below_then z6 b7
      refine hK.out _ _ (hrng.out _ z7) (fun _ => ?_)
      clear hK K
      try simp only [Act.put, List.setIfInBounds_toArray, List.set_cons_zero, List.set_cons_succ]
      refine wpAnyH_ready (rs := [6]) (by kernel_rfl) (by simp) ?_
      refine AllReadyH.cons (o := ⟨some 31, .call { callee := .value (.func 11), args := #[.tmp 29, .tmp 30], argTypes := #[22, 22] }, _, _, _, _⟩) rfl (fun K hK => ?_) AllReadyH.nil
      go_simp
      refine (dQ.out w7 z7).mono ?_
      rintro e' w8 ⟨rfl, b8⟩
      have z8 := below_then z7 b8
      refine hK.out _ _ (hrng.out _ z8) (fun _ => ?_)
      clear hK K
      try simp only [Act.put, List.setIfInBounds_toArray, List.set_cons_zero, List.set_cons_succ]
      refine wpAnyH_take (i := 7) (oi := ⟨some 32, .binOp .eql 31 (.tmp 28) (.tmp 31) 31, _, _, _, _⟩) (v := .bool true) rfl (by kernel_rfl) (by kernel_rfl) (by kernel_rfl) (fun _ _ _ h => h) (Or.inl ⟨by rfl, by intro W _; go_simp⟩) (hrng.out _ z8) ?_
      try simp only [Act.put, List.setIfInBounds_toArray, List.set_cons_zero, List.set_cons_succ]
      refine wpAnyH_take (i := 8) (oi := ⟨some 33, .move (.tmp 32), _, _, _, _⟩) (v := .bool true) rfl (by kernel_rfl) (by kernel_rfl) (by kernel_rfl) (fun _ _ _ h => h) (Or.inl ⟨by rfl, by intro W _; go_simp⟩) (hrng.out _ z8) ?_
      try simp only [Act.put, List.setIfInBounds_toArray, List.set_cons_zero, List.set_cons_succ]
      refine wpAnyH_take (i := 9) (oi := ⟨some 34, .load 24 (.tmp 5), _, _, _, _⟩) (v := .agg Ck.toArray) rfl (by kernel_rfl) (by kernel_rfl) (by kernel_rfl) (fun _ _ _ h => h) (yieldsIf_load_mid (by rfl) 24 (.tmp 5) rfl w.heap.size 0 rfl Ck _ (fun _ h => h.1) huK rfl hiK) (hrng.out _ z8) ?_
      try simp only [Act.put, List.setIfInBounds_toArray, List.set_cons_zero, List.set_cons_succ]
      refine wpAnyH_take (i := 10) (oi := ⟨some 35, .move (.tmp 9), _, _, _, _⟩) (v := .slice q1 m1 c1) rfl (by kernel_rfl) (by kernel_rfl) (by kernel_rfl) (fun _ _ _ h => h) (Or.inl ⟨by rfl, by intro W _; go_simp⟩) (hrng.out _ z8) ?_
      try simp only [Act.put, List.setIfInBounds_toArray, List.set_cons_zero, List.set_cons_succ]
      refine wpAnyH_take (i := 12) (oi := ⟨some 37, .load 26 (.tmp 11), _, _, _, _⟩) (v := .agg CD.toArray) rfl (by kernel_rfl) (by kernel_rfl) (by kernel_rfl) (fun _ _ _ h => h) (yieldsIf_load_mid (by rfl) 26 (.tmp 11) rfl g11 0 rfl CD _ (fun _ h => h.2.2) huT rfl hiD) (hrng.out _ z8) ?_
      try simp only [Act.put, List.setIfInBounds_toArray, List.set_cons_zero, List.set_cons_succ]
      refine wpAnyH_ready (rs := [11]) (by kernel_rfl) (by simp) ?_
      refine AllReadyH.cons (o := ⟨some 36, .call { callee := .value (.func 12), args := #[.tmp 34, .tmp 35], argTypes := #[24, 27] }, _, _, _, _⟩) rfl (fun K hK => ?_) AllReadyH.nil
      go_simp
      refine (dT.out w8 z8).mono ?_
      rintro e' w9 ⟨rfl, b9⟩
      have z9 := below_then z8 b9
      refine hK.out _ _ (hrng.out _ z9) (fun _ => ?_)
      clear hK K
      try simp only [Act.put, List.setIfInBounds_toArray, List.set_cons_zero, List.set_cons_succ]
      refine wpAnyH_take (i := 13) (oi := ⟨some 38, .binOp .eql 26 (.tmp 36) (.tmp 37) 26, _, _, _, _⟩) (v := .bool true) rfl (by kernel_rfl) (by kernel_rfl) (by kernel_rfl) (fun _ _ _ h => h) (Or.inl ⟨by rfl, by intro W _; go_simp⟩) (hrng.out _ z9) ?_
      try simp only [Act.put, List.setIfInBounds_toArray, List.set_cons_zero, List.set_cons_succ]
      refine wpAnyH_take (i := 14) (oi := ⟨some 39, .pick (.tmp 33) (.tmp 38) (.const (.bool false)), _, _, _, _⟩) (v := .bool true) rfl (by kernel_rfl) (by kernel_rfl) (by kernel_rfl) (fun _ _ _ h => h) (Or.inl ⟨by rfl, by intro W _; go_simp⟩) (hrng.out _ z9) ?_
      try simp only [Act.put, List.setIfInBounds_toArray, List.set_cons_zero, List.set_cons_succ]
      refine wpAnyH_take (i := 15) (oi := ⟨some 40, .move (.tmp 39), _, _, _, _⟩) (v := .bool true) rfl (by kernel_rfl) (by kernel_rfl) (by kernel_rfl) (fun _ _ _ h => h) (Or.inl ⟨by rfl, by intro W _; go_simp⟩) (hrng.out _ z9) ?_
      try simp only [Act.put, List.setIfInBounds_toArray, List.set_cons_zero, List.set_cons_succ]
      refine wpAnyH_take (i := 16) (oi := ⟨some 41, .load 24 (.tmp 5), _, _, _, _⟩) (v := .agg Ck.toArray) rfl (by kernel_rfl) (by kernel_rfl) (by kernel_rfl) (fun _ _ _ h => h) (yieldsIf_load_mid (by rfl) 24 (.tmp 5) rfl w.heap.size 0 rfl Ck _ (fun _ h => h.1) huK rfl hiK) (hrng.out _ z9) ?_
      try simp only [Act.put, List.setIfInBounds_toArray, List.set_cons_zero, List.set_cons_succ]
      refine wpAnyH_take (i := 17) (oi := ⟨some 42, .load 26 (.tmp 6), _, _, _, _⟩) (v := .agg Ct.toArray) rfl (by kernel_rfl) (by kernel_rfl) (by kernel_rfl) (fun _ _ _ h => h) (yieldsIf_load_mid (by rfl) 26 (.tmp 6) rfl gt 0 rfl Ct _ (fun _ h => h.2.1) huT rfl hiT) (hrng.out _ z9) ?_
      try simp only [Act.put, List.setIfInBounds_toArray, List.set_cons_zero, List.set_cons_succ]
      refine wpAnyH_take (i := 18) (oi := ⟨some 43, .move (.tmp 9), _, _, _, _⟩) (v := .slice q1 m1 c1) rfl (by kernel_rfl) (by kernel_rfl) (by kernel_rfl) (fun _ _ _ h => h) (Or.inl ⟨by rfl, by intro W _; go_simp⟩) (hrng.out _ z9) ?_
      try simp only [Act.put, List.setIfInBounds_toArray, List.set_cons_zero, List.set_cons_succ]
      refine wpAnyH_take (i := 20) (oi := ⟨some 45, .load 26 (.tmp 6), _, _, _, _⟩) (v := .agg Ct.toArray) rfl (by kernel_rfl) (by kernel_rfl) (by kernel_rfl) (fun _ _ _ h => h) (yieldsIf_load_mid (by rfl) 26 (.tmp 6) rfl gt 0 rfl Ct _ (fun _ h => h.2.1) huT rfl hiT) (hrng.out _ z9) ?_
      try simp only [Act.put, List.setIfInBounds_toArray, List.set_cons_zero, List.set_cons_succ]
      refine wpAnyH_take (i := 21) (oi := ⟨some 46, .load 26 (.tmp 11), _, _, _, _⟩) (v := .agg CD.toArray) rfl (by kernel_rfl) (by kernel_rfl) (by kernel_rfl) (fun _ _ _ h => h) (yieldsIf_load_mid (by rfl) 26 (.tmp 11) rfl g11 0 rfl CD _ (fun _ h => h.2.2) huT rfl hiD) (hrng.out _ z9) ?_
      try simp only [Act.put, List.setIfInBounds_toArray, List.set_cons_zero, List.set_cons_succ]
      refine wpAnyH_take (i := 22) (oi := ⟨some 47, .binOp .eql 26 (.tmp 45) (.tmp 46) 26, _, _, _, _⟩) (v := .bool true) rfl (by kernel_rfl) (by kernel_rfl) (by kernel_rfl) (fun _ _ _ h => h) (Or.inl ⟨by rfl, by intro W _; go_simp⟩) (hrng.out _ z9) ?_
      try simp only [Act.put, List.setIfInBounds_toArray, List.set_cons_zero, List.set_cons_succ]
      refine wpAnyH_ready (rs := [19]) (by kernel_rfl) (by simp) ?_
      refine AllReadyH.cons (o := ⟨some 44, .call { callee := .value (.func 13), args := #[.tmp 41, .tmp 42, .tmp 43], argTypes := #[24, 26, 27] }, _, _, _, _⟩) rfl (fun K hK => ?_) AllReadyH.nil
      go_simp
      refine (dR1.out w9 z9).mono ?_
      rintro e' w10 ⟨rfl, b10⟩
      have z10 := below_then z9 b10
      refine hK.out _ _ (hrng.out _ z10) (fun _ => ?_)
      clear hK K
      try simp only [Act.put, List.setIfInBounds_toArray, List.set_cons_zero, List.set_cons_succ]
      refine wpAnyH_take (i := 23) (oi := ⟨some 48, .binOp .eql 4 (.tmp 44) (.tmp 47) 4, _, _, _, _⟩) (v := .bool true) rfl (by kernel_rfl) (by kernel_rfl) (by kernel_rfl) (fun _ _ _ h => h) (Or.inl ⟨by rfl, by intro W _; go_simp⟩) (hrng.out _ z10) ?_
      try simp only [Act.put, List.setIfInBounds_toArray, List.set_cons_zero, List.set_cons_succ]
      refine wpAnyH_take (i := 24) (oi := ⟨some 49, .pick (.tmp 40) (.tmp 48) (.const (.bool false)), _, _, _, _⟩) (v := .bool true) rfl (by kernel_rfl) (by kernel_rfl) (by kernel_rfl) (fun _ _ _ h => h) (Or.inl ⟨by rfl, by intro W _; go_simp⟩) (hrng.out _ z10) ?_
      try simp only [Act.put, List.setIfInBounds_toArray, List.set_cons_zero, List.set_cons_succ]
      refine wpAnyH_take (i := 25) (oi := ⟨some 50, .move (.tmp 49), _, _, _, _⟩) (v := .bool true) rfl (by kernel_rfl) (by kernel_rfl) (by kernel_rfl) (fun _ _ _ h => h) (Or.inl ⟨by rfl, by intro W _; go_simp⟩) (hrng.out _ z10) ?_
      try simp only [Act.put, List.setIfInBounds_toArray, List.set_cons_zero, List.set_cons_succ]
      refine wpAnyH_take (i := 26) (oi := ⟨some 51, .load 24 (.tmp 5), _, _, _, _⟩) (v := .agg Ck.toArray) rfl (by kernel_rfl) (by kernel_rfl) (by kernel_rfl) (fun _ _ _ h => h) (yieldsIf_load_mid (by rfl) 24 (.tmp 5) rfl w.heap.size 0 rfl Ck _ (fun _ h => h.1) huK rfl hiK) (hrng.out _ z10) ?_
      try simp only [Act.put, List.setIfInBounds_toArray, List.set_cons_zero, List.set_cons_succ]
      refine wpAnyH_take (i := 27) (oi := ⟨some 52, .load 26 (.tmp 11), _, _, _, _⟩) (v := .agg CD.toArray) rfl (by kernel_rfl) (by kernel_rfl) (by kernel_rfl) (fun _ _ _ h => h) (yieldsIf_load_mid (by rfl) 26 (.tmp 11) rfl g11 0 rfl CD _ (fun _ h => h.2.2) huT rfl hiD) (hrng.out _ z10) ?_
      try simp only [Act.put, List.setIfInBounds_toArray, List.set_cons_zero, List.set_cons_succ]
      refine wpAnyH_take (i := 28) (oi := ⟨some 53, .move (.tmp 9), _, _, _, _⟩) (v := .slice q1 m1 c1) rfl (by kernel_rfl) (by kernel_rfl) (by kernel_rfl) (fun _ _ _ h => h) (Or.inl ⟨by rfl, by intro W _; go_simp⟩) (hrng.out _ z10) ?_
      try simp only [Act.put, List.setIfInBounds_toArray, List.set_cons_zero, List.set_cons_succ]
      refine wpAnyH_ready (rs := [29]) (by kernel_rfl) (by simp) ?_
      refine AllReadyH.cons (o := ⟨some 54, .call { callee := .value (.func 13), args := #[.tmp 51, .tmp 52, .tmp 53], argTypes := #[24, 26, 27] }, _, _, _, _⟩) rfl (fun K hK => ?_) AllReadyH.nil
      go_simp
      refine (dRD.out w10 z10).mono ?_
      rintro e' w11 ⟨rfl, b11⟩
      have z11 := below_then z10 b11
      refine hK.out _ _ (hrng.out _ z11) (fun _ => ?_)
      clear hK K
      try simp only [Act.put, List.setIfInBounds_toArray, List.set_cons_zero, List.set_cons_succ]
      refine wpAnyH_take (i := 30) (oi := ⟨some 55, .pick (.tmp 50) (.tmp 54) (.const (.bool false)), _, _, _, _⟩) (v := .bool true) rfl (by kernel_rfl) (by kernel_rfl) (by kernel_rfl) (fun _ _ _ h => h) (Or.inl ⟨by rfl, by intro W _; go_simp⟩) (hrng.out _ z11) ?_
      try simp only [Act.put, List.setIfInBounds_toArray, List.set_cons_zero, List.set_cons_succ]
      refine wpAnyH_take (i := 31) (oi := ⟨some 56, .move (.tmp 55), _, _, _, _⟩) (v := .bool true) rfl (by kernel_rfl) (by kernel_rfl) (by kernel_rfl) (fun _ _ _ h => h) (Or.inl ⟨by rfl, by intro W _; go_simp⟩) (hrng.out _ z11) ?_
      try simp only [Act.put, List.setIfInBounds_toArray, List.set_cons_zero, List.set_cons_succ]
      refine wpAnyH_ready (rs := [32]) (by kernel_rfl) (by simp) ?_
      refine AllReadyH.cons (o := ⟨some 57, .call { callee := .value (.func 14), args := #[], argTypes := #[] }, _, _, _, _⟩) rfl (fun K hK => ?_) AllReadyH.nil
      go_simp
      refine (dW.out w11 z11).mono ?_
      rintro e' w12 ⟨rfl, b12⟩
      have z12 := below_then z11 b12
      refine hK.out _ _ (hrng.out _ z12) (fun _ => ?_)
      clear hK K
      try simp only [Act.put, List.setIfInBounds_toArray, List.set_cons_zero, List.set_cons_succ]
      refine wpAnyH_take (i := 33) (oi := ⟨some 58, .pick (.tmp 56) (.tmp 57) (.const (.bool false)), _, _, _, _⟩) (v := .bool true) rfl (by kernel_rfl) (by kernel_rfl) (by kernel_rfl) (fun _ _ _ h => h) (Or.inl ⟨by rfl, by intro W _; go_simp⟩) (hrng.out _ z12) ?_
      try simp only [Act.put, List.setIfInBounds_toArray, List.set_cons_zero, List.set_cons_succ]
      refine wpAnyH_take (i := 34) (oi := ⟨some 8, .assign (.tmp 58), _, _, _, _⟩) (v := .bool true) rfl (by kernel_rfl) (by kernel_rfl) (by kernel_rfl) (fun _ _ _ h => h) (Or.inl ⟨by rfl, by intro W _; go_simp⟩) (hrng.out _ z12) ?_
      try simp only [Act.put, List.setIfInBounds_toArray, List.set_cons_zero, List.set_cons_succ]
      refine wpAnyH_done (by kernel_rfl) ?_ _
      go_wp2
      go_ret
      exact ⟨rfl, below_then hB5 z12⟩
    · have hq2 := hqT.out
      rw [decide_eq_false ht] at hq2
      have hq1 := hqC.out
      have hq3 := hqD.out
      have dR0 := dRt.out
      rw [decide_eq_false ht] at dR0
      have dR1 := Lib.hid dR0
      clear dR0
      have zd : Below w5.heap.size w5 w5.drew := (Below.refl _ _).drew
      refine wp_region_held_drew (S := fun W' => W'.rangeAt w.heap.size 0 Ck ∧ W'.rangeAt gt 0 Ct ∧ W'.rangeAt g11 0 CD) (by kernel_rfl) (hrng.out _ zd) (fun _ => ?_)
      generalize w5.drew = wd at zd ⊢
      refine wpAnyH_take (i := 0) (oi := ⟨some 25, .move (.tmp 0), _, _, _, _⟩) (v := .slice p m cap) rfl (by kernel_rfl) (by kernel_rfl) (by kernel_rfl) (fun _ _ _ h => h) (Or.inl ⟨by rfl, by intro W _; go_simp⟩) (hrng.out _ zd) ?_
      try simp only [Act.put, List.setIfInBounds_toArray, List.set_cons_zero, List.set_cons_succ]
      refine wpAnyH_take (i := 2) (oi := ⟨some 27, .move (.tmp 9), _, _, _, _⟩) (v := .slice q1 m1 c1) rfl (by kernel_rfl) (by kernel_rfl) (by kernel_rfl) (fun _ _ _ h => h) (Or.inl ⟨by rfl, by intro W _; go_simp⟩) (hrng.out _ zd) ?_
      try simp only [Act.put, List.setIfInBounds_toArray, List.set_cons_zero, List.set_cons_succ]
      refine wpAnyH_take (i := 4) (oi := ⟨some 29, .move (.tmp 0), _, _, _, _⟩) (v := .slice p m cap) rfl (by kernel_rfl) (by kernel_rfl) (by kernel_rfl) (fun _ _ _ h => h) (Or.inl ⟨by rfl, by intro W _; go_simp⟩) (hrng.out _ zd) ?_
      try simp only [Act.put, List.setIfInBounds_toArray, List.set_cons_zero, List.set_cons_succ]
      refine wpAnyH_take (i := 5) (oi := ⟨some 30, .move (.tmp 10), _, _, _, _⟩) (v := .slice q2 m2 c2) rfl (by kernel_rfl) (by kernel_rfl) (by kernel_rfl) (fun _ _ _ h => h) (Or.inl ⟨by rfl, by intro W _; go_simp⟩) (hrng.out _ zd) ?_
      try simp only [Act.put, List.setIfInBounds_toArray, List.set_cons_zero, List.set_cons_succ]
      refine wpAnyH_ready (rs := [1]) (by kernel_rfl) (by simp) ?_
      refine AllReadyH.cons (o := ⟨some 26, .call { callee := .value (.func 10), args := #[.tmp 25], argTypes := #[22] }, _, _, _, _⟩) rfl (fun K hK => ?_) AllReadyH.nil
      go_simp
      refine (dX.out wd (below_then hB5 zd)).mono ?_
      intro e' w6 hr
      obtain ⟨q6, n6, c6, rfl, m6, b6⟩ := hr.mine
      have z6 := below_then zd b6
      refine hK.out _ _ (hrng.out _ z6) (fun _ => ?_)
      clear hK K
      try simp only [Act.put, List.setIfInBounds_toArray, List.set_cons_zero, List.set_cons_succ]
      refine wpAnyH_ready (rs := [3]) (by kernel_rfl) (by simp) ?_
      refine AllReadyH.cons (o := ⟨some 28, .call { callee := .value (.func 9), args := #[.tmp 26, .tmp 27], argTypes := #[22, 27] }, _, _, _, _⟩) rfl (fun K hK => ?_) AllReadyH.nil
      go_simp
      refine (dC.out w6 q6 n6 c6 z6 m6.len m6.hi m6.at_).mono ?_
      rintro e' w7 ⟨rfl, b7⟩
      have z7 := below_then z6 b7
      refine hK.out _ _ (hrng.out _ z7) (fun _ => ?_)
      clear hK K
      try simp only [Act.put, List.setIfInBounds_toArray, List.set_cons_zero, List.set_cons_succ]
      refine wpAnyH_ready (rs := [6]) (by kernel_rfl) (by simp) ?_
      refine AllReadyH.cons (o := ⟨some 31, .call { callee := .value (.func 11), args := #[.tmp 29, .tmp 30], argTypes := #[22, 22] }, _, _, _, _⟩) rfl (fun K hK => ?_) AllReadyH.nil
      go_simp
      refine (dQ.out w7 z7).mono ?_
      rintro e' w8 ⟨rfl, b8⟩
      have z8 := below_then z7 b8
      refine hK.out _ _ (hrng.out _ z8) (fun _ => ?_)
      clear hK K
      try simp only [Act.put, List.setIfInBounds_toArray, List.set_cons_zero, List.set_cons_succ]
      refine wpAnyH_take (i := 7) (oi := ⟨some 32, .binOp .eql 31 (.tmp 28) (.tmp 31) 31, _, _, _, _⟩) (v := .bool true) rfl (by kernel_rfl) (by kernel_rfl) (by kernel_rfl) (fun _ _ _ h => h) (Or.inl ⟨by rfl, by intro W _; go_simp⟩) (hrng.out _ z8) ?_
      try simp only [Act.put, List.setIfInBounds_toArray, List.set_cons_zero, List.set_cons_succ]
      refine wpAnyH_take (i := 8) (oi := ⟨some 33, .move (.tmp 32), _, _, _, _⟩) (v := .bool true) rfl (by kernel_rfl) (by kernel_rfl) (by kernel_rfl) (fun _ _ _ h => h) (Or.inl ⟨by rfl, by intro W _; go_simp⟩) (hrng.out _ z8) ?_
      try simp only [Act.put, List.setIfInBounds_toArray, List.set_cons_zero, List.set_cons_succ]
      refine wpAnyH_take (i := 9) (oi := ⟨some 34, .load 24 (.tmp 5), _, _, _, _⟩) (v := .agg Ck.toArray) rfl (by kernel_rfl) (by kernel_rfl) (by kernel_rfl) (fun _ _ _ h => h) (yieldsIf_load_mid (by rfl) 24 (.tmp 5) rfl w.heap.size 0 rfl Ck _ (fun _ h => h.1) huK rfl hiK) (hrng.out _ z8) ?_
      try simp only [Act.put, List.setIfInBounds_toArray, List.set_cons_zero, List.set_cons_succ]
      refine wpAnyH_take (i := 10) (oi := ⟨some 35, .move (.tmp 9), _, _, _, _⟩) (v := .slice q1 m1 c1) rfl (by kernel_rfl) (by kernel_rfl) (by kernel_rfl) (fun _ _ _ h => h) (Or.inl ⟨by rfl, by intro W _; go_simp⟩) (hrng.out _ z8) ?_
      try simp only [Act.put, List.setIfInBounds_toArray, List.set_cons_zero, List.set_cons_succ]
      refine wpAnyH_take (i := 12) (oi := ⟨some 37, .load 26 (.tmp 11), _, _, _, _⟩) (v := .agg CD.toArray) rfl (by kernel_rfl) (by kernel_rfl) (by kernel_rfl) (fun _ _ _ h => h) (yieldsIf_load_mid (by rfl) 26 (.tmp 11) rfl g11 0 rfl CD _ (fun _ h => h.2.2) huT rfl hiD) (hrng.out _ z8) ?_
      try simp only [Act.put, List.setIfInBounds_toArray, List.set_cons_zero, List.set_cons_succ]
      refine wpAnyH_ready (rs := [11]) (by kernel_rfl) (by simp) ?_
      refine AllReadyH.cons (o := ⟨some 36, .call { callee := .value (.func 12), args := #[.tmp 34, .tmp 35], argTypes := #[24, 27] }, _, _, _, _⟩) rfl (fun K hK => ?_) AllReadyH.nil
      go_simp
      refine (dT.out w8 z8).mono ?_
      rintro e' w9 ⟨rfl, b9⟩
      have z9 := below_then z8 b9
      refine hK.out _ _ (hrng.out _ z9) (fun _ => ?_)
      clear hK K
      try simp only [Act.put, List.setIfInBounds_toArray, List.set_cons_zero, List.set_cons_succ]
      refine wpAnyH_take (i := 13) (oi := ⟨some 38, .binOp .eql 26 (.tmp 36) (.tmp 37) 26, _, _, _, _⟩) (v := .bool true) rfl (by kernel_rfl) (by kernel_rfl) (by kernel_rfl) (fun _ _ _ h => h) (Or.inl ⟨by rfl, by intro W _; go_simp⟩) (hrng.out _ z9) ?_
      try simp only [Act.put, List.setIfInBounds_toArray, List.set_cons_zero, List.set_cons_succ]
      refine wpAnyH_take (i := 14) (oi := ⟨some 39, .pick (.tmp 33) (.tmp 38) (.const (.bool false)), _, _, _, _⟩) (v := .bool true) rfl (by kernel_rfl) (by kernel_rfl) (by kernel_rfl) (fun _ _ _ h => h) (Or.inl ⟨by rfl, by intro W _; go_simp⟩) (hrng.out _ z9) ?_
      try simp only [Act.put, List.setIfInBounds_toArray, List.set_cons_zero, List.set_cons_succ]
      refine wpAnyH_take (i := 15) (oi := ⟨some 40, .move (.tmp 39), _, _, _, _⟩) (v := .bool true) rfl (by kernel_rfl) (by kernel_rfl) (by kernel_rfl) (fun _ _ _ h => h) (Or.inl ⟨by rfl, by intro W _; go_simp⟩) (hrng.out _ z9) ?_
      try simp only [Act.put, List.setIfInBounds_toArray, List.set_cons_zero, List.set_cons_succ]
      refine wpAnyH_take (i := 16) (oi := ⟨some 41, .load 24 (.tmp 5), _, _, _, _⟩) (v := .agg Ck.toArray) rfl (by kernel_rfl) (by kernel_rfl) (by kernel_rfl) (fun _ _ _ h => h) (yieldsIf_load_mid (by rfl) 24 (.tmp 5) rfl w.heap.size 0 rfl Ck _ (fun _ h => h.1) huK rfl hiK) (hrng.out _ z9) ?_
      try simp only [Act.put, List.setIfInBounds_toArray, List.set_cons_zero, List.set_cons_succ]
      refine wpAnyH_take (i := 17) (oi := ⟨some 42, .load 26 (.tmp 6), _, _, _, _⟩) (v := .agg Ct.toArray) rfl (by kernel_rfl) (by kernel_rfl) (by kernel_rfl) (fun _ _ _ h => h) (yieldsIf_load_mid (by rfl) 26 (.tmp 6) rfl gt 0 rfl Ct _ (fun _ h => h.2.1) huT rfl hiT) (hrng.out _ z9) ?_
      try simp only [Act.put, List.setIfInBounds_toArray, List.set_cons_zero, List.set_cons_succ]
      refine wpAnyH_take (i := 18) (oi := ⟨some 43, .move (.tmp 9), _, _, _, _⟩) (v := .slice q1 m1 c1) rfl (by kernel_rfl) (by kernel_rfl) (by kernel_rfl) (fun _ _ _ h => h) (Or.inl ⟨by rfl, by intro W _; go_simp⟩) (hrng.out _ z9) ?_
      try simp only [Act.put, List.setIfInBounds_toArray, List.set_cons_zero, List.set_cons_succ]
      refine wpAnyH_take (i := 20) (oi := ⟨some 45, .load 26 (.tmp 6), _, _, _, _⟩) (v := .agg Ct.toArray) rfl (by kernel_rfl) (by kernel_rfl) (by kernel_rfl) (fun _ _ _ h => h) (yieldsIf_load_mid (by rfl) 26 (.tmp 6) rfl gt 0 rfl Ct _ (fun _ h => h.2.1) huT rfl hiT) (hrng.out _ z9) ?_
      try simp only [Act.put, List.setIfInBounds_toArray, List.set_cons_zero, List.set_cons_succ]
      refine wpAnyH_take (i := 21) (oi := ⟨some 46, .load 26 (.tmp 11), _, _, _, _⟩) (v := .agg CD.toArray) rfl (by kernel_rfl) (by kernel_rfl) (by kernel_rfl) (fun _ _ _ h => h) (yieldsIf_load_mid (by rfl) 26 (.tmp 11) rfl g11 0 rfl CD _ (fun _ h => h.2.2) huT rfl hiD) (hrng.out _ z9) ?_
      try simp only [Act.put, List.setIfInBounds_toArray, List.set_cons_zero, List.set_cons_succ]
      refine wpAnyH_take (i := 22) (oi := ⟨some 47, .binOp .eql 26 (.tmp 45) (.tmp 46) 26, _, _, _, _⟩) (v := .bool false) rfl (by kernel_rfl) (by kernel_rfl) (by kernel_rfl) (fun _ _ _ h => h) (Or.inl ⟨by rfl, by intro W _; go_simp⟩) (hrng.out _ z9) ?_
      try simp only [Act.put, List.setIfInBounds_toArray, List.set_cons_zero, List.set_cons_succ]
      refine wpAnyH_ready (rs := [19]) (by kernel_rfl) (by simp) ?_
      refine AllReadyH.cons (o := ⟨some 44, .call { callee := .value (.func 13), args := #[.tmp 41, .tmp 42, .tmp 43], argTypes := #[24, 26, 27] }, _, _, _, _⟩) rfl (fun K hK => ?_) AllReadyH.nil
      go_simp
      refine (dR1.out w9 z9).mono ?_
      rintro e' w10 ⟨rfl, b10⟩
      have z10 := below_then z9 b10
      refine hK.out _ _ (hrng.out _ z10) (fun _ => ?_)
      clear hK K
      try simp only [Act.put, List.setIfInBounds_toArray, List.set_cons_zero, List.set_cons_succ]
      refine wpAnyH_take (i := 23) (oi := ⟨some 48, .binOp .eql 4 (.tmp 44) (.tmp 47) 4, _, _, _, _⟩) (v := .bool true) rfl (by kernel_rfl) (by kernel_rfl) (by kernel_rfl) (fun _ _ _ h => h) (Or.inl ⟨by rfl, by intro W _; go_simp⟩) (hrng.out _ z10) ?_
      try simp only [Act.put, List.setIfInBounds_toArray, List.set_cons_zero, List.set_cons_succ]
      refine wpAnyH_take (i := 24) (oi := ⟨some 49, .pick (.tmp 40) (.tmp 48) (.const (.bool false)), _, _, _, _⟩) (v := .bool true) rfl (by kernel_rfl) (by kernel_rfl) (by kernel_rfl) (fun _ _ _ h => h) (Or.inl ⟨by rfl, by intro W _; go_simp⟩) (hrng.out _ z10) ?_
      try simp only [Act.put, List.setIfInBounds_toArray, List.set_cons_zero, List.set_cons_succ]
      refine wpAnyH_take (i := 25) (oi := ⟨some 50, .move (.tmp 49), _, _, _, _⟩) (v := .bool true) rfl (by kernel_rfl) (by kernel_rfl) (by kernel_rfl) (fun _ _ _ h => h) (Or.inl ⟨by rfl, by intro W _; go_simp⟩) (hrng.out _ z10) ?_
      try simp only [Act.put, List.setIfInBounds_toArray, List.set_cons_zero, List.set_cons_succ]
      refine wpAnyH_take (i := 26) (oi := ⟨some 51, .load 24 (.tmp 5), _, _, _, _⟩) (v := .agg Ck.toArray) rfl (by kernel_rfl) (by kernel_rfl) (by kernel_rfl) (fun _ _ _ h => h) (yieldsIf_load_mid (by rfl) 24 (.tmp 5) rfl w.heap.size 0 rfl Ck _ (fun _ h => h.1) huK rfl hiK) (hrng.out _ z10) ?_
      try simp only [Act.put, List.setIfInBounds_toArray, List.set_cons_zero, List.set_cons_succ]
      refine wpAnyH_take (i := 27) (oi := ⟨some 52, .load 26 (.tmp 11), _, _, _, _⟩) (v := .agg CD.toArray) rfl (by kernel_rfl) (by kernel_rfl) (by kernel_rfl) (fun _ _ _ h => h) (yieldsIf_load_mid (by rfl) 26 (.tmp 11) rfl g11 0 rfl CD _ (fun _ h => h.2.2) huT rfl hiD) (hrng.out _ z10) ?_
      try simp only [Act.put, List.setIfInBounds_toArray, List.set_cons_zero, List.set_cons_succ]
      refine wpAnyH_take (i := 28) (oi := ⟨some 53, .move (.tmp 9), _, _, _, _⟩) (v := .slice q1 m1 c1) rfl (by kernel_rfl) (by kernel_rfl) (by kernel_rfl) (fun _ _ _ h => h) (Or.inl ⟨by rfl, by intro W _; go_simp⟩) (hrng.out _ z10) ?_
      try simp only [Act.put, List.setIfInBounds_toArray, List.set_cons_zero, List.set_cons_succ]
      refine wpAnyH_ready (rs := [29]) (by kernel_rfl) (by simp) ?_
      refine AllReadyH.cons (o := ⟨some 54, .call { callee := .value (.func 13), args := #[.tmp 51, .tmp 52, .tmp 53], argTypes := #[24, 26, 27] }, _, _, _, _⟩) rfl (fun K hK => ?_) AllReadyH.nil
      go_simp
      refine (dRD.out w10 z10).mono ?_
      rintro e' w11 ⟨rfl, b11⟩
      have z11 := below_then z10 b11
      refine hK.out _ _ (hrng.out _ z11) (fun _ => ?_)
      clear hK K
      try simp only [Act.put, List.setIfInBounds_toArray, List.set_cons_zero, List.set_cons_succ]
      refine wpAnyH_take (i := 30) (oi := ⟨some 55, .pick (.tmp 50) (.tmp 54) (.const (.bool false)), _, _, _, _⟩) (v := .bool true) rfl (by kernel_rfl) (by kernel_rfl) (by kernel_rfl) (fun _ _ _ h => h) (Or.inl ⟨by rfl, by intro W _; go_simp⟩) (hrng.out _ z11) ?_
      try simp only [Act.put, List.setIfInBounds_toArray, List.set_cons_zero, List.set_cons_succ]
      refine wpAnyH_take (i := 31) (oi := ⟨some 56, .move (.tmp 55), _, _, _, _⟩) (v := .bool true) rfl (by kernel_rfl) (by kernel_rfl) (by kernel_rfl) (fun _ _ _ h => h) (Or.inl ⟨by rfl, by intro W _; go_simp⟩) (hrng.out _ z11) ?_
      try simp only [Act.put, List.setIfInBounds_toArray, List.set_cons_zero, List.set_cons_succ]
      refine wpAnyH_ready (rs := [32]) (by kernel_rfl) (by simp) ?_
      refine AllReadyH.cons (o := ⟨some 57, .call { callee := .value (.func 14), args := #[], argTypes := #[] }, _, _, _, _⟩) rfl (fun K hK => ?_) AllReadyH.nil
      go_simp
      refine (dW.out w11 z11).mono ?_
      rintro e' w12 ⟨rfl, b12⟩
      have z12 := below_then z11 b12
      refine hK.out _ _ (hrng.out _ z12) (fun _ => ?_)
      clear hK K
      try simp only [Act.put, List.setIfInBounds_toArray, List.set_cons_zero, List.set_cons_succ]
      refine wpAnyH_take (i := 33) (oi := ⟨some 58, .pick (.tmp 56) (.tmp 57) (.const (.bool false)), _, _, _, _⟩) (v := .bool true) rfl (by kernel_rfl) (by kernel_rfl) (by kernel_rfl) (fun _ _ _ h => h) (Or.inl ⟨by rfl, by intro W _; go_simp⟩) (hrng.out _ z12) ?_
      try simp only [Act.put, List.setIfInBounds_toArray, List.set_cons_zero, List.set_cons_succ]
      refine wpAnyH_take (i := 34) (oi := ⟨some 8, .assign (.tmp 58), _, _, _, _⟩) (v := .bool true) rfl (by kernel_rfl) (by kernel_rfl) (by kernel_rfl) (fun _ _ _ h => h) (Or.inl ⟨by rfl, by intro W _; go_simp⟩) (hrng.out _ z12) ?_
      try simp only [Act.put, List.setIfInBounds_toArray, List.set_cons_zero, List.set_cons_succ]
      refine wpAnyH_done (by kernel_rfl) ?_ _
      go_wp2
      go_ret
      exact ⟨rfl, below_then hB5 z12⟩


set_option maxRecDepth 100000 in
theorem lifted (os : Os) (started : os.Started) (H : Type) (enc : TypeId × Value → H) :
    ReturnsInHanded {} Tryd.checked os 3 .any (fun w args => (Rows.macCodesSpec.pre enc Tryd.prog Tryd.f3 [] false w args ∧ laidMetH Tryd.prog laidT w) ∧ sizedMet enc Tryd.prog Tryd.f3 (OpenSpec.ofChange Rows.macCodesSpec) false w args)
      (Rows.macCodesSpec.post enc Tryd.prog Tryd.f3 false true false false) := by
  refine returnsInHanded_of_change_and (C := Tryd.checked) (X := fun w _ => laidMetH Tryd.prog laidT w) (fun _ _ _ hh h => h.of_heap hh) own started (by kernel_rfl) Tryd.func3
    (ChangeSpec.witness_shaped (enc := enc) (C := Tryd.checked) (os := os) (X := fun w _ => laidMetH Tryd.prog laidT w) false (World.doorLaid Tryd.prog 400 os) #[.slice none 0 0, .agg #[.int .u8 0, .int .u8 0, .int .u8 0, .int .u8 0, .int .u8 0, .int .u8 0, .int .u8 0, .int .u8 0, .int .u8 0, .int .u8 0, .int .u8 0, .int .u8 0, .int .u8 0, .int .u8 0, .int .u8 0, .int .u8 0, .int .u8 0, .int .u8 0, .int .u8 0, .int .u8 0, .int .u8 0, .int .u8 0, .int .u8 0, .int .u8 0, .int .u8 0, .int .u8 0, .int .u8 0, .int .u8 0, .int .u8 0, .int .u8 0, .int .u8 0, .int .u8 0], .agg #[.int .u8 0, .int .u8 0, .int .u8 0, .int .u8 0, .int .u8 0, .int .u8 0, .int .u8 0, .int .u8 0, .int .u8 0, .int .u8 0, .int .u8 0, .int .u8 0, .int .u8 0, .int .u8 0, .int .u8 0, .int .u8 0], .slice none 0 0] 8 rfl (World.shaped_of_RefB (by kernel_rfl) (by kernel_rfl)) (by kernel_rfl) (by kernel_rfl) (by kernel_rfl) (door_met os _)) ?_
  intro W1 base args ds gs before hval0 hW _ _ hL _
  have hval : ∀ (j : Nat) t v, Tryd.f3.params[j]? = some t → args[j]? = some v → Value.okWide Tryd.prog W1 .any base t v := hval0
  have hW' := hW
  obtain ⟨p, q, hA0, hV, rfl, hfz, hnd⟩ := hW
  have hA : DataW.TrodAll enc Tryd.prog W1 0 (fun _ => true) true Tryd.f3.params.toList args.toList ds p := hA0
  rw [Tryd.params3] at hA hval
  obtain ⟨v0, vs0, d0, ds0, p0, q0, hargs, rfl, rfl, h0, r0⟩ := trodAll_cons hA
  obtain ⟨v1, vs1, d1, ds1, p1, q1, rfl, rfl, rfl, h1, r1⟩ := trodAll_cons r0
  obtain ⟨v2, vs2, d2, ds2, p2, q2, rfl, rfl, rfl, h2, r2⟩ := trodAll_cons r1
  obtain ⟨v3, vs3, d3, ds3, p3, q3, rfl, rfl, rfl, h3, r3⟩ := trodAll_cons r2
  obtain ⟨rfl, rfl, rfl⟩ := trodAll_nil r3
  obtain rfl : args = #[v0, v1, v2, v3] := by cases args; simp_all
  obtain ⟨rfl, rfl⟩ := trodVars_none hV
  obtain ⟨key, w0⟩ := open_list (k := .u8) Tryd.underlying22 Tryd.underlying5 (by kernel_rfl) (hval 0 22 v0 rfl rfl) h0
  obtain ⟨k, w1, u1, rfl⟩ := open_bytes Tryd.underlying24 Tryd.underlying5 (by kernel_rfl) (by kernel_rfl) (hval 1 24 v1 rfl rfl) h1
  obtain ⟨tag, w2, u2, rfl⟩ := open_bytes Tryd.underlying26 Tryd.underlying5 (by kernel_rfl) (by kernel_rfl) (hval 2 26 v2 rfl rfl) h2
  obtain ⟨l, w3⟩ := open_rows Tryd.underlying27 Tryd.underlying22 Tryd.underlying5 (by kernel_rfl) (by kernel_rfl) (hval 3 27 v3 rfl rfl) h3
  have hS := steps_of_laid hL
  clear hA0 hval0 hval hA hL
  refine (walk v0 key k tag v3 l W1 w0 w1 u1 w2 u2 w3 hS).mono fun e W' ⟨he, hg⟩ => ?_
  subst he
  exact ⟨_, rfl, law_post laidOut (by kernel_rfl) rfl (by kernel_rfl) Tryd.underlying4 hW' rfl hg⟩

theorem over : Rows.MacCodesSaid :=
  OpenClaim.holds_of_wide 3 Tryd.f3 rfl rfl rfl rfl rfl rfl rfl ⟨rfl, rfl, rfl, rfl, rfl⟩ rfl rfl rfl rfl rfl (by kernel_rfl) Tryd.func3 (by kernel_rfl)
    (of_decide_eq_true (by kernel_rfl)) (by unfold Func.isWrapper; first | (rw [if_pos (by decide +kernel)]; kernel_rfl) | (rw [if_neg (by decide +kernel)]; exact ⟨rfl, rfl⟩))
    (fun os started H enc _ => lifted os started H enc)

theorem proved : Rows.MacCodesCardSaid :=
  Claim7.holds_tied_plain_at .later [] [.data] true (true, "69e4521ff2fdce1f051ee1d69ed6419597ed824af55348f8ef85668a2928a1fb") false
    over (fun _ h => by cases h) (by kernel_rfl) (fun _ h => by cases h) macCodes_row_tie rfl ⟨rfl, rfl⟩ (by kernel_rfl) rfl
    (fun f fn hf hfn => by
      obtain rfl : f = 3 := Option.some.inj ((show Tryd.prog.funcNamed "pelorus/peloruslaw09.MacCodes" = some 3 by kernel_rfl).symm.trans hf) |>.symm
      obtain rfl : fn = Tryd.f3 := (Option.some.inj (Tryd.func3.symm.trans hfn)).symm
      exact ⟨by kernel_rfl, fun j t ht => by
        rw [Tryd.params3] at ht
        have hm : t ∈ [22, 24, 26, 27] := by simpa using Array.mem_of_getElem? ht
        have hall : ([22, 24, 26, 27].all fun u => !Tryd.prog.wantsStandIn u) = true := by kernel_rfl
        exact (show Tryd.prog.wantsStandIn t = false by simpa using List.all_eq_true.1 hall t hm)⟩)
    (by kernel_rfl)
end Go.Proofs.YtdbmkelcgfmclaaDoor.macCodes
