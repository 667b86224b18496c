/- The digest hangs on no pieces. -/
import Derived.Test.YtjgmmocadkcghaaDoorRows
import Derived.Test.YtjgmmocadkcghaaDoorCards
import Derived.Test.YtjgmmocadkcghaaDoorTie
import Derived.Test.YtjgmmocadkcghaaDoorHasEq
import Derived.Test.YtjgmmocadkcghaaDoorBaseN
import Derived.Test.YtjgmmocadkcghaaDoorLawH
import Derived.WalkKit
import Derived.ProofKit
import Derived.OpenShut
import Derived.SevenTiedAt
import Derived.LaidMore
import Derived.Stop.Joined
import Derived.Deep.RegionHeld3
namespace Go.Proofs.YtjgmmocadkcghaaDoor.hashPieces
set_option maxRecDepth 100000
open Go.ChangeShapes Go.WideShapes Go.ChangeAt Go.RowKit
set_option linter.unusedVariables false

attribute [local go_sem] cell_re
theorem take_drop_all (l : List Int) (f k : Nat) (hf : f ≤ l.length) : l.take f ++ (l.drop f).take k = l.take (f + k) := by rw [List.take_add]
theorem half_range {n : Int} (h : (Lit.int .i64 n).wf = true) : -9223372036854775808 ≤ n ∧ n ≤ 9223372036854775807 := by
  simp [Lit.wf, IntKind.min, IntKind.max, IntKind.signed, IntKind.bits] at h
  exact ⟨by omega, by omega⟩
theorem byte_list {xs : List Int} (h : ∀ z ∈ xs, (Lit.int .u8 z).wf = true) : Byted xs := fun z hz => by
  have := h z hz
  simp [Lit.wf, IntKind.min, IntKind.max, IntKind.signed, IntKind.bits] at this
  exact ⟨by omega, by omega⟩
set_option maxRecDepth 200000 in
set_option maxHeartbeats 8000000 in
theorem walk (v : Value) (xs0 : List Int) (v2 : Value) (ats : List Int) (w : World) (hx : IntsAt .u8 w v xs0) (ha : IntsAt .i64 w v2 ats) (hS : Steps w) : Calls Tryd.prog 5 #[v, v2] w fun e w' => e = .returned (.bool true) ∧ Below w.heap.size w w' := by
  obtain ⟨p, cap, rfl, hc0, hc1, hwf, hat⟩ := hx
  obtain ⟨p2, cap2, rfl, hc2, hc3, hwf2, hat2⟩ := ha
  unfold maxLen at hc1 hc3
  have hxb := byte_list hwf
  have hx0 : At .u8 w p xs0 := hat
  obtain ⟨iE, hiE⟩ : ∃ i, Tryd.prog.info? 5 = some i := by cases h : Tryd.prog.info? 5 with
    | none => have h2 : (Tryd.prog.info? 5).isSome = true := (by kernel_rfl); rw [h] at h2; cases h2
    | some i => exact ⟨i, rfl⟩
  obtain ⟨n0, hn0⟩ : ∃ n, Hid (xs0.length = n) := ⟨_, rfl⟩
  obtain ⟨n2, hn2⟩ : ∃ n, Hid (ats.length = n) := ⟨_, rfl⟩
  obtain ⟨m, hm⟩ : ∃ m, Hid (min n0 1000 = m) := ⟨_, rfl⟩
  have hm1 : m ≤ 1000 := by rw [← hm.out]; omega
  have hm2 : m ≤ n0 := by rw [← hm.out]; omega
  have hmi : Hid (min (n0 : Int) 1000 = (m : Int)) := by show _ = _; rw [← hm.out]; omega
  obtain ⟨xs, hxs⟩ : ∃ xs, Hid (xs0.take 1000 = xs) := ⟨_, rfl⟩
  have hxl : Hid (xs.length = m) := by show _ = _; rw [← hxs.out, List.length_take, hn0.out, ← hm.out]; omega
  have hxB : Byted xs := by rw [← hxs.out]; exact hxb.take _
  have hxA : At .u8 w p xs := by rw [← hxs.out]; exact hx0.take _
  have hmc : m ≤ cap := by have := hn0.out; omega
  have hXB := Lib.hid hxB
  have hXA := Lib.hid hxA
  have hWF2 := Lib.hid hwf2
  have hAT2 := Lib.hid hat2
  have d0 := Lib.hid (works w hS)
  have hT0 := Lib.hid hS
  rw [hn0.out, hn2.out]
  have j0 : (m : Int) ≤ (cap : Int) := by omega
  have jc : (cap : Int) ≤ 9223372036854775807 := by omega
  have jn : (n2 : Int) ≤ 9223372036854775807 := by have := hn2.out; omega
  have hw0 := hS.lt
  clear hwf hat hwf2 hat2 hxB hxA hxb hx0 hc0 hc1 hc2 hc3 hS hmi
  go_enter Tryd.func5, Tryd.ntmps5
  go_upto_region 3 with (first
    | (go_at_call 10; refine d0.out.mono ?_; rintro e' w1 ⟨rfl, hB1⟩))
  go_cut [0] (fun s0 wx => s0 = .slice p m cap ∧ Below w.heap.size w wx)
  case first =>
    by_cases hle : n0 ≤ 1000
    · have hmm : Hid (n0 = m) := by have := hm.out; show _ = _; omega
      have k1 : (n0 : Int) ≤ 1000 := by omega
      have k2 : (n0 : Int) ≤ (cap : Int) := by have := hmm.out; omega
      have k3 : n0 ≤ cap := by omega
      go_wp2
      go_meet
      exact ⟨by rw [hmm.out], hB1⟩
    · have hmm : Hid (1000 = m) := by have := hm.out; show _ = _; omega
      have k1 : ¬ (n0 : Int) ≤ 1000 := by omega
      have k4 : (1000 : Int) < (n0 : Int) := by omega
      have k2 : (1000 : Int) ≤ (cap : Int) := by have := hmm.out; omega
      have k3 : 1000 ≤ cap := by omega
      go_wp2
      go_meet
      exact ⟨by rw [hmm.out], hB1⟩
  case rest =>
  clear hB1
  obtain ⟨rfl, hB1⟩ := hcut
  clear hm hm2 hn0 hxs d0
  obtain ⟨Y, hY⟩ : ∃ Y, Hid ((ints .u8 (sha xs)).toArray = Y) := ⟨_, rfl⟩
  have hq := fun W1 : World => equal_ints (P := Tryd.prog) (t := 27) (e := 5) (k := .u8) Tryd.underlying27 hiE (by kernel_rfl) (by kernel_rfl) Tryd.underlying5 (sha xs) rfl W1
  rw [hY.out] at hq
  have dO : Hid (∀ W5 : World, Below w.heap.size w W5 → Calls Tryd.prog 8 #[.slice (some ⟨W5.heap.size, 0, none⟩) 1 1] (W5.alloc (.cells #[.slice p m cap] 23)) fun e w' => e = .returned (.agg Y) ∧ Below (W5.alloc (.cells #[.slice p m cap] 23)).heap.size (W5.alloc (.cells #[.slice p m cap] 23)) w') := fun W5 h5 => by
    have hP : Parts (W5.alloc (.cells #[.slice p m cap] 23)) (some ⟨W5.heap.size, 0, none⟩) [xs] := by
      refine Or.inr ⟨_, _, rfl, by simp, fun j hj => ?_⟩
      replace hj : j < 1 := hj
      obtain rfl : j = 0 := by omega
      exact ⟨.slice p m cap, by simp [go_sem], p, m, cap, rfl, hxl.out.symm, hmc, (hXA.out.call h5).alloc _, hXB.out⟩
    have hb1 : ∀ k, Byted (joinTo [xs] k) := fun k x hx => by
      unfold joinTo at hx
      rw [List.mem_flatten] at hx
      obtain ⟨y, hy, hxy⟩ := hx
      obtain rfl := List.mem_singleton.mp (List.mem_of_mem_take hy)
      exact hXB.out x hxy
    have := hashOf [xs] hb1 (by simp; rw [hxl.out]; omega) 1 1 rfl (by decide) _ _ ((hT0.out.call h5).call ((Below.refl _ _).alloc (Nat.le_refl _) _)) hP
    rw [show ([xs] : List (List Int)).flatten = xs by simp, hY.out] at this
    exact this
  go_upto_region 5 with (go_at_call 11; refine (hashNew _).mono ?_; rintro e' w2 ⟨g, rfl, hg, hR2, hB2⟩; have hBw2 := below_then hB1 hB2; have hgw : w.heap.size ≤ g := (by have := hB1.size; omega); have hg0 : 0 < g := (by omega); clear hg)
  clear hB1 hB2
  go_wp2
  go_loopw [6, 7] (fun v6 v7 wr => ∃ (fr i : Nat), fr ≤ m ∧ i ≤ 20 ∧ v6 = .int .i64 fr ∧ v7 = .int .i64 i ∧ Has wr g (xs.take fr) ∧ Below w.heap.size w wr) (fun _ v7 _ => 20 - (intOf v7).toNat)
  case atStart => exact ⟨0, 0, Nat.zero_le _, by omega, rfl, rfl, hR2, hBw2⟩
  case round =>
    clear hR2 hBw2
    obtain ⟨fr, i, hfr, hi, rfl, rfl, hR, hB⟩ := hrel
    have k0 : (fr : Int) ≤ (m : Int) := by omega
    have k1 : (i : Int) ≤ 20 := by omega
    have hTr := hT0.out.call hB
    have hXr := hXA.out.call hB
    by_cases h1 : i < n2
    · by_cases h2 : i < 20
      · have hNN := hn2.out
        rcases hAT2.out with h | ⟨b2, off2, rfl, hbl2, hc2⟩
        · exact absurd hNN (by rw [h]; simp; omega)
        have c2 := (hB.cell (p := ⟨b2, off2 + i, none⟩) hbl2).trans (hc2 i (by omega))
        have lb2 : b2 < wr.heap.size := Nat.lt_of_lt_of_le hbl2 hB.size
        obtain ⟨ar0, ar1⟩ := half_range (hWF2.out (ats.getD i 0) (by rw [List.getD_eq_getElem?_getD, List.getElem?_eq_getElem (show i < ats.length by omega)]; exact List.getElem_mem _))
        generalize ats.getD i 0 = av at c2 ar0 ar1
        obtain ⟨k, hk, dA0⟩ := baseAmongN av ⟨ar0, ar1⟩ (m - fr + 1) (by omega) (by omega) wr
        rw [show ((m - fr + 1 : Nat) : Int) = (m : Int) - (fr : Int) + 1 by omega] at dA0
        have dA := Lib.hid dA0
        have hi1 : (i : Int) < (n2 : Int) := by omega
        have hi2 : (i : Int) < 20 := by omega
        clear hc2 hNN dA0 ar0 ar1 hXr
        obtain ⟨ys, hys⟩ : ∃ ys, Hid ((xs.drop fr).take k = ys) := ⟨_, rfl⟩
        have hyl : Hid (ys.length = k) := by show _ = _; rw [← hys.out, List.length_take, List.length_drop, hxl.out]; omega
        have hyb := Lib.hid (show Byted ys by rw [← hys.out]; exact (hXB.out.drop fr).take k)
        have hnx : Hid (xs.take fr ++ ys = xs.take (fr + k)) := by show _ = _; rw [← hys.out, List.take_add]
        have hW := Lib.hid (fun (W1 : World) (hT1 : Steps W1) (hR1 : Has W1 g (xs.take fr)) (hB1 : Below wr.heap.size wr W1) (q : Option Addr) (n' c' : Nat) (hn : n' = k) (hc : n' ≤ c') (hA : At .u8 wr q ys) (hne : 0 < n' → ∀ a, q = some a → a.block ≠ g) =>
          hashWrite (xs.take fr) ys (hXB.out.take _) hyb.out (by rw [List.length_take, hxl.out, hyl.out]; omega) g hg0 q n' c' hne (by rw [hyl.out]; exact hn) hc W1 (hA.call hB1) hT1 hR1)
        have hR' := Lib.hid hR
        have s1 : (fr : Int) + (k : Int) ≤ (cap : Int) := by omega
        have s2 : (fr : Int) ≤ (cap : Int) := by omega
        have s3 : fr + k ≤ cap := by omega
        have s4 : fr ≤ cap := by omega
        have s5 : (k : Int) ≤ 1000 := by omega
        have s6 : (fr : Int) ≤ 1000 := by omega
        clear hR
        rcases (id hXA.out) with h0 | ⟨b, off, rfl, hbl, -⟩
        · have hm0 : m = 0 := by rw [← hxl.out, h0]; rfl
          have hfr0 : fr = 0 := by omega
          have hyE : Hid (ys = []) := List.eq_nil_of_length_eq_zero (by rw [hyl.out]; omega)
          have hk0 := Lib.hid (show k = 0 by omega)
          subst hfr0
          clear hm0
          by_cases hcap : cap = 0
          · subst hcap
            go_wp2_with (first
              | (go_at_call 18; refine dA.out.mono ?_; rintro e' w3 ⟨rfl, hB3⟩; have hBw3 := below_then hB hB3; have hR3 := hR'.out.call hB3; have hT3 := hTr.call hB3)
              | (go_at_call 14; refine (hW.out w3 hT3 hR3 hB3 _ _ _ (by omega) (by omega) (Or.inl hyE.out) (fun h => by exfalso; have := hk0.out; omega)).mono ?_; rintro e' w4 ⟨rfl, hR4, hO4⟩))
            go_roundw
            case rel => exact ⟨0 + k, i + 1, by omega, by omega, by go_num, by go_num, by rw [hnx.out] at hR4; exact hR4, hBw3.trans (hO4.below hgw hBw3.size)⟩
            case measure => simp [intOf]; omega
          · have hcap' : ¬ (cap : Int) = 0 := by omega
            have hcap2 : (0 : Int) < (cap : Int) := by omega
            go_wp2_with (first
              | (go_at_call 18; refine dA.out.mono ?_; rintro e' w3 ⟨rfl, hB3⟩; have hBw3 := below_then hB hB3; have hR3 := hR'.out.call hB3; have hT3 := hTr.call hB3)
              | (go_at_call 14; refine (hW.out w3 hT3 hR3 hB3 _ _ _ (by omega) (by omega) (Or.inl hyE.out) (fun h => by exfalso; have := hk0.out; omega)).mono ?_; rintro e' w4 ⟨rfl, hR4, hO4⟩))
            go_roundw
            case rel => exact ⟨0 + k, i + 1, by omega, by omega, by go_num, by go_num, by rw [hnx.out] at hR4; exact hR4, hBw3.trans (hO4.below hgw hBw3.size)⟩
            case measure => simp [intOf]; omega
        · by_cases hcap : cap = fr
          · have hk0 := Lib.hid (show k = 0 by omega)
            obtain rfl : fr = cap := hcap.symm
            have hyE : Hid (ys = []) := List.eq_nil_of_length_eq_zero (by rw [hyl.out]; omega)
            clear hcap
            go_wp2_with (first
              | (go_at_call 18; refine dA.out.mono ?_; rintro e' w3 ⟨rfl, hB3⟩; have hBw3 := below_then hB hB3; have hR3 := hR'.out.call hB3; have hT3 := hTr.call hB3)
              | (go_at_call 14; refine (hW.out w3 hT3 hR3 hB3 _ _ _ (by omega) (by omega) (Or.inl hyE.out) (fun h => by exfalso; have := hk0.out; omega)).mono ?_; rintro e' w4 ⟨rfl, hR4, hO4⟩))
            go_roundw
            case rel => exact ⟨fr + k, i + 1, by omega, by omega, by go_num, by go_num, by rw [hnx.out] at hR4; exact hR4, hBw3.trans (hO4.below hgw hBw3.size)⟩
            case measure => simp [intOf]; omega
          · have hcap' : ¬ (cap : Int) = (fr : Int) := by omega
            have hyA := Lib.hid (((hXA.out.call hB).drop fr).take k)
            rw [hys.out] at hyA
            go_wp2_with (first
              | (go_at_call 18; refine dA.out.mono ?_; rintro e' w3 ⟨rfl, hB3⟩; have hBw3 := below_then hB hB3; have hR3 := hR'.out.call hB3; have hT3 := hTr.call hB3)
              | (go_at_call 14; refine (hW.out w3 hT3 hR3 hB3 _ _ _ (by omega) (by omega) (hyA.out) (fun _ a ha => by injection ha with ha; subst ha; show b ≠ g; omega)).mono ?_; rintro e' w4 ⟨rfl, hR4, hO4⟩))
            go_roundw
            case rel => exact ⟨fr + k, i + 1, by omega, by omega, by go_num, by go_num, by rw [hnx.out] at hR4; exact hR4, hBw3.trans (hO4.below hgw hBw3.size)⟩
            case measure => simp [intOf]; omega
      · have hi1 : (i : Int) < (n2 : Int) := by omega
        have hi2 : ¬ (i : Int) < 20 := by omega
        clear hXr
        have hfr' : fr ≤ m := hfr
        obtain ⟨k, hk⟩ : ∃ k, m - fr = k := ⟨_, rfl⟩
        have hkm : k + fr = m := by omega
        have hfull : Hid (xs.take (fr + k) = xs) := List.take_of_length_le (by rw [hxl.out]; omega)
        have hmk : m - fr = k := hk
        clear hk
        obtain ⟨ys, hys⟩ : ∃ ys, Hid ((xs.drop fr).take k = ys) := ⟨_, rfl⟩
        have hyl : Hid (ys.length = k) := by show _ = _; rw [← hys.out, List.length_take, List.length_drop, hxl.out]; omega
        have hyb := Lib.hid (show Byted ys by rw [← hys.out]; exact (hXB.out.drop fr).take k)
        have hnx : Hid (xs.take fr ++ ys = xs.take (fr + k)) := by show _ = _; rw [← hys.out, List.take_add]
        have hW := Lib.hid (fun (W1 : World) (hT1 : Steps W1) (hR1 : Has W1 g (xs.take fr)) (hB1 : Below wr.heap.size wr W1) (q : Option Addr) (n' c' : Nat) (hn : n' = k) (hc : n' ≤ c') (hA : At .u8 wr q ys) (hne : 0 < n' → ∀ a, q = some a → a.block ≠ g) =>
          hashWrite (xs.take fr) ys (hXB.out.take _) hyb.out (by rw [List.length_take, hxl.out, hyl.out]; omega) g hg0 q n' c' hne (by rw [hyl.out]; exact hn) hc W1 (hA.call hB1) hT1 hR1)
        have hR' := Lib.hid hR
        have s1 : (fr : Int) + (k : Int) ≤ (cap : Int) := by omega
        have s2 : (fr : Int) ≤ (cap : Int) := by omega
        have s3 : fr + k ≤ cap := by omega
        have s4 : fr ≤ cap := by omega
        have s5 : (k : Int) ≤ 1000 := by omega
        have s6 : (fr : Int) ≤ 1000 := by omega
        clear hR
        rcases (id hXA.out) with h0 | ⟨b, off, rfl, hbl, -⟩
        · have hm0 : m = 0 := by rw [← hxl.out, h0]; rfl
          have hfr0 : fr = 0 := by omega
          have hyE : Hid (ys = []) := List.eq_nil_of_length_eq_zero (by rw [hyl.out]; omega)
          have hk0 := Lib.hid (show k = 0 by omega)
          subst hfr0
          clear hm0
          by_cases hcap : cap = 0
          · subst hcap
            go_upto_region 13 with (go_at_call 14; refine (hW.out wr hTr hR'.out (Below.refl _ _) _ _ _ (by omega) (by omega) (Or.inl hyE.out) (fun h => by exfalso; have := hk0.out; omega)).mono ?_; rintro e' w4 ⟨rfl, hR4, hO4⟩)
            rw [hnx.out, hfull.out] at hR4
            have hBw4 := hB.trans (hO4.below hgw hB.size)
            have hT4 := hT0.out.call hBw4
            have dS := Lib.hid (hashSum xs hXB.out (by rw [hxl.out]; omega) g w4 hT4 hR4)
            rw [hY.out] at dS
            go_wp2_with (first
              | (go_at_call 15; refine dS.out.mono ?_; rintro e' w5 ⟨rfl, hB5⟩; have hBw5 := below_then hBw4 hB5; have hR5 := hR4.call hB5)
              | (go_at_call 8; refine (dO.out w5 hBw5).mono ?_; rintro e' w6 ⟨rfl, hB6⟩; have hR6 := (hR5.alloc _).call hB6; have hBw6 := below_then (hBw5.alloc hBw5.size _) hB6; have dL := hashLen xs g w6 hR6; rw [hxl.out] at dL)
              | (go_at_call 17; refine dL.mono ?_; rintro e' w7 ⟨rfl, rfl⟩))
            go_ret
            exact ⟨rfl, hBw6⟩
          · have hcap' : ¬ (cap : Int) = 0 := by omega
            have hcap2 : (0 : Int) < (cap : Int) := by omega
            go_upto_region 13 with (go_at_call 14; refine (hW.out wr hTr hR'.out (Below.refl _ _) _ _ _ (by omega) (by omega) (Or.inl hyE.out) (fun h => by exfalso; have := hk0.out; omega)).mono ?_; rintro e' w4 ⟨rfl, hR4, hO4⟩)
            rw [hnx.out, hfull.out] at hR4
            have hBw4 := hB.trans (hO4.below hgw hB.size)
            have hT4 := hT0.out.call hBw4
            have dS := Lib.hid (hashSum xs hXB.out (by rw [hxl.out]; omega) g w4 hT4 hR4)
            rw [hY.out] at dS
            go_wp2_with (first
              | (go_at_call 15; refine dS.out.mono ?_; rintro e' w5 ⟨rfl, hB5⟩; have hBw5 := below_then hBw4 hB5; have hR5 := hR4.call hB5)
              | (go_at_call 8; refine (dO.out w5 hBw5).mono ?_; rintro e' w6 ⟨rfl, hB6⟩; have hR6 := (hR5.alloc _).call hB6; have hBw6 := below_then (hBw5.alloc hBw5.size _) hB6; have dL := hashLen xs g w6 hR6; rw [hxl.out] at dL)
              | (go_at_call 17; refine dL.mono ?_; rintro e' w7 ⟨rfl, rfl⟩))
            go_ret
            exact ⟨rfl, hBw6⟩
        · by_cases hcap : cap = fr
          · have hk0 := Lib.hid (show k = 0 by omega)
            obtain rfl : fr = cap := hcap.symm
            have hyE : Hid (ys = []) := List.eq_nil_of_length_eq_zero (by rw [hyl.out]; omega)
            clear hcap
            go_upto_region 13 with (go_at_call 14; refine (hW.out wr hTr hR'.out (Below.refl _ _) _ _ _ (by omega) (by omega) (Or.inl hyE.out) (fun h => by exfalso; have := hk0.out; omega)).mono ?_; rintro e' w4 ⟨rfl, hR4, hO4⟩)
            rw [hnx.out, hfull.out] at hR4
            have hBw4 := hB.trans (hO4.below hgw hB.size)
            have hT4 := hT0.out.call hBw4
            have dS := Lib.hid (hashSum xs hXB.out (by rw [hxl.out]; omega) g w4 hT4 hR4)
            rw [hY.out] at dS
            go_wp2_with (first
              | (go_at_call 15; refine dS.out.mono ?_; rintro e' w5 ⟨rfl, hB5⟩; have hBw5 := below_then hBw4 hB5; have hR5 := hR4.call hB5)
              | (go_at_call 8; refine (dO.out w5 hBw5).mono ?_; rintro e' w6 ⟨rfl, hB6⟩; have hR6 := (hR5.alloc _).call hB6; have hBw6 := below_then (hBw5.alloc hBw5.size _) hB6; have dL := hashLen xs g w6 hR6; rw [hxl.out] at dL)
              | (go_at_call 17; refine dL.mono ?_; rintro e' w7 ⟨rfl, rfl⟩))
            go_ret
            exact ⟨rfl, hBw6⟩
          · have hcap' : ¬ (cap : Int) = (fr : Int) := by omega
            have hyA := Lib.hid (((hXA.out.call hB).drop fr).take k)
            rw [hys.out] at hyA
            go_upto_region 13 with (go_at_call 14; refine (hW.out wr hTr hR'.out (Below.refl _ _) _ _ _ (by omega) (by omega) (hyA.out) (fun _ a ha => by injection ha with ha; subst ha; show b ≠ g; omega)).mono ?_; rintro e' w4 ⟨rfl, hR4, hO4⟩)
            rw [hnx.out, hfull.out] at hR4
            have hBw4 := hB.trans (hO4.below hgw hB.size)
            have hT4 := hT0.out.call hBw4
            have dS := Lib.hid (hashSum xs hXB.out (by rw [hxl.out]; omega) g w4 hT4 hR4)
            rw [hY.out] at dS
            go_wp2_with (first
              | (go_at_call 15; refine dS.out.mono ?_; rintro e' w5 ⟨rfl, hB5⟩; have hBw5 := below_then hBw4 hB5; have hR5 := hR4.call hB5)
              | (go_at_call 8; refine (dO.out w5 hBw5).mono ?_; rintro e' w6 ⟨rfl, hB6⟩; have hR6 := (hR5.alloc _).call hB6; have hBw6 := below_then (hBw5.alloc hBw5.size _) hB6; have dL := hashLen xs g w6 hR6; rw [hxl.out] at dL)
              | (go_at_call 17; refine dL.mono ?_; rintro e' w7 ⟨rfl, rfl⟩))
            go_ret
            exact ⟨rfl, hBw6⟩
    · have hi1 : ¬ (i : Int) < (n2 : Int) := by omega
      clear hXr
      have hfr' : fr ≤ m := hfr
      obtain ⟨k, hk⟩ : ∃ k, m - fr = k := ⟨_, rfl⟩
      have hkm : k + fr = m := by omega
      have hfull : Hid (xs.take (fr + k) = xs) := List.take_of_length_le (by rw [hxl.out]; omega)
      have hmk : m - fr = k := hk
      clear hk
      obtain ⟨ys, hys⟩ : ∃ ys, Hid ((xs.drop fr).take k = ys) := ⟨_, rfl⟩
      have hyl : Hid (ys.length = k) := by show _ = _; rw [← hys.out, List.length_take, List.length_drop, hxl.out]; omega
      have hyb := Lib.hid (show Byted ys by rw [← hys.out]; exact (hXB.out.drop fr).take k)
      have hnx : Hid (xs.take fr ++ ys = xs.take (fr + k)) := by show _ = _; rw [← hys.out, List.take_add]
      have hW := Lib.hid (fun (W1 : World) (hT1 : Steps W1) (hR1 : Has W1 g (xs.take fr)) (hB1 : Below wr.heap.size wr W1) (q : Option Addr) (n' c' : Nat) (hn : n' = k) (hc : n' ≤ c') (hA : At .u8 wr q ys) (hne : 0 < n' → ∀ a, q = some a → a.block ≠ g) =>
        hashWrite (xs.take fr) ys (hXB.out.take _) hyb.out (by rw [List.length_take, hxl.out, hyl.out]; omega) g hg0 q n' c' hne (by rw [hyl.out]; exact hn) hc W1 (hA.call hB1) hT1 hR1)
      have hR' := Lib.hid hR
      have s1 : (fr : Int) + (k : Int) ≤ (cap : Int) := by omega
      have s2 : (fr : Int) ≤ (cap : Int) := by omega
      have s3 : fr + k ≤ cap := by omega
      have s4 : fr ≤ cap := by omega
      have s5 : (k : Int) ≤ 1000 := by omega
      have s6 : (fr : Int) ≤ 1000 := by omega
      clear hR
      rcases (id hXA.out) with h0 | ⟨b, off, rfl, hbl, -⟩
      · have hm0 : m = 0 := by rw [← hxl.out, h0]; rfl
        have hfr0 : fr = 0 := by omega
        have hyE : Hid (ys = []) := List.eq_nil_of_length_eq_zero (by rw [hyl.out]; omega)
        have hk0 := Lib.hid (show k = 0 by omega)
        subst hfr0
        clear hm0
        by_cases hcap : cap = 0
        · subst hcap
          go_upto_region 13 with (go_at_call 14; refine (hW.out wr hTr hR'.out (Below.refl _ _) _ _ _ (by omega) (by omega) (Or.inl hyE.out) (fun h => by exfalso; have := hk0.out; omega)).mono ?_; rintro e' w4 ⟨rfl, hR4, hO4⟩)
          rw [hnx.out, hfull.out] at hR4
          have hBw4 := hB.trans (hO4.below hgw hB.size)
          have hT4 := hT0.out.call hBw4
          have dS := Lib.hid (hashSum xs hXB.out (by rw [hxl.out]; omega) g w4 hT4 hR4)
          rw [hY.out] at dS
          go_wp2_with (first
            | (go_at_call 15; refine dS.out.mono ?_; rintro e' w5 ⟨rfl, hB5⟩; have hBw5 := below_then hBw4 hB5; have hR5 := hR4.call hB5)
            | (go_at_call 8; refine (dO.out w5 hBw5).mono ?_; rintro e' w6 ⟨rfl, hB6⟩; have hR6 := (hR5.alloc _).call hB6; have hBw6 := below_then (hBw5.alloc hBw5.size _) hB6; have dL := hashLen xs g w6 hR6; rw [hxl.out] at dL)
            | (go_at_call 17; refine dL.mono ?_; rintro e' w7 ⟨rfl, rfl⟩))
          go_ret
          exact ⟨rfl, hBw6⟩
        · have hcap' : ¬ (cap : Int) = 0 := by omega
          have hcap2 : (0 : Int) < (cap : Int) := by omega
          go_upto_region 13 with (go_at_call 14; refine (hW.out wr hTr hR'.out (Below.refl _ _) _ _ _ (by omega) (by omega) (Or.inl hyE.out) (fun h => by exfalso; have := hk0.out; omega)).mono ?_; rintro e' w4 ⟨rfl, hR4, hO4⟩)
          rw [hnx.out, hfull.out] at hR4
          have hBw4 := hB.trans (hO4.below hgw hB.size)
          have hT4 := hT0.out.call hBw4
          have dS := Lib.hid (hashSum xs hXB.out (by rw [hxl.out]; omega) g w4 hT4 hR4)
          rw [hY.out] at dS
          go_wp2_with (first
            | (go_at_call 15; refine dS.out.mono ?_; rintro e' w5 ⟨rfl, hB5⟩; have hBw5 := below_then hBw4 hB5; have hR5 := hR4.call hB5)
            | (go_at_call 8; refine (dO.out w5 hBw5).mono ?_; rintro e' w6 ⟨rfl, hB6⟩; have hR6 := (hR5.alloc _).call hB6; have hBw6 := below_then (hBw5.alloc hBw5.size _) hB6; have dL := hashLen xs g w6 hR6; rw [hxl.out] at dL)
            | (go_at_call 17; refine dL.mono ?_; rintro e' w7 ⟨rfl, rfl⟩))
          go_ret
          exact ⟨rfl, hBw6⟩
      · by_cases hcap : cap = fr
        · have hk0 := Lib.hid (show k = 0 by omega)
          obtain rfl : fr = cap := hcap.symm
          have hyE : Hid (ys = []) := List.eq_nil_of_length_eq_zero (by rw [hyl.out]; omega)
          clear hcap
          go_upto_region 13 with (go_at_call 14; refine (hW.out wr hTr hR'.out (Below.refl _ _) _ _ _ (by omega) (by omega) (Or.inl hyE.out) (fun h => by exfalso; have := hk0.out; omega)).mono ?_; rintro e' w4 ⟨rfl, hR4, hO4⟩)
          rw [hnx.out, hfull.out] at hR4
          have hBw4 := hB.trans (hO4.below hgw hB.size)
          have hT4 := hT0.out.call hBw4
          have dS := Lib.hid (hashSum xs hXB.out (by rw [hxl.out]; omega) g w4 hT4 hR4)
          rw [hY.out] at dS
          go_wp2_with (first
            | (go_at_call 15; refine dS.out.mono ?_; rintro e' w5 ⟨rfl, hB5⟩; have hBw5 := below_then hBw4 hB5; have hR5 := hR4.call hB5)
            | (go_at_call 8; refine (dO.out w5 hBw5).mono ?_; rintro e' w6 ⟨rfl, hB6⟩; have hR6 := (hR5.alloc _).call hB6; have hBw6 := below_then (hBw5.alloc hBw5.size _) hB6; have dL := hashLen xs g w6 hR6; rw [hxl.out] at dL)
            | (go_at_call 17; refine dL.mono ?_; rintro e' w7 ⟨rfl, rfl⟩))
          go_ret
          exact ⟨rfl, hBw6⟩
        · have hcap' : ¬ (cap : Int) = (fr : Int) := by omega
          have hyA := Lib.hid (((hXA.out.call hB).drop fr).take k)
          rw [hys.out] at hyA
          go_upto_region 13 with (go_at_call 14; refine (hW.out wr hTr hR'.out (Below.refl _ _) _ _ _ (by omega) (by omega) (hyA.out) (fun _ a ha => by injection ha with ha; subst ha; show b ≠ g; omega)).mono ?_; rintro e' w4 ⟨rfl, hR4, hO4⟩)
          rw [hnx.out, hfull.out] at hR4
          have hBw4 := hB.trans (hO4.below hgw hB.size)
          have hT4 := hT0.out.call hBw4
          have dS := Lib.hid (hashSum xs hXB.out (by rw [hxl.out]; omega) g w4 hT4 hR4)
          rw [hY.out] at dS
          go_wp2_with (first
            | (go_at_call 15; refine dS.out.mono ?_; rintro e' w5 ⟨rfl, hB5⟩; have hBw5 := below_then hBw4 hB5; have hR5 := hR4.call hB5)
            | (go_at_call 8; refine (dO.out w5 hBw5).mono ?_; rintro e' w6 ⟨rfl, hB6⟩; have hR6 := (hR5.alloc _).call hB6; have hBw6 := below_then (hBw5.alloc hBw5.size _) hB6; have dL := hashLen xs g w6 hR6; rw [hxl.out] at dL)
            | (go_at_call 17; refine dL.mono ?_; rintro e' w7 ⟨rfl, rfl⟩))
          go_ret
          exact ⟨rfl, hBw6⟩


set_option maxRecDepth 100000 in
theorem lifted (os : Os) (started : os.Started) (H : Type) (enc : TypeId × Value → H) :
    ReturnsInHanded {} Tryd.checked os 5 .any (fun w args => (Rows.hashPiecesSpec.pre enc Tryd.prog Tryd.f5 [] false w args ∧ laidMetH Tryd.prog laidT w) ∧ sizedMet enc Tryd.prog Tryd.f5 (OpenSpec.ofChange Rows.hashPiecesSpec) false w args)
      (Rows.hashPiecesSpec.post enc Tryd.prog Tryd.f5 false true false false) := by
  refine returnsInHanded_of_change_and (C := Tryd.checked) (X := fun w _ => laidMetH Tryd.prog laidT w) (fun _ _ _ hh h => h.of_heap hh) own started (by kernel_rfl) Tryd.func5
    (ChangeSpec.witness_shaped (enc := enc) (C := Tryd.checked) (os := os) (X := fun w _ => laidMetH Tryd.prog laidT w) false (World.doorLaid Tryd.prog 400 os) #[.slice none 0 0, .slice none 0 0] 8 rfl (World.shaped_of_RefB (by kernel_rfl) (by kernel_rfl)) (by kernel_rfl) (by kernel_rfl) (by kernel_rfl) (door_met os _)) ?_
  intro W1 base args ds gs before hval0 hW _ _ hL _
  have hval : ∀ (j : Nat) t v, Tryd.f5.params[j]? = some t → args[j]? = some v → Value.okWide Tryd.prog W1 .any base t v := hval0
  have hW' := hW
  obtain ⟨p, q, hA0, hV, rfl, hfz, hnd⟩ := hW
  have hA : DataW.TrodAll enc Tryd.prog W1 0 (fun _ => true) true Tryd.f5.params.toList args.toList ds p := hA0
  rw [Tryd.params5] at hA hval
  obtain ⟨v0, vs0, d0, ds0, p0, q0, hargs, rfl, rfl, h0, r0⟩ := trodAll_cons hA
  obtain ⟨v1, vs1, d1, ds1, p1, q1, rfl, rfl, rfl, h1, r1⟩ := trodAll_cons r0
  obtain ⟨rfl, rfl, rfl⟩ := trodAll_nil r1
  obtain rfl : args = #[v0, v1] := by cases args; simp_all
  obtain ⟨rfl, rfl⟩ := trodVars_none hV
  obtain ⟨xs, w0⟩ := open_list (k := .u8) Tryd.underlying23 Tryd.underlying5 (by kernel_rfl) (hval 0 23 v0 rfl rfl) h0
  obtain ⟨ats, w1⟩ := open_list (k := .i64) Tryd.underlying32 Tryd.underlying3 (by kernel_rfl) (hval 1 32 v1 rfl rfl) h1
  have hS := steps_of_laid hL
  clear hA0 hval0 hval hA hL
  refine (walk v0 xs v1 ats W1 w0 w1 hS).mono fun e W' ⟨he, hg⟩ => ?_
  subst he
  exact ⟨_, rfl, law_post laidOut (by kernel_rfl) rfl (by kernel_rfl) Tryd.underlying4 hW' rfl hg⟩

theorem over : Rows.HashPiecesSaid :=
  OpenClaim.holds_of_wide 5 Tryd.f5 rfl rfl rfl rfl rfl rfl rfl ⟨rfl, rfl, rfl, rfl, rfl⟩ rfl rfl rfl rfl rfl (by kernel_rfl) Tryd.func5 (by kernel_rfl)
    (of_decide_eq_true (by kernel_rfl)) (by unfold Func.isWrapper; first | (rw [if_pos (by decide +kernel)]; kernel_rfl) | (rw [if_neg (by decide +kernel)]; exact ⟨rfl, rfl⟩))
    (fun os started H enc _ => lifted os started H enc)

theorem proved : Rows.HashPiecesCardSaid :=
  Claim7.holds_tied_plain_at .later [] [.data] true (true, "808dd09b969e894a5e111d73f5f435a29610888f0f5953703ea7ec9454c4ac23") false
    over (fun _ h => by cases h) (by kernel_rfl) (fun _ h => by cases h) hashPieces_row_tie rfl ⟨rfl, rfl⟩ (by kernel_rfl) rfl
    (fun f fn hf hfn => by
      obtain rfl : f = 5 := Option.some.inj ((show Tryd.prog.funcNamed "pelorus/peloruslaw08.HashPieces" = some 5 by kernel_rfl).symm.trans hf) |>.symm
      obtain rfl : fn = Tryd.f5 := (Option.some.inj (Tryd.func5.symm.trans hfn)).symm
      exact ⟨by kernel_rfl, fun j t ht => by
        rw [Tryd.params5] at ht
        have hm : t ∈ [23, 32] := by simpa using Array.mem_of_getElem? ht
        have hall : ([23, 32].all fun u => !Tryd.prog.wantsStandIn u) = true := by kernel_rfl
        exact (show Tryd.prog.wantsStandIn t = false by simpa using List.all_eq_true.1 hall t hm)⟩)
    (by kernel_rfl)
end Go.Proofs.YtjgmmocadkcghaaDoor.hashPieces
