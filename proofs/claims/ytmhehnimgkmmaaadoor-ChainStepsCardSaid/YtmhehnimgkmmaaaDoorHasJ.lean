/- A hasher takes bytes, in the program. -/
import Derived.Test.YtmhehnimgkmmaaaDoorHasI
import Derived.Test.YtmhehnimgkmmaaaDoorPairs
import Derived.Deep.RegionHeld3
import Derived.Deep.DeepCutAuto
import Derived.IntWalk
namespace Go.Proofs.YtmhehnimgkmmaaaDoor
set_option maxRecDepth 100000
open Go.RowKit
set_option linter.unusedVariables false
attribute [local go_sem] cell_re

theorem results_none {P : Program} {fn : Func} (h : fn.results = #[]) (tmps : Array Value) (w : World) : (results fn tmps).run P w = .ok (.tuple #[]) w := by simp [results, h]
theorem At.kept {k : IntKind} {g : Nat} {w w1 : World} {p : Option Addr} {zs : List Int} (h : At k w p zs) (ho : Only g w w1) (hp : ∀ a, p = some a → a.block ≠ g) : At k w1 p zs := h.only ho hp
theorem Steps.only {g : Nat} {w w' : World} (h : Steps w) (ho : Only g w w') (hg : 0 < g) : Steps w' := by
  obtain ⟨t, fr, h1⟩ := id h
  exact ⟨t, fr, (ho.block 0 h.lt (fun e => by injection e; omega)).trans h1⟩
set_option maxRecDepth 200000 in
set_option maxHeartbeats 8000000 in
theorem hashTake (l xs : List Int) (hl : Byted l) (hb : Byted xs) (hlen : l.length + xs.length ≤ 2000000000) (g : Nat) (hg0 : 0 < g) (p : Option Addr) (n c : Nat) (hp : 0 < n → ∀ a, p = some a → a.block ≠ g) (hn : n = xs.length) (hnc : n ≤ c) (w : World) (hx : At .u8 w p xs) (hT : Steps w) (hR : Has w g l) :
    Calls Tryd.prog 36 #[.pointer (some ⟨g, 0, none⟩), .slice p n c] w fun e w' => e = .returned (.tuple #[]) ∧ Has w' g (l ++ xs) ∧ Only g w w' := by
  have hLb := Lib.hid hl
  have hXb := Lib.hid hb
  have hLen := Lib.hid hlen
  have hN := Lib.hid hn
  have hO : Only g w w := Only.refl g w
  have hT0 := Lib.hid hT
  clear hl hb hlen hn hT
  go_enter Tryd.func36, Tryd.ntmps36
  go_wp2
  go_loopw [1] (fun v1 wr => ∃ (k : Nat) (q : Option Addr) (m d : Nat), v1 = .slice q m d ∧ k ≤ xs.length ∧ Hid (m = xs.length - k) ∧ m ≤ d ∧ At .u8 wr q (xs.drop k) ∧ (0 < m → ∀ a, q = some a → a.block ≠ g) ∧ Has wr g (l ++ xs.take k) ∧ Only g w wr) (fun v1 _ => sliceLen v1)
  case atStart => exact ⟨0, p, n, c, rfl, Nat.zero_le _, hN.out, hnc, hx, hp, by rw [List.take_zero, List.append_nil]; exact hR, hO⟩
  case round =>
    clear hx hp hR hO hnc
    obtain ⟨k, q, m, d, rfl, hk, hm, hmd, hx, hp, hR, hO⟩ := hrel
    by_cases hlt : 0 < m
    · have hmm := hm.out
      have hll := hLen.out
      have hDb : Byted (l ++ xs.take k) := hLb.out.append (hXb.out.take k)
      have hDl : (l ++ xs.take k).length = l.length + k := by rw [List.length_append, List.length_take, Nat.min_eq_left hk]
      obtain ⟨r, hr⟩ : ∃ r, Hid (Nat.min m (64 - (l.length + k) % 64) = r) := ⟨_, rfl⟩
      have hr1 : r ≤ m := by rw [← hr.out]; exact Nat.min_le_left _ _
      have hr2 : r ≤ 64 - (l.length + k) % 64 := by rw [← hr.out]; exact Nat.min_le_right _ _
      have hr3 : 0 < r := by
        rw [← hr.out]
        rcases Nat.le_total m (64 - (l.length + k) % 64) with h | h
        · rw [show Nat.min m (64 - (l.length + k) % 64) = m from Nat.min_eq_left h]; exact hlt
        · rw [show Nat.min m (64 - (l.length + k) % 64) = 64 - (l.length + k) % 64 from Nat.min_eq_right h]; omega
      obtain ⟨ys, hys⟩ : ∃ ys, Hid ((xs.drop k).take r = ys) := ⟨_, rfl⟩
      have hyl : ys.length = r := by rw [← hys.out, List.length_take, List.length_drop]; omega
      have hyb : Byted ys := by rw [← hys.out]; exact (hXb.out.drop k).take r
      have hnext : Hid (l ++ xs.take k ++ ys = l ++ xs.take (k + r)) := by
        show _ = _
        rw [← hys.out, List.append_assoc, List.take_add]
      have hdr : Hid ((xs.drop k).drop r = xs.drop (k + r)) := by show _ = _; rw [List.drop_drop]
      have hpiece := piece_some (l ++ xs.take k) ys
      have hfull := piece_full (l ++ xs.take k) ys
      have hspb := splice_byted hDb hyb
      have hsll := splice_length (l ++ xs.take k) ys
      rw [hDl] at hpiece hfull hspb hsll
      unfold Has at hR
      rw [hDl] at hR
      have hNb : l.length + k ≤ 2000000000 := by omega
      obtain ⟨N, hNN⟩ : ∃ N, Hid (l.length + k = N) := ⟨_, rfl⟩
      rw [hNN.out] at hr hr2 hpiece hfull hspb hsll hR hNb
      obtain ⟨A, hA⟩ : ∃ A, Hid (N % 64 = A) := ⟨_, rfl⟩
      rw [hA.out] at hr hr2 hpiece hfull hspb hsll
      have hA2 : A < 64 := by rw [← hA.out]; exact Nat.mod_lt _ (by decide)
      have f1 : (N : Int) % 64 = (A : Int) := by rw [← hA.out]; omega
      rw [hyl] at hpiece hfull hspb hsll
      have hNr : Hid ((l ++ xs.take (k + r)).length = N + r) := by show _ = _; rw [List.length_append, List.length_take, Nat.min_eq_left (by omega), ← hNN.out]; omega
      rw [hnext.out] at hpiece hfull
      obtain ⟨D2, hD2⟩ : ∃ D, Hid (l ++ xs.take (k + r) = D) := ⟨_, rfl⟩
      rw [hD2.out] at hpiece hfull hNr
      have hSok := Lib.hid (hstate_ok (l ++ xs.take k))
      generalize hstate (l ++ xs.take k) = S at hR hpiece hfull hSok
      generalize hlast (l ++ xs.take k) = L at hR hpiece hfull hspb hsll
      have hspb' := Lib.hid (hspb (by omega))
      have hsll' := Lib.hid (hsll (by omega))
      have c73 := hR.len
      have hgl := hR.lt
      obtain ⟨xk, hxk⟩ : ∃ x, Hid (xs.drop k = x) := ⟨_, rfl⟩
      have hxl : Hid (m = xk.length) := by show _ = _; rw [← hxk.out, List.length_drop]; exact hm.out
      rw [hxk.out] at hx hys hdr
      have j1 : (A : Int) ≤ 64 := by omega
      have j3 : (A : Int) < 64 := by omega
      have j2 : (0 : Int) < (m : Int) := by omega
      have j4 : (r : Int) ≤ (m : Int) := by omega
      have j5 : (r : Int) ≤ (d : Int) := by omega
      have j6 : r ≤ d := by omega
      have j7 : (N : Int) ≤ 2000000000 := by omega
      have j8 : (r : Int) ≤ 64 := by omega
      rcases (id hx) with h | ⟨b, off, rfl, hbl, -⟩
      · exact absurd hxl.out (by rw [h]; simp; omega)
      have hat := Lib.hid (hx.drop r)
      rw [hdr.out] at hat
      have hbg : b ≠ g := hp hlt _ rfl
      have hk2 := Lib.hid (show k + r ≤ xs.length by omega)
      have hm2 := Lib.hid (show m - r = xs.length - (k + r) by omega)
      have hmd2 := Lib.hid (show m - r ≤ d - r by omega)
      have hms := Lib.hid (show m - r < m by omega)
      have hys' := hys
      clear hspb hsll hDb hDl hyb hmm hll hNN hA
      go_upto_region 4 with (first
        | (refine walk_last (g := g) (at_ := A) (m := 64 - A) (xs := xk) (p := some ⟨b, off, none⟩) (n := m) rfl _ _ 48 48 rfl 5 Tryd.underlying48 (by kernel_rfl) rfl rfl hR rfl hx hxl.out (Only.refl g wr) hr.out hys.out ?_; intro w2 hR2 hO1; have hO2 := hO.trans hO1; have c73' := hR2.len; have f73 := (hR2.free 73 (by decide)).2; have gl2 := hR2.lt))
      have hR3 : Raw (w2.setCell ⟨g, 73, none⟩ (.int .i64 ((N : Int) + (r : Int)))) g S (splice L A ys) (N + r) := hR2.setLen (N + r)
      have hO3 := hO2.setCell 73 (.int .i64 ((N : Int) + (r : Int)))
      have hT3 := hT0.out.only hO3 hg0
      have hat3 : Hid (At .u8 (w2.setCell ⟨g, 73, none⟩ (.int .i64 ((N : Int) + (r : Int)))) (some ⟨b, off + r, none⟩) (xs.drop (k + r))) := hat.out.only (hO1.setCell 73 _) (fun a ha => by injection ha with ha; subst ha; exact hbg)
      clear hR hR2 hO2 c73 c73' f73 gl2 hgl hO
      generalize w2.setCell ⟨g, 73, none⟩ (.int .i64 ((N : Int) + (r : Int))) = u3 at hR3 hO3 hT3 hat3 ⊢
      have hbg' : ∀ (o : Nat) (a : Addr), some (⟨b, o, none⟩ : Addr) = some a → a.block ≠ g := fun o a ha => by injection ha with ha; subst ha; exact hbg
      by_cases hrd : r = d
      · have hrm : r = m := by omega
        have k1 := Lib.hid (show k + r = xs.length by have := hm.out; omega)
        have hq2 : Hid (∀ W1 : World, At .u8 W1 (some ⟨b, off, none⟩) (xs.drop (k + r))) := fun W1 => Or.inl (List.drop_eq_nil_of_le (by have := k1.out; omega))
        have hz := Lib.hid (show 0 = xs.length - (k + r) by have := k1.out; omega)
        have hlt0 := Lib.hid hlt
        clear hat3 k1
        subst hrd
        subst hrm
        by_cases hfu : A + r = 64
        · have j11 : (A : Int) + (r : Int) = 64 := by omega
          obtain ⟨hf1, hf2⟩ := hfull hfu
          obtain ⟨Ls, hLs⟩ : ∃ x, Hid (splice L A ys = x) := ⟨_, rfl⟩
          rw [hLs.out] at hf1 hspb' hsll' hR3
          obtain ⟨s2, hs2⟩ : ∃ x, Hid (hstate D2 = x) := ⟨_, rfl⟩
          rw [hs2.out] at hf1
          have hc1 : (ints .u8 Ls).length = 64 := by rw [ints, List.length_map]; exact hsll'.out
          obtain ⟨x0, hx0⟩ : ∃ x, Hid (ints .u32 (wordsOf S) = x) := ⟨_, rfl⟩
          obtain ⟨x1, hx1⟩ : ∃ x, Hid (ints .u8 Ls = x) := ⟨_, rfl⟩
          obtain ⟨x2, hx2⟩ : ∃ x, Hid (ints .u32 (wordsOf s2) = x) := ⟨_, rfl⟩
          have hlast2 := Lib.hid hf2
          have d1 : Hid (∀ W1 : World, Steps W1 → Calls Tryd.prog 42 #[.agg x0.toArray, .agg x1.toArray] W1 fun e w' => e = .returned (.agg x2.toArray) ∧ Below W1.heap.size W1 w') := fun W1 h => by
            have := hashTurned S hSok.out Ls hspb'.out hsll'.out W1 h
            rw [hf1, hx0.out, hx1.out, hx2.out] at this
            exact this
          have r0 := hR3.drew.state
          have r1 := hR3.drew.last
          have i0 : Hid ((Tryd.prog.info? 67).map (·.size) = some x0.length) := by show _ = _; rw [← hx0.out]; kernel_rfl
          have i1 : Hid ((Tryd.prog.info? 68).map (·.size) = some x1.length) := by show _ = _; rw [← hx1.out, hc1]; kernel_rfl
          have i2 : Hid ((Tryd.prog.info? 67).map (·.size) = some x2.toArray.size) := by show _ = _; rw [← hx2.out]; kernel_rfl
          have o2 : Hid (x2.toArray.all (·.oneCell') = true) := by show _ = _; rw [← hx2.out]; exact ints_one _ _
          have hth := Lib.hid (fun (W1 : World) (h : Raw W1 g S Ls (N + r)) => (show W1.there g 1 x2.toArray.size from fun j hj => by
            have hz : x2.toArray.size = 8 := by rw [← hx2.out]; rfl
            have := h.free (1 + j) (by omega)
            rwa [Nat.zero_add] at this))
          rw [hx0.out] at r0
          rw [hx1.out] at r1
          have r0' := Lib.hid r0
          have r1' := Lib.hid r1
          clear hf1 hf2 hpiece hfull hSok hspb' hat hc1 r0 r1
          go_upto_region 6 with fail
          refine wp_region_any (by kernel_rfl) ?_
          change wpAny _ _ _ _ _ _ _ (World.drew _)
          refine wpAny_take (fuel := 12) (i := 0) (v := ?_) rfl (by kernel_rfl) (by kernel_rfl) (by kernel_rfl) (fun _ _ _ h => h) (Or.inl ⟨by rfl, ?_⟩) ?_
          rotate_left
          · intro w; go_simp; first | done | with_reducible rfl
          refine wpAny_take (fuel := 11) (i := 1) (v := ?_) rfl (by kernel_rfl) (by kernel_rfl) (by kernel_rfl) (fun _ _ _ h => h) (Or.inl ⟨by rfl, ?_⟩) ?_
          rotate_left
          · intro w; go_simp; first | done | with_reducible rfl
          refine wpAny_take (fuel := 10) (i := 2) (v := ?_) rfl (by kernel_rfl) (by kernel_rfl) (by kernel_rfl) (fun _ _ _ h => h) (Or.inl ⟨by rfl, ?_⟩) ?_
          rotate_left
          · intro w; go_simp; first | done | with_reducible rfl
          refine wpAny_take (fuel := 9) (i := 3) (v := ?_) rfl (by kernel_rfl) (by kernel_rfl) (by kernel_rfl) (fun _ _ _ h => h) (Or.inl ⟨by rfl, ?_⟩) ?_
          rotate_left
          · intro w; go_simp; first | done | with_reducible rfl
          refine wpAny_take (fuel := 8) (i := 5) (v := ?_) rfl (by kernel_rfl) (by kernel_rfl) (by kernel_rfl) (fun _ _ _ h => h) (Or.inl ⟨by rfl, ?_⟩) ?_
          rotate_left
          · intro w; go_simp; first | done | with_reducible rfl
          refine wpAny_take (fuel := 7) (i := 6) (v := ?_) rfl (by kernel_rfl) (by kernel_rfl) (by kernel_rfl) (fun _ _ _ h => h) (Or.inl ⟨by rfl, ?_⟩) ?_
          rotate_left
          · intro w; go_simp; first | done | with_reducible rfl
          refine wpAny_take (fuel := 6) (i := 7) (v := ?_) rfl (by kernel_rfl) (by kernel_rfl) (by kernel_rfl) (fun _ _ _ h => h) (Or.inl ⟨by rfl, ?_⟩) ?_
          rotate_left
          · intro w; go_simp; first | done | with_reducible rfl
          simp only [List.getElem_toArray, List.getElem_cons_zero, List.getElem_cons_succ, Act.put, List.setIfInBounds_toArray, List.set_cons_zero, List.set_cons_succ]
          refine wpAny_pair (fuel := 4) (i := 4) (j := 8) (vi := .agg x0.toArray) (vj := .agg x1.toArray) (by kernel_rfl) (by kernel_rfl) (by kernel_rfl) rfl rfl (by decide) (fun d hd => by injection hd with hd; subst hd; decide) ?_ ?_ ?_ ?_ ?_
          · refine yieldsIf_load_mid rfl 67 _ rfl g 1 ?_ x0 _ (fun _ e => e ▸ r0'.out) Tryd.underlying67 rfl i0.out
            rfl
          · refine yieldsIf_load_mid rfl 67 _ rfl g 1 ?_ x0 _ (fun _ e => e ▸ r0'.out) Tryd.underlying67 rfl i0.out
            simp only [List.getElem_toArray, List.getElem_cons_zero, List.getElem_cons_succ, Act.put, List.setIfInBounds_toArray, List.set_cons_zero, List.set_cons_succ]
            rfl
          · refine yieldsIf_load_mid rfl 68 _ rfl g 9 ?_ x1 _ (fun _ e => e ▸ r1'.out) Tryd.underlying68 rfl i1.out
            rfl
          · refine yieldsIf_load_mid rfl 68 _ rfl g 9 ?_ x1 _ (fun _ e => e ▸ r1'.out) Tryd.underlying68 rfl i1.out
            simp only [List.getElem_toArray, List.getElem_cons_zero, List.getElem_cons_succ, Act.put, List.setIfInBounds_toArray, List.set_cons_zero, List.set_cons_succ]
            rfl
          simp only [List.getElem_toArray, List.getElem_cons_zero, List.getElem_cons_succ, Act.put, List.setIfInBounds_toArray, List.set_cons_zero, List.set_cons_succ]
          refine wpAny_rest 9 (by rfl) (by kernel_rfl) ?_
          simp only [List.drop_succ_cons, List.drop_zero]
          go_wp2_with (first
            | (go_at_call 42; refine (d1.out _ (by exact hT3)).mono ?_; rintro e' wa ⟨rfl, hba⟩; have hR4 := hR3.drew.call hba; have hU4 := (Only.refl g u3).drew.call hba; clear hba)
            | (refine wpList_store_mid rfl 67 _ _ rfl g 1 x2.toArray rfl rfl (hth.out _ hR4) i2.out o2.out ?_; rw [List.toList_toArray, ← hx2.out]; have hR5 := hR4.setState s2; have hU5 := hU4.setCells 1 (ints .u32 (wordsOf s2)); generalize wa.setCells g 1 (ints .u32 (wordsOf s2)) = wb at hR5 hU5 ⊢)
            | (refine wpList_store_mid rfl 68 _ _ rfl g 9 (ints .u8 (List.replicate 64 0)).toArray rfl rfl (fun j hj => by have h2 := hR5.free (9 + j) (by have h3 : j < 64 := hj; omega); rwa [Nat.zero_add] at h2) (by kernel_rfl) (ints_one _ _) ?_; rw [List.toList_toArray]; have hR6 := hR5.setBlock (List.replicate 64 0) rfl; have hU6 := hU5.setCells 9 (ints .u8 (List.replicate 64 0)); generalize wb.setCells g 9 (ints .u8 (List.replicate 64 0)) = wc at hR6 hU6 ⊢))
          go_roundw
          case rel =>
            repeat apply Exists.intro
            refine ⟨?_, rfl⟩
            exact ⟨k + r, some ⟨b, off, none⟩, _, _, rfl, hk2.out, hz.out, (Nat.le_refl _), hq2.out wc, (fun _ => hbg' _), by rw [hD2.out]; unfold Has; rw [hs2.out, hlast2.out, hNr.out]; exact hR6, hO3.trans hU6⟩
          case measure => exact hlt0.out
        · have j11 : ¬ (A : Int) + (r : Int) = 64 := by omega
          obtain ⟨hp1, hp2⟩ := hpiece (by omega)
          replace hp1 := Lib.hid hp1
          replace hp2 := Lib.hid hp2
          clear hpiece hfull
          go_wp2
          go_roundw
          case rel => exact ⟨k + r, some ⟨b, off, none⟩, _, _, rfl, hk2.out, hz.out, (Nat.le_refl _), hq2.out u3, (fun _ => hbg' _), by rw [hD2.out]; unfold Has; rw [← hp1.out, hp2.out, hNr.out]; exact hR3, hO3⟩
          case measure => exact hlt0.out
      · have j9 : ¬ (d : Int) = (r : Int) := by omega
        have j10 : ¬ d = r := by omega
        by_cases hfu : A + r = 64
        · have j11 : (A : Int) + (r : Int) = 64 := by omega
          obtain ⟨hf1, hf2⟩ := hfull hfu
          obtain ⟨Ls, hLs⟩ : ∃ x, Hid (splice L A ys = x) := ⟨_, rfl⟩
          rw [hLs.out] at hf1 hspb' hsll' hR3
          obtain ⟨s2, hs2⟩ : ∃ x, Hid (hstate D2 = x) := ⟨_, rfl⟩
          rw [hs2.out] at hf1
          have hc1 : (ints .u8 Ls).length = 64 := by rw [ints, List.length_map]; exact hsll'.out
          obtain ⟨x0, hx0⟩ : ∃ x, Hid (ints .u32 (wordsOf S) = x) := ⟨_, rfl⟩
          obtain ⟨x1, hx1⟩ : ∃ x, Hid (ints .u8 Ls = x) := ⟨_, rfl⟩
          obtain ⟨x2, hx2⟩ : ∃ x, Hid (ints .u32 (wordsOf s2) = x) := ⟨_, rfl⟩
          have hlast2 := Lib.hid hf2
          have d1 : Hid (∀ W1 : World, Steps W1 → Calls Tryd.prog 42 #[.agg x0.toArray, .agg x1.toArray] W1 fun e w' => e = .returned (.agg x2.toArray) ∧ Below W1.heap.size W1 w') := fun W1 h => by
            have := hashTurned S hSok.out Ls hspb'.out hsll'.out W1 h
            rw [hf1, hx0.out, hx1.out, hx2.out] at this
            exact this
          have r0 := hR3.drew.state
          have r1 := hR3.drew.last
          have i0 : Hid ((Tryd.prog.info? 67).map (·.size) = some x0.length) := by show _ = _; rw [← hx0.out]; kernel_rfl
          have i1 : Hid ((Tryd.prog.info? 68).map (·.size) = some x1.length) := by show _ = _; rw [← hx1.out, hc1]; kernel_rfl
          have i2 : Hid ((Tryd.prog.info? 67).map (·.size) = some x2.toArray.size) := by show _ = _; rw [← hx2.out]; kernel_rfl
          have o2 : Hid (x2.toArray.all (·.oneCell') = true) := by show _ = _; rw [← hx2.out]; exact ints_one _ _
          have hth := Lib.hid (fun (W1 : World) (h : Raw W1 g S Ls (N + r)) => (show W1.there g 1 x2.toArray.size from fun j hj => by
            have hz : x2.toArray.size = 8 := by rw [← hx2.out]; rfl
            have := h.free (1 + j) (by omega)
            rwa [Nat.zero_add] at this))
          rw [hx0.out] at r0
          rw [hx1.out] at r1
          have r0' := Lib.hid r0
          have r1' := Lib.hid r1
          clear hf1 hf2 hpiece hfull hSok hspb' hat hc1 r0 r1
          go_upto_region 6 with fail
          refine wp_region_any (by kernel_rfl) ?_
          change wpAny _ _ _ _ _ _ _ (World.drew _)
          refine wpAny_take (fuel := 12) (i := 0) (v := ?_) rfl (by kernel_rfl) (by kernel_rfl) (by kernel_rfl) (fun _ _ _ h => h) (Or.inl ⟨by rfl, ?_⟩) ?_
          rotate_left
          · intro w; go_simp; first | done | with_reducible rfl
          refine wpAny_take (fuel := 11) (i := 1) (v := ?_) rfl (by kernel_rfl) (by kernel_rfl) (by kernel_rfl) (fun _ _ _ h => h) (Or.inl ⟨by rfl, ?_⟩) ?_
          rotate_left
          · intro w; go_simp; first | done | with_reducible rfl
          refine wpAny_take (fuel := 10) (i := 2) (v := ?_) rfl (by kernel_rfl) (by kernel_rfl) (by kernel_rfl) (fun _ _ _ h => h) (Or.inl ⟨by rfl, ?_⟩) ?_
          rotate_left
          · intro w; go_simp; first | done | with_reducible rfl
          refine wpAny_take (fuel := 9) (i := 3) (v := ?_) rfl (by kernel_rfl) (by kernel_rfl) (by kernel_rfl) (fun _ _ _ h => h) (Or.inl ⟨by rfl, ?_⟩) ?_
          rotate_left
          · intro w; go_simp; first | done | with_reducible rfl
          refine wpAny_take (fuel := 8) (i := 5) (v := ?_) rfl (by kernel_rfl) (by kernel_rfl) (by kernel_rfl) (fun _ _ _ h => h) (Or.inl ⟨by rfl, ?_⟩) ?_
          rotate_left
          · intro w; go_simp; first | done | with_reducible rfl
          refine wpAny_take (fuel := 7) (i := 6) (v := ?_) rfl (by kernel_rfl) (by kernel_rfl) (by kernel_rfl) (fun _ _ _ h => h) (Or.inl ⟨by rfl, ?_⟩) ?_
          rotate_left
          · intro w; go_simp; first | done | with_reducible rfl
          refine wpAny_take (fuel := 6) (i := 7) (v := ?_) rfl (by kernel_rfl) (by kernel_rfl) (by kernel_rfl) (fun _ _ _ h => h) (Or.inl ⟨by rfl, ?_⟩) ?_
          rotate_left
          · intro w; go_simp; first | done | with_reducible rfl
          simp only [List.getElem_toArray, List.getElem_cons_zero, List.getElem_cons_succ, Act.put, List.setIfInBounds_toArray, List.set_cons_zero, List.set_cons_succ]
          refine wpAny_pair (fuel := 4) (i := 4) (j := 8) (vi := .agg x0.toArray) (vj := .agg x1.toArray) (by kernel_rfl) (by kernel_rfl) (by kernel_rfl) rfl rfl (by decide) (fun d hd => by injection hd with hd; subst hd; decide) ?_ ?_ ?_ ?_ ?_
          · refine yieldsIf_load_mid rfl 67 _ rfl g 1 ?_ x0 _ (fun _ e => e ▸ r0'.out) Tryd.underlying67 rfl i0.out
            rfl
          · refine yieldsIf_load_mid rfl 67 _ rfl g 1 ?_ x0 _ (fun _ e => e ▸ r0'.out) Tryd.underlying67 rfl i0.out
            simp only [List.getElem_toArray, List.getElem_cons_zero, List.getElem_cons_succ, Act.put, List.setIfInBounds_toArray, List.set_cons_zero, List.set_cons_succ]
            rfl
          · refine yieldsIf_load_mid rfl 68 _ rfl g 9 ?_ x1 _ (fun _ e => e ▸ r1'.out) Tryd.underlying68 rfl i1.out
            rfl
          · refine yieldsIf_load_mid rfl 68 _ rfl g 9 ?_ x1 _ (fun _ e => e ▸ r1'.out) Tryd.underlying68 rfl i1.out
            simp only [List.getElem_toArray, List.getElem_cons_zero, List.getElem_cons_succ, Act.put, List.setIfInBounds_toArray, List.set_cons_zero, List.set_cons_succ]
            rfl
          simp only [List.getElem_toArray, List.getElem_cons_zero, List.getElem_cons_succ, Act.put, List.setIfInBounds_toArray, List.set_cons_zero, List.set_cons_succ]
          refine wpAny_rest 9 (by rfl) (by kernel_rfl) ?_
          simp only [List.drop_succ_cons, List.drop_zero]
          go_wp2_with (first
            | (go_at_call 42; refine (d1.out _ (by exact hT3)).mono ?_; rintro e' wa ⟨rfl, hba⟩; have hR4 := hR3.drew.call hba; have hU4 := (Only.refl g u3).drew.call hba; clear hba)
            | (refine wpList_store_mid rfl 67 _ _ rfl g 1 x2.toArray rfl rfl (hth.out _ hR4) i2.out o2.out ?_; rw [List.toList_toArray, ← hx2.out]; have hR5 := hR4.setState s2; have hU5 := hU4.setCells 1 (ints .u32 (wordsOf s2)); generalize wa.setCells g 1 (ints .u32 (wordsOf s2)) = wb at hR5 hU5 ⊢)
            | (refine wpList_store_mid rfl 68 _ _ rfl g 9 (ints .u8 (List.replicate 64 0)).toArray rfl rfl (fun j hj => by have h2 := hR5.free (9 + j) (by have h3 : j < 64 := hj; omega); rwa [Nat.zero_add] at h2) (by kernel_rfl) (ints_one _ _) ?_; rw [List.toList_toArray]; have hR6 := hR5.setBlock (List.replicate 64 0) rfl; have hU6 := hU5.setCells 9 (ints .u8 (List.replicate 64 0)); generalize wb.setCells g 9 (ints .u8 (List.replicate 64 0)) = wc at hR6 hU6 ⊢))
          go_roundw
          case rel =>
            repeat apply Exists.intro
            refine ⟨?_, rfl⟩
            exact ⟨k + r, some ⟨b, off + r, none⟩, _, _, rfl, hk2.out, hm2.out, hmd2.out, At.only hat3.out (hU6) (hbg' _), (fun _ => hbg' _), by rw [hD2.out]; unfold Has; rw [hs2.out, hlast2.out, hNr.out]; exact hR6, hO3.trans hU6⟩
          case measure => exact hms.out
        · have j11 : ¬ (A : Int) + (r : Int) = 64 := by omega
          obtain ⟨hp1, hp2⟩ := hpiece (by omega)
          replace hp1 := Lib.hid hp1
          replace hp2 := Lib.hid hp2
          clear hpiece hfull
          go_wp2
          go_roundw
          case rel => exact ⟨k + r, some ⟨b, off + r, none⟩, _, _, rfl, hk2.out, hm2.out, hmd2.out, At.only hat3.out (Only.refl g u3) (hbg' _), (fun _ => hbg' _), by rw [hD2.out]; unfold Has; rw [← hp1.out, hp2.out, hNr.out]; exact hR3, hO3⟩
          case measure => exact hms.out
    · have hke : Hid (xs.take k = xs) := by have := hm.out; show _ = _; exact List.take_of_length_le (by omega)
      rw [hke.out] at hR
      have j2 : ¬ (0 : Int) < (m : Int) := by omega
      have hfin := Lib.hid hR
      have hOf := Lib.hid hO
      go_wp2
      refine bodyPost_end (results_none (by kernel_rfl) _ _) rfl ?_
      exact ⟨rfl, hfin.out, hOf.out⟩

end Go.Proofs.YtmhehnimgkmmaaaDoor
