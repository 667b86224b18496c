/- A digest of all that a hasher has; a digest of parts, in the program. -/
import Derived.Test.YtmhehnimgkmmaaaDoorHasK
import Derived.Deep.RegionHeld3
import Derived.Deep.DeepCutAuto
import Derived.IntWalk
namespace Go.Proofs.YtmhehnimgkmmaaaDoor
set_option maxRecDepth 100000
open Go.RowKit
set_option linter.unusedVariables false
attribute [local go_sem] cell_re

theorem Arr.grown {k : IntKind} {w w' : World} {g G : Nat} {zs : List Int} (h : Arr k w g zs) (ho : Only G w w') (hg : g ≠ G) : Arr k w' g zs :=
  ⟨Nat.lt_of_lt_of_le h.lt ho.size, fun j hj => (World.cell?_of_block (w := w) (a := ⟨g, j, none⟩) (ho.block g h.lt (fun e => hg (by injection e)))).trans (h.c j hj),
    fun j hj => (World.frozen?_of_block (w := w) (a := ⟨g, j, none⟩) (ho.block g h.lt (fun e => hg (by injection e)))).trans (h.f j hj)⟩
theorem noughts_le (n : Nat) : noughts n ≤ 63 := by unfold noughts; omega
theorem rawZero_there (w w1 : World) (t : TypeId) (hw : w.alloc (.cells rawZero.toArray t) = w1) (n : Nat) (hn : n = 74) : w1.there w.heap.size 0 n := fun j hj => by
  subst hn
  rw [← hw]
  refine ⟨?_, by simp [go_sem]⟩
  have h4 : (rawZero[0 + j]?).isSome = true := by rw [Nat.zero_add, List.getElem?_eq_getElem (show j < rawZero.length from hj)]; rfl
  simpa [go_sem] using h4
set_option maxRecDepth 200000 in
set_option maxHeartbeats 8000000 in
theorem hashSum (l : List Int) (hl : Byted l) (hlen : l.length ≤ 1000000000) (g : Nat) (w : World) (hT : Steps w) (hR : Has w g l) :
    Calls Tryd.prog 31 #[.pointer (some ⟨g, 0, none⟩)] w fun e w' => e = .returned (.agg (ints .u8 (sha l)).toArray) ∧ Below w.heap.size w w' := by
  have hLb := Lib.hid hl
  have hLen := Lib.hid hlen
  have d2 := Lib.hid (fun W1 : World => hashPadding l.length hlen W1)
  have d4 := Lib.hid (fun W1 : World => hashDigest (hstate (padded l)) (hstate_ok _) W1)
  have hsz : Hid ((Tryd.prog.info? 70).map (·.size) = some (rawCells (hstate l) (hlast l) l.length).length) := by show _ = _; rw [rawCells_length (hlast_length l)]; kernel_rfl
  have hone : Hid ((rawCells (hstate l) (hlast l) l.length).toArray.all (·.oneCell') = true) := all_oneCell_toArray rawCells_one
  have hCl : Hid ((rawCells (hstate l) (hlast l) l.length).length = 74) := rawCells_length (hlast_length l)
  have hTk := Lib.hid (fun (W1 : World) (g3 : Nat) (h0 : 0 < g3) (gp m : Nat) (hne : gp ≠ g3) (hm : m = (padTail l.length).length) (hP : Arr .u8 W1 gp (padTail l.length)) (hT : Steps W1) (hR : Has W1 g3 l) =>
    hashTake l (padTail l.length) hl (padTail_byted _) (by rw [padTail_length]; have := noughts_le l.length; omega) g3 h0 (some ⟨gp, 0, none⟩) m m (fun _ a ha => by injection ha with ha; subst ha; exact hne) hm (Nat.le_refl _) W1 hP.at_ hT hR)
  rw [padded_tail] at hTk
  obtain ⟨C, hC⟩ : ∃ C, Hid (rawCells (hstate l) (hlast l) l.length = C) := ⟨_, rfl⟩
  rw [hC.out] at hsz hone hCl
  rw [sha_is] at d4
  obtain ⟨D, hD⟩ : ∃ D, Hid (sha l = D) := ⟨_, rfl⟩
  have hDl : Hid (D.length = 32) := by show _ = _; rw [← hD.out]; rfl
  rw [hD.out] at d4 ⊢
  obtain ⟨Y, hY⟩ : ∃ Y, Hid ((ints .u8 D).toArray = Y) := ⟨_, rfl⟩
  obtain ⟨x0, hx0⟩ : ∃ x, Hid (ints .u32 (wordsOf (hstate (padded l))) = x) := ⟨_, rfl⟩
  have i0 : Hid ((Tryd.prog.info? 67).map (·.size) = some x0.length) := by show _ = _; rw [← hx0.out]; kernel_rfl
  rw [hx0.out, hY.out] at d4
  rw [hY.out]
  have hw0 := hT.lt
  clear hl hlen
  go_enter Tryd.func31, Tryd.ntmps31
  go_upto_region 4 with (first
    | (refine walk_arr (o := ⟨some 2, _, _, _, _, _⟩) rfl 46 rfl .u8 (List.replicate 32 0) (by kernel_rfl) ?_; intro w1 hA1 hB1 hs1; have hRa := hR.call hB1; have hTa := hT.call hB1; have hr1 := hRa.whole; rw [hC.out] at hr1)
    | (go_at_call 35; refine (hashNone true g _ hRa.made).mono ?_; rintro e' w' ⟨rfl, rfl⟩)
    | (refine wpList_load_mid rfl 70 _ rfl g 0 rfl C _ hr1 Tryd.underlying70 rfl hsz.out ?_)
    | (refine walk_alloc rfl 70 rfl (.agg rawZero.toArray) (by kernel_rfl) rawZero.toArray rfl ?_; intro w2 hw2)
    | (refine wpList_store_mid rfl 70 _ _ rfl w1.heap.size 0 C.toArray rfl rfl (rawZero_there w1 w2 70 hw2 _ (by simp; exact hCl.out)) (by rw [hsz.out]; simp) hone.out ?_; rw [List.toList_toArray, ← hC.out, ← hw2]; have hF := Raw.stored (s := hstate l) (L := hlast l) (n := l.length) w1 rawZero.toArray 70 rfl (hlast_length l); have hB3 := below_setCells ((Below.refl w1.heap.size w1).alloc (Nat.le_refl _) (.cells rawZero.toArray 70)) (g := w1.heap.size) (Nat.le_refl _) (rawCells (hstate l) (hlast l) l.length) 0; generalize (w1.alloc (.cells rawZero.toArray 70)).setCells w1.heap.size 0 (rawCells (hstate l) (hlast l) l.length) = w3 at hF hB3 ⊢))
  have hR3 := hRa.call hB3
  have hT3 := hTa.call hB3
  have hA3 := hA1.call hB3
  have c73 := hR3.len
  have hg1 : w.heap.size ≤ w1.heap.size := hB1.size
  have hne1 : w.heap.size ≠ w1.heap.size := by omega
  have hw1p : 0 < w1.heap.size := by omega
  have hlt3 : w1.heap.size < w3.heap.size := hF.lt
  have hBw3 := below_then hB1 hB3
  clear hR hT hRa hTa hA1 hr1 hw2 hR3 hsz hone hCl hC hs1 hB1 hB3
  go_wp2_with (first
    | (go_at_call 37; refine (d2.out w3).mono ?_; rintro e' w4 ⟨gp, m, rfl, hm, hgp, hP, hB4⟩; replace hm := Lib.hid hm; have hF4 := hF.call hB4; have hT4 := hT3.call hB4; have hA4 := hA3.call hB4; have hne4 : gp ≠ w1.heap.size := (by omega); have hBw4 := below_then hBw3 hB4)
    | (go_at_call 36; refine (hTk.out w4 w1.heap.size hw1p gp m hne4 hm.out hP hT4 hF4).mono ?_; rintro e' w5 ⟨rfl, hR5, hO5⟩; have hA5 := hA4.grown hO5 hne1; have hBw5 := hBw4.trans (hO5.below hg1 hBw4.size); have hr5 := hR5.state; rw [hx0.out] at hr5)
    | (refine wpList_load_mid rfl 67 _ rfl w1.heap.size 1 rfl x0 _ hr5 Tryd.underlying67 rfl i0.out ?_)
    | (go_at_call 38; refine (d4.out w5).mono ?_; rintro e' w6 ⟨rfl, hB6⟩; have hA6 := hA5.call hB6; have hBw6 := below_then hBw5 hB6)
    | (refine walk_store rfl 46 _ _ rfl hA6 rfl Y hY rfl (by rw [hDl.out]; kernel_rfl) (by rw [hDl.out]; rfl) ?_; intro w7 hA7 hs7 ho7))
  refine bodyPost_ret (results_cell_mid rfl _ _ w.heap.size (ints .u8 D) _ rfl hA7.range Tryd.underlying46 rfl (by rw [ints, List.length_map, hDl.out]; kernel_rfl)) rfl ?_
  exact ⟨by rw [hY.out], below_only hBw6 ho7 (Nat.le_refl _) hs7⟩

end Go.Proofs.YtmhehnimgkmmaaaDoor
