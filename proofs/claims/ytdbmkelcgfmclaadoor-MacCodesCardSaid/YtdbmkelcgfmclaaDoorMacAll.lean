/- The parts that a law takes. -/
import Derived.Test.YtdbmkelcgfmclaaDoorMacE
import Derived.Test.YtdbmkelcgfmclaaDoorOwnV
import Derived.Test.YtdbmkelcgfmclaaDoorBase
import Derived.Deep.RegionHeld3
import Derived.Deep.DeepCutAuto
import Derived.IntWalk
namespace Go.Proofs.YtdbmkelcgfmclaaDoor
set_option maxRecDepth 100000
open Go.RowKit
set_option linter.unusedVariables false
attribute [local go_sem] cell_re

/-- At most eight parts, each of at most 200 bytes. -/
def cutL (l : List (List Int)) : List (List Int) := (l.take 8).map fun x => x.take 200
theorem cutL_length (l : List (List Int)) : (cutL l).length = min 8 l.length := by simp [cutL]
theorem cutL_get (l : List (List Int)) (i : Nat) (h : i < l.length) (h2 : i < 8) : (cutL l).getD i [] = (l.getD i []).take 200 := by
  rw [cutL, List.getD_eq_getElem?_getD, List.getElem?_map, List.getElem?_take, if_pos h2, List.getD_eq_getElem?_getD, List.getElem?_eq_getElem h]; rfl
theorem cutL_byted {w : World} {p : Option Addr} {l : List (List Int)} (h : Parts w p l) (j : Nat) (hj : j < (cutL l).length) : Byted ((cutL l).getD j []) := by
  rw [cutL_length] at hj
  rcases h with h | ⟨b, off, e, hl, hc⟩
  · rw [h] at hj; simp at hj
  · obtain ⟨v, hv, q, m, d, e1, e2, e3, e4, e5⟩ := hc j (by omega)
    rw [cutL_get l j (by omega) (by omega)]
    exact e5.take 200
theorem flat_le (k : Nat) : ∀ l : List (List Int), (∀ x ∈ l, x.length ≤ k) → l.flatten.length ≤ k * l.length
  | [], _ => by simp
  | x :: l, h => by
    have h1 := h x (by simp)
    have h2 := flat_le k l (fun y hy => h y (by simp [hy]))
    rw [List.flatten_cons, List.length_append, List.length_cons, Nat.mul_succ]
    omega
theorem cutL_flat (l : List (List Int)) : (cutL l).flatten.length ≤ 1600 := by
  have h := flat_le 200 (cutL l) (fun x hx => by
    unfold cutL at hx
    obtain ⟨y, -, rfl⟩ := List.mem_map.mp hx
    rw [List.length_take]; omega)
  have := cutL_length l
  omega
theorem own_none {w : World} {base n cap : Nat} {e : TypeId} {q : Option Addr} {xs : List Value} (h : w.ownsRow base e 1 (.slice q n cap) n xs) (hq : q = none) : cap = 0 := by
  subst hq
  rcases h.2 with ⟨h1, -⟩ | ⟨g, cap', cur, h1, -⟩
  · injection h1
  · injection h1 with h1; cases h1
/-- What 'all' hands out. -/
def AllPost (l : List (List Int)) (w : World) (e : Ending) (w' : World) : Prop := ∃ q1 m1 c1 q2 m2 c2, e = .returned (.tuple #[.slice q1 m1 c1, .slice q2 m2 c2]) ∧ m1 = (cutL l).length ∧ m1 ≤ c1 ∧ (q1 = none → c1 = 0) ∧ Parts w' q1 (cutL l) ∧ m2 = (joinTo (cutL l) (cutL l).length).length ∧ m2 ≤ c2 ∧ At .u8 w' q2 (joinTo (cutL l) (cutL l).length) ∧ Below w.heap.size w w'
set_option maxRecDepth 200000 in
set_option maxHeartbeats 8000000 in
theorem law9All (l : List (List Int)) (n c : Nat) (hn : n = l.length) (hn9 : n ≤ 9223372036854775807) (p : Option Addr) (w : World) (hP : Parts w p l) : Calls Tryd.prog 7 #[.slice p n c] w (AllPost l w) := by
  obtain ⟨i0, hi0, hz0, hz1, hz2⟩ := info_parts infoByte
  obtain ⟨j0, hj0, hy0, hy1, hy2⟩ := info_parts infoRow
  have own1 := (World.ownsRow_made (base := w.heap.size) (e := 22) (size := 1) w #[] 0 (Nat.le_refl _) (by unfold maxLen; omega) (by simp)).alloc (.cells #[] 5)
  have own2 := World.ownsRow_made (base := w.heap.size) (e := 5) (size := 1) (w.alloc (.cells #[] 22)) #[] 0 (by simp) (by unfold maxLen; omega) (by simp)
  rw [World.size_alloc] at own2
  have hB0 : Below w.heap.size w ((w.alloc (.cells #[] 22)).alloc (.cells #[] 5)) := by go_grown
  have hN := Lib.hid hn
  have hPP := Lib.hid hP
  have hby := Lib.hid (cutL_byted hP)
  have hLen := Lib.hid (cutL_flat l)
  have jn : (n : Int) ≤ 9223372036854775807 := by omega
  clear hn hP hn9
  go_enter Tryd.func7, Tryd.ntmps7
  go_wp2
  go_loopw [4, 5, 6] (fun v4 v5 v6 wr => ∃ (i : Nat) (q1 : Option Addr) (m1 c1 : Nat) (q2 : Option Addr) (m2 c2 : Nat) (vs : List Value), i ≤ min 8 n ∧ v6 = .int .i64 i ∧ v4 = .slice q1 m1 c1 ∧ v5 = .slice q2 m2 c2 ∧ Hid (m1 = i) ∧ Hid (m2 = (joinTo (cutL l) i).length) ∧ m1 ≤ c1 ∧ m2 ≤ c2 ∧
      wr.ownsRow w.heap.size 22 1 (.slice q1 m1 c1) m1 vs ∧ wr.ownsRow w.heap.size 5 1 (.slice q2 m2 c2) m2 (ints .u8 (joinTo (cutL l) i)) ∧ Hid (∀ j, j < i → ∃ v, vs[j]? = some v ∧ PartO wr v ((cutL l).getD j []) (Value.slice q1 m1 c1).ownBlock (Value.slice q2 m2 c2).ownBlock) ∧
      Hid ((Value.slice q2 m2 c2).ownBlock = none ∨ (Value.slice q2 m2 c2).ownBlock ≠ (Value.slice q1 m1 c1).ownBlock) ∧ Below w.heap.size w wr) (fun _ _ v6 _ => 8 - (intOf v6).toNat)
  case atStart => exact ⟨0, _, 0, 0, _, 0, 0, [], Nat.zero_le _, rfl, rfl, rfl, Lib.hid rfl, Lib.hid rfl, Nat.le_refl _, Nat.le_refl _, own1, own2, Lib.hid (fun j hj => by omega), Lib.hid (Or.inr (by simp [Value.ownBlock])), hB0⟩
  case round =>
    clear own1 own2 hB0
    obtain ⟨i, q1, m1, c1, q2, m2, c2, vs, hi, rfl, rfl, rfl, hm1, hm2, hc1, hc2, own1, own2, hparts, hap, hB⟩ := hrel
    have hi12 : i ≤ 8 := by omega
    have hin : i ≤ n := by omega
    by_cases h1 : i < n
    · by_cases h2 : i < 8
      · rcases hPP.out with h | ⟨b, off, rfl, hbl, hcs⟩
        · exact absurd hN.out (by rw [h]; simp; omega)
        have hNN := hN.out
        obtain ⟨v, hv, q, m, d, rfl, hm, hmd, hat, hxb⟩ := hcs i (by omega)
        have hcut := cutL_get l i (by omega) h2
        generalize l.getD i [] = x at *
        obtain ⟨y, hy⟩ : ∃ y, Hid (x.take 200 = y) := ⟨_, rfl⟩
        rw [hy.out] at hcut
        have hcut' := Lib.hid hcut
        have hyA := Lib.hid (hat.take 200)
        rw [hy.out] at hyA
        have rc := fun (W' : World) (h : Below w.heap.size w W') => (h.cell (p := ⟨b, off + i, none⟩) hbl).trans hv
        have k1 : (i : Int) < (n : Int) := by omega
        have k2 : (i : Int) < 8 := by omega
        clear hcs hNN hcut hat hv
        rcases Nat.eq_zero_or_pos d with hd0 | hd0
        · obtain rfl : d = 0 := hd0
          obtain rfl : m = 0 := by omega
          have hbM : Hid (y.length = 0) := by show _ = _; rw [← hy.out, List.length_take]; omega
          have dB := Lib.hid (fun (W1 : World) (h : Below w.heap.size w W1) => baseBytes y (by rw [hbM.out]; omega) 0 hbM.out.symm q 0 W1 (hyA.out.call h))
          clear hm hmd
          go_upto_region 5 with fail
          go_region_held3 (fun W' => Below w.heap.size w W') (first | exact hB | exact hB.drew | exact hB4) (first
            | (go_at_call 10; refine (dB.out _ (by exact hB.drew)).mono ?_; intro e' w4 hr; obtain ⟨qp, np, cp, rfl, mp, hb4⟩ := hr.mine; have hB4 := below_then hB.drew hb4))
          clear rc
          have hBr : Below wr.heap.size wr w4 := (Below.refl wr.heap.size wr).drew.trans hb4
          have ow1 := (own_call own1 hBr).alloc (.cells #[.slice qp np cp] 22)
          have ow2 := (own_call own2 hBr).alloc (.cells #[.slice qp np cp] 22)
          have mp0 : Mine .u8 5 wr.heap.size w4 qp np cp y := mp
          have pn := (mp0.part (o1 := (Value.slice q1 m1 c1).ownBlock) (o2 := (Value.slice q2 m2 c2).ownBlock) (row_lt own1) (row_lt own2)).call ((Below.refl _ _).alloc (Nat.le_refl _) (.cells #[.slice qp np cp] 22))
          have hpc := Lib.hid (mp0.none_cap)
          have hB5 := hB4.alloc hB4.size (.cells #[.slice qp np cp] 22)
          have hcv : Hid (∀ j u, [Value.slice qp np cp][j]? = some u → (w4.alloc (.cells #[.slice qp np cp] 22)).cell? ((⟨w4.heap.size, 0, none⟩ : Addr).add j) = some u) := fun j u hu => by
            have hj := (List.getElem?_eq_some_iff.1 hu).1
            obtain rfl : j = 0 := by simpa using hj
            injection hu with hu
            subst hu
            simp [Addr.add, go_sem]
          have hle1 := Lib.hid (show (m1 + 1) * (24 + 1) ≤ 1000000000000 by have := hm1.out; omega)
          have hjl := Lib.hid (joinTo_le (cutL l) i)
          have hnp := Lib.hid mp0.len
          have hlen2 := hLen.out
          have hle2 := Lib.hid (show (m2 + np) * (1 + 1) ≤ 1000000000000 by have := hm2.out; have := hjl.out; have := hnp.out; have := hbM.out; omega)
          clear hlen2 mp mp0 hb4 hB4
          go_wp2_with (first
            | (at_builtin; refine walk_where (o := ⟨some 35, _, _, _, _, _⟩) rfl _ _ 27 rfl w.heap.size 22 j0 (.slice none 0 0) 24 Tryd.underlying27 hj0 hy0 hy1 hy2 rfl (.slice q1 m1 c1) m1 vs rfl ow1 ⟨w4.heap.size, 0, none⟩ 1 1 [.slice qp np cp] rfl rfl hcv.out (fun u hu => by obtain rfl := List.mem_singleton.mp hu; rfl) hle1.out hB5.size ?_; intro q1' m1' c1' w6 own1' e1' k1' gr1 wh1; have ow2' := own_other ow2 gr1 hap.out; have pn' := pn.grown gr1 wh1; have hB6 := hB5.grown gr1 hB5.size (fun k hk => (ow1.lt k hk).1); obtain ⟨qx, mx, dx, ex, hmx, hdx, hatx, hqx⟩ := id pn'; injection ex with ex1 ex2 ex3; subst ex1 ex2 ex3; replace hmx := Lib.hid hmx; clear hdx hqx)
            | (at_builtin; refine walk_where_ints (k := .u8) (o := ⟨some 38, _, _, _, _, _⟩) rfl _ _ 22 rfl w.heap.size 5 i0 (.int .u8 0) 1 Tryd.underlying22 hi0 hz0 hz1 hz2 rfl (.slice q2 m2 c2) m2 (ints .u8 (joinTo (cutL l) i)) rfl ow2' qp np cp y rfl hatx hmx.out hpc.out hle2.out hB6.size ?_; intro q2' m2' c2' w7 own2' e2' k2' gr2 wh2))
          go_roundw
          case rel =>
            have hap1 := apart_grown (r := .slice q2 m2 c2) (row_lt ow2) hap.out wh1
            have hvl : vs.length = i := by have := own1.1; have := hm1.out; omega
            have hjs := joinTo_succ (cutL l) i (by rw [cutL_length, ← hN.out]; omega)
            rw [hcut'.out] at hjs
            refine ⟨i + 1, q1', m1', c1', q2', m2', c2', vs ++ [.slice qp np cp], by omega, by go_num, rfl, rfl, ?_, ?_, k1', k2', own_other own1' gr2 (apart_symm hap1), ?_, ?_, ?_, hB6.grown gr2 hB6.size (fun k hk => (ow2'.lt k hk).1)⟩
            · have := e1'.out; have := hm1.out; show _ = _; omega
            · have h5 := e2'.out; have h6 := hm2.out; have h7 := hmx.out; show _ = _; rw [← hjs, List.length_append]; omega
            · rw [← hjs, ints, List.map_append]; exact own2'
            · intro j hj
              by_cases hji : j < i
              · obtain ⟨v, hvj, hpo⟩ := hparts.out j hji
                exact ⟨v, by rw [List.getElem?_append_left (by omega)]; exact hvj, ((((hpo.call hBr).call ((Below.refl _ _).alloc (Nat.le_refl _) _)).grown gr1 wh1).swap.grown gr2 wh2).swap⟩
              · obtain rfl : j = i := by omega
                exact ⟨.slice qp np cp, by rw [List.getElem?_append_right (by omega), hvl, Nat.sub_self]; rfl, by rw [hcut'.out]; exact (pn'.swap.grown gr2 wh2).swap⟩
            · exact apart_symm (apart_grown (r := .slice q1' m1' c1') (row_lt own1') (apart_symm hap1) wh2)
          case measure => simp [intOf]; omega
        by_cases hle : m ≤ 200
        · have k3 : (m : Int) ≤ 200 := by omega
          have k3b : ¬ (200 : Int) < (m : Int) := by omega
          have k4 : (m : Int) ≤ (d : Int) := by omega
          have k5 : m ≤ d := by omega
          have k6 : (0 : Int) ≤ (m : Int) := by omega
          have k9 : ¬ d < m := by omega
          have k10 : ¬ (d : Int) < (m : Int) := by omega
          have k7 : ¬ d = 0 := by omega
          have k8 : ¬ (d : Int) = 0 := by omega
          have hbM : Hid (y.length = m) := by show _ = _; rw [← hy.out, List.length_take]; omega
          have dB := Lib.hid (fun (W1 : World) (h : Below w.heap.size w W1) => baseBytes y (by rw [hbM.out]; omega) m hbM.out.symm q d W1 (hyA.out.call h))
          clear hm hmd
          rcases q with _ | qa
          · go_upto_region 5 with fail
            go_region_held3 (fun W' => Below w.heap.size w W') (first | exact hB | exact hB.drew | exact hB4) (first
              | (go_at_call 10; refine (dB.out _ (by exact hB.drew)).mono ?_; intro e' w4 hr; obtain ⟨qp, np, cp, rfl, mp, hb4⟩ := hr.mine; have hB4 := below_then hB.drew hb4))
            clear rc
            have hBr : Below wr.heap.size wr w4 := (Below.refl wr.heap.size wr).drew.trans hb4
            have ow1 := (own_call own1 hBr).alloc (.cells #[.slice qp np cp] 22)
            have ow2 := (own_call own2 hBr).alloc (.cells #[.slice qp np cp] 22)
            have mp0 : Mine .u8 5 wr.heap.size w4 qp np cp y := mp
            have pn := (mp0.part (o1 := (Value.slice q1 m1 c1).ownBlock) (o2 := (Value.slice q2 m2 c2).ownBlock) (row_lt own1) (row_lt own2)).call ((Below.refl _ _).alloc (Nat.le_refl _) (.cells #[.slice qp np cp] 22))
            have hpc := Lib.hid (mp0.none_cap)
            have hB5 := hB4.alloc hB4.size (.cells #[.slice qp np cp] 22)
            have hcv : Hid (∀ j u, [Value.slice qp np cp][j]? = some u → (w4.alloc (.cells #[.slice qp np cp] 22)).cell? ((⟨w4.heap.size, 0, none⟩ : Addr).add j) = some u) := fun j u hu => by
              have hj := (List.getElem?_eq_some_iff.1 hu).1
              obtain rfl : j = 0 := by simpa using hj
              injection hu with hu
              subst hu
              simp [Addr.add, go_sem]
            have hle1 := Lib.hid (show (m1 + 1) * (24 + 1) ≤ 1000000000000 by have := hm1.out; omega)
            have hjl := Lib.hid (joinTo_le (cutL l) i)
            have hnp := Lib.hid mp0.len
            have hlen2 := hLen.out
            have hle2 := Lib.hid (show (m2 + np) * (1 + 1) ≤ 1000000000000 by have := hm2.out; have := hjl.out; have := hnp.out; have := hbM.out; omega)
            clear hlen2 mp mp0 hb4 hB4
            go_wp2_with (first
              | (at_builtin; refine walk_where (o := ⟨some 35, _, _, _, _, _⟩) rfl _ _ 27 rfl w.heap.size 22 j0 (.slice none 0 0) 24 Tryd.underlying27 hj0 hy0 hy1 hy2 rfl (.slice q1 m1 c1) m1 vs rfl ow1 ⟨w4.heap.size, 0, none⟩ 1 1 [.slice qp np cp] rfl rfl hcv.out (fun u hu => by obtain rfl := List.mem_singleton.mp hu; rfl) hle1.out hB5.size ?_; intro q1' m1' c1' w6 own1' e1' k1' gr1 wh1; have ow2' := own_other ow2 gr1 hap.out; have pn' := pn.grown gr1 wh1; have hB6 := hB5.grown gr1 hB5.size (fun k hk => (ow1.lt k hk).1); obtain ⟨qx, mx, dx, ex, hmx, hdx, hatx, hqx⟩ := id pn'; injection ex with ex1 ex2 ex3; subst ex1 ex2 ex3; replace hmx := Lib.hid hmx; clear hdx hqx)
              | (at_builtin; refine walk_where_ints (k := .u8) (o := ⟨some 38, _, _, _, _, _⟩) rfl _ _ 22 rfl w.heap.size 5 i0 (.int .u8 0) 1 Tryd.underlying22 hi0 hz0 hz1 hz2 rfl (.slice q2 m2 c2) m2 (ints .u8 (joinTo (cutL l) i)) rfl ow2' qp np cp y rfl hatx hmx.out hpc.out hle2.out hB6.size ?_; intro q2' m2' c2' w7 own2' e2' k2' gr2 wh2))
            go_roundw
            case rel =>
              have hap1 := apart_grown (r := .slice q2 m2 c2) (row_lt ow2) hap.out wh1
              have hvl : vs.length = i := by have := own1.1; have := hm1.out; omega
              have hjs := joinTo_succ (cutL l) i (by rw [cutL_length, ← hN.out]; omega)
              rw [hcut'.out] at hjs
              refine ⟨i + 1, q1', m1', c1', q2', m2', c2', vs ++ [.slice qp np cp], by omega, by go_num, rfl, rfl, ?_, ?_, k1', k2', own_other own1' gr2 (apart_symm hap1), ?_, ?_, ?_, hB6.grown gr2 hB6.size (fun k hk => (ow2'.lt k hk).1)⟩
              · have := e1'.out; have := hm1.out; show _ = _; omega
              · have h5 := e2'.out; have h6 := hm2.out; have h7 := hmx.out; show _ = _; rw [← hjs, List.length_append]; omega
              · rw [← hjs, ints, List.map_append]; exact own2'
              · intro j hj
                by_cases hji : j < i
                · obtain ⟨v, hvj, hpo⟩ := hparts.out j hji
                  exact ⟨v, by rw [List.getElem?_append_left (by omega)]; exact hvj, ((((hpo.call hBr).call ((Below.refl _ _).alloc (Nat.le_refl _) _)).grown gr1 wh1).swap.grown gr2 wh2).swap⟩
                · obtain rfl : j = i := by omega
                  exact ⟨.slice qp np cp, by rw [List.getElem?_append_right (by omega), hvl, Nat.sub_self]; rfl, by rw [hcut'.out]; exact (pn'.swap.grown gr2 wh2).swap⟩
              · exact apart_symm (apart_grown (r := .slice q1' m1' c1') (row_lt own1') (apart_symm hap1) wh2)
            case measure => simp [intOf]; omega
          · go_upto_region 5 with fail
            go_region_held3 (fun W' => Below w.heap.size w W') (first | exact hB | exact hB.drew | exact hB4) (first
              | (go_at_call 10; refine (dB.out _ (by exact hB.drew)).mono ?_; intro e' w4 hr; obtain ⟨qp, np, cp, rfl, mp, hb4⟩ := hr.mine; have hB4 := below_then hB.drew hb4))
            clear rc
            have hBr : Below wr.heap.size wr w4 := (Below.refl wr.heap.size wr).drew.trans hb4
            have ow1 := (own_call own1 hBr).alloc (.cells #[.slice qp np cp] 22)
            have ow2 := (own_call own2 hBr).alloc (.cells #[.slice qp np cp] 22)
            have mp0 : Mine .u8 5 wr.heap.size w4 qp np cp y := mp
            have pn := (mp0.part (o1 := (Value.slice q1 m1 c1).ownBlock) (o2 := (Value.slice q2 m2 c2).ownBlock) (row_lt own1) (row_lt own2)).call ((Below.refl _ _).alloc (Nat.le_refl _) (.cells #[.slice qp np cp] 22))
            have hpc := Lib.hid (mp0.none_cap)
            have hB5 := hB4.alloc hB4.size (.cells #[.slice qp np cp] 22)
            have hcv : Hid (∀ j u, [Value.slice qp np cp][j]? = some u → (w4.alloc (.cells #[.slice qp np cp] 22)).cell? ((⟨w4.heap.size, 0, none⟩ : Addr).add j) = some u) := fun j u hu => by
              have hj := (List.getElem?_eq_some_iff.1 hu).1
              obtain rfl : j = 0 := by simpa using hj
              injection hu with hu
              subst hu
              simp [Addr.add, go_sem]
            have hle1 := Lib.hid (show (m1 + 1) * (24 + 1) ≤ 1000000000000 by have := hm1.out; omega)
            have hjl := Lib.hid (joinTo_le (cutL l) i)
            have hnp := Lib.hid mp0.len
            have hlen2 := hLen.out
            have hle2 := Lib.hid (show (m2 + np) * (1 + 1) ≤ 1000000000000 by have := hm2.out; have := hjl.out; have := hnp.out; have := hbM.out; omega)
            clear hlen2 mp mp0 hb4 hB4
            go_wp2_with (first
              | (at_builtin; refine walk_where (o := ⟨some 35, _, _, _, _, _⟩) rfl _ _ 27 rfl w.heap.size 22 j0 (.slice none 0 0) 24 Tryd.underlying27 hj0 hy0 hy1 hy2 rfl (.slice q1 m1 c1) m1 vs rfl ow1 ⟨w4.heap.size, 0, none⟩ 1 1 [.slice qp np cp] rfl rfl hcv.out (fun u hu => by obtain rfl := List.mem_singleton.mp hu; rfl) hle1.out hB5.size ?_; intro q1' m1' c1' w6 own1' e1' k1' gr1 wh1; have ow2' := own_other ow2 gr1 hap.out; have pn' := pn.grown gr1 wh1; have hB6 := hB5.grown gr1 hB5.size (fun k hk => (ow1.lt k hk).1); obtain ⟨qx, mx, dx, ex, hmx, hdx, hatx, hqx⟩ := id pn'; injection ex with ex1 ex2 ex3; subst ex1 ex2 ex3; replace hmx := Lib.hid hmx; clear hdx hqx)
              | (at_builtin; refine walk_where_ints (k := .u8) (o := ⟨some 38, _, _, _, _, _⟩) rfl _ _ 22 rfl w.heap.size 5 i0 (.int .u8 0) 1 Tryd.underlying22 hi0 hz0 hz1 hz2 rfl (.slice q2 m2 c2) m2 (ints .u8 (joinTo (cutL l) i)) rfl ow2' qp np cp y rfl hatx hmx.out hpc.out hle2.out hB6.size ?_; intro q2' m2' c2' w7 own2' e2' k2' gr2 wh2))
            go_roundw
            case rel =>
              have hap1 := apart_grown (r := .slice q2 m2 c2) (row_lt ow2) hap.out wh1
              have hvl : vs.length = i := by have := own1.1; have := hm1.out; omega
              have hjs := joinTo_succ (cutL l) i (by rw [cutL_length, ← hN.out]; omega)
              rw [hcut'.out] at hjs
              refine ⟨i + 1, q1', m1', c1', q2', m2', c2', vs ++ [.slice qp np cp], by omega, by go_num, rfl, rfl, ?_, ?_, k1', k2', own_other own1' gr2 (apart_symm hap1), ?_, ?_, ?_, hB6.grown gr2 hB6.size (fun k hk => (ow2'.lt k hk).1)⟩
              · have := e1'.out; have := hm1.out; show _ = _; omega
              · have h5 := e2'.out; have h6 := hm2.out; have h7 := hmx.out; show _ = _; rw [← hjs, List.length_append]; omega
              · rw [← hjs, ints, List.map_append]; exact own2'
              · intro j hj
                by_cases hji : j < i
                · obtain ⟨v, hvj, hpo⟩ := hparts.out j hji
                  exact ⟨v, by rw [List.getElem?_append_left (by omega)]; exact hvj, ((((hpo.call hBr).call ((Below.refl _ _).alloc (Nat.le_refl _) _)).grown gr1 wh1).swap.grown gr2 wh2).swap⟩
                · obtain rfl : j = i := by omega
                  exact ⟨.slice qp np cp, by rw [List.getElem?_append_right (by omega), hvl, Nat.sub_self]; rfl, by rw [hcut'.out]; exact (pn'.swap.grown gr2 wh2).swap⟩
              · exact apart_symm (apart_grown (r := .slice q1' m1' c1') (row_lt own1') (apart_symm hap1) wh2)
            case measure => simp [intOf]; omega
        · have k3 : ¬ (m : Int) ≤ 200 := by omega
          have k3b : (200 : Int) < (m : Int) := by omega
          have k4 : (200 : Int) ≤ (d : Int) := by omega
          have k5 : 200 ≤ d := by omega
          have k7 : ¬ d = 0 := by omega
          have k8 : ¬ (d : Int) = 0 := by omega
          have hbM : Hid (y.length = 200) := by show _ = _; rw [← hy.out, List.length_take]; omega
          have dB := Lib.hid (fun (W1 : World) (h : Below w.heap.size w W1) => baseBytes y (by rw [hbM.out]; omega) 200 hbM.out.symm q d W1 (hyA.out.call h))
          clear hm hmd
          go_upto_region 5 with fail
          go_region_held3 (fun W' => Below w.heap.size w W') (first | exact hB | exact hB.drew | exact hB4) (first
            | (go_at_call 10; refine (dB.out _ (by exact hB.drew)).mono ?_; intro e' w4 hr; obtain ⟨qp, np, cp, rfl, mp, hb4⟩ := hr.mine; have hB4 := below_then hB.drew hb4))
          clear rc
          have hBr : Below wr.heap.size wr w4 := (Below.refl wr.heap.size wr).drew.trans hb4
          have ow1 := (own_call own1 hBr).alloc (.cells #[.slice qp np cp] 22)
          have ow2 := (own_call own2 hBr).alloc (.cells #[.slice qp np cp] 22)
          have mp0 : Mine .u8 5 wr.heap.size w4 qp np cp y := mp
          have pn := (mp0.part (o1 := (Value.slice q1 m1 c1).ownBlock) (o2 := (Value.slice q2 m2 c2).ownBlock) (row_lt own1) (row_lt own2)).call ((Below.refl _ _).alloc (Nat.le_refl _) (.cells #[.slice qp np cp] 22))
          have hpc := Lib.hid (mp0.none_cap)
          have hB5 := hB4.alloc hB4.size (.cells #[.slice qp np cp] 22)
          have hcv : Hid (∀ j u, [Value.slice qp np cp][j]? = some u → (w4.alloc (.cells #[.slice qp np cp] 22)).cell? ((⟨w4.heap.size, 0, none⟩ : Addr).add j) = some u) := fun j u hu => by
            have hj := (List.getElem?_eq_some_iff.1 hu).1
            obtain rfl : j = 0 := by simpa using hj
            injection hu with hu
            subst hu
            simp [Addr.add, go_sem]
          have hle1 := Lib.hid (show (m1 + 1) * (24 + 1) ≤ 1000000000000 by have := hm1.out; omega)
          have hjl := Lib.hid (joinTo_le (cutL l) i)
          have hnp := Lib.hid mp0.len
          have hlen2 := hLen.out
          have hle2 := Lib.hid (show (m2 + np) * (1 + 1) ≤ 1000000000000 by have := hm2.out; have := hjl.out; have := hnp.out; have := hbM.out; omega)
          clear hlen2 mp mp0 hb4 hB4
          go_wp2_with (first
            | (at_builtin; refine walk_where (o := ⟨some 35, _, _, _, _, _⟩) rfl _ _ 27 rfl w.heap.size 22 j0 (.slice none 0 0) 24 Tryd.underlying27 hj0 hy0 hy1 hy2 rfl (.slice q1 m1 c1) m1 vs rfl ow1 ⟨w4.heap.size, 0, none⟩ 1 1 [.slice qp np cp] rfl rfl hcv.out (fun u hu => by obtain rfl := List.mem_singleton.mp hu; rfl) hle1.out hB5.size ?_; intro q1' m1' c1' w6 own1' e1' k1' gr1 wh1; have ow2' := own_other ow2 gr1 hap.out; have pn' := pn.grown gr1 wh1; have hB6 := hB5.grown gr1 hB5.size (fun k hk => (ow1.lt k hk).1); obtain ⟨qx, mx, dx, ex, hmx, hdx, hatx, hqx⟩ := id pn'; injection ex with ex1 ex2 ex3; subst ex1 ex2 ex3; replace hmx := Lib.hid hmx; clear hdx hqx)
            | (at_builtin; refine walk_where_ints (k := .u8) (o := ⟨some 38, _, _, _, _, _⟩) rfl _ _ 22 rfl w.heap.size 5 i0 (.int .u8 0) 1 Tryd.underlying22 hi0 hz0 hz1 hz2 rfl (.slice q2 m2 c2) m2 (ints .u8 (joinTo (cutL l) i)) rfl ow2' qp np cp y rfl hatx hmx.out hpc.out hle2.out hB6.size ?_; intro q2' m2' c2' w7 own2' e2' k2' gr2 wh2))
          go_roundw
          case rel =>
            have hap1 := apart_grown (r := .slice q2 m2 c2) (row_lt ow2) hap.out wh1
            have hvl : vs.length = i := by have := own1.1; have := hm1.out; omega
            have hjs := joinTo_succ (cutL l) i (by rw [cutL_length, ← hN.out]; omega)
            rw [hcut'.out] at hjs
            refine ⟨i + 1, q1', m1', c1', q2', m2', c2', vs ++ [.slice qp np cp], by omega, by go_num, rfl, rfl, ?_, ?_, k1', k2', own_other own1' gr2 (apart_symm hap1), ?_, ?_, ?_, hB6.grown gr2 hB6.size (fun k hk => (ow2'.lt k hk).1)⟩
            · have := e1'.out; have := hm1.out; show _ = _; omega
            · have h5 := e2'.out; have h6 := hm2.out; have h7 := hmx.out; show _ = _; rw [← hjs, List.length_append]; omega
            · rw [← hjs, ints, List.map_append]; exact own2'
            · intro j hj
              by_cases hji : j < i
              · obtain ⟨v, hvj, hpo⟩ := hparts.out j hji
                exact ⟨v, by rw [List.getElem?_append_left (by omega)]; exact hvj, ((((hpo.call hBr).call ((Below.refl _ _).alloc (Nat.le_refl _) _)).grown gr1 wh1).swap.grown gr2 wh2).swap⟩
              · obtain rfl : j = i := by omega
                exact ⟨.slice qp np cp, by rw [List.getElem?_append_right (by omega), hvl, Nat.sub_self]; rfl, by rw [hcut'.out]; exact (pn'.swap.grown gr2 wh2).swap⟩
            · exact apart_symm (apart_grown (r := .slice q1' m1' c1') (row_lt own1') (apart_symm hap1) wh2)
          case measure => simp [intOf]; omega
      · have k1 : (i : Int) < (n : Int) := by omega
        have k2 : ¬ (i : Int) < 8 := by omega
        have hil : Hid (i = (cutL l).length) := by show _ = _; rw [cutL_length, ← hN.out]; omega
        have hfin : Hid (AllPost l w (.returned (.tuple #[.slice q1 m1 c1, .slice q2 m2 c2])) wr) := by
          refine ⟨q1, m1, c1, q2, m2, c2, rfl, by rw [hm1.out, hil.out], hc1, fun e => own_none own1 e, ?_, by rw [hm2.out, hil.out], hc2, ?_, hB⟩
          · rcases own1.2 with ⟨h3, h4⟩ | ⟨g, cap, cur, hv, _⟩
            · exact Or.inl (List.eq_nil_of_length_eq_zero (by have := hm1.out; have := hil.out; omega))
            · injection hv with hv1 hv2 hv3
              subst hv1
              refine Or.inr ⟨g, 0, rfl, row_lt own1 g rfl, fun j hj => ?_⟩
              obtain ⟨v, hvs, hpo⟩ := hparts.out j (by rw [hil.out]; exact hj)
              have hcell := own1.cells (v := .slice (some ⟨g, 0, none⟩) m1 c1) rfl j v hvs
              refine ⟨v, by rw [← Addr.add_mid]; exact hcell, ?_⟩
              obtain ⟨qa, ma, da, e1, e2, e3, e4, -⟩ := hpo
              exact ⟨qa, ma, da, e1, e2, e3, e4, hby.out j hj⟩
          · rw [← hil.out]; exact At.of_own own2
        go_wp2
        go_ret2
        exact hfin.out
    · have k1 : ¬ (i : Int) < (n : Int) := by omega
      have hil : Hid (i = (cutL l).length) := by show _ = _; rw [cutL_length, ← hN.out]; omega
      have hfin : Hid (AllPost l w (.returned (.tuple #[.slice q1 m1 c1, .slice q2 m2 c2])) wr) := by
        refine ⟨q1, m1, c1, q2, m2, c2, rfl, by rw [hm1.out, hil.out], hc1, fun e => own_none own1 e, ?_, by rw [hm2.out, hil.out], hc2, ?_, hB⟩
        · rcases own1.2 with ⟨h3, h4⟩ | ⟨g, cap, cur, hv, _⟩
          · exact Or.inl (List.eq_nil_of_length_eq_zero (by have := hm1.out; have := hil.out; omega))
          · injection hv with hv1 hv2 hv3
            subst hv1
            refine Or.inr ⟨g, 0, rfl, row_lt own1 g rfl, fun j hj => ?_⟩
            obtain ⟨v, hvs, hpo⟩ := hparts.out j (by rw [hil.out]; exact hj)
            have hcell := own1.cells (v := .slice (some ⟨g, 0, none⟩) m1 c1) rfl j v hvs
            refine ⟨v, by rw [← Addr.add_mid]; exact hcell, ?_⟩
            obtain ⟨qa, ma, da, e1, e2, e3, e4, -⟩ := hpo
            exact ⟨qa, ma, da, e1, e2, e3, e4, hby.out j hj⟩
        · rw [← hil.out]; exact At.of_own own2
      go_wp2
      go_ret2
      exact hfin.out

end Go.Proofs.YtdbmkelcgfmclaaDoor
