/- In how many places bytes differ: the program's, the document's. -/
import Derived.Test.YtdbmkelcgfmclaaDoorMacMath
import Derived.Test.YtdbmkelcgfmclaaDoorLists
import Derived.Deep.RegionHeld3
import Derived.Deep.DeepCutAuto
import Derived.IntWalk
import Derived.Deep.QuietTactic
import Derived.BigQuiet
import Derived.Lib.Hide
namespace Go.Proofs.YtdbmkelcgfmclaaDoor
set_option maxRecDepth 100000
open Go.RowKit
set_option linter.unusedVariables false
attribute [local go_sem] cell_re

set_option maxRecDepth 200000 in
set_option maxHeartbeats 8000000 in
theorem macApart (x y : Int) (hx : 0 ≤ x ∧ x ≤ 255) (hy : 0 ≤ y ∧ y ≤ 255) (w : World) : Calls Tryd.prog 25 #[.int .u8 x, .int .u8 y] w fun e w' => e = .returned (.int .i64 (if x = y then 0 else 1)) ∧ Below w.heap.size w w' := by
  have h1 := Lib.hid (xor_nought hx hy)
  have h2 := u8_bits .xor x y
  have h3 := h2.1
  have h4 := h2.2
  obtain ⟨z, hz⟩ : ∃ z, Hid (bits .xor .u8 x y = z) := ⟨_, rfl⟩
  obtain ⟨A, hA⟩ : ∃ A : Int, Hid ((if x = y then 0 else 1) = A) := ⟨_, rfl⟩
  rw [hA.out]
  rw [hz.out] at h1 h3 h4
  have hz' := hz.out
  have hB : Below w.heap.size w w := Below.refl _ _
  clear h2
  go_enter Tryd.func25, Tryd.ntmps25
  go_wp2
  go_ret
  refine ⟨retI ?_, hB⟩
  rw [← hA.out]
  by_cases h : x = y
  · have := h1.out.mpr h
    subst this
    rw [if_pos h]
    rfl
  · have : z ≠ 0 := fun e => h (h1.out.mp e)
    rw [if_neg h]
    first | omega | (simp only [wrap64]; omega)
set_option maxRecDepth 200000 in
set_option maxHeartbeats 8000000 in
theorem macDiff (xs ys : List Int) (bx : Byted xs) (by_ : Byted ys) (lx : xs.length ≤ 1000000) (ly : ys.length ≤ 1000000) (n m : Nat) (p q : Option Addr) (c d : Nat) (hn : n = xs.length) (hm : m = ys.length) (w : World) (hx : At .u8 w p xs) (hy : At .u8 w q ys) :
    Calls Tryd.prog 17 #[.slice p n c, .slice q m d] w fun e w' => e = .returned (.int .i64 (diffL xs ys : Nat)) ∧ Below w.heap.size w w' := by
  have hxs := Lib.hid hx
  have hys := Lib.hid hy
  have hbxs := Lib.hid bx
  have hbys := Lib.hid by_
  replace hn := Lib.hid hn
  replace hm := Lib.hid hm
  have hLe := Lib.hid (And.intro lx ly)
  obtain ⟨D, hD⟩ : ∃ D, Hid (diffL xs ys = D) := ⟨_, rfl⟩
  rw [hD.out]
  have jn : (n : Int) ≤ 1000000 := by have := hn.out; omega
  have jm : (m : Int) ≤ 1000000 := by have := hm.out; omega
  have hO : Below w.heap.size w w := Below.refl _ _
  clear hx hy bx by_ lx ly
  go_enter Tryd.func17, Tryd.ntmps17
  by_cases hs : (m : Int) < (n : Int)
  · have hmn := Lib.hid (show m ≤ n by omega)
    have hs' : ¬ (n : Int) ≤ (m : Int) := by omega
    go_wp2
    go_loopw [5, 22] (fun v5 v22 wr => ∃ (i : Nat), i ≤ m ∧ v22 = .int .i64 i ∧ v5 = .int .i64 ((n - m + bothTo ys xs i : Nat) : Int) ∧ Below w.heap.size w wr) (fun _ v22 _ => m - (intOf v22).toNat)
    case atStart => exact ⟨0, Nat.zero_le _, rfl, (by show Value.int .i64 _ = _; congr 1; have := hmn.out; show _ = (((n - m + 0 : Nat)) : Int); first | omega | (unfold wrap64; omega)), hO⟩
    case round =>
      clear hO
      obtain ⟨i, hi, rfl, rfl, hB⟩ := hrel
      by_cases hlt : i < m
      · have h1 := hm.out
        have h2 := hn.out
        have h3 := hmn.out
        have h4 := bothTo_le ys xs i
        have h5 := hLe.out
        obtain ⟨b, off, rfl, hbl, cx⟩ := (hys.out.call hB).cell (j := i) (by omega)
        obtain ⟨b2, off2, rfl, hbl2, cy⟩ := (hxs.out.call hB).cell (j := i) (by omega)
        have dA := Lib.hid (macApart (ys.getD i 0) (xs.getD i 0) ((hbys.out).at_ i) ((hbxs.out).at_ i) wr)
        obtain ⟨S, hS⟩ : ∃ S, Hid (n - m + bothTo ys xs i = S) := ⟨_, rfl⟩
        have hS2 : Hid (n - m + bothTo ys xs (i + 1) = S + if ys.getD i 0 = xs.getD i 0 then 0 else 1) := by
          show _ = _
          rw [← hS.out]
          show _ + (_ + _) = _
          omega
        have hSb : S ≤ 2000000 := by rw [← hS.out]; omega
        rw [hS.out]
        generalize ys.getD i 0 = x at *
        generalize xs.getD i 0 = y at *
        have j1 : (i : Int) < (m : Int) := by omega
        have j2 : (i : Int) < (n : Int) := by omega
        have j3 : i < n := by omega
        clear h1 h2 h3 h4 h5
        go_wp2_with (go_at_call 25; refine dA.out.mono ?_; rintro e' w3 ⟨rfl, hB3⟩; have hBw := below_then hB hB3)
        go_roundw
        case rel => exact ⟨i + 1, by omega, by go_num, (by rw [hS2.out]; congr 1; split <;> first | omega | (unfold wrap64; omega)), hBw⟩
        case measure => simp [intOf]; omega
      · obtain rfl : i = m := by omega
        have h1 := hm.out
        have h2 := hn.out
        have h3 := hmn.out
        have hfin : Hid (n - i + bothTo ys xs i = D) := by
          show _ = _
          rw [← hD.out, diffL_comm, diffL_short ys xs (by omega), ← h1, ← h2]
        rw [hfin.out]
        clear h1 h2 h3
        go_wp2
        go_ret
        exact ⟨rfl, hB⟩
  · have hnm := Lib.hid (show n ≤ m by omega)
    have hs' : (n : Int) ≤ (m : Int) := by omega
    go_wp2
    go_loopw [5, 22] (fun v5 v22 wr => ∃ (i : Nat), i ≤ n ∧ v22 = .int .i64 i ∧ v5 = .int .i64 ((m - n + bothTo xs ys i : Nat) : Int) ∧ Below w.heap.size w wr) (fun _ v22 _ => n - (intOf v22).toNat)
    case atStart => exact ⟨0, Nat.zero_le _, rfl, (by show Value.int .i64 _ = _; congr 1; have := hnm.out; show _ = (((m - n + 0 : Nat)) : Int); first | omega | (unfold wrap64; omega)), hO⟩
    case round =>
      clear hO
      obtain ⟨i, hi, rfl, rfl, hB⟩ := hrel
      by_cases hlt : i < n
      · have h1 := hn.out
        have h2 := hm.out
        have h3 := hnm.out
        have h4 := bothTo_le xs ys i
        have h5 := hLe.out
        obtain ⟨b, off, rfl, hbl, cx⟩ := (hxs.out.call hB).cell (j := i) (by omega)
        obtain ⟨b2, off2, rfl, hbl2, cy⟩ := (hys.out.call hB).cell (j := i) (by omega)
        have dA := Lib.hid (macApart (xs.getD i 0) (ys.getD i 0) ((hbxs.out).at_ i) ((hbys.out).at_ i) wr)
        obtain ⟨S, hS⟩ : ∃ S, Hid (m - n + bothTo xs ys i = S) := ⟨_, rfl⟩
        have hS2 : Hid (m - n + bothTo xs ys (i + 1) = S + if xs.getD i 0 = ys.getD i 0 then 0 else 1) := by
          show _ = _
          rw [← hS.out]
          show _ + (_ + _) = _
          omega
        have hSb : S ≤ 2000000 := by rw [← hS.out]; omega
        rw [hS.out]
        generalize xs.getD i 0 = x at *
        generalize ys.getD i 0 = y at *
        have j1 : (i : Int) < (n : Int) := by omega
        have j2 : (i : Int) < (m : Int) := by omega
        have j3 : i < m := by omega
        clear h1 h2 h3 h4 h5
        go_wp2_with (go_at_call 25; refine dA.out.mono ?_; rintro e' w3 ⟨rfl, hB3⟩; have hBw := below_then hB hB3)
        go_roundw
        case rel => exact ⟨i + 1, by omega, by go_num, (by rw [hS2.out]; congr 1; split <;> first | omega | (unfold wrap64; omega)), hBw⟩
        case measure => simp [intOf]; omega
      · obtain rfl : i = n := by omega
        have h1 := hn.out
        have h2 := hm.out
        have h3 := hnm.out
        have hfin : Hid (m - i + bothTo xs ys i = D) := by
          show _ = _
          rw [← hD.out, diffL_short xs ys (by omega), ← h1, ← h2]
        rw [hfin.out]
        clear h1 h2 h3
        go_wp2
        go_ret
        exact ⟨rfl, hB⟩
set_option maxRecDepth 200000 in
set_option maxHeartbeats 8000000 in
theorem macEqual (xs ys : List Int) (bx : Byted xs) (by_ : Byted ys) (lx : xs.length ≤ 1000000) (ly : ys.length ≤ 1000000) (n m : Nat) (p q : Option Addr) (c d : Nat) (hn : n = xs.length) (hm : m = ys.length) (w : World) (hx : At .u8 w p xs) (hy : At .u8 w q ys) :
    Calls Tryd.prog 15 #[.slice p n c, .slice q m d] w fun e w' => e = .returned (.bool (decide (xs = ys))) ∧ Below w.heap.size w w' := by
  have d1 := Lib.hid (macDiff xs ys bx by_ lx ly n m p q c d hn hm w hx hy)
  have h0 := Lib.hid (diffL_nought xs ys)
  have hle := diffL_le xs ys
  have hDb : diffL xs ys ≤ 1000000 := by omega
  obtain ⟨D, hD⟩ : ∃ D, Hid (diffL xs ys = D) := ⟨_, rfl⟩
  rw [hD.out] at d1 hDb h0
  have hw : Hid (∀ b, b = decide (xs = ys) → Value.bool b = Value.bool (decide (xs = ys))) := fun b e => by rw [e]
  clear hle bx by_ lx ly hn hm hx hy
  go_enter Tryd.func15, Tryd.ntmps15
  go_wp2_with (go_at_call 17; refine d1.out.mono ?_; rintro e' w1 ⟨rfl, hB⟩)
  go_ret
  refine ⟨?_, hB⟩
  congr 2
  have h1 := h0.out
  by_cases h : xs = ys
  · obtain rfl := h1.mpr h
    simp [h]
  · have : D ≠ 0 := fun e => h (h1.mp e)
    simp [h]
    omega
theorem below_drewN (w : World) (n : Nat) : Below w.heap.size w (w.drewN n) := ⟨rfl, rfl, rfl, Nat.le_refl _, fun _ _ => rfl⟩
set_option maxRecDepth 200000 in
set_option maxHeartbeats 8000000 in
theorem ref9Diff (xs ys : List Int) (bx : Byted xs) (by_ : Byted ys) (lx : xs.length ≤ 1000000) (ly : ys.length ≤ 1000000) (n m : Nat) (p q : Option Addr) (c d : Nat) (hn : n = xs.length) (hm : m = ys.length) (w : World) (hx : At .u8 w p xs) (hy : At .u8 w q ys) :
    Calls Tryd.prog 18 #[.slice p n c, .slice q m d] w fun e w' => e = .returned (.int .i64 (diffL xs ys : Nat)) ∧ Below w.heap.size w w' := by
  have hxs := Lib.hid hx
  have hys := Lib.hid hy
  replace hn := Lib.hid hn
  replace hm := Lib.hid hm
  have hLe := Lib.hid (And.intro lx ly)
  obtain ⟨D, hD⟩ : ∃ D, Hid (diffL xs ys = D) := ⟨_, rfl⟩
  rw [hD.out]
  have jn : (n : Int) ≤ 1000000 := by have := hn.out; omega
  have jm : (m : Int) ≤ 1000000 := by have := hm.out; omega
  have hO : Below w.heap.size w w := Below.refl _ _
  clear hx hy bx by_ lx ly
  go_enter Tryd.func18, Tryd.ntmps18
  go_wp2
  go_loopw [5, 6] (fun v5 v6 wr => ∃ (i : Nat), i ≤ max n m ∧ v6 = .int .i64 i ∧ v5 = .int .i64 (diffTo xs ys i : Nat) ∧ Below w.heap.size w wr) (fun _ v6 _ => max n m - (intOf v6).toNat)
  case atStart => exact ⟨0, Nat.zero_le _, rfl, rfl, hO⟩
  case round =>
    clear hO
    obtain ⟨i, hi, rfl, rfl, hB⟩ := hrel
    have hSb : diffTo xs ys i ≤ i := diffTo_le xs ys i
    have hi9 : i ≤ 1000000 := by omega
    have h1 := hn.out
    have h2 := hm.out
    by_cases hlt : i < max n m
    · have hS2 : Hid (diffTo xs ys (i + 1) = diffTo xs ys i + if n ≤ i ∨ m ≤ i ∨ xs.getD i 0 ≠ ys.getD i 0 then 1 else 0) := by rw [h1, h2]; exact Lib.hid rfl
      obtain ⟨S, hS⟩ : ∃ S, Hid (diffTo xs ys i = S) := ⟨_, rfl⟩
      rw [hS.out] at hS2 hSb ⊢
      obtain ⟨M, hM⟩ : ∃ M, Hid (M = max n m) := ⟨_, rfl⟩
      have hMi : i < M := by rw [hM.out]; exact hlt
      by_cases ha : n ≤ i
      · have hmi : i < m := by omega
        have j1 : ¬ (i : Int) < (n : Int) := by omega
        have j2 : (i : Int) < (m : Int) := by omega
        have j3 : (n : Int) ≤ (i : Int) := by omega
        have j4 : (n : Int) < (m : Int) := by omega
        rw [if_pos (Or.inl ha)] at hS2
        clear h1 h2 hlt
        go_wp2
        go_quiet (fail)
        go_wp2
        go_roundw
        case rel => exact ⟨i + 1, by omega, by go_num, (by rw [hS2.out]; first | rfl | (congr 1; first | omega | (unfold wrap64; omega))), by first | exact hB | exact below_then hB (below_drewN _ _)⟩
        case measure => simp [intOf]; omega
      · by_cases hb : m ≤ i
        · have hni : i < n := by omega
          have j1 : (i : Int) < (n : Int) := by omega
          have j2 : ¬ (i : Int) < (m : Int) := by omega
          have j3 : ¬ (n : Int) ≤ (i : Int) := by omega
          have j4 : ¬ (n : Int) < (m : Int) := by omega
          have j5 : (m : Int) ≤ (i : Int) := by omega
          rw [if_pos (Or.inr (Or.inl hb))] at hS2
          clear h1 h2 hlt
          go_wp2
          go_quiet (fail)
          go_wp2
          go_roundw
          case rel => exact ⟨i + 1, by omega, by go_num, (by rw [hS2.out]; first | rfl | (congr 1; first | omega | (unfold wrap64; omega))), by first | exact hB | exact below_then hB (below_drewN _ _)⟩
          case measure => simp [intOf]; omega
        · obtain ⟨b, off, rfl, hbl, cx⟩ := (hxs.out.call hB).cell (j := i) (by omega)
          obtain ⟨b2, off2, rfl, hbl2, cy⟩ := (hys.out.call hB).cell (j := i) (by omega)
          generalize xs.getD i 0 = x at *
          generalize ys.getD i 0 = y at *
          have j1 : (i : Int) < (n : Int) := by omega
          have j2 : (i : Int) < (m : Int) := by omega
          have j3 : ¬ (n : Int) ≤ (i : Int) := by omega
          have j5 : ¬ (m : Int) ≤ (i : Int) := by omega
          have j6 : i < n := by omega
          have j7 : i < m := by omega
          have hc : Hid ((n ≤ i ∨ m ≤ i ∨ x ≠ y) ↔ x ≠ y) := ⟨fun h => by rcases h with h | h | h; exact absurd h ha; exact absurd h hb; exact h, fun h => Or.inr (Or.inr h)⟩
          clear h1 h2 hlt
          by_cases hnm : n < m
          · have j4 : (n : Int) < (m : Int) := by omega
            by_cases hxy : x = y
            · rw [if_neg (fun h => hc.out.mp h hxy)] at hS2
              subst hxy
              go_wp2
              go_quiet (fail)
              go_wp2
              go_roundw
              case rel => exact ⟨i + 1, by omega, by go_num, (by rw [hS2.out]; first | rfl | (congr 1; first | omega | (unfold wrap64; omega))), by first | exact hB | exact below_then hB (below_drewN _ _)⟩
              case measure => simp [intOf]; omega
            · rw [if_pos (hc.out.mpr hxy)] at hS2
              go_wp2
              go_quiet (fail)
              go_wp2
              go_roundw
              case rel => exact ⟨i + 1, by omega, by go_num, (by rw [hS2.out]; first | rfl | (congr 1; first | omega | (unfold wrap64; omega))), by first | exact hB | exact below_then hB (below_drewN _ _)⟩
              case measure => simp [intOf]; omega
          · have j4 : ¬ (n : Int) < (m : Int) := by omega
            by_cases hxy : x = y
            · rw [if_neg (fun h => hc.out.mp h hxy)] at hS2
              subst hxy
              go_wp2
              go_quiet (fail)
              go_wp2
              go_roundw
              case rel => exact ⟨i + 1, by omega, by go_num, (by rw [hS2.out]; first | rfl | (congr 1; first | omega | (unfold wrap64; omega))), by first | exact hB | exact below_then hB (below_drewN _ _)⟩
              case measure => simp [intOf]; omega
            · rw [if_pos (hc.out.mpr hxy)] at hS2
              go_wp2
              go_quiet (fail)
              go_wp2
              go_roundw
              case rel => exact ⟨i + 1, by omega, by go_num, (by rw [hS2.out]; first | rfl | (congr 1; first | omega | (unfold wrap64; omega))), by first | exact hB | exact below_then hB (below_drewN _ _)⟩
              case measure => simp [intOf]; omega
    · obtain rfl : i = max n m := by omega
      have hfin : Hid (diffTo xs ys (max n m) = D) := by show _ = _; rw [← hD.out, h1, h2]; rfl
      rw [hfin.out]
      clear h1 h2 hSb
      by_cases hnm : n < m
      · have e : max n m = m := Nat.max_eq_right (by omega)
        rw [e] at *
        have j4 : (n : Int) < (m : Int) := by omega
        go_wp2
        go_ret
        exact ⟨rfl, by first | exact hB | exact hB.drew⟩
      · have e : max n m = n := Nat.max_eq_left (by omega)
        rw [e] at *
        have j4 : ¬ (n : Int) < (m : Int) := by omega
        go_wp2
        go_ret
        exact ⟨rfl, by first | exact hB | exact hB.drew⟩

end Go.Proofs.YtdbmkelcgfmclaaDoor
