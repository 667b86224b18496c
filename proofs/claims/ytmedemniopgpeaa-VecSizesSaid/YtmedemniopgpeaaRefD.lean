/- What Of, Sign, Less and Neg of the document's answers give. -/
import Derived.Test.YtmedemniopgpeaaRefC
namespace Go.Proofs.Ytmedemniopgpeaa
open Go.RowKit
attribute [local go_sem] cell_re eqW_self
attribute [local go_sem ↓] run_eqlW run_neqW

/-- The bits of a, of which the first k have been turned. -/
def mix (a : Int) (k : Nat) : List Value := (List.range 128).map fun i => Value.int .i64 (if i < k then bit (-a - 1) i else bit a i)
theorem mix_at (a : Int) (k j : Nat) (h : j < 128) : (mix a k)[j]? = some (Value.int .i64 (if j < k then bit (-a - 1) j else bit a j)) := by unfold mix; simp [h]
theorem mix_start (a : Int) : bits_ a 128 = mix a 0 := by unfold mix bits_; simp
theorem mix_succ (a : Int) (k : Nat) (hk : k < 128) : (mix a k).set k (.int .i64 (1 - bit a k)) = mix a (k + 1) := by
  apply List.ext_getElem?
  intro j
  by_cases hj : j < 128
  · rw [List.getElem?_set, mix_at a (k + 1) j hj]
    by_cases hjk : k = j
    · subst hjk
      rw [if_pos rfl, if_pos (by unfold mix; simpa using hk), if_pos (by omega), neg_bit]
    · rw [if_neg hjk, mix_at a k j hj]
      by_cases h : j < k
      · rw [if_pos h, if_pos (by omega)]
      · rw [if_neg h, if_neg (by omega)]
  · rw [List.getElem?_eq_none (by unfold mix; simp; omega), List.getElem?_eq_none (by unfold mix; simp; omega)]

set_option maxHeartbeats 400000 in
theorem refOf (n : Int) (hn : Half n) (w : World) :
    Calls Try.prog 69 #[.int .i64 n] w fun e w' => e = .returned (W n) ∧ Below w.heap.size w w' := by
  obtain ⟨hn0, hn1⟩ := hn
  go_enter Try.func69, Try.ntmps69
  go_wp2
  all_goals
    go_returns
    refine ⟨retW (by unfold hi; omega) (by unfold lo; first | rw [IntKind.wrap_u64] | omega), by go_grown⟩

set_option maxHeartbeats 400000 in
theorem refLess (a b : Int) (ha : Fits a) (hb : Fits b) (w : World) :
    Calls Try.prog 57 #[W a, W b] w fun e w' => e = .returned (.bool (decide (a < b))) ∧ Below w.heap.size w w' := by
  have hha := hi_lo a
  have hga := hi_hi a
  have hla := lo_lo a
  have hka := lo_hi a
  have hhb := hi_lo b
  have hgb := hi_hi b
  have hlb := lo_lo b
  have hkb := lo_hi b
  rcases Int.lt_trichotomy (hi a) (hi b) with z | z | z
  all_goals
    go_enter Try.func57, Try.ntmps57
    go_wp2
  all_goals
    go_returns
    refine ⟨retB ?_, by go_grown⟩
    have q := halves ha
    have r := halves hb
    first
      | (rw [Bool.eq_iff_iff]; simp only [decide_eq_true_eq]; omega)
      | (symm; exact decide_eq_true (by omega))
      | (symm; exact decide_eq_false (by omega))

set_option maxRecDepth 100000 in
set_option maxHeartbeats 1000000 in
theorem refNeg (a : Int) (w : World) : Calls Try.prog 50 #[W a] w fun e w' => e = .returned (W (-a)) ∧ Below w.heap.size w w' := by
  have hha := hi_lo a
  have hga := hi_hi a
  have hla := lo_lo a
  have hka := lo_hi a
  go_enter Try.func50, Try.ntmps50
  go_wp2_with fail
  refine (refDigits a _).mono ?_
  rintro e w1 ⟨g, cap, rfl, hown1, hb1⟩
  have hBW : Below (w.heap.size + 2) ((w.alloc (.cells #[.int .i64 (hi a), .int .u64 (lo a)] 39)).alloc (.cells #[.int .i64 0, .int .u64 0] 39)) w1 := hb1.mono (by simp)
  have hs1 : w.heap.size + 2 ≤ w1.heap.size := Nat.le_trans (by simp) hb1.size
  rw [mix_start] at hown1
  have hown2 : w1.ownsRow (w.heap.size + 2) 3 1 (.slice (some ⟨g, 0, none⟩) 128 cap) 128 (mix a 0) := hown1.mono (by simp)
  clear hb1 hown1
  go_wp2
  go_loopw [4] (fun v4 wr => ∃ k : Nat, k ≤ 128 ∧ v4 = .int .i64 k ∧ wr.ownsRow (w.heap.size + 2) 3 1 (.slice (some ⟨g, 0, none⟩) 128 cap) 128 (mix a k) ∧ Below (w.heap.size + 2) ((w.alloc (.cells #[.int .i64 (hi a), .int .u64 (lo a)] 39)).alloc (.cells #[.int .i64 0, .int .u64 0] 39)) wr)
    (fun v4 _ => 128 - (intOf v4).toNat)
  case atStart => exact ⟨0, by omega, rfl, hown2, hBW⟩
  case round =>
    obtain ⟨k, hk, rfl, hown, hnx⟩ := hrel
    by_cases hlt : k < 128
    · obtain ⟨p, hp, p0, p1⟩ : ∃ p, Hid (bit a k = p) ∧ 0 ≤ p ∧ p ≤ 1 := ⟨_, rfl, bit_lo a k, bit_hi a k⟩
      have hcx : wr.cell? ⟨g, k, none⟩ = some (.int .i64 p) := by rw [hown.cellAt k (by omega), mix_at a k k hlt, if_neg (by omega), hp.out]
      have hfz : wr.frozen? ⟨g, k, none⟩ = false := hown.frozenAt k
      obtain ⟨hown', hgr⟩ := hown.stored k (.int .i64 (1 - p))
      rw [← hp.out, mix_succ a k hlt, hp.out] at hown'
      have hge : w.heap.size + 2 ≤ g := (hown.lt g rfl).1
      have hb2 : Below (w.heap.size + 2) ((w.alloc (.cells #[.int .i64 (hi a), .int .u64 (lo a)] 39)).alloc (.cells #[.int .i64 0, .int .u64 0] 39)) (wr.setCell ⟨g, k, none⟩ (.int .i64 (1 - p))) := hnx.setCell hge _
      have j0 : (0 : Int) ≤ (k : Int) := by omega
      have j1 : (k : Int) < 128 := by omega
      clear hgr hown hnx
      go_wp2
      go_roundw
      case rel => exact ⟨k + 1, by omega, by go_num, hown', hb2⟩
      case measure => simp [intOf]; omega
    · have hk8 : Hid (k = 128) := by show k = 128; omega
      have hcells : Hid (∀ j, j < 128 → wr.cell? ⟨g, 0 + j, none⟩ = some (.int .i64 (bit (-a - 1) j))) := fun j hj => by
        rw [Nat.zero_add, hown.cellAt j (by omega), mix_at a k j hj, if_pos (by have := hk8.out; omega)]
      have hs := hnx.size
      clear hown
      go_wp2_with fail
      refine (refNumber (bit (-a - 1)) (fun i => ⟨bit_lo _ i, bit_hi _ i⟩) (-a - 1) (sumBits_bit _ 128) g 0 cap wr hcells).mono ?_
      rintro e w3 ⟨rfl, hb3⟩
      have hn3 := hnx.trans (hb3.mono (Nat.le_trans (by simp) hs))
      go_wp2_with fail
      refine (refOf 1 (by unfold Half; omega) _).mono ?_
      rintro e w4 ⟨rfl, hb4⟩
      have hn4 := hn3.trans (hb4.mono (Nat.le_trans (by simp) hn3.size))
      go_wp2_with fail
      refine (refAdd (-a - 1) 1 _).mono ?_
      rintro e w5 ⟨rfl, hb5⟩
      have hZ := hn4.trans (hb5.mono (Nat.le_trans (by simp) hn4.size))
      rw [show -a - 1 + 1 = -a by omega]
      have r0 : w5.cell? ⟨w.heap.size + 1, 0, none⟩ = some (.int .i64 0) := (hZ.cell (p := ⟨w.heap.size + 1, 0, none⟩) (by show w.heap.size + 1 < _; omega)).trans (by simp [go_sem])
      have r1 : w5.cell? ⟨w.heap.size + 1, 1, none⟩ = some (.int .u64 0) := (hZ.cell (p := ⟨w.heap.size + 1, 1, none⟩) (by show w.heap.size + 1 < _; omega)).trans (by simp [go_sem])
      have f0 : w5.frozen? ⟨w.heap.size + 1, 0, none⟩ = false := (hZ.frozen (p := ⟨w.heap.size + 1, 0, none⟩) (by show w.heap.size + 1 < _; omega)).trans (by simp [go_sem])
      have f1 : w5.frozen? ⟨w.heap.size + 1, 1, none⟩ = false := (hZ.frozen (p := ⟨w.heap.size + 1, 1, none⟩) (by show w.heap.size + 1 < _; omega)).trans (by simp [go_sem])
      have hfin : Below w.heap.size w w5 := Below.trans (by go_grown) (hZ.mono (by omega))
      clear hZ hb5 hb4 hb3 hn3 hn4 hnx
      go_wp2
      refine bodyPost_ret (by simp [results, Try.results50, go_sem, r0, r1]; try rfl) rfl ?_
      exact ⟨rfl, Below.setCell (Below.setCell hfin (by simp) _) (by simp) _⟩

end Go.Proofs.Ytmedemniopgpeaa
