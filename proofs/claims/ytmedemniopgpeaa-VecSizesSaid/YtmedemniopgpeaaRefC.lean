/- What Add and Neg of the document's answers give: the sum and the opposite, modulo 2^128. -/
import Derived.Test.YtmedemniopgpeaaRefB
namespace Go.Proofs.Ytmedemniopgpeaa
open Go.RowKit
attribute [local go_sem] cell_re eqW_self
attribute [local go_sem ↓] run_eqlW run_neqW

theorem keepB {B : Nat} {W0 w1 w2 : World} {Q : Prop} (hB : B ≤ W0.heap.size) (hb : Below w1.heap.size w1 w2) (h : Below B W0 w1 ∧ Q) : Below B W0 w2 := h.1.trans (hb.mono (Nat.le_trans hB h.1.size))
theorem row_cell {w w' : World} {base : Nat} {e : TypeId} {g cap : Nat} {a : Int} (h : w.ownsRow base e 1 (.slice (some ⟨g, 0, none⟩) 128 cap) 128 (bits_ a 128)) (hb : Below w.heap.size w w') :
    g < w'.heap.size ∧ ∀ j, j < 128 → w'.cell? ⟨g, j, none⟩ = some (.int .i64 (bit a j)) := by
  have hg : g < w.heap.size := (h.lt g rfl).2
  exact ⟨Nat.lt_of_lt_of_le hg hb.size, fun j hj => by rw [hb.cell (p := ⟨g, j, none⟩) hg, h.cellAt j (by omega), bits_at a 128 j hj]⟩
theorem number_row (a : Int) {w w' : World} {base : Nat} {e : TypeId} {g cap : Nat} (h : w.ownsRow base e 1 (.slice (some ⟨g, 0, none⟩) 128 cap) 128 (bits_ a 128)) (hb : Below w.heap.size w w') :
    Calls Try.prog 47 #[.slice (some ⟨g, 0, none⟩) 128 cap] w' fun e w'' => e = .returned (W a) ∧ Below w'.heap.size w' w'' :=
  refNumber (bit a) (fun i => ⟨bit_lo a i, bit_hi a i⟩) a (sumBits_bit a 128) g 0 cap w' (fun j hj => by rw [Nat.zero_add]; exact (row_cell h hb).2 j hj)

set_option maxRecDepth 100000 in
set_option maxHeartbeats 1000000 in
theorem refAdd (a b : Int) (w : World) : Calls Try.prog 25 #[W a, W b] w fun e w' => e = .returned (W (a + b)) ∧ Below w.heap.size w w' := by
  obtain ⟨i0, hi0, hz0, hz1, hz2⟩ := info_parts Try.infoInt
  have hha := hi_lo a
  have hga := hi_hi a
  have hla := lo_lo a
  have hka := lo_hi a
  have hhb := hi_lo b
  have hgb := hi_hi b
  have hlb := lo_lo b
  have hkb := lo_hi b
  have hB0 : w.heap.size + 3 ≤ (((w.alloc (.cells #[.int .i64 (hi a), .int .u64 (lo a)] 39)).alloc (.cells #[.int .i64 (hi b), .int .u64 (lo b)] 39)).alloc (.cells #[.int .i64 0, .int .u64 0] 39)).heap.size := by simp
  have hS : Hid (∀ w', Below (w.heap.size + 3) (((w.alloc (.cells #[.int .i64 (hi a), .int .u64 (lo a)] 39)).alloc (.cells #[.int .i64 (hi b), .int .u64 (lo b)] 39)).alloc (.cells #[.int .i64 0, .int .u64 0] 39)) w' → Below (w.heap.size + 3) (((w.alloc (.cells #[.int .i64 (hi a), .int .u64 (lo a)] 39)).alloc (.cells #[.int .i64 (hi b), .int .u64 (lo b)] 39)).alloc (.cells #[.int .i64 0, .int .u64 0] 39)) w' ∧ w'.cell? ⟨w.heap.size, 0, none⟩ = some (.int .i64 (hi a)) ∧ w'.cell? ⟨w.heap.size, 1, none⟩ = some (.int .u64 (lo a)) ∧ w'.cell? ⟨w.heap.size + 1, 0, none⟩ = some (.int .i64 (hi b)) ∧ w'.cell? ⟨w.heap.size + 1, 1, none⟩ = some (.int .u64 (lo b))) :=
    fun w' h => ⟨h, (h.cell (p := ⟨w.heap.size, 0, none⟩) (by show w.heap.size < _; omega)).trans (by simp [go_sem]), (h.cell (p := ⟨w.heap.size, 1, none⟩) (by show w.heap.size < _; omega)).trans (by simp [go_sem]),
      (h.cell (p := ⟨w.heap.size + 1, 0, none⟩) (by show w.heap.size + 1 < _; omega)).trans (by simp [go_sem]), (h.cell (p := ⟨w.heap.size + 1, 1, none⟩) (by show w.heap.size + 1 < _; omega)).trans (by simp [go_sem])⟩
  go_enter Try.func25, Try.ntmps25
  go_wp2_with fail
  go_region_held3 (fun w' => Below (w.heap.size + 3) (((w.alloc (.cells #[.int .i64 (hi a), .int .u64 (lo a)] 39)).alloc (.cells #[.int .i64 (hi b), .int .u64 (lo b)] 39)).alloc (.cells #[.int .i64 0, .int .u64 0] 39)) w' ∧ w'.cell? ⟨w.heap.size, 0, none⟩ = some (.int .i64 (hi a)) ∧ w'.cell? ⟨w.heap.size, 1, none⟩ = some (.int .u64 (lo a)) ∧ w'.cell? ⟨w.heap.size + 1, 0, none⟩ = some (.int .i64 (hi b)) ∧ w'.cell? ⟨w.heap.size + 1, 1, none⟩ = some (.int .u64 (lo b)))
    (first | assumption | exact hS.out _ (Below.refl _ _).drew | exact hS.out _ (keepB hB0 (by assumption) (by assumption)))
    (first
      | (go_at_call 46; ((with_reducible refine (refDigits a _).mono ?_); rintro e w1 ⟨g1, cap1, rfl, hown1, hb1⟩))
      | (go_at_call 46; ((with_reducible refine (refDigits b _).mono ?_); rintro e w2 ⟨g2, cap2, rfl, hown2, hb2⟩)))
  rename_i hS2
  have hbW := hS2.1
  have hWs : w.heap.size + 3 ≤ w2.heap.size := Nat.le_trans hB0 hbW.size
  obtain ⟨hg1, hx⟩ := row_cell hown1 hb2
  obtain ⟨hg2, hy⟩ := row_cell hown2 (Below.refl _ _)
  have hx' := Lib.hid hx
  have hy' := Lib.hid hy
  clear hS2 hS hx hy hown1 hown2 hb1 hb2
  have hstart : (w2.alloc (.cells #[] 3)).ownsRow w2.heap.size 3 1 (.slice (some ⟨w2.heap.size, 0, none⟩) 0 0) 0 (bits_ (a + b) 0) :=
    World.ownsRow_lit (base := w2.heap.size) (e := 3) (size := 1) w2 #[] 0 (Nat.le_refl _) (by unfold maxLen; omega) rfl
  have hcar : Hid (0 = carry a b 0) := by show 0 = carry a b 0; unfold carry; simp
  go_wp2
  go_loopw [7, 8, 9] (fun v7 v8 v9 wr => ∃ (k : Nat) (c : Int), k ≤ 128 ∧ v9 = .int .i64 k ∧ v8 = .int .i64 c ∧ Hid (c = carry a b k) ∧ wr.ownsRow w2.heap.size 3 1 v7 k (bits_ (a + b) k) ∧ Below w2.heap.size w2 wr)
    (fun _ _ v9 _ => 128 - (intOf v9).toNat)
  case atStart => exact ⟨0, 0, by omega, rfl, rfl, hcar, hstart, (Below.refl _ _).alloc (Nat.le_refl _) _⟩
  case round =>
    obtain ⟨k, c, hk, rfl, rfl, hc, hown, hnx⟩ := hrel
    have c01 : 0 ≤ c ∧ c ≤ 1 := by rw [hc.out]; exact carry_bd a b k
    obtain ⟨c0, c1⟩ := c01
    by_cases hlt : k < 128
    · obtain ⟨p, hp, p0, p1⟩ : ∃ p, Hid (bit a k = p) ∧ 0 ≤ p ∧ p ≤ 1 := ⟨_, rfl, bit_lo a k, bit_hi a k⟩
      obtain ⟨q, hq, q0, q1⟩ : ∃ q, Hid (bit b k = q) ∧ 0 ≤ q ∧ q ≤ 1 := ⟨_, rfl, bit_lo b k, bit_hi b k⟩
      have hcx : wr.cell? ⟨g1, k, none⟩ = some (.int .i64 p) := by rw [hnx.cell (p := ⟨g1, k, none⟩) hg1, hx'.out k hlt, hp.out]
      have hcy : wr.cell? ⟨g2, k, none⟩ = some (.int .i64 q) := by rw [hnx.cell (p := ⟨g2, k, none⟩) hg2, hy'.out k hlt, hq.out]
      obtain ⟨d, hd, hd'⟩ : ∃ d, (p + q + c) % 2 = d ∧ Hid (d = bit (a + b) k) := ⟨_, rfl, by show _ = bit (a + b) k; rw [← hp.out, ← hq.out, hc.out]; exact (add_bit a b k).1⟩
      have hc2 : Hid ((p + q + c) / 2 = carry a b (k + 1)) := by show _ = carry a b (k + 1); rw [← hp.out, ← hq.out, hc.out]; exact (add_bit a b k).2
      have j0 : (0 : Int) ≤ (k : Int) := by omega
      have j1 : (k : Int) < 128 := by omega
      have hsz := hnx.size
      go_wp2_with fail
      go_region_held3 (fun w' => w'.cell? ⟨g1, k, none⟩ = some (.int .i64 p) ∧ w'.cell? ⟨g2, k, none⟩ = some (.int .i64 q)) (exact ⟨hcx, hcy⟩) (fail)
      go_wp2_with ((at_builtin; refine wpList_append_own _ rfl _ _ 58 rfl (w2.heap.size) 3 i0 (.int .i64 0) 1 8 Try.underlying58 hi0 hz0 hz1 hz2 rfl (by decide) _ _ _ rfl ((hown.drew).alloc _) ⟨wr.heap.size, 0, none⟩ 1 1 [.int .i64 d] rfl rfl ?c1 ?c2 ?c3 ?c4 ?c5 ?_))
      case c1 =>
        intro j u hj
        match j, hj with
        | 0, hj => simp at hj; subst hj; simp [Addr.add]
      case c2 => intro u hu; simp at hu; subst hu; rfl
      case c3 => unfold maxLen; omega
      case c4 => omega
      case c5 => simp; omega
      intro v' w1 hown' hgrow _
      have hb1 := app_below hown.drew hnx.drew (Nat.le_refl _) (by simp; omega) hgrow
      rw [hd'.out, ← bits_succ] at hown'
      clear hgrow hown hnx hcx hcy
      go_wp2
      go_roundw
      case rel => exact ⟨k + 1, (p + q + c) / 2, by omega, by go_num, rfl, hc2, hown', hb1⟩
      case measure => simp [intOf]; omega
    · have hk8 : Hid (k = 128) := by show k = 128; omega
      have hown1 : wr.ownsRow w2.heap.size 3 1 u7 128 (bits_ (a + b) 128) := by have h := hown; rw [hk8.out] at h; exact h
      obtain ⟨g, cap, rfl, hg, hg'⟩ := hown1.form (by omega)
      have hsz := hnx.size
      go_wp2_with fail
      refine (number_row (a + b) hown1 (Below.refl _ _)).mono ?_
      rintro e w4 ⟨rfl, hb4⟩
      have hZ : Below (w.heap.size + 3) (((w.alloc (.cells #[.int .i64 (hi a), .int .u64 (lo a)] 39)).alloc (.cells #[.int .i64 (hi b), .int .u64 (lo b)] 39)).alloc (.cells #[.int .i64 0, .int .u64 0] 39)) w4 := (hbW.trans (hnx.mono hWs)).trans (hb4.mono (by omega))
      have r0 : w4.cell? ⟨w.heap.size + 1 + 1, 0, none⟩ = some (.int .i64 0) := (hZ.cell (p := ⟨w.heap.size + 1 + 1, 0, none⟩) (by show w.heap.size + 1 + 1 < _; omega)).trans (by simp [go_sem])
      have r1 : w4.cell? ⟨w.heap.size + 1 + 1, 1, none⟩ = some (.int .u64 0) := (hZ.cell (p := ⟨w.heap.size + 1 + 1, 1, none⟩) (by show w.heap.size + 1 + 1 < _; omega)).trans (by simp [go_sem])
      have f0 : w4.frozen? ⟨w.heap.size + 1 + 1, 0, none⟩ = false := (hZ.frozen (p := ⟨w.heap.size + 1 + 1, 0, none⟩) (by show w.heap.size + 1 + 1 < _; omega)).trans (by simp [go_sem])
      have f1 : w4.frozen? ⟨w.heap.size + 1 + 1, 1, none⟩ = false := (hZ.frozen (p := ⟨w.heap.size + 1 + 1, 1, none⟩) (by show w.heap.size + 1 + 1 < _; omega)).trans (by simp [go_sem])
      have hfin : Below w.heap.size w w4 := Below.trans (by go_grown) (hZ.mono (by omega))
      clear hZ hb4 hown hown1 hnx hbW
      go_wp2
      refine bodyPost_ret (by simp [results, Try.results25, go_sem, r0, r1]; try rfl) rfl ?_
      exact ⟨rfl, Below.setCell (Below.setCell hfin (by simp; omega) _) (by simp; omega) _⟩

end Go.Proofs.Ytmedemniopgpeaa
