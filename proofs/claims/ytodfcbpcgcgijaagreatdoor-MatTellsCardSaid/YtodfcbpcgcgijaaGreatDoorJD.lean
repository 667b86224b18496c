import Derived.Test.YtodfcbpcgcgijaaGreatDoorJB
import Derived.Test.YtodfcbpcgcgijaaGreatDoorJA
import Derived.Deep.RegionHeld3
import Derived.Deep.DeepCutAuto
import Derived.Lib.Hide
import Derived.Laws.OwnMore
import Derived.OwnWalk
import Derived.Maps.AppendAt
import Derived.Deep.AppendLies
import Derived.Deep.Onto
import Derived.WalkLawsBesides
/- What Digits of the document's answers gives: the number's 128 bits, in a new slice. -/
namespace Go.Proofs.YtodfcbpcgcgijaaGreatDoor
set_option maxRecDepth 100000
open Go.RowKit
attribute [local go_sem] cell_re eqW_self
attribute [local go_sem ↓] run_eqlW run_neqW

theorem Tryz.infoInt : (Tryz.prog.info? 3).map (fun i => (i.zero, i.size, i.bytes)) = some (some (.int .i64 0), 1, 8) := by kernel_rfl
theorem app_below {B base : Nat} {e : TypeId} {w wr w1 : World} {o : Obj} {v : Value} {n : Nat} {xs : List Value} (hown : wr.ownsRow base e 1 v n xs) (hnx : Below B w wr) (hB : B ≤ base) (hw : B ≤ wr.heap.size)
    (hg : (wr.alloc o).grownBy w1 v.ownBlock) : Below B w w1 :=
  (hnx.alloc hw o).grown hg (by simp; omega) fun k hk => Nat.le_trans hB (hown.lt k hk).1

/-- What Digits leaves: a new slice of the 128 bits. -/
def Bits128 (a : Int) (w : World) (e : Ending) (w' : World) : Prop :=
  ∃ g cap, e = .returned (.slice (some ⟨g, 0, none⟩) 128 cap) ∧ w'.ownsRow w.heap.size 3 1 (.slice (some ⟨g, 0, none⟩) 128 cap) 128 (bits_ a 128) ∧ Below w.heap.size w w'

set_option maxRecDepth 100000 in
set_option maxHeartbeats 1000000 in
theorem refDigits (a : Int) (w : World) : Calls Tryz.prog 82 #[W a] w (Bits128 a w) := by
  obtain ⟨i0, hi0, hz0, hz1, hz2⟩ := info_parts Tryz.infoInt
  have hha := hi_lo a
  have hga := hi_hi a
  have hla := lo_lo a
  have hka := lo_hi a
  obtain ⟨H, hH, H0, H1⟩ : ∃ H, IntKind.u64.wrap (hi a) = H ∧ 0 ≤ H ∧ H ≤ 18446744073709551615 := ⟨_, rfl, by rw [IntKind.wrap_u64]; omega, by rw [IntKind.wrap_u64]; omega⟩
  have hbit : ∀ k : Nat, k < 64 → H / 2 ^ k % 2 = bit a (64 + k) := fun k hk => by rw [← hH]; exact bit_of_hi a k hk
  have hbit' := Lib.hid hbit
  clear hbit
  have hstart : ((w.alloc (.cells #[.int .i64 (hi a), .int .u64 (lo a)] 56)).alloc (.cells #[] 3)).ownsRow (w.heap.size + 1) 3 1 (.slice (some ⟨w.heap.size + 1, 0, none⟩) 0 0) 0 (bits_ a 0) := by
    have h := World.ownsRow_lit (base := w.heap.size + 1) (e := 3) (size := 1) (w.alloc (.cells #[.int .i64 (hi a), .int .u64 (lo a)] 56)) #[] 0 (by simp) (by unfold maxLen; omega) rfl
    rw [World.size_alloc] at h
    exact h
  go_enter Tryz.func82, Tryz.ntmps82
  go_wp2
  go_loopw [3, 4, 5] (fun v3 v4 v5 wr => ∃ (k : Nat) (x : Int), k ≤ 64 ∧ v5 = .int .i64 k ∧ v4 = .int .u64 x ∧ Hid (x = lo a / 2 ^ k) ∧ wr.ownsRow (w.heap.size + 1) 3 1 v3 k (bits_ a k) ∧ Below (w.heap.size + 1) (w.alloc (.cells #[.int .i64 (hi a), .int .u64 (lo a)] 56)) wr ∧ w.heap.size + 1 ≤ wr.heap.size)
    (fun _ _ v5 _ => 64 - (intOf v5).toNat)
  case atStart => exact ⟨0, lo a, by omega, rfl, rfl, by show lo a = lo a / 2 ^ 0; rw [Int.pow_zero, Int.ediv_one], hstart, (Below.refl (w.heap.size + 1) _).alloc (by simp) _, by simp⟩
  case round =>
    obtain ⟨k, x, hk, rfl, rfl, hx, hown, hnx, hsz⟩ := hrel
    by_cases hlt : k < 64
    · obtain ⟨d, hd, d0, d1⟩ : ∃ d, x % 2 = d ∧ 0 ≤ d ∧ d ≤ 1 := ⟨_, rfl, by omega, by omega⟩
      have hx0 : 0 ≤ x := by rw [hx.out]; exact Int.ediv_nonneg (by omega) (Int.le_of_lt (pow_pos' k))
      have hx1 : x ≤ 18446744073709551615 := by rw [hx.out]; exact Int.le_trans (Int.ediv_le_self _ (by omega)) (by omega)
      have hb : Hid (d = bit a k) := by show d = _; rw [← hd, hx.out]; exact bit_of_lo a k hlt
      have hy' : Hid (x / 2 = lo a / 2 ^ (k + 1)) := by show x / 2 = _; rw [hx.out, div_succ]
      have hsz' : w.heap.size < wr.heap.size := hsz
      go_wp2_with ((at_builtin; refine wpList_append_own _ rfl _ _ 83 rfl (w.heap.size + 1) 3 i0 (.int .i64 0) 1 8 Tryz.underlying83 hi0 hz0 hz1 hz2 rfl (by decide) _ _ _ rfl (hown.alloc _) ⟨wr.heap.size, 0, none⟩ 1 1 [.int .i64 (d)] rfl rfl ?c1 ?c2 ?c3 ?c4 ?c5 ?_))
      case c1 =>
        intro j u hj
        match j, hj with
        | 0, hj => simp at hj; subst hj; simp [Addr.add]
      case c2 => intro u hu; simp at hu; subst hu; rfl
      case c3 => unfold maxLen; omega
      case c4 => omega
      case c5 => simp; omega
      intro v' w1 hown' hgrow _
      have hb1 := app_below hown hnx (Nat.le_refl _) hsz hgrow
      have hsz1 : w.heap.size + 1 ≤ w1.heap.size := by have := hgrow.size; simp at this; omega
      rw [hb.out, ← bits_succ] at hown'
      clear hgrow hown hnx
      go_wp2
      go_roundw
      case rel =>
        exact ⟨k + 1, x / 2, by omega, by go_num, rfl, hy', hown', hb1, hsz1⟩
      case measure => simp [intOf]; omega
    · have hk64 : Hid (k = 64) := by show k = 64; omega
      have hc0 : wr.cell? ⟨w.heap.size, 0, none⟩ = some (.int .i64 (hi a)) := (hnx.cell (p := ⟨w.heap.size, 0, none⟩) (by simp)).trans (by simp [go_sem])
      go_wp2
      have hown0 : wr.ownsRow (w.heap.size + 1) 3 1 u3 (64 + 0) (bits_ a (64 + 0)) := by have h := hown; rw [hk64.out] at h; exact h
      clear hown
      go_loopw [3, 6, 7] (fun v3 v4 v5 wr => ∃ (k : Nat) (x : Int), k ≤ 64 ∧ v5 = .int .i64 k ∧ v4 = .int .u64 x ∧ Hid (x = H / 2 ^ k) ∧ wr.ownsRow (w.heap.size + 1) 3 1 v3 (64 + k) (bits_ a (64 + k)) ∧ Below (w.heap.size + 1) (w.alloc (.cells #[.int .i64 (hi a), .int .u64 (lo a)] 56)) wr ∧ w.heap.size + 1 ≤ wr.heap.size)
        (fun _ _ v5 _ => 64 - (intOf v5).toNat)
      case atStart => exact ⟨0, H, by omega, rfl, rfl, by show H = H / 2 ^ 0; rw [Int.pow_zero, Int.ediv_one], hown0, hnx, hsz⟩
      case round =>
        obtain ⟨k, x, hk, rfl, rfl, hx, hown, hnx, hsz⟩ := hrel
        by_cases hlt : k < 64
        · obtain ⟨d, hd, d0, d1⟩ : ∃ d, x % 2 = d ∧ 0 ≤ d ∧ d ≤ 1 := ⟨_, rfl, by omega, by omega⟩
          have hx0 : 0 ≤ x := by rw [hx.out]; exact Int.ediv_nonneg (by omega) (Int.le_of_lt (pow_pos' k))
          have hx1 : x ≤ 18446744073709551615 := by rw [hx.out]; exact Int.le_trans (Int.ediv_le_self _ (by omega)) (by omega)
          have hb : Hid (d = bit a (64 + k)) := by show d = _; rw [← hd, hx.out]; exact hbit'.out k hlt
          have hy' : Hid (x / 2 = H / 2 ^ (k + 1)) := by show x / 2 = _; rw [hx.out, div_succ]
          have hsz' : w.heap.size < wr.heap.size := hsz
          go_wp2_with ((at_builtin; refine wpList_append_own _ rfl _ _ 83 rfl (w.heap.size + 1) 3 i0 (.int .i64 0) 1 8 Tryz.underlying83 hi0 hz0 hz1 hz2 rfl (by decide) _ _ _ rfl (hown.alloc _) ⟨wr.heap.size, 0, none⟩ 1 1 [.int .i64 (d)] rfl rfl ?c1 ?c2 ?c3 ?c4 ?c5 ?_))
          case c1 =>
            intro j u hj
            match j, hj with
            | 0, hj => simp at hj; subst hj; simp [Addr.add]
          case c2 => intro u hu; simp at hu; subst hu; rfl
          case c3 => unfold maxLen; omega
          case c4 => omega
          case c5 => simp; omega
          intro v' w1 hown' hgrow _
          have hb1 := app_below hown hnx (Nat.le_refl _) hsz hgrow
          have hsz1 : w.heap.size + 1 ≤ w1.heap.size := by have := hgrow.size; simp at this; omega
          rw [hb.out, ← bits_succ] at hown'
          clear hgrow hown hnx
          go_wp2
          go_roundw
          case rel =>
            exact ⟨k + 1, x / 2, by omega, by go_num, rfl, hy', hown', hb1, hsz1⟩
          case measure => simp [intOf]; omega
        · have hk64 : Hid (k = 64) := by show k = 64; omega
          have hown1 : wr.ownsRow (w.heap.size + 1) 3 1 u3 128 (bits_ a 128) := by have h := hown; rw [hk64.out] at h; exact h
          obtain ⟨g, cap, rfl, hg, hg'⟩ := hown1.form (by omega)
          have hb2 : Below w.heap.size w wr := ((Below.refl w.heap.size w).alloc (Nat.le_refl _) _).trans (hnx.mono (by omega))
          clear hown
          go_wp2
          go_ret
          exact ⟨g, cap, rfl, hown1.mono (by omega), hb2⟩
end Go.Proofs.YtodfcbpcgcgijaaGreatDoor

/- What Number of the document's answers gives of 128 bits. -/
namespace Go.Proofs.YtodfcbpcgcgijaaGreatDoor
set_option maxRecDepth 100000
open Go.RowKit
attribute [local go_sem] cell_re eqW_self
attribute [local go_sem ↓] run_eqlW run_neqW

theorem pow_lt {k n : Nat} (h : k < n) : (2 : Int) ^ k < 2 ^ n := by
  have h1 := pow_pos' k
  have h2 := pow_pos' (n - k - 1)
  have e : (2 : Int) ^ n = 2 ^ k * (2 * 2 ^ (n - k - 1)) := by
    rw [Int.mul_left_comm, ← Int.pow_add, Int.mul_comm, ← Int.pow_succ, show (k + (n - k - 1)).succ = n by omega]
  have := Int.mul_le_mul_of_nonneg_left (show (2 : Int) ≤ 2 * 2 ^ (n - k - 1) by omega) (Int.le_of_lt h1)
  omega
theorem pow_le {k n : Nat} (h : k ≤ n) : (2 : Int) ^ k ≤ 2 ^ n := by
  rcases Nat.lt_or_ge k n with h' | h'
  · exact Int.le_of_lt (pow_lt h')
  · rw [show k = n by omega]; exact Int.le_refl _

set_option maxRecDepth 100000 in
set_option maxHeartbeats 1000000 in
theorem refNumber (f : Nat → Int) (hf : Hid (∀ i, 0 ≤ f i ∧ f i ≤ 1)) (a : Int) (h : Hid (sumBits f 128 = a % 340282366920938463463374607431768211456)) (g off cap : Nat) (w : World)
    (hc : Hid (∀ j, j < 128 → w.cell? ⟨g, off + j, none⟩ = some (.int .i64 (f j)))) :
    Calls Tryz.prog 83 #[.slice (some ⟨g, off, none⟩) 128 cap] w fun e w' => e = .returned (W a) ∧ Below w.heap.size w w' := by
  go_enter Tryz.func83, Tryz.ntmps83
  go_wp2
  go_loop [3, 5, 6] (fun vs vp vi => ∃ (k i : Nat) (s p : Int), k ≤ 64 ∧ Hid (i = k) ∧ vi = .int .i64 i ∧ vs = .int .u64 s ∧ vp = .int .u64 p ∧ Hid (s = sumBits (f) k) ∧ Hid (p = 2 ^ k % 18446744073709551616))
    (fun _ _ vi => 64 - (intOf vi).toNat)
  case atStart => exact ⟨0, 0, 0, 1, by omega, rfl, rfl, rfl, rfl, rfl, rfl⟩
  case round =>
    obtain ⟨k, i, s, p, hk, hix, rfl, rfl, rfl, hs, hp⟩ := hrel
    have hs0 : 0 ≤ s := by rw [hs.out]; exact (sumBits_bd _ (fun i => hf.out _) k).1
    by_cases hlt : i < 64
    · have hlk : k < 64 := by have := hix.out; omega
      have hp' : Hid (p = 2 ^ k) := by
        show p = 2 ^ k
        rw [hp.out, Int.emod_eq_of_lt (Int.le_of_lt (pow_pos' k))]
        rw [show (18446744073709551616 : Int) = 2 ^ 64 from rfl]
        exact pow_lt hlk
      have p0 : 1 ≤ p := by have := pow_pos' k; rw [hp'.out]; omega
      have p1 : p ≤ 9223372036854775808 := by rw [hp'.out]; exact pow_le (n := 63) (by omega)
      have hs1 : s + p ≤ 18446744073709551615 := by
        have := (sumBits_bd (f) (fun i => hf.out _) k).2
        rw [← hs.out, ← hp'.out] at this
        omega
      obtain ⟨d, hd, d01⟩ : ∃ d, Hid (f k = d) ∧ (d = 0 ∨ d = 1) := ⟨_, rfl, by have := hf.out (k); omega⟩
      have hcell : (w.alloc (.cells #[.int .i64 0, .int .u64 0] 56)).cell? ⟨g, off + i, none⟩ = some (.int .i64 d) := by
        have h0 : w.cell? ⟨g, off + i, none⟩ = some (.int .i64 d) := by
          rw [hc.out i (by have := hix.out; omega), ← hd.out, hix.out]
        rw [World.cell?_alloc_lt _ _ _ (World.block_lt_of_cell? w _ h0)]
        exact h0
      have j0 : (0 : Int) ≤ (i : Int) := by omega
      have j1 : (i : Int) < 64 := by omega
      clear hlk
      rcases d01 with rfl | rfl
      · go_wp2
        go_round
        case rel =>
          refine ⟨k + 1, i + 1, s, _, by have := hix.out; omega, by have := hix.out; show i + 1 = _; omega, by go_num, rfl, rfl, ?_, ?_⟩
          · show s = _
            simp only [sumBits]
            rw [hd.out, hs.out, Int.zero_mul, Int.add_zero]
          · show IntKind.u64.wrap (2 * p) = _
            rw [IntKind.wrap_u64, hp'.out, Int.pow_succ, Int.mul_comm]
        case measure => simp [intOf]; omega
      · go_wp2
        go_round
        case rel =>
          refine ⟨k + 1, i + 1, s + p, _, by have := hix.out; omega, by have := hix.out; show i + 1 = _; omega, by go_num, rfl, rfl, ?_, ?_⟩
          · show s + p = _
            simp only [sumBits]
            rw [hd.out, hs.out, hp'.out, Int.one_mul]
          · show IntKind.u64.wrap (2 * p) = _
            rw [IntKind.wrap_u64, hp'.out, Int.pow_succ, Int.mul_comm]
        case measure => simp [intOf]; omega
    · have hk64 : Hid (k = 64) := by show k = 64; have := hix.out; omega
      have j2 : ¬ (i : Int) < 64 := by omega
      obtain ⟨L, hL, hL2, rfl⟩ : ∃ L, Hid (L = sumBits f 64) ∧ 0 ≤ L ∧ L = s := ⟨s, by show s = _; rw [hs.out, hk64.out], hs0, rfl⟩
      go_wp2
      go_loop [4, 5, 7] (fun vs vp vi => ∃ (k i : Nat) (s p : Int), k ≤ 64 ∧ Hid (i = 64 + k) ∧ vi = .int .i64 i ∧ vs = .int .u64 s ∧ vp = .int .u64 p ∧ Hid (s = sumBits (fun i => f (64 + i)) k) ∧ Hid (p = 2 ^ k % 18446744073709551616))
        (fun _ _ vi => 128 - (intOf vi).toNat)
      case atStart => exact ⟨0, 64, 0, 1, by omega, rfl, rfl, rfl, rfl, rfl, rfl⟩
      case round =>
        obtain ⟨k, i, s, p, hk, hix, rfl, rfl, rfl, hs, hp⟩ := hrel
        have hs0 : 0 ≤ s := by rw [hs.out]; exact (sumBits_bd _ (fun i => hf.out _) k).1
        by_cases hlt : i < 128
        · have hlk : k < 64 := by have := hix.out; omega
          have hp' : Hid (p = 2 ^ k) := by
            show p = 2 ^ k
            rw [hp.out, Int.emod_eq_of_lt (Int.le_of_lt (pow_pos' k))]
            rw [show (18446744073709551616 : Int) = 2 ^ 64 from rfl]
            exact pow_lt hlk
          have p0 : 1 ≤ p := by have := pow_pos' k; rw [hp'.out]; omega
          have p1 : p ≤ 9223372036854775808 := by rw [hp'.out]; exact pow_le (n := 63) (by omega)
          have hs1 : s + p ≤ 18446744073709551615 := by
            have := (sumBits_bd (fun i => f (64 + i)) (fun i => hf.out _) k).2
            rw [← hs.out, ← hp'.out] at this
            omega
          obtain ⟨d, hd, d01⟩ : ∃ d, Hid (f (64 + k) = d) ∧ (d = 0 ∨ d = 1) := ⟨_, rfl, by have := hf.out (64 + k); omega⟩
          have hcell : (w.alloc (.cells #[.int .i64 0, .int .u64 0] 56)).cell? ⟨g, off + i, none⟩ = some (.int .i64 d) := by
            have h0 : w.cell? ⟨g, off + i, none⟩ = some (.int .i64 d) := by
              rw [hc.out i (by have := hix.out; omega), ← hd.out, hix.out]
            rw [World.cell?_alloc_lt _ _ _ (World.block_lt_of_cell? w _ h0)]
            exact h0
          have j0 : (0 : Int) ≤ (i : Int) := by omega
          have j1 : (i : Int) < 128 := by omega
          clear hlk
          rcases d01 with rfl | rfl
          · go_wp2
            go_round
            case rel =>
              refine ⟨k + 1, i + 1, s, _, by have := hix.out; omega, by have := hix.out; show i + 1 = _; omega, by go_num, rfl, rfl, ?_, ?_⟩
              · show s = _
                simp only [sumBits]
                rw [hd.out, hs.out, Int.zero_mul, Int.add_zero]
              · show IntKind.u64.wrap (2 * p) = _
                rw [IntKind.wrap_u64, hp'.out, Int.pow_succ, Int.mul_comm]
            case measure => simp [intOf]; omega
          · go_wp2
            go_round
            case rel =>
              refine ⟨k + 1, i + 1, s + p, _, by have := hix.out; omega, by have := hix.out; show i + 1 = _; omega, by go_num, rfl, rfl, ?_, ?_⟩
              · show s + p = _
                simp only [sumBits]
                rw [hd.out, hs.out, hp'.out, Int.one_mul]
              · show IntKind.u64.wrap (2 * p) = _
                rw [IntKind.wrap_u64, hp'.out, Int.pow_succ, Int.mul_comm]
            case measure => simp [intOf]; omega
        · have hk64 : Hid (k = 64) := by show k = 64; have := hix.out; omega
          have j3 : ¬ (i : Int) < 128 := by omega
          have hL3 : L = lo a ∧ wrap64 s = hi a := by
            have := sum_parts f hf.out a h.out
            rw [hL.out, hs.out, hk64.out]
            exact ⟨this.2, this.1⟩
          go_wp2
          go_returns
          exact ⟨rfl, by go_grown⟩
end Go.Proofs.YtodfcbpcgcgijaaGreatDoor

/- What Add and Neg of the document's answers give: the sum and the opposite, modulo 2^128. -/
namespace Go.Proofs.YtodfcbpcgcgijaaGreatDoor
set_option maxRecDepth 100000
open Go.RowKit
attribute [local go_sem] cell_re eqW_self
attribute [local go_sem ↓] run_eqlW run_neqW

theorem keepB {B : Nat} {W0 w1 w2 : World} {Q : Prop} (hB : B ≤ W0.heap.size) (hb : Below w1.heap.size w1 w2) (h : Below B W0 w1 ∧ Q) : Below B W0 w2 := h.1.trans (hb.mono (Nat.le_trans hB h.1.size))
theorem row_cell {w w' : World} {base : Nat} {e : TypeId} {g cap : Nat} {a : Int} (h : w.ownsRow base e 1 (.slice (some ⟨g, 0, none⟩) 128 cap) 128 (bits_ a 128)) (hb : Below w.heap.size w w') :
    g < w'.heap.size ∧ ∀ j, j < 128 → w'.cell? ⟨g, j, none⟩ = some (.int .i64 (bit a j)) := by
  have hg : g < w.heap.size := (h.lt g rfl).2
  exact ⟨Nat.lt_of_lt_of_le hg hb.size, fun j hj => by rw [hb.cell (p := ⟨g, j, none⟩) hg, h.cellAt j (by omega), bits_at a 128 j hj]⟩
theorem number_row (a : Int) {w w' : World} {base : Nat} {e : TypeId} {g cap : Nat} (h : w.ownsRow base e 1 (.slice (some ⟨g, 0, none⟩) 128 cap) 128 (bits_ a 128)) (hb : Below w.heap.size w w') :
    Calls Tryz.prog 83 #[.slice (some ⟨g, 0, none⟩) 128 cap] w' fun e w'' => e = .returned (W a) ∧ Below w'.heap.size w' w'' :=
  refNumber (bit a) (fun i => ⟨bit_lo a i, bit_hi a i⟩) a (sumBits_bit a 128) g 0 cap w' (fun j hj => by rw [Nat.zero_add]; exact (row_cell h hb).2 j hj)

set_option maxRecDepth 100000 in
set_option maxHeartbeats 1000000 in
theorem refAdd (a b : Int) (w : World) : Calls Tryz.prog 46 #[W a, W b] w fun e w' => e = .returned (W (a + b)) ∧ Below w.heap.size w w' := by
  obtain ⟨i0, hi0, hz0, hz1, hz2⟩ := info_parts Tryz.infoInt
  have hha := hi_lo a
  have hga := hi_hi a
  have hla := lo_lo a
  have hka := lo_hi a
  have hhb := hi_lo b
  have hgb := hi_hi b
  have hlb := lo_lo b
  have hkb := lo_hi b
  have hB0 : w.heap.size + 3 ≤ (((w.alloc (.cells #[.int .i64 (hi a), .int .u64 (lo a)] 56)).alloc (.cells #[.int .i64 (hi b), .int .u64 (lo b)] 56)).alloc (.cells #[.int .i64 0, .int .u64 0] 56)).heap.size := by simp
  have hS : Hid (∀ w', Below (w.heap.size + 3) (((w.alloc (.cells #[.int .i64 (hi a), .int .u64 (lo a)] 56)).alloc (.cells #[.int .i64 (hi b), .int .u64 (lo b)] 56)).alloc (.cells #[.int .i64 0, .int .u64 0] 56)) w' → Below (w.heap.size + 3) (((w.alloc (.cells #[.int .i64 (hi a), .int .u64 (lo a)] 56)).alloc (.cells #[.int .i64 (hi b), .int .u64 (lo b)] 56)).alloc (.cells #[.int .i64 0, .int .u64 0] 56)) w' ∧ w'.cell? ⟨w.heap.size, 0, none⟩ = some (.int .i64 (hi a)) ∧ w'.cell? ⟨w.heap.size, 1, none⟩ = some (.int .u64 (lo a)) ∧ w'.cell? ⟨w.heap.size + 1, 0, none⟩ = some (.int .i64 (hi b)) ∧ w'.cell? ⟨w.heap.size + 1, 1, none⟩ = some (.int .u64 (lo b))) :=
    fun w' h => ⟨h, (h.cell (p := ⟨w.heap.size, 0, none⟩) (by show w.heap.size < _; omega)).trans (by simp [go_sem]), (h.cell (p := ⟨w.heap.size, 1, none⟩) (by show w.heap.size < _; omega)).trans (by simp [go_sem]),
      (h.cell (p := ⟨w.heap.size + 1, 0, none⟩) (by show w.heap.size + 1 < _; omega)).trans (by simp [go_sem]), (h.cell (p := ⟨w.heap.size + 1, 1, none⟩) (by show w.heap.size + 1 < _; omega)).trans (by simp [go_sem])⟩
  go_enter Tryz.func46, Tryz.ntmps46
  go_wp2_with fail
  go_region_held3 (fun w' => Below (w.heap.size + 3) (((w.alloc (.cells #[.int .i64 (hi a), .int .u64 (lo a)] 56)).alloc (.cells #[.int .i64 (hi b), .int .u64 (lo b)] 56)).alloc (.cells #[.int .i64 0, .int .u64 0] 56)) w' ∧ w'.cell? ⟨w.heap.size, 0, none⟩ = some (.int .i64 (hi a)) ∧ w'.cell? ⟨w.heap.size, 1, none⟩ = some (.int .u64 (lo a)) ∧ w'.cell? ⟨w.heap.size + 1, 0, none⟩ = some (.int .i64 (hi b)) ∧ w'.cell? ⟨w.heap.size + 1, 1, none⟩ = some (.int .u64 (lo b)))
    (first | assumption | exact hS.out _ (Below.refl _ _).drew | exact hS.out _ (keepB hB0 (by assumption) (by assumption)))
    (first
      | (go_at_call 82; ((with_reducible refine (refDigits a _).mono ?_); rintro e w1 ⟨g1, cap1, rfl, hown1, hb1⟩))
      | (go_at_call 82; ((with_reducible refine (refDigits b _).mono ?_); rintro e w2 ⟨g2, cap2, rfl, hown2, hb2⟩)))
  rename_i hS2
  have hbW := hS2.1
  have hWs : w.heap.size + 3 ≤ w2.heap.size := Nat.le_trans hB0 hbW.size
  obtain ⟨hg1, hx⟩ := row_cell hown1 hb2
  obtain ⟨hg2, hy⟩ := row_cell hown2 (Below.refl _ _)
  have hx' := Lib.hid hx
  have hy' := Lib.hid hy
  clear hS2 hS hx hy hown1 hown2 hb1 hb2
  have hstart : (w2.alloc (.cells #[] 3)).ownsRow w2.heap.size 3 1 (.slice (some ⟨w2.heap.size, 0, none⟩) 0 0) 0 (bits_ (a + b) 0) :=
    World.ownsRow_lit (base := w2.heap.size) (e := 3) (size := 1) w2 #[] 0 (Nat.le_refl _) (by unfold maxLen; omega) rfl
  have hcar : Hid (0 = carry a b 0) := by show 0 = carry a b 0; unfold carry; simp
  go_wp2
  go_loopw [7, 8, 9] (fun v7 v8 v9 wr => ∃ (k : Nat) (c : Int), k ≤ 128 ∧ v9 = .int .i64 k ∧ v8 = .int .i64 c ∧ Hid (c = carry a b k) ∧ wr.ownsRow w2.heap.size 3 1 v7 k (bits_ (a + b) k) ∧ Below w2.heap.size w2 wr)
    (fun _ _ v9 _ => 128 - (intOf v9).toNat)
  case atStart => exact ⟨0, 0, by omega, rfl, rfl, hcar, hstart, (Below.refl _ _).alloc (Nat.le_refl _) _⟩
  case round =>
    obtain ⟨k, c, hk, rfl, rfl, hc, hown, hnx⟩ := hrel
    have c01 : 0 ≤ c ∧ c ≤ 1 := by rw [hc.out]; exact carry_bd a b k
    obtain ⟨c0, c1⟩ := c01
    by_cases hlt : k < 128
    · obtain ⟨p, hp, p0, p1⟩ : ∃ p, Hid (bit a k = p) ∧ 0 ≤ p ∧ p ≤ 1 := ⟨_, rfl, bit_lo a k, bit_hi a k⟩
      obtain ⟨q, hq, q0, q1⟩ : ∃ q, Hid (bit b k = q) ∧ 0 ≤ q ∧ q ≤ 1 := ⟨_, rfl, bit_lo b k, bit_hi b k⟩
      have hcx : wr.cell? ⟨g1, k, none⟩ = some (.int .i64 p) := by rw [hnx.cell (p := ⟨g1, k, none⟩) hg1, hx'.out k hlt, hp.out]
      have hcy : wr.cell? ⟨g2, k, none⟩ = some (.int .i64 q) := by rw [hnx.cell (p := ⟨g2, k, none⟩) hg2, hy'.out k hlt, hq.out]
      obtain ⟨d, hd, hd'⟩ : ∃ d, (p + q + c) % 2 = d ∧ Hid (d = bit (a + b) k) := ⟨_, rfl, by show _ = bit (a + b) k; rw [← hp.out, ← hq.out, hc.out]; exact (add_bit a b k).1⟩
      have hc2 : Hid ((p + q + c) / 2 = carry a b (k + 1)) := by show _ = carry a b (k + 1); rw [← hp.out, ← hq.out, hc.out]; exact (add_bit a b k).2
      have j0 : (0 : Int) ≤ (k : Int) := by omega
      have j1 : (k : Int) < 128 := by omega
      have hsz := hnx.size
      go_wp2_with fail
      go_region_held3 (fun w' => w'.cell? ⟨g1, k, none⟩ = some (.int .i64 p) ∧ w'.cell? ⟨g2, k, none⟩ = some (.int .i64 q)) (exact ⟨hcx, hcy⟩) (fail)
      go_wp2_with ((at_builtin; refine wpList_append_own _ rfl _ _ 83 rfl (w2.heap.size) 3 i0 (.int .i64 0) 1 8 Tryz.underlying83 hi0 hz0 hz1 hz2 rfl (by decide) _ _ _ rfl ((hown.drew).alloc _) ⟨wr.heap.size, 0, none⟩ 1 1 [.int .i64 d] rfl rfl ?c1 ?c2 ?c3 ?c4 ?c5 ?_))
      case c1 =>
        intro j u hj
        match j, hj with
        | 0, hj => simp at hj; subst hj; simp [Addr.add]
      case c2 => intro u hu; simp at hu; subst hu; rfl
      case c3 => unfold maxLen; omega
      case c4 => omega
      case c5 => simp; omega
      intro v' w1 hown' hgrow _
      have hb1 := app_below hown.drew hnx.drew (Nat.le_refl _) (by simp; omega) hgrow
      rw [hd'.out, ← bits_succ] at hown'
      clear hgrow hown hnx hcx hcy
      go_wp2
      go_roundw
      case rel => exact ⟨k + 1, (p + q + c) / 2, by omega, by go_num, rfl, hc2, hown', hb1⟩
      case measure => simp [intOf]; omega
    · have hk8 : Hid (k = 128) := by show k = 128; omega
      have hown1 : wr.ownsRow w2.heap.size 3 1 u7 128 (bits_ (a + b) 128) := by have h := hown; rw [hk8.out] at h; exact h
      obtain ⟨g, cap, rfl, hg, hg'⟩ := hown1.form (by omega)
      have hsz := hnx.size
      go_wp2_with fail
      refine (number_row (a + b) hown1 (Below.refl _ _)).mono ?_
      rintro e w4 ⟨rfl, hb4⟩
      have hZ : Below (w.heap.size + 3) (((w.alloc (.cells #[.int .i64 (hi a), .int .u64 (lo a)] 56)).alloc (.cells #[.int .i64 (hi b), .int .u64 (lo b)] 56)).alloc (.cells #[.int .i64 0, .int .u64 0] 56)) w4 := (hbW.trans (hnx.mono hWs)).trans (hb4.mono (by omega))
      have r0 : w4.cell? ⟨w.heap.size + 1 + 1, 0, none⟩ = some (.int .i64 0) := (hZ.cell (p := ⟨w.heap.size + 1 + 1, 0, none⟩) (by show w.heap.size + 1 + 1 < _; omega)).trans (by simp [go_sem])
      have r1 : w4.cell? ⟨w.heap.size + 1 + 1, 1, none⟩ = some (.int .u64 0) := (hZ.cell (p := ⟨w.heap.size + 1 + 1, 1, none⟩) (by show w.heap.size + 1 + 1 < _; omega)).trans (by simp [go_sem])
      have f0 : w4.frozen? ⟨w.heap.size + 1 + 1, 0, none⟩ = false := (hZ.frozen (p := ⟨w.heap.size + 1 + 1, 0, none⟩) (by show w.heap.size + 1 + 1 < _; omega)).trans (by simp [go_sem])
      have f1 : w4.frozen? ⟨w.heap.size + 1 + 1, 1, none⟩ = false := (hZ.frozen (p := ⟨w.heap.size + 1 + 1, 1, none⟩) (by show w.heap.size + 1 + 1 < _; omega)).trans (by simp [go_sem])
      have hfin : Below w.heap.size w w4 := Below.trans (by go_grown) (hZ.mono (by omega))
      clear hZ hb4 hown hown1 hnx hbW
      go_wp2
      refine bodyPost_ret (by simp [results, Tryz.results46, go_sem, r0, r1]; try rfl) rfl ?_
      exact ⟨rfl, Below.setCell (Below.setCell hfin (by simp; omega) _) (by simp; omega) _⟩

end Go.Proofs.YtodfcbpcgcgijaaGreatDoor

/- What Of, Sign, Less and Neg of the document's answers give. -/
namespace Go.Proofs.YtodfcbpcgcgijaaGreatDoor
set_option maxRecDepth 100000
open Go.RowKit
attribute [local go_sem] cell_re eqW_self
attribute [local go_sem ↓] run_eqlW run_neqW

/-- The bits of a, of which the first k have been turned. -/
def mix (a : Int) (k : Nat) : List Value := (List.range 128).map fun i => Value.int .i64 (if i < k then bit (-a - 1) i else bit a i)
theorem mix_at (a : Int) (k j : Nat) (h : j < 128) : (mix a k)[j]? = some (Value.int .i64 (if j < k then bit (-a - 1) j else bit a j)) := by unfold mix; simp [h]
theorem mix_start (a : Int) : bits_ a 128 = mix a 0 := by unfold mix bits_; simp
theorem mix_succ (a : Int) (k : Nat) (hk : k < 128) : (mix a k).set k (.int .i64 (1 - bit a k)) = mix a (k + 1) := by
  apply List.ext_getElem?
  intro j
  by_cases hj : j < 128
  · rw [List.getElem?_set, mix_at a (k + 1) j hj]
    by_cases hjk : k = j
    · subst hjk
      rw [if_pos rfl, if_pos (by unfold mix; simpa using hk), if_pos (by omega), neg_bit]
    · rw [if_neg hjk, mix_at a k j hj]
      by_cases h : j < k
      · rw [if_pos h, if_pos (by omega)]
      · rw [if_neg h, if_neg (by omega)]
  · rw [List.getElem?_eq_none (by unfold mix; simp; omega), List.getElem?_eq_none (by unfold mix; simp; omega)]

set_option maxHeartbeats 400000 in
theorem refOf (n : Int) (hn : Half n) (w : World) :
    Calls Tryz.prog 85 #[.int .i64 n] w fun e w' => e = .returned (W n) ∧ Below w.heap.size w w' := by
  obtain ⟨hn0, hn1⟩ := hn
  go_enter Tryz.func85, Tryz.ntmps85
  go_wp2
  all_goals
    go_returns
    refine ⟨retW (by unfold hi; omega) (by unfold lo; first | rw [IntKind.wrap_u64] | omega), by go_grown⟩

set_option maxHeartbeats 400000 in
theorem refLess (a b : Int) (ha : Fits a) (hb : Fits b) (w : World) :
    Calls Tryz.prog 100 #[W a, W b] w fun e w' => e = .returned (.bool (decide (a < b))) ∧ Below w.heap.size w w' := by
  have hha := hi_lo a
  have hga := hi_hi a
  have hla := lo_lo a
  have hka := lo_hi a
  have hhb := hi_lo b
  have hgb := hi_hi b
  have hlb := lo_lo b
  have hkb := lo_hi b
  rcases Int.lt_trichotomy (hi a) (hi b) with z | z | z
  all_goals
    go_enter Tryz.func100, Tryz.ntmps100
    go_wp2
  all_goals
    go_returns
    refine ⟨retB ?_, by go_grown⟩
    have q := halves ha
    have r := halves hb
    first
      | (rw [Bool.eq_iff_iff]; simp only [decide_eq_true_eq]; omega)
      | (symm; exact decide_eq_true (by omega))
      | (symm; exact decide_eq_false (by omega))

set_option maxRecDepth 100000 in
set_option maxHeartbeats 1000000 in
theorem refNeg (a : Int) (w : World) : Calls Tryz.prog 86 #[W a] w fun e w' => e = .returned (W (-a)) ∧ Below w.heap.size w w' := by
  have hha := hi_lo a
  have hga := hi_hi a
  have hla := lo_lo a
  have hka := lo_hi a
  go_enter Tryz.func86, Tryz.ntmps86
  go_wp2_with fail
  refine (refDigits a _).mono ?_
  rintro e w1 ⟨g, cap, rfl, hown1, hb1⟩
  have hBW : Below (w.heap.size + 2) ((w.alloc (.cells #[.int .i64 (hi a), .int .u64 (lo a)] 56)).alloc (.cells #[.int .i64 0, .int .u64 0] 56)) w1 := hb1.mono (by simp)
  have hs1 : w.heap.size + 2 ≤ w1.heap.size := Nat.le_trans (by simp) hb1.size
  rw [mix_start] at hown1
  have hown2 : w1.ownsRow (w.heap.size + 2) 3 1 (.slice (some ⟨g, 0, none⟩) 128 cap) 128 (mix a 0) := hown1.mono (by simp)
  clear hb1 hown1
  go_wp2
  go_loopw [4] (fun v4 wr => ∃ k : Nat, k ≤ 128 ∧ v4 = .int .i64 k ∧ wr.ownsRow (w.heap.size + 2) 3 1 (.slice (some ⟨g, 0, none⟩) 128 cap) 128 (mix a k) ∧ Below (w.heap.size + 2) ((w.alloc (.cells #[.int .i64 (hi a), .int .u64 (lo a)] 56)).alloc (.cells #[.int .i64 0, .int .u64 0] 56)) wr)
    (fun v4 _ => 128 - (intOf v4).toNat)
  case atStart => exact ⟨0, by omega, rfl, hown2, hBW⟩
  case round =>
    obtain ⟨k, hk, rfl, hown, hnx⟩ := hrel
    by_cases hlt : k < 128
    · obtain ⟨p, hp, p0, p1⟩ : ∃ p, Hid (bit a k = p) ∧ 0 ≤ p ∧ p ≤ 1 := ⟨_, rfl, bit_lo a k, bit_hi a k⟩
      have hcx : wr.cell? ⟨g, k, none⟩ = some (.int .i64 p) := by rw [hown.cellAt k (by omega), mix_at a k k hlt, if_neg (by omega), hp.out]
      have hfz : wr.frozen? ⟨g, k, none⟩ = false := hown.frozenAt k
      obtain ⟨hown', hgr⟩ := hown.stored k (.int .i64 (1 - p))
      rw [← hp.out, mix_succ a k hlt, hp.out] at hown'
      have hge : w.heap.size + 2 ≤ g := (hown.lt g rfl).1
      have hb2 : Below (w.heap.size + 2) ((w.alloc (.cells #[.int .i64 (hi a), .int .u64 (lo a)] 56)).alloc (.cells #[.int .i64 0, .int .u64 0] 56)) (wr.setCell ⟨g, k, none⟩ (.int .i64 (1 - p))) := hnx.setCell hge _
      have j0 : (0 : Int) ≤ (k : Int) := by omega
      have j1 : (k : Int) < 128 := by omega
      clear hgr hown hnx
      go_wp2
      go_roundw
      case rel => exact ⟨k + 1, by omega, by go_num, hown', hb2⟩
      case measure => simp [intOf]; omega
    · have hk8 : Hid (k = 128) := by show k = 128; omega
      have hcells : Hid (∀ j, j < 128 → wr.cell? ⟨g, 0 + j, none⟩ = some (.int .i64 (bit (-a - 1) j))) := fun j hj => by
        rw [Nat.zero_add, hown.cellAt j (by omega), mix_at a k j hj, if_pos (by have := hk8.out; omega)]
      have hs := hnx.size
      clear hown
      go_wp2_with fail
      refine (refNumber (bit (-a - 1)) (fun i => ⟨bit_lo _ i, bit_hi _ i⟩) (-a - 1) (sumBits_bit _ 128) g 0 cap wr hcells).mono ?_
      rintro e w3 ⟨rfl, hb3⟩
      have hn3 := hnx.trans (hb3.mono (Nat.le_trans (by simp) hs))
      go_wp2_with fail
      refine (refOf 1 (by unfold Half; omega) _).mono ?_
      rintro e w4 ⟨rfl, hb4⟩
      have hn4 := hn3.trans (hb4.mono (Nat.le_trans (by simp) hn3.size))
      go_wp2_with fail
      refine (refAdd (-a - 1) 1 _).mono ?_
      rintro e w5 ⟨rfl, hb5⟩
      have hZ := hn4.trans (hb5.mono (Nat.le_trans (by simp) hn4.size))
      rw [show -a - 1 + 1 = -a by omega]
      have r0 : w5.cell? ⟨w.heap.size + 1, 0, none⟩ = some (.int .i64 0) := (hZ.cell (p := ⟨w.heap.size + 1, 0, none⟩) (by show w.heap.size + 1 < _; omega)).trans (by simp [go_sem])
      have r1 : w5.cell? ⟨w.heap.size + 1, 1, none⟩ = some (.int .u64 0) := (hZ.cell (p := ⟨w.heap.size + 1, 1, none⟩) (by show w.heap.size + 1 < _; omega)).trans (by simp [go_sem])
      have f0 : w5.frozen? ⟨w.heap.size + 1, 0, none⟩ = false := (hZ.frozen (p := ⟨w.heap.size + 1, 0, none⟩) (by show w.heap.size + 1 < _; omega)).trans (by simp [go_sem])
      have f1 : w5.frozen? ⟨w.heap.size + 1, 1, none⟩ = false := (hZ.frozen (p := ⟨w.heap.size + 1, 1, none⟩) (by show w.heap.size + 1 < _; omega)).trans (by simp [go_sem])
      have hfin : Below w.heap.size w w5 := Below.trans (by go_grown) (hZ.mono (by omega))
      clear hZ hb5 hb4 hb3 hn3 hn4 hnx
      go_wp2
      refine bodyPost_ret (by simp [results, Tryz.results86, go_sem, r0, r1]; try rfl) rfl ?_
      exact ⟨rfl, Below.setCell (Below.setCell hfin (by simp) _) (by simp) _⟩

end Go.Proofs.YtodfcbpcgcgijaaGreatDoor

/- Variables that hold a wide number, and a slice of 128 bits, over calls and stores. -/
namespace Go.Proofs.YtodfcbpcgcgijaaGreatDoor
set_option maxRecDepth 100000
open Go.RowKit

/-- Block g is a variable that holds v. -/
structure Holds (w : World) (g : Nat) (v : Int) : Prop where
  lt : g < w.heap.size
  c0 : w.cell? ⟨g, 0, none⟩ = some (.int .i64 (hi v))
  c1 : w.cell? ⟨g, 1, none⟩ = some (.int .u64 (lo v))
  f0 : w.frozen? ⟨g, 0, none⟩ = false
  f1 : w.frozen? ⟨g, 1, none⟩ = false
theorem Holds.below {w w' : World} {g B : Nat} {v : Int} (h : Holds w g v) (hb : Below B w w') (hg : g < B) : Holds w' g v :=
  ⟨Nat.lt_of_lt_of_le h.lt hb.size, (hb.cell (p := ⟨g, 0, none⟩) hg).trans h.c0, (hb.cell (p := ⟨g, 1, none⟩) hg).trans h.c1, (hb.frozen (p := ⟨g, 0, none⟩) hg).trans h.f0, (hb.frozen (p := ⟨g, 1, none⟩) hg).trans h.f1⟩
theorem Holds.call {w w' : World} {g : Nat} {v : Int} (h : Holds w g v) (hb : Below w.heap.size w w') : Holds w' g v := h.below hb h.lt
theorem Holds.new (w : World) (v : Int) (t : TypeId) : Holds (w.alloc (.cells #[.int .i64 (hi v), .int .u64 (lo v)] t)) w.heap.size v :=
  ⟨by simp, by simp [go_sem], by simp [go_sem], by simp [go_sem], by simp [go_sem]⟩
theorem Holds.alloc {w : World} {g : Nat} {v : Int} (h : Holds w g v) (o : Obj) : Holds (w.alloc o) g v := h.call ((Below.refl _ _).alloc (Nat.le_refl _) o)
theorem Holds.drew {w : World} {g : Nat} {v : Int} (h : Holds w g v) : Holds w.drew g v := ⟨h.lt, h.c0, h.c1, h.f0, h.f1⟩
/-- w with v stored in block g. -/
abbrev put (w : World) (g : Nat) (v : Int) : World := (w.setCell ⟨g, 0, none⟩ (.int .i64 (hi v))).setCell ⟨g, 1, none⟩ (.int .u64 (lo v))
theorem put_size (w : World) (g : Nat) (v : Int) : (put w g v).heap.size = w.heap.size := by simp [World.setCell]
theorem put_other (w : World) (g : Nat) (v : Int) (k : Nat) (hk : k ≠ g) : (put w g v).heap[k]? = w.heap[k]? :=
  (Below.heap_setCell _ _ _ k (by simpa using hk)).trans (Below.heap_setCell _ _ _ k (by simpa using hk))
theorem below_put {B : Nat} {a w : World} (h : Below B a w) {g : Nat} (hg : B ≤ g) (v : Int) : Below B a (put w g v) := (h.setCell (p := ⟨g, 0, none⟩) hg _).setCell (p := ⟨g, 1, none⟩) hg _
theorem put_cell (w : World) (g : Nat) (v : Int) (k j : Nat) (hk : k ≠ g) : (put w g v).cell? ⟨k, j, none⟩ = w.cell? ⟨k, j, none⟩ :=
  World.cell?_of_block (w := w) (a := ⟨k, j, none⟩) (put_other w g v k hk)
theorem put_frozen (w : World) (g : Nat) (v : Int) (k j : Nat) (hk : k ≠ g) : (put w g v).frozen? ⟨k, j, none⟩ = w.frozen? ⟨k, j, none⟩ :=
  World.frozen?_of_block (w := w) (a := ⟨k, j, none⟩) (put_other w g v k hk)
theorem Holds.other {w : World} {g k : Nat} {u : Int} (h : Holds w k u) (hk : k ≠ g) (v : Int) : Holds (put w g v) k u :=
  ⟨by rw [put_size]; exact h.lt, by rw [put_cell _ _ _ _ _ hk]; exact h.c0, by rw [put_cell _ _ _ _ _ hk]; exact h.c1, by rw [put_frozen _ _ _ _ _ hk]; exact h.f0, by rw [put_frozen _ _ _ _ _ hk]; exact h.f1⟩
theorem Holds.same {w : World} {g : Nat} {u : Int} (h : Holds w g u) (v : Int) : Holds (put w g v) g v := by
  obtain ⟨h1, h2, h3, h4, h5⟩ := h
  exact ⟨by rw [put_size]; exact h1, by simp [go_sem, h2], by simp [go_sem, h3], by simp [go_sem, h4], by simp [go_sem, h5]⟩

/-- Block g holds 128 integers, from off on. -/
structure Ints (w : World) (g off : Nat) (f : Nat → Int) : Prop where
  lt : g < w.heap.size
  at_ : ∀ j, j < 128 → w.cell? ⟨g, off + j, none⟩ = some (.int .i64 (f j))
theorem Ints.below {w w' : World} {g off B : Nat} {f : Nat → Int} (h : Ints w g off f) (hb : Below B w w') (hg : g < B) : Ints w' g off f :=
  ⟨Nat.lt_of_lt_of_le h.lt hb.size, fun j hj => (hb.cell (p := ⟨g, off + j, none⟩) hg).trans (h.at_ j hj)⟩
theorem Ints.call {w w' : World} {g off : Nat} {f : Nat → Int} (h : Ints w g off f) (hb : Below w.heap.size w w') : Ints w' g off f := h.below hb h.lt
theorem Ints.alloc {w : World} {g off : Nat} {f : Nat → Int} (h : Ints w g off f) (o : Obj) : Ints (w.alloc o) g off f := h.call ((Below.refl _ _).alloc (Nat.le_refl _) o)
theorem Ints.other {w : World} {g k off : Nat} {f : Nat → Int} (h : Ints w k off f) (hk : k ≠ g) (v : Int) : Ints (put w g v) k off f :=
  ⟨by rw [put_size]; exact h.lt, fun j hj => by rw [put_cell _ _ _ _ _ hk]; exact h.at_ j hj⟩
theorem Ints.of_row {w : World} {base : Nat} {e : TypeId} {g cap : Nat} {a : Int} (h : w.ownsRow base e 1 (.slice (some ⟨g, 0, none⟩) 128 cap) 128 (bits_ a 128)) : Ints w g 0 (bit a) :=
  ⟨(h.lt g rfl).2, fun j hj => by rw [Nat.zero_add]; exact (row_cell h (Below.refl _ _)).2 j hj⟩
theorem number_ints (a : Int) {w : World} {g off cap : Nat} (h : Ints w g off (bit a)) :
    Calls Tryz.prog 83 #[.slice (some ⟨g, off, none⟩) 128 cap] w fun e w' => e = .returned (W a) ∧ Below w.heap.size w w' :=
  refNumber (bit a) (fun i => ⟨bit_lo a i, bit_hi a i⟩) a (sumBits_bit a 128) g off cap w h.at_

end Go.Proofs.YtodfcbpcgcgijaaGreatDoor
