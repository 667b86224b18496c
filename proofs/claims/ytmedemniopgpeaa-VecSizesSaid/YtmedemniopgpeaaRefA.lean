/- What Digits of the document's answers gives: the number's 128 bits, in a new slice. -/
import Derived.Test.YtmedemniopgpeaaHeld
import Derived.Test.YtmedemniopgpeaaRefMath
import Derived.Deep.RegionHeld3
import Derived.Deep.DeepCutAuto
import Derived.Lib.Hide
import Derived.Laws.OwnMore
import Derived.OwnWalk
import Derived.Maps.AppendAt
import Derived.Deep.AppendLies
import Derived.Deep.Onto
import Derived.WalkLawsBesides
namespace Go.Proofs.Ytmedemniopgpeaa
open Go.RowKit
attribute [local go_sem] cell_re eqW_self
attribute [local go_sem ↓] run_eqlW run_neqW

theorem Try.infoInt : (Try.prog.info? 3).map (fun i => (i.zero, i.size, i.bytes)) = some (some (.int .i64 0), 1, 8) := by kernel_rfl
theorem app_below {B base : Nat} {e : TypeId} {w wr w1 : World} {o : Obj} {v : Value} {n : Nat} {xs : List Value} (hown : wr.ownsRow base e 1 v n xs) (hnx : Below B w wr) (hB : B ≤ base) (hw : B ≤ wr.heap.size)
    (hg : (wr.alloc o).grownBy w1 v.ownBlock) : Below B w w1 :=
  (hnx.alloc hw o).grown hg (by simp; omega) fun k hk => Nat.le_trans hB (hown.lt k hk).1

/-- What Digits leaves: a new slice of the 128 bits. -/
def Bits128 (a : Int) (w : World) (e : Ending) (w' : World) : Prop :=
  ∃ g cap, e = .returned (.slice (some ⟨g, 0, none⟩) 128 cap) ∧ w'.ownsRow w.heap.size 3 1 (.slice (some ⟨g, 0, none⟩) 128 cap) 128 (bits_ a 128) ∧ Below w.heap.size w w'

set_option maxRecDepth 100000 in
set_option maxHeartbeats 1000000 in
theorem refDigits (a : Int) (w : World) : Calls Try.prog 46 #[W a] w (Bits128 a w) := by
  obtain ⟨i0, hi0, hz0, hz1, hz2⟩ := info_parts Try.infoInt
  have hha := hi_lo a
  have hga := hi_hi a
  have hla := lo_lo a
  have hka := lo_hi a
  obtain ⟨H, hH, H0, H1⟩ : ∃ H, IntKind.u64.wrap (hi a) = H ∧ 0 ≤ H ∧ H ≤ 18446744073709551615 := ⟨_, rfl, by rw [IntKind.wrap_u64]; omega, by rw [IntKind.wrap_u64]; omega⟩
  have hbit : ∀ k : Nat, k < 64 → H / 2 ^ k % 2 = bit a (64 + k) := fun k hk => by rw [← hH]; exact bit_of_hi a k hk
  have hbit' := Lib.hid hbit
  clear hbit
  have hstart : ((w.alloc (.cells #[.int .i64 (hi a), .int .u64 (lo a)] 39)).alloc (.cells #[] 3)).ownsRow (w.heap.size + 1) 3 1 (.slice (some ⟨w.heap.size + 1, 0, none⟩) 0 0) 0 (bits_ a 0) := by
    have h := World.ownsRow_lit (base := w.heap.size + 1) (e := 3) (size := 1) (w.alloc (.cells #[.int .i64 (hi a), .int .u64 (lo a)] 39)) #[] 0 (by simp) (by unfold maxLen; omega) rfl
    rw [World.size_alloc] at h
    exact h
  go_enter Try.func46, Try.ntmps46
  go_wp2
  go_loopw [3, 4, 5] (fun v3 v4 v5 wr => ∃ (k : Nat) (x : Int), k ≤ 64 ∧ v5 = .int .i64 k ∧ v4 = .int .u64 x ∧ Hid (x = lo a / 2 ^ k) ∧ wr.ownsRow (w.heap.size + 1) 3 1 v3 k (bits_ a k) ∧ Below (w.heap.size + 1) (w.alloc (.cells #[.int .i64 (hi a), .int .u64 (lo a)] 39)) wr ∧ w.heap.size + 1 ≤ wr.heap.size)
    (fun _ _ v5 _ => 64 - (intOf v5).toNat)
  case atStart => exact ⟨0, lo a, by omega, rfl, rfl, by show lo a = lo a / 2 ^ 0; rw [Int.pow_zero, Int.ediv_one], hstart, (Below.refl (w.heap.size + 1) _).alloc (by simp) _, by simp⟩
  case round =>
    obtain ⟨k, x, hk, rfl, rfl, hx, hown, hnx, hsz⟩ := hrel
    by_cases hlt : k < 64
    · obtain ⟨d, hd, d0, d1⟩ : ∃ d, x % 2 = d ∧ 0 ≤ d ∧ d ≤ 1 := ⟨_, rfl, by omega, by omega⟩
      have hx0 : 0 ≤ x := by rw [hx.out]; exact Int.ediv_nonneg (by omega) (Int.le_of_lt (pow_pos' k))
      have hx1 : x ≤ 18446744073709551615 := by rw [hx.out]; exact Int.le_trans (Int.ediv_le_self _ (by omega)) (by omega)
      have hb : Hid (d = bit a k) := by show d = _; rw [← hd, hx.out]; exact bit_of_lo a k hlt
      have hy' : Hid (x / 2 = lo a / 2 ^ (k + 1)) := by show x / 2 = _; rw [hx.out, div_succ]
      have hsz' : w.heap.size < wr.heap.size := hsz
      go_wp2_with ((at_builtin; refine wpList_append_own _ rfl _ _ 58 rfl (w.heap.size + 1) 3 i0 (.int .i64 0) 1 8 Try.underlying58 hi0 hz0 hz1 hz2 rfl (by decide) _ _ _ rfl (hown.alloc _) ⟨wr.heap.size, 0, none⟩ 1 1 [.int .i64 (d)] rfl rfl ?c1 ?c2 ?c3 ?c4 ?c5 ?_))
      case c1 =>
        intro j u hj
        match j, hj with
        | 0, hj => simp at hj; subst hj; simp [Addr.add]
      case c2 => intro u hu; simp at hu; subst hu; rfl
      case c3 => unfold maxLen; omega
      case c4 => omega
      case c5 => simp; omega
      intro v' w1 hown' hgrow _
      have hb1 := app_below hown hnx (Nat.le_refl _) hsz hgrow
      have hsz1 : w.heap.size + 1 ≤ w1.heap.size := by have := hgrow.size; simp at this; omega
      rw [hb.out, ← bits_succ] at hown'
      clear hgrow hown hnx
      go_wp2
      go_roundw
      case rel =>
        exact ⟨k + 1, x / 2, by omega, by go_num, rfl, hy', hown', hb1, hsz1⟩
      case measure => simp [intOf]; omega
    · have hk64 : Hid (k = 64) := by show k = 64; omega
      have hc0 : wr.cell? ⟨w.heap.size, 0, none⟩ = some (.int .i64 (hi a)) := (hnx.cell (p := ⟨w.heap.size, 0, none⟩) (by simp)).trans (by simp [go_sem])
      go_wp2
      have hown0 : wr.ownsRow (w.heap.size + 1) 3 1 u3 (64 + 0) (bits_ a (64 + 0)) := by have h := hown; rw [hk64.out] at h; exact h
      clear hown
      go_loopw [3, 6, 7] (fun v3 v4 v5 wr => ∃ (k : Nat) (x : Int), k ≤ 64 ∧ v5 = .int .i64 k ∧ v4 = .int .u64 x ∧ Hid (x = H / 2 ^ k) ∧ wr.ownsRow (w.heap.size + 1) 3 1 v3 (64 + k) (bits_ a (64 + k)) ∧ Below (w.heap.size + 1) (w.alloc (.cells #[.int .i64 (hi a), .int .u64 (lo a)] 39)) wr ∧ w.heap.size + 1 ≤ wr.heap.size)
        (fun _ _ v5 _ => 64 - (intOf v5).toNat)
      case atStart => exact ⟨0, H, by omega, rfl, rfl, by show H = H / 2 ^ 0; rw [Int.pow_zero, Int.ediv_one], hown0, hnx, hsz⟩
      case round =>
        obtain ⟨k, x, hk, rfl, rfl, hx, hown, hnx, hsz⟩ := hrel
        by_cases hlt : k < 64
        · obtain ⟨d, hd, d0, d1⟩ : ∃ d, x % 2 = d ∧ 0 ≤ d ∧ d ≤ 1 := ⟨_, rfl, by omega, by omega⟩
          have hx0 : 0 ≤ x := by rw [hx.out]; exact Int.ediv_nonneg (by omega) (Int.le_of_lt (pow_pos' k))
          have hx1 : x ≤ 18446744073709551615 := by rw [hx.out]; exact Int.le_trans (Int.ediv_le_self _ (by omega)) (by omega)
          have hb : Hid (d = bit a (64 + k)) := by show d = _; rw [← hd, hx.out]; exact hbit'.out k hlt
          have hy' : Hid (x / 2 = H / 2 ^ (k + 1)) := by show x / 2 = _; rw [hx.out, div_succ]
          have hsz' : w.heap.size < wr.heap.size := hsz
          go_wp2_with ((at_builtin; refine wpList_append_own _ rfl _ _ 58 rfl (w.heap.size + 1) 3 i0 (.int .i64 0) 1 8 Try.underlying58 hi0 hz0 hz1 hz2 rfl (by decide) _ _ _ rfl (hown.alloc _) ⟨wr.heap.size, 0, none⟩ 1 1 [.int .i64 (d)] rfl rfl ?c1 ?c2 ?c3 ?c4 ?c5 ?_))
          case c1 =>
            intro j u hj
            match j, hj with
            | 0, hj => simp at hj; subst hj; simp [Addr.add]
          case c2 => intro u hu; simp at hu; subst hu; rfl
          case c3 => unfold maxLen; omega
          case c4 => omega
          case c5 => simp; omega
          intro v' w1 hown' hgrow _
          have hb1 := app_below hown hnx (Nat.le_refl _) hsz hgrow
          have hsz1 : w.heap.size + 1 ≤ w1.heap.size := by have := hgrow.size; simp at this; omega
          rw [hb.out, ← bits_succ] at hown'
          clear hgrow hown hnx
          go_wp2
          go_roundw
          case rel =>
            exact ⟨k + 1, x / 2, by omega, by go_num, rfl, hy', hown', hb1, hsz1⟩
          case measure => simp [intOf]; omega
        · have hk64 : Hid (k = 64) := by show k = 64; omega
          have hown1 : wr.ownsRow (w.heap.size + 1) 3 1 u3 128 (bits_ a 128) := by have h := hown; rw [hk64.out] at h; exact h
          obtain ⟨g, cap, rfl, hg, hg'⟩ := hown1.form (by omega)
          have hb2 : Below w.heap.size w wr := ((Below.refl w.heap.size w).alloc (Nat.le_refl _) _).trans (hnx.mono (by omega))
          clear hown
          go_wp2
          go_ret
          exact ⟨g, cap, rfl, hown1.mono (by omega), hb2⟩
end Go.Proofs.Ytmedemniopgpeaa
