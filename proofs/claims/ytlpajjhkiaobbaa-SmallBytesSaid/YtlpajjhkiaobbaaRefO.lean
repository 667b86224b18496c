/- Numbers and their bytes, in the document's answers. -/
import Derived.Test.YtlpajjhkiaobbaaSmallQ
namespace Go.Proofs.Ytlpajjhkiaobbaa
open Go.RowKit
attribute [local go_sem] cell_re
set_option linter.unusedVariables false

set_option maxRecDepth 100000 in
set_option maxHeartbeats 1000000 in
theorem ref3Number (xs : List Int) (hx : Byted xs) (m : Nat) (h8 : m ≤ 8) (hm : m ≤ xs.length) (n : Nat) (hn : n = xs.length) (p : Option Addr) (c : Nat) (w : World) (ha : At .u8 w p xs) :
    Calls Try.prog 40 #[.slice p n c, .int .i64 m] w fun e w' => e = .returned (.int .u64 (num (xs.take m))) ∧ w = w' := by
  subst hn
  rcases ha with rfl | ⟨b, off, rfl, hb, hc⟩
  · obtain rfl : m = 0 := by simpa using hm
    go_enter Try.func40, Try.ntmps40
    go_wp2
    go_rounds 1
    go_ret
    exact ⟨rfl, rfl⟩
  have hX := Lib.hid hx
  have hL := Lib.hid h8
  have hM := Lib.hid hm
  have hC := Lib.hid hc
  clear hx h8 hc hb hm
  go_enter Try.func40, Try.ntmps40
  go_wp2
  go_loop [5, 6] (fun v i => ∃ k : Nat, k ≤ m ∧ i = .int .i64 k ∧ v = .int .u64 (num (xs.take k))) (fun _ i => m - (intOf i).toNat)
  case atStart => exact ⟨0, Nat.zero_le _, rfl, rfl⟩
  case round =>
    obtain ⟨k, hk, rfl, rfl⟩ := hrel
    by_cases hlt : k < m
    · have hkx : k < xs.length := by have := hM.out; omega
      have hcell := hC.out k hkx
      have e1 := Lib.hid (num_next xs hkx)
      obtain ⟨n0, n1⟩ := num_bd xs hX.out k (by have := hL.out; omega) (by omega)
      have n2 := pow256 (show k ≤ 7 by have := hL.out; omega)
      have n3 := Int.lt_of_lt_of_le n1 n2
      clear n1 n2
      obtain ⟨d0, d1⟩ := hX.out.at_ k
      obtain ⟨d, hd⟩ : ∃ d, Hid (xs.getD k 0 = d) := ⟨_, rfl⟩
      obtain ⟨a, ha⟩ : ∃ a, Hid (num (xs.take k) = a) := ⟨_, rfl⟩
      rw [hd.out] at hcell d0 d1
      rw [ha.out] at n0 n3
      have e2 : Hid (num (xs.take (k + 1)) = 256 * a + d) := by show _ = _; rw [e1.out, ha.out, hd.out, Int.mul_comm]
      have j1 : (k : Int) < (m : Int) := by omega
      have j2 : (k : Int) < (xs.length : Int) := by omega
      have j3 : (k : Int) ≤ 8 := by have := hL.out; omega
      rw [ha.out]
      go_wp2
      go_round
      case rel => exact ⟨k + 1, by omega, by go_num, by rw [e2.out]⟩
      case measure => simp [intOf]; omega
    · obtain rfl : k = m := by omega
      go_wp2
      go_ret
      exact ⟨rfl, rfl⟩

theorem digs_cons : ∀ (k : Nat) (u : Int), digs (k + 1) u = [u / 256 ^ k % 256] ++ digs k u
  | 0, u => by simp [digs]
  | k + 1, u => by
    rw [digs, digs_cons k, List.append_assoc]
    show _ = [u / 256 ^ (k + 1) % 256] ++ (digs k (u / 256) ++ [u % 256])
    rw [Int.pow_succ, Int.mul_comm, ← Int.ediv_ediv_of_nonneg (by decide)]
theorem div_next (u : Int) (k : Nat) : u / 256 ^ (k + 1) = u / 256 ^ k / 256 := by
  rw [Int.pow_succ, Int.ediv_ediv_of_nonneg (Int.le_of_lt (Int.pow_pos (by decide)))]

set_option maxRecDepth 100000 in
set_option maxHeartbeats 1000000 in
theorem ref3Bytes (u : Int) (hu : 0 ≤ u) (hu1 : u ≤ 18446744073709551615) (n : Nat) (h8 : n ≤ 8) (w : World) :
    Calls Try.prog 41 #[.int .u64 u, .int .i64 n] w (NewRow .u8 5 w (digs n u)) := by
  obtain ⟨i0, hi0, hz0, hz1, hz2⟩ := info_parts infoByte
  have own0 := World.ownsRow_made (base := w.heap.size) (e := 5) (size := 1) w #[] 0 (Nat.le_refl _) (by unfold maxLen; omega) (by simp)
  have hB0 : Below w.heap.size w (w.alloc (.cells #[] 5)) := (Below.refl _ _).alloc (Nat.le_refl _) _
  have hL := Lib.hid h8
  have hU := Lib.hid hu1
  clear h8 hu1
  go_enter Try.func41, Try.ntmps41
  go_wp2
  go_loopw [0, 5, 6] (fun vx vo vi wr => ∃ (k : Nat) (x : Int) (p : Option Addr) (cap : Nat), k ≤ n ∧ vi = .int .i64 k ∧ vx = .int .u64 x ∧ 0 ≤ x ∧ x ≤ 18446744073709551615 ∧ Hid (x = u / 256 ^ k) ∧ vo = .slice p k cap ∧
      k ≤ cap ∧ cap ≤ maxLen ∧ wr.ownsRow w.heap.size 5 1 (.slice p k cap) k (ints .u8 (digs k u)) ∧ Below w.heap.size w wr) (fun _ _ vi _ => n - (intOf vi).toNat)
  case atStart => exact ⟨0, u, _, 0, Nat.zero_le _, rfl, rfl, hu, hU.out, by show u = _; simp, rfl, Nat.le_refl _, by unfold maxLen; omega, own0, hB0⟩
  case round =>
    clear own0 hB0
    obtain ⟨k, x, p, cap, hk, rfl, rfl, x0, x1, hx, rfl, hcap, hmax, own, hB⟩ := hrel
    by_cases hlt : k < n
    · have at0 : At .u8 wr p (digs k u) := At.of_own own
      have at1 := Lib.hid (at0.alloc (.cells #[.int .u8 (x % 256)] 5))
      have own1 := World.ownsRow_lit (base := w.heap.size) (e := 5) (size := 1) wr #[.int .u8 (x % 256)] 1 hB.size (by unfold maxLen; omega) rfl
      have hl1 := Lib.hid (show (1 + k) * (1 + 1) ≤ 1000000000000 by have := hL.out; omega)
      have hb1 := Lib.hid (show w.heap.size ≤ (wr.alloc (.cells #[.int .u8 (x % 256)] 5)).heap.size by have := hB.size; simp; omega)
      have hB1 := Lib.hid (hB.alloc hB.size (.cells #[.int .u8 (x % 256)] 5))
      have hlen := Lib.hid (digs_len k u).symm
      have hr1 := Lib.hid (hB.size)
      have e1 : Hid (x / 256 = u / 256 ^ (k + 1)) := by show _ = _; rw [div_next, hx.out]
      have e2 : Hid ([x % 256] ++ digs k u = digs (k + 1) u) := by show _ = _; rw [digs_cons, hx.out]
      have j1 : (k : Int) < (n : Int) := by omega
      have j2 : (k : Int) ≤ 8 := by have := hL.out; omega
      clear own at0 hB hx
      go_wp2_with (at_builtin; refine walk_append (k := .u8) rfl _ _ 32 rfl w.heap.size 5 i0 (.int .u8 0) 1 Try.underlying32 hi0 hz0 hz1 hz2 rfl _ 1 [.int .u8 (x % 256)] rfl own1 p k cap (digs k u) rfl at1.out hlen.out hl1.out hb1.out ?_; intro v' w' own' grow)
      obtain ⟨q, cap', rfl, h1, h2⟩ := own_form own'
      go_wp2
      go_roundw
      case rel =>
        refine ⟨k + 1, x / 256, q, cap', by omega, by go_num, rfl, by omega, by omega, e1, by rw [Nat.add_comm], by omega, h2, ?_, hB1.out.grown grow hb1.out (fun _ hg => ?_)⟩
        · rw [← e2.out, ints, List.map_append, Nat.add_comm k 1]; exact own'
        · have := hr1.out; have := Option.some.inj hg; simp at this; omega
      case measure => simp [intOf]; omega
    · obtain rfl : k = n := by omega
      go_wp2
      go_ret
      exact ⟨p, cap, by rw [digs_len]; rfl, by rw [digs_len]; exact own, by rw [digs_len]; exact hcap, hmax, hB⟩

/-- What is read of bytes: a number and whether there are enough. -/
def got32 (xs : List Int) : Int := if xs.length < 4 then 0 else wrap32 (num (xs.take 4))
def got64 (xs : List Int) : Int := if xs.length < 8 then 0 else wrap64 (num (xs.take 8))
def few (k : Nat) (xs : List Int) : Int := if xs.length < k then 7 else 0

theorem smallGet_any (xs : List Int) (hx : Byted xs) (n : Nat) (hn : n = xs.length) (p : Option Addr) (c : Nat) (hc : n ≤ c) (hm : c ≤ maxLen) (w : World) (ha : At .u8 w p xs) :
    Calls Try.prog 21 #[.slice p n c] w fun e w' => e = .returned (.tuple #[.int .i32 (got32 xs), .int .i64 (few 4 xs)]) ∧ w = w' := by
  by_cases h : xs.length < 4
  · rw [got32, few, if_pos h, if_pos h]
    exact smallGet_short n (by omega) p c w
  · rw [got32, few, if_neg h, if_neg h, show wrap32 (num (xs.take 4)) = IntKind.i32.wrap (num (xs.take 4)) by simp [IntKind.wrap_i32, wrap32]]
    exact smallGet xs hx (by omega) n hn p c hc hm w ha

theorem smallGetFix_any (xs : List Int) (hx : Byted xs) (n : Nat) (hn : n = xs.length) (p : Option Addr) (c : Nat) (hc : n ≤ c) (hm : c ≤ maxLen) (w : World) (ha : At .u8 w p xs) :
    Calls Try.prog 24 #[.slice p n c] w fun e w' => e = .returned (.tuple #[.int .i64 (got64 xs), .int .i64 (few 8 xs)]) ∧ w = w' := by
  by_cases h : xs.length < 8
  · rw [got64, few, if_pos h, if_pos h]
    exact smallGetFix_short n (by omega) p c w
  · rw [got64, few, if_neg h, if_neg h, show wrap64 (num (xs.take 8)) = IntKind.i64.wrap (num (xs.take 8)) by simp [IntKind.wrap_i64, wrap64]]
    exact smallGetFix xs hx (by omega) n hn p c hc hm w ha

set_option maxHeartbeats 1000000 in
theorem ref3Get_short (n : Nat) (hn : n < 4) (p : Option Addr) (c : Nat) (w : World) :
    Calls Try.prog 23 #[.slice p n c] w fun e w' => e = .returned (.tuple #[.int .i32 0, .int .i64 7]) ∧ w = w' := by
  have j1 : (n : Int) < 4 := by omega
  go_enter Try.func23, Try.ntmps23
  go_wp2
  go_ret2
  exact ⟨rfl, rfl⟩
set_option maxHeartbeats 1000000 in
theorem ref3Get_full (xs : List Int) (hx : Byted xs) (hk : 4 ≤ xs.length) (n : Nat) (hn : n = xs.length) (p : Option Addr) (c : Nat) (w : World) (ha : At .u8 w p xs) :
    Calls Try.prog 23 #[.slice p n c] w fun e w' => e = .returned (.tuple #[.int .i32 (IntKind.i32.wrap (num (xs.take 4))), .int .i64 0]) ∧ w = w' := by
  have d1 := Lib.hid (ref3Number xs hx 4 (by omega) hk n hn p c w ha)
  have j1 : ¬ (n : Int) < 4 := by omega
  obtain ⟨v, hv⟩ : ∃ v, Hid (num (xs.take 4) = v) := ⟨_, rfl⟩
  rw [hv.out] at d1 ⊢
  clear hx ha hk hn
  go_enter Try.func23, Try.ntmps23
  go_wp2_with fail
  refine d1.out.mono ?_
  rintro e w1 ⟨rfl, rfl⟩
  go_wp2
  go_ret2
  refine ⟨retT ?_ rfl, rfl⟩
  simp only [IntKind.wrap_i32, wrap32]
  all_goals omega

theorem ref3Get (xs : List Int) (hx : Byted xs) (n : Nat) (hn : n = xs.length) (p : Option Addr) (c : Nat) (hc : n ≤ c) (hm : c ≤ maxLen) (w : World) (ha : At .u8 w p xs) :
    Calls Try.prog 23 #[.slice p n c] w fun e w' => e = .returned (.tuple #[.int .i32 (got32 xs), .int .i64 (few 4 xs)]) ∧ w = w' := by
  by_cases h : xs.length < 4
  · rw [got32, few, if_pos h, if_pos h]
    exact ref3Get_short n (by omega) p c w
  · rw [got32, few, if_neg h, if_neg h, show wrap32 (num (xs.take 4)) = IntKind.i32.wrap (num (xs.take 4)) by simp [IntKind.wrap_i32, wrap32]]
    exact ref3Get_full xs hx (by omega) n hn p c w ha

set_option maxHeartbeats 1000000 in
theorem ref3GetFix_short (n : Nat) (hn : n < 8) (p : Option Addr) (c : Nat) (w : World) :
    Calls Try.prog 25 #[.slice p n c] w fun e w' => e = .returned (.tuple #[.int .i64 0, .int .i64 7]) ∧ w = w' := by
  have j1 : (n : Int) < 8 := by omega
  go_enter Try.func25, Try.ntmps25
  go_wp2
  go_ret2
  exact ⟨rfl, rfl⟩
set_option maxHeartbeats 1000000 in
theorem ref3GetFix_full (xs : List Int) (hx : Byted xs) (hk : 8 ≤ xs.length) (n : Nat) (hn : n = xs.length) (p : Option Addr) (c : Nat) (w : World) (ha : At .u8 w p xs) :
    Calls Try.prog 25 #[.slice p n c] w fun e w' => e = .returned (.tuple #[.int .i64 (IntKind.i64.wrap (num (xs.take 8))), .int .i64 0]) ∧ w = w' := by
  have d1 := Lib.hid (ref3Number xs hx 8 (by omega) hk n hn p c w ha)
  have j1 : ¬ (n : Int) < 8 := by omega
  obtain ⟨v, hv⟩ : ∃ v, Hid (num (xs.take 8) = v) := ⟨_, rfl⟩
  rw [hv.out] at d1 ⊢
  clear hx ha hk hn
  go_enter Try.func25, Try.ntmps25
  go_wp2_with fail
  refine d1.out.mono ?_
  rintro e w1 ⟨rfl, rfl⟩
  go_wp2
  go_ret2
  refine ⟨retT ?_ rfl, rfl⟩
  simp only [IntKind.wrap_i64, wrap64]
  all_goals omega

theorem ref3GetFix (xs : List Int) (hx : Byted xs) (n : Nat) (hn : n = xs.length) (p : Option Addr) (c : Nat) (hc : n ≤ c) (hm : c ≤ maxLen) (w : World) (ha : At .u8 w p xs) :
    Calls Try.prog 25 #[.slice p n c] w fun e w' => e = .returned (.tuple #[.int .i64 (got64 xs), .int .i64 (few 8 xs)]) ∧ w = w' := by
  by_cases h : xs.length < 8
  · rw [got64, few, if_pos h, if_pos h]
    exact ref3GetFix_short n (by omega) p c w
  · rw [got64, few, if_neg h, if_neg h, show wrap64 (num (xs.take 8)) = IntKind.i64.wrap (num (xs.take 8)) by simp [IntKind.wrap_i64, wrap64]]
    exact ref3GetFix_full xs hx (by omega) n hn p c w ha

set_option maxHeartbeats 1000000 in
theorem ref3Put (a : Int) (ha : Short a) (w : World) : Calls Try.prog 27 #[.int .i32 a] w (NewRow .u8 5 w (digs 4 (a % 4294967296))) := by
  have d1 := Lib.hid (ref3Bytes (a % 4294967296) (by omega) (by omega) 4 (by omega) w)
  obtain ⟨a0, a1⟩ := ha
  go_enter Try.func27, Try.ntmps27
  go_wp2_with fail
  refine d1.out.mono ?_
  rintro e w1 ⟨p, cap, rfl, own, h1, h2, hb⟩
  go_wp2
  go_ret
  exact ⟨p, cap, rfl, own, h1, h2, hb⟩

set_option maxHeartbeats 1000000 in
theorem ref3PutFix (a : Int) (ha : Half a) (w : World) : Calls Try.prog 28 #[.int .i64 a] w (NewRow .u8 5 w (digs 8 (a % 18446744073709551616))) := by
  have d1 := Lib.hid (ref3Bytes (a % 18446744073709551616) (by omega) (by omega) 8 (by omega) w)
  obtain ⟨a0, a1⟩ := ha
  go_enter Try.func28, Try.ntmps28
  go_wp2_with fail
  refine d1.out.mono ?_
  rintro e w1 ⟨p, cap, rfl, own, h1, h2, hb⟩
  go_wp2
  go_ret
  exact ⟨p, cap, rfl, own, h1, h2, hb⟩

theorem digs4_mod (a : Int) : digs 4 (IntKind.u64.wrap a) = digs 4 (a % 4294967296) := by
  rw [IntKind.wrap_u64]
  simp only [digs, List.nil_append, List.cons_append, List.cons.injEq, and_true]
  omega

end Go.Proofs.Ytlpajjhkiaobbaa
