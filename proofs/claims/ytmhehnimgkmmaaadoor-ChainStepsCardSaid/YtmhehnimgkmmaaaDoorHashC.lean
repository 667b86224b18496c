/- Bytes padded, in the document's answers. -/
import Derived.Test.YtmhehnimgkmmaaaDoorHashB
import Derived.Test.YtmhehnimgkmmaaaDoorOwn
import Derived.Test.YtmhehnimgkmmaaaDoorBase
import Derived.Deep.RegionHeld3
import Derived.Deep.DeepCutAuto
namespace Go.Proofs.YtmhehnimgkmmaaaDoor
set_option maxRecDepth 100000
open Go.RowKit
set_option linter.unusedVariables false
attribute [local go_sem] cell_re

/-- A slice's length. -/
def sliceLen : Value → Nat
  | .slice _ n _ => n
  | _ => 0
/-- The k lowest bytes, the highest of them first. -/
def lowest : Nat → Int → List Int
  | 0, _ => []
  | k + 1, u => [u / 256 ^ k % 256] ++ lowest k u
theorem lowest_len : ∀ (k : Nat) (u : Int), (lowest k u).length = k
  | 0, _ => rfl
  | k + 1, u => by simp [lowest, lowest_len k u]
theorem lowest8 (n : Int) : lowest 8 n = bytes8 n := by simp [lowest, bytes8]
theorem div256 (u : Int) (k : Nat) : u / 256 ^ (k + 1) = u / 256 ^ k / 256 := by rw [Int.pow_succ, Int.ediv_ediv_of_nonneg (Int.le_of_lt (Int.pow_pos (by decide)))]
set_option maxRecDepth 100000 in
set_option maxHeartbeats 4000000 in
theorem ref8Padded (xs : List Int) (hl : xs.length ≤ 1000000000) (n : Nat) (hn : n = xs.length) (p : Option Addr) (c : Nat) (w : World) (hx : At .u8 w p xs) :
    Calls Tryd.prog 32 #[.slice p n c] w (NewRow .u8 5 w (padded xs)) := by
  obtain ⟨i0, hi0, hz0, hz1, hz2⟩ := info_parts infoByte
  have own0 : Mine .u8 5 w.heap.size (w.alloc (.cells #[] 5)) (some ⟨w.heap.size, 0, none⟩) 0 0 [] := Mine.lit w [] #[] 0 rfl rfl (Nat.le_refl _) (by unfold maxLen; omega)
  have hB0 : Below w.heap.size w (w.alloc (.cells #[] 5)) := (Below.refl _ _).alloc (Nat.le_refl _) _
  have hx0 := Lib.hid (hx.alloc (.cells #[] 5))
  have hL := Lib.hid (show n ≤ 1000000000 by omega)
  have hN := Lib.hid hn
  clear hl hx hn
  go_enter Tryd.func32, Tryd.ntmps32
  go_wp2_with (first
    | (at_builtin; refine walk_mine (k := .u8)  rfl _ _ 48 rfl i0 (.int .u8 0) 1 Tryd.underlying48 hi0 hz0 hz1 hz2 rfl own0 rfl hx0.out hN.out rfl (by have := hL.out; omega) hB0.size hB0 ?_; intro q1 n1 c1 w1 m1 hB1 e1 g1)
    | (at_builtin; refine walk_mine (k := .u8) (m := 1) rfl _ _ 48 rfl i0 (.int .u8 0) 1 Tryd.underlying48 hi0 hz0 hz1 hz2 rfl (m1.alloc _) rfl (Mine.lit (e := 5) (B := w1.heap.size) w1 [128] #[.int .u8 128] 1 rfl rfl (Nat.le_refl _) (by unfold maxLen; omega)).at_ rfl rfl (by have := hL.out; have := e1.out; omega) (hB1.alloc hB1.size _).size (hB1.alloc hB1.size _) ?_; intro q2 n2 c2 w2 m2 hB2 e2 g2))
  clear own0 hB0 hx0 m1 hB1 g1
  go_loopw [3] (fun v3 wr => ∃ (j : Nat) (q : Option Addr) (n' cap : Nat), j ≤ noughts xs.length ∧ v3 = .slice q n' cap ∧ Hid (n' = n + 1 + j) ∧ Mine .u8 5 w.heap.size wr q n' cap (xs ++ 128 :: List.replicate j 0) ∧ Below w.heap.size w wr) (fun v3 _ => n + 65 - sliceLen v3)
  case atStart => exact ⟨0, q2, n2, c2, Nat.zero_le _, rfl, by have := e1.out; have := e2.out; show _ = _; omega, m2, hB2⟩
  case round =>
    clear m2 hB2
    obtain ⟨j, q, n', cap, hj, rfl, hn', m, hB⟩ := hrel
    by_cases hlt : j < noughts xs.length
    · have hj2 := hn'.out
      have hn2 := hN.out
      have j1 : ¬ (n' : Int) % 64 = 56 := by unfold noughts at hlt; omega
      have j2 : (n' : Int).tmod 64 = (n' : Int) % 64 := Int.tmod_eq_emod_of_nonneg (by omega)
      have hlen := Lib.hid (show (n' + 1) * (1 + 1) ≤ 1000000000000 by have := hL.out; unfold noughts at hlt; omega)
      have hms := Lib.hid (show n + 65 - (n' + 1) < n + 65 - n' by unfold noughts at hlt; omega)
      have hB' := Lib.hid (hB.alloc hB.size (.cells #[.int .u8 0] 5))
      have m' := Lib.hid (m.alloc (.cells #[.int .u8 0] 5))
      have at1 := Lib.hid (Mine.lit (k := .u8) (e := 5) (B := wr.heap.size) wr [0] #[.int .u8 0] 1 rfl rfl (Nat.le_refl _) (by unfold maxLen; omega)).at_
      clear m hB hn2 hj2
      go_wp2_with (at_builtin; refine walk_mine (k := .u8) (m := 1) rfl _ _ 48 rfl i0 (.int .u8 0) 1 Tryd.underlying48 hi0 hz0 hz1 hz2 rfl m'.out rfl at1.out rfl rfl hlen.out hB'.out.size hB'.out ?_; intro q3 n3 c3 w3 m3 hB3 e3 g3)
      go_roundw
      case rel =>
        refine ⟨j + 1, q3, n3, c3, by omega, rfl, ?_, ?_, hB3⟩
        · have := e3.out; have := hn'.out; show _ = _; omega
        · have e := m3
          rw [List.append_assoc] at e
          rw [List.replicate_succ']
          exact e
      case measure =>
        have := e3.out
        have := hms.out
        simp only [sliceLen]
        omega
    · obtain rfl : j = noughts xs.length := by omega
      obtain ⟨wa, rfl⟩ : ∃ wa, wa = wr := ⟨wr, rfl⟩
      have hj2 := hn'.out
      have hn2 := hN.out
      have j1 : (n' : Int) % 64 = 56 := by unfold noughts at hj2; omega
      have j2 : (n' : Int).tmod 64 = (n' : Int) % 64 := Int.tmod_eq_emod_of_nonneg (by omega)
      have j3 : IntKind.u64.wrap (n : Int) = n := by have := hL.out; rw [IntKind.wrap_u64]; omega
      have j4 : IntKind.u64.wrap ((n : Int) * 8) = 8 * (n : Int) := by have := hL.out; rw [IntKind.wrap_u64]; omega
      have hNb := Lib.hid (show 0 ≤ 8 * (n : Int) ∧ 8 * (n : Int) ≤ 8000000000 by have := hL.out; omega)
      have hn4 := Lib.hid (show n' ≤ 1000000070 by have := hL.out; unfold noughts at hj2; omega)
      have own2 : Mine .u8 5 wa.heap.size (wa.alloc (.cells #[] 5)) (some ⟨wa.heap.size, 0, none⟩) 0 0 [] := Mine.lit wa [] #[] 0 rfl rfl (Nat.le_refl _) (by unfold maxLen; omega)
      have hC0 : Below wa.heap.size wa (wa.alloc (.cells #[] 5)) := (Below.refl _ _).alloc (Nat.le_refl _) _
      clear hj2 hn2
      obtain ⟨N, hNN⟩ : ∃ N, Hid (8 * (n : Int) = N) := ⟨_, rfl⟩
      rw [hNN.out] at j4 hNb
      go_wp2
      go_loopw [4, 5, 6] (fun vn vt vi w2 => ∃ (k : Nat) (x : Int) (q : Option Addr) (n2 c2 : Nat), k ≤ 8 ∧ vi = .int .i64 k ∧ vn = .int .u64 x ∧ 0 ≤ x ∧ x ≤ 8000000000 ∧ Hid (x = N / 256 ^ k) ∧ vt = .slice q n2 c2 ∧ Hid (n2 = k) ∧
          Mine .u8 5 wa.heap.size w2 q n2 c2 (lowest k N) ∧ Below wa.heap.size wa w2) (fun _ _ vi _ => 8 - (intOf vi).toNat)
      case atStart => exact ⟨0, N, _, 0, 0, by omega, rfl, rfl, hNb.out.1, hNb.out.2, by show _ = _; simp, rfl, Lib.hid rfl, own2, hC0⟩
      case round =>
        clear own2 hC0
        obtain ⟨k, x, q4, n4, c4, hk, rfl, rfl, x0, x1, hx, rfl, hn5, m4, hC⟩ := hrel
        by_cases hlt : k < 8
        · have at4 := Lib.hid (m4.at_.alloc (.cells #[.int .u8 (x % 256)] 5))
          have hl4 := Lib.hid (show n4 = (lowest k N).length by rw [lowest_len]; exact hn5.out)
          have own5 := Lib.hid (Mine.lit (k := .u8) (e := 5) (B := wa.heap.size) wr [x % 256] #[.int .u8 (x % 256)] 1 rfl rfl hC.size (by unfold maxLen; omega))
          have hle := Lib.hid (show (1 + n4) * (1 + 1) ≤ 1000000000000 by have := hn5.out; omega)
          have hC' := Lib.hid (hC.alloc hC.size (.cells #[.int .u8 (x % 256)] 5))
          have e1 : Hid (x / 256 = N / 256 ^ (k + 1)) := by show _ = _; rw [div256, hx.out]
          have e2 : Hid ([x % 256] ++ lowest k N = lowest (k + 1) N) := by show _ = _; rw [lowest, hx.out]
          have j7 : (k : Int) < 8 := by omega
          clear m4 hC hx
          go_wp2_with (at_builtin; refine walk_mine (k := .u8) rfl _ _ 48 rfl i0 (.int .u8 0) 1 Tryd.underlying48 hi0 hz0 hz1 hz2 rfl own5.out rfl at4.out hl4.out rfl hle.out hC'.out.size hC'.out ?_; intro q5 n6 c5 w5 m5 hC5 e5 g5)
          go_roundw
          case rel =>
            refine ⟨k + 1, x / 256, q5, n6, c5, by omega, by go_num, by first | rfl | go_num, by omega, by omega, e1, rfl, ?_, ?_, hC5⟩
            · have := e5.out; have := hn5.out; show _ = _; omega
            · rw [← e2.out]; exact m5
          case measure => simp [intOf]; omega
        · obtain rfl : k = 8 := by omega
          have at4 := Lib.hid m4.at_
          have mo := Lib.hid (m.call hC)
          have hl4 := Lib.hid (show n4 = (lowest 8 N).length by rw [lowest_len]; exact hn5.out)
          have hle := Lib.hid (show (n' + n4) * (1 + 1) ≤ 1000000000000 by have := hn5.out; have := hn4.out; omega)
          have hBB := Lib.hid (below_then hB hC)
          clear m4 hC hx m
          go_wp2_with (at_builtin; refine walk_mine (k := .u8) rfl _ _ 48 rfl i0 (.int .u8 0) 1 Tryd.underlying48 hi0 hz0 hz1 hz2 rfl mo.out rfl at4.out hl4.out rfl hle.out hBB.out.size hBB.out ?_; intro q5 n6 c5 w5 m5 hC5 e5 g5)
          go_ret
          have e6 : padded xs = xs ++ 128 :: List.replicate (noughts xs.length) 0 ++ lowest 8 N := by rw [lowest8, ← hNN.out, hN.out]; rfl
          rw [e6]
          exact m5.new hC5

end Go.Proofs.YtmhehnimgkmmaaaDoor
