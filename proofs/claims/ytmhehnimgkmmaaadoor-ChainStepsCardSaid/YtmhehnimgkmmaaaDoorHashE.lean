/- A block's words and rounds, in the document's answers. -/
import Derived.Test.YtmhehnimgkmmaaaDoorHashC
import Derived.Test.YtmhehnimgkmmaaaDoorHashD
import Derived.Deep.RegionHeld3
import Derived.Deep.DeepCutAuto
import Derived.Deep.RegionLaw
import Derived.IntWalk
import Derived.Deep.QuietTactic
import Derived.BigQuiet
namespace Go.Proofs.YtmhehnimgkmmaaaDoor
set_option maxRecDepth 100000
open Go.RowKit
set_option linter.unusedVariables false
attribute [local go_sem] cell_re

theorem infoWord : (Tryd.prog.info? 63).map (fun i => (i.zero, i.size, i.bytes)) = some (some (.int .u32 0), 1, 4) := by kernel_rfl
/-- The first k words of a block. -/
def wordsTo (xs : List Int) (k : Nat) : List Int := (List.range k).map fun i => wordAt xs (4 * i)
theorem not32 {x : Int} (h : U32 x) : bits .xor .u32 (if IntKind.u32.signed = true then -1 else IntKind.u32.max) x = 4294967295 - x := by
  obtain ⟨h0, h1⟩ := h
  show IntKind.u32.wrap ((BitVec.ofInt 32 4294967295 ^^^ BitVec.ofInt 32 x).toNat : Int) = _
  have e1 : BitVec.ofInt 32 4294967295 = BitVec.allOnes 32 := by decide
  rw [e1, ← BitVec.not_def, BitVec.toNat_not, IntKind.wrap_u32']
  have e2 : (BitVec.ofInt 32 x).toNat = x.toNat := by
    obtain ⟨X, rfl⟩ := Int.eq_ofNat_of_zero_le h0
    rw [BitVec.ofInt_natCast, BitVec.toNat_ofNat]
    simp
    omega
  rw [e2]
  omega
theorem wordsTo_len (xs : List Int) (k : Nat) : (wordsTo xs k).length = k := by simp [wordsTo]
theorem wordsTo_succ (xs : List Int) (k : Nat) : wordsTo xs k ++ [wordAt xs (4 * k)] = wordsTo xs (k + 1) := by simp [wordsTo, List.range_succ]
theorem getD_u32 {l : List Int} (h : ∀ x ∈ l, U32 x) (j : Nat) : U32 (l.getD j 0) := by
  rw [List.getD_eq_getElem?_getD]
  cases e : l[j]? with
  | none => decide
  | some x => exact h x (List.mem_of_getElem? e)
theorem words16_u32 {xs : List Int} (h : Byted xs) {o : Nat} : ∀ x ∈ words16 xs o, U32 x := by
  intro x hx
  obtain ⟨i, -, rfl⟩ := List.mem_map.mp hx
  have b0 := h.at_ (o + 4 * i)
  have b1 := h.at_ (o + 4 * i + 1)
  have b2 := h.at_ (o + 4 * i + 2)
  have b3 := h.at_ (o + 4 * i + 3)
  unfold wordAt U32
  omega
theorem wordsTo_all (xs : List Int) : wordsTo xs 16 = words16 xs 0 := by simp [wordsTo, words16]
set_option maxRecDepth 200000 in
set_option maxHeartbeats 16000000 in
theorem ref8Block (s : S8) (hs : s.Ok) (xs : List Int) (hb : Byted xs) (hl : xs.length = 64) (p : Option Addr) (c : Nat) (w : World) (hx : At .u8 w p xs) :
    Calls Tryd.prog 34 #[A8 s, .slice p 64 c] w fun e w' => e = .returned (A8 (block8 s (words16 xs 0))) ∧ Below w.heap.size w w' := by
  obtain ⟨i0, hi0, hz0, hz1, hz2⟩ := info_parts infoWord
  have hE := (Eight.new w s 64).alloc (.cells #[.int .u32 0, .int .u32 0, .int .u32 0, .int .u32 0, .int .u32 0, .int .u32 0, .int .u32 0, .int .u32 0] 64)
  have hR := Eight.new (w.alloc (.cells #[.int .u32 s.a, .int .u32 s.b, .int .u32 s.c, .int .u32 s.d, .int .u32 s.e, .int .u32 s.f, .int .u32 s.g, .int .u32 s.h] 64)) ⟨0, 0, 0, 0, 0, 0, 0, 0⟩ 64
  rw [World.size_alloc] at hR
  have hO : Below w.heap.size w ((w.alloc (.cells #[.int .u32 s.a, .int .u32 s.b, .int .u32 s.c, .int .u32 s.d, .int .u32 s.e, .int .u32 s.f, .int .u32 s.g, .int .u32 s.h] 64)).alloc (.cells #[.int .u32 0, .int .u32 0, .int .u32 0, .int .u32 0, .int .u32 0, .int .u32 0, .int .u32 0, .int .u32 0] 64)) := by go_grown
  have hx0 := (hx.alloc (.cells #[.int .u32 s.a, .int .u32 s.b, .int .u32 s.c, .int .u32 s.d, .int .u32 s.e, .int .u32 s.f, .int .u32 s.g, .int .u32 s.h] 64)).alloc (.cells #[.int .u32 0, .int .u32 0, .int .u32 0, .int .u32 0, .int .u32 0, .int .u32 0, .int .u32 0, .int .u32 0] 64)
  have hH := Lib.hid hs
  have hB8 := Lib.hid hb
  have hL := Lib.hid hl
  clear hs hb hl hx
  go_enter Tryd.func34, Tryd.ntmps34
  go_upto_region 1 with fail
  generalize ((w.alloc (.cells #[.int .u32 s.a, .int .u32 s.b, .int .u32 s.c, .int .u32 s.d, .int .u32 s.e, .int .u32 s.f, .int .u32 s.g, .int .u32 s.h] 64)).alloc (.cells #[.int .u32 0, .int .u32 0, .int .u32 0, .int .u32 0, .int .u32 0, .int .u32 0, .int .u32 0, .int .u32 0] 64)) = w0 at hE hR hO hx0 ⊢
  have own0 : Mine .u32 63 w0.heap.size (w0.alloc (.cells #[] 63)) (some ⟨w0.heap.size, 0, none⟩) 0 0 [] := Mine.lit w0 [] #[] 0 rfl rfl (Nat.le_refl _) (by unfold maxLen; omega)
  have hC0 : Below w0.heap.size w0 (w0.alloc (.cells #[] 63)) := (Below.refl _ _).alloc (Nat.le_refl _) _
  go_wp2
  go_loopw [5, 6] (fun v5 v6 wr => ∃ (k : Nat) (q : Option Addr) (n' cap : Nat), k ≤ 16 ∧ v6 = .int .i64 k ∧ v5 = .slice q n' cap ∧ Hid (n' = k) ∧ Mine .u32 63 w0.heap.size wr q n' cap (wordsTo xs k) ∧ Below w0.heap.size w0 wr) (fun _ v6 _ => 16 - (intOf v6).toNat)
  case atStart => exact ⟨0, _, 0, 0, by omega, rfl, rfl, Lib.hid rfl, own0, hC0⟩
  case round =>
    clear own0 hC0
    obtain ⟨k, q, n', cap, hk, rfl, rfl, hn', m, hC⟩ := hrel
    by_cases hlt : k < 16
    · rcases id hx0 with h | ⟨bb, off, rfl, hbl0, hcs⟩
      · exact absurd hL.out (by rw [h]; decide)
      have l64 := hL.out
      have c0 := hcs (4 * k) (by omega)
      have c1 := hcs (4 * k + 1) (by omega)
      have c2 := hcs (4 * k + 2) (by omega)
      have c3 := hcs (4 * k + 3) (by omega)
      have hw : Hid (wordAt xs (4 * k) = 16777216 * xs.getD (4 * k) 0 + 65536 * xs.getD (4 * k + 1) 0 + 256 * xs.getD (4 * k + 2) 0 + xs.getD (4 * k + 3) 0) := rfl
      obtain ⟨a0, b0⟩ := hB8.out.at_ (4 * k)
      obtain ⟨a1, b1⟩ := hB8.out.at_ (4 * k + 1)
      obtain ⟨a2, b2⟩ := hB8.out.at_ (4 * k + 2)
      obtain ⟨a3, b3⟩ := hB8.out.at_ (4 * k + 3)
      generalize xs.getD (4 * k) 0 = x0 at *
      generalize xs.getD (4 * k + 1) 0 = x1 at *
      generalize xs.getD (4 * k + 2) 0 = x2 at *
      generalize xs.getD (4 * k + 3) 0 = x3 at *
      clear hcs
      have hl4 := Lib.hid (show (n' + 1) * (4 + 1) ≤ 1000000000000 by have := hn'.out; omega)
      have m' := Lib.hid (m.drew.alloc (.cells #[.int .u32 (16777216 * x0 + 65536 * x1 + 256 * x2 + x3)] 63))
      have at1 := Lib.hid (Mine.lit (k := .u32) (e := 63) (B := w0.heap.size) wr.drew [16777216 * x0 + 65536 * x1 + 256 * x2 + x3] #[.int .u32 (16777216 * x0 + 65536 * x1 + 256 * x2 + x3)] 1 rfl rfl hC.size (by unfold maxLen; omega)).at_
      have hC' := Lib.hid (hC.drew.alloc hC.size (.cells #[.int .u32 (16777216 * x0 + 65536 * x1 + 256 * x2 + x3)] 63))
      have z0 : (4 * (k : Int)).toNat = 4 * k := by omega
      have z1 : (4 * (k : Int) + 1).toNat = 4 * k + 1 := by omega
      have z2 : (4 * (k : Int) + 2).toNat = 4 * k + 2 := by omega
      have z3 : (4 * (k : Int) + 3).toNat = 4 * k + 3 := by omega
      have nn0 : (0 : Int) ≤ 4 * (k : Int) := by omega
      have nn1 : (0 : Int) ≤ 4 * (k : Int) + 1 := by omega
      have nn2 : (0 : Int) ≤ 4 * (k : Int) + 2 := by omega
      have nn3 : (0 : Int) ≤ 4 * (k : Int) + 3 := by omega
      have t0 : 4 * (k : Int) < 64 := by omega
      have t1 : 4 * (k : Int) + 1 < 64 := by omega
      have t2 : 4 * (k : Int) + 2 < 64 := by omega
      have t3 : 4 * (k : Int) + 3 < 64 := by omega
      have j1 : (k : Int) < 16 := by omega
      have y0 : IntKind.i64.wrap (4 * (k : Int)) = 4 * (k : Int) := IntWalk.i64_in _ (by omega)
      have y1 : IntKind.i64.wrap (4 * (k : Int) + 1) = 4 * (k : Int) + 1 := IntWalk.i64_in _ (by omega)
      have y2 : IntKind.i64.wrap (4 * (k : Int) + 2) = 4 * (k : Int) + 2 := IntWalk.i64_in _ (by omega)
      have y3 : IntKind.i64.wrap (4 * (k : Int) + 3) = 4 * (k : Int) + 3 := IntWalk.i64_in _ (by omega)
      have u0 : IntKind.u32.wrap x0 = x0 := by rw [IntKind.wrap_u32']; omega
      have u1 : IntKind.u32.wrap x1 = x1 := by rw [IntKind.wrap_u32']; omega
      have u2 : IntKind.u32.wrap x2 = x2 := by rw [IntKind.wrap_u32']; omega
      have u3 : IntKind.u32.wrap x3 = x3 := by rw [IntKind.wrap_u32']; omega
      have v0 : IntKind.u32.wrap (16777216 * x0) = 16777216 * x0 := by rw [IntKind.wrap_u32']; omega
      have v1 : IntKind.u32.wrap (65536 * x1) = 65536 * x1 := by rw [IntKind.wrap_u32']; omega
      have v2 : IntKind.u32.wrap (256 * x2) = 256 * x2 := by rw [IntKind.wrap_u32']; omega
      have s1 : IntKind.u32.wrap (16777216 * x0 + 65536 * x1) = 16777216 * x0 + 65536 * x1 := by rw [IntKind.wrap_u32']; omega
      have s2 : IntKind.u32.wrap (16777216 * x0 + 65536 * x1 + 256 * x2) = 16777216 * x0 + 65536 * x1 + 256 * x2 := by rw [IntKind.wrap_u32']; omega
      have s3 : IntKind.u32.wrap (16777216 * x0 + 65536 * x1 + 256 * x2 + x3) = 16777216 * x0 + 65536 * x1 + 256 * x2 + x3 := by rw [IntKind.wrap_u32']; omega
      clear l64
      have hbb : bb < w0.heap.size := hbl0
      have r0 : ∀ W' : World, Below w0.heap.size w0 W' → W'.cell? ⟨bb, off + 4 * k, none⟩ = some (.int .u8 x0) := fun W' h => (h.cell (p := ⟨bb, off + 4 * k, none⟩) hbb).trans c0
      have r1 : ∀ W' : World, Below w0.heap.size w0 W' → W'.cell? ⟨bb, off + (4 * k + 1), none⟩ = some (.int .u8 x1) := fun W' h => (h.cell (p := ⟨bb, off + (4 * k + 1), none⟩) hbb).trans c1
      have r2 : ∀ W' : World, Below w0.heap.size w0 W' → W'.cell? ⟨bb, off + (4 * k + 2), none⟩ = some (.int .u8 x2) := fun W' h => (h.cell (p := ⟨bb, off + (4 * k + 2), none⟩) hbb).trans c2
      have r3 : ∀ W' : World, Below w0.heap.size w0 W' → W'.cell? ⟨bb, off + (4 * k + 3), none⟩ = some (.int .u8 x3) := fun W' h => (h.cell (p := ⟨bb, off + (4 * k + 3), none⟩) hbb).trans c3
      clear c0 c1 c2 c3
      go_upto_region 5 with fail
      go_region_held3 (fun W' => Below w0.heap.size w0 W') (first | exact hC | exact hC.drew | exact hC'.out | exact hC3) (first
        | (rw [if_pos (by rfl)]; refine oper_mine (k := .u32) (m := 1) _ _ 74 rfl i0 (.int .u32 0) 4 Tryd.underlying74 hi0 hz0 hz1 hz2 rfl m'.out rfl at1.out rfl rfl hl4.out hC'.out.size hC'.out ?_; intro q3 n3 cc3 w3 m3 hC3 e3 g3))
      clear r0 r1 r2 r3 y0 y1 y2 y3 u0 u1 u2 u3 v0 v1 v2 s1 s2 s3 z0 z1 z2 z3 nn0 nn1 nn2 nn3 t0 t1 t2 t3
      go_wp2
      go_roundw
      case rel =>
        refine ⟨k + 1, q3, n3, cc3, by omega, by go_num, rfl, ?_, ?_, hC3⟩
        · have := e3.out; have := hn'.out; show _ = _; omega
        · rw [← wordsTo_succ, hw.out]; exact m3
      case measure => simp [intOf]; omega
    · obtain rfl : k = 16 := by omega
      rw [show ((16 : Nat) : Int) = 16 from rfl]
      obtain ⟨wa, rfl⟩ : ∃ wa, wa = wr := ⟨wr, rfl⟩
      have m16 := m
      rw [wordsTo_all] at m16
      have hWs : ∀ x ∈ words16 xs 0, U32 x := words16_u32 hB8.out
      have hWl : (words16 xs 0).length = 16 := by simp [words16]
      obtain ⟨M, hM⟩ : ∃ M, Hid (words16 xs 0 = M) := ⟨_, rfl⟩
      rw [hM.out] at m16 hWs hWl
      have hWs' := Lib.hid hWs
      have hWl' := Lib.hid hWl
      clear m hWs hWl
      go_wp2
      go_loopw [5, 7] (fun v5 v7 wr => ∃ (i : Nat) (q : Option Addr) (n' cap : Nat), 16 ≤ i ∧ i ≤ 64 ∧ v7 = .int .i64 i ∧ v5 = .slice q n' cap ∧ Hid (n' = i) ∧ Mine .u32 63 w0.heap.size wr q n' cap (sched M (i - 16)) ∧ Below w0.heap.size w0 wr) (fun _ v7 _ => 64 - (intOf v7).toNat)
      case atStart => exact ⟨16, q, n', cap, by omega, by omega, rfl, rfl, hn', m16, hC⟩
      case round =>
        clear m16 hC hn'
        obtain ⟨i, q, n', cap, hi1, hi2, rfl, rfl, hn', m, hC⟩ := hrel
        by_cases hlt : i < 64
        · have hsl := sched_length M (i - 16)
          rw [hWl'.out] at hsl
          have hsu := sched_u32 hWs'.out (i - 16)
          rcases m.at_ with h | ⟨gb, off, rfl, hgl, hcs⟩
          · rw [h] at hsl; exact absurd hsl (by simp; omega)
          have hwn : Hid (nextW (sched M (i - 16)) = (lowB ((sched M (i - 16)).getD (i - 2) 0) + (sched M (i - 16)).getD (i - 7) 0 + lowA ((sched M (i - 16)).getD (i - 15) 0) + (sched M (i - 16)).getD (i - 16) 0) % 4294967296) := by
            show _ = _
            unfold nextW
            rw [hsl, show 16 + (i - 16) = i by omega]
          have hsx : Hid (sched M (i - 16) ++ [nextW (sched M (i - 16))] = sched M (i + 1 - 16)) := by show _ = _; rw [show i + 1 - 16 = (i - 16) + 1 by omega]; rfl
          have c15 := hcs (i - 15) (by omega)
          have c2 := hcs (i - 2) (by omega)
          have c7 := hcs (i - 7) (by omega)
          have c16 := hcs (i - 16) (by omega)
          have g := fun j => getD_u32 hsu j
          have g15 := g (i - 15)
          have g2 := g (i - 2)
          obtain ⟨g7a, g7b⟩ := g (i - 7)
          obtain ⟨g16a, g16b⟩ := g (i - 16)
          rw [hwn.out] at hsx
          clear hwn g hcs hsu hsl
          generalize hL0 : sched M (i - 16) = L0 at *
          generalize L0.getD (i - 15) 0 = p15 at *
          generalize L0.getD (i - 2) 0 = p2 at *
          generalize L0.getD (i - 7) 0 = p7 at *
          generalize L0.getD (i - 16) 0 = p16 at *
          clear hL0
          have d1 : Hid (∀ W1 : World, Calls Tryd.prog 39 #[.int .u32 p15, .int .i64 7] W1 fun e w' => e = .returned (.int .u32 (rot 7 p15)) ∧ W1 = w') := fun W1 => ref8Right 7 (by decide) p15 g15 W1
          have d2 : Hid (∀ W1 : World, Calls Tryd.prog 39 #[.int .u32 p15, .int .i64 18] W1 fun e w' => e = .returned (.int .u32 (rot 18 p15)) ∧ W1 = w') := fun W1 => ref8Right 18 (by decide) p15 g15 W1
          have d3 : Hid (∀ W1 : World, Calls Tryd.prog 40 #[.int .u32 p15, .int .i64 3] W1 fun e w' => e = .returned (.int .u32 (p15 / 2 ^ 3)) ∧ W1 = w') := fun W1 => ref8Down 3 (by decide) p15 g15 W1
          have d4 : Hid (∀ W1 : World, Calls Tryd.prog 39 #[.int .u32 p2, .int .i64 17] W1 fun e w' => e = .returned (.int .u32 (rot 17 p2)) ∧ W1 = w') := fun W1 => ref8Right 17 (by decide) p2 g2 W1
          have d5 : Hid (∀ W1 : World, Calls Tryd.prog 39 #[.int .u32 p2, .int .i64 19] W1 fun e w' => e = .returned (.int .u32 (rot 19 p2)) ∧ W1 = w') := fun W1 => ref8Right 19 (by decide) p2 g2 W1
          have d6 : Hid (∀ W1 : World, Calls Tryd.prog 40 #[.int .u32 p2, .int .i64 10] W1 fun e w' => e = .returned (.int .u32 (p2 / 2 ^ 10)) ∧ W1 = w') := fun W1 => ref8Down 10 (by decide) p2 g2 W1
          have hA : Hid (lowA p15 = bits .xor .u32 (bits .xor .u32 (rot 7 p15) (rot 18 p15)) (p15 / 2 ^ 3)) := rfl
          have hBv : Hid (lowB p2 = bits .xor .u32 (bits .xor .u32 (rot 17 p2) (rot 19 p2)) (p2 / 2 ^ 10)) := rfl
          rw [hA.out, hBv.out] at hsx
          clear hA hBv
          generalize rot 7 p15 = a1 at *
          generalize rot 18 p15 = a2 at *
          generalize p15 / 2 ^ 3 = a3 at *
          generalize rot 17 p2 = a4 at *
          generalize rot 19 p2 = a5 at *
          generalize p2 / 2 ^ 10 = a6 at *
          have hnn := hn'.out
          have j1 : (i : Int) < 64 := by omega
          have z15 : ((i : Int) - 15).toNat = i - 15 := by omega
          have z2 : ((i : Int) - 2).toNat = i - 2 := by omega
          have z7 : ((i : Int) - 7).toNat = i - 7 := by omega
          have z16 : ((i : Int) - 16).toNat = i - 16 := by omega
          have n15 : (0 : Int) ≤ (i : Int) - 15 := by omega
          have n2 : (0 : Int) ≤ (i : Int) - 2 := by omega
          have n7 : (0 : Int) ≤ (i : Int) - 7 := by omega
          have n16 : (0 : Int) ≤ (i : Int) - 16 := by omega
          have o15 : (15 : Int) ≤ (i : Int) := by omega
          have o2 : (2 : Int) ≤ (i : Int) := by omega
          have o7 : (7 : Int) ≤ (i : Int) := by omega
          have o16 : (16 : Int) ≤ (i : Int) := by omega
          have m15 : 15 ≤ i := by omega
          have m2 : 2 ≤ i := by omega
          have m7 : 7 ≤ i := by omega
          have m16 : 16 ≤ i := by omega
          have t15 : (i : Int) - 15 < (n' : Int) := by omega
          have t2 : (i : Int) - 2 < (n' : Int) := by omega
          have t7 : (i : Int) - 7 < (n' : Int) := by omega
          have t16 : (i : Int) - 16 < (n' : Int) := by omega
          have y15 : IntKind.i64.wrap ((i : Int) - 15) = (i : Int) - 15 := IntWalk.i64_in _ (by omega)
          have y2 : IntKind.i64.wrap ((i : Int) - 2) = (i : Int) - 2 := IntWalk.i64_in _ (by omega)
          have y7 : IntKind.i64.wrap ((i : Int) - 7) = (i : Int) - 7 := IntWalk.i64_in _ (by omega)
          have y16 : IntKind.i64.wrap ((i : Int) - 16) = (i : Int) - 16 := IntWalk.i64_in _ (by omega)
          have hl4 := Lib.hid (show (n' + 1) * (4 + 1) ≤ 1000000000000 by omega)
          clear hnn
          go_upto_region 9 with fail
          go_region_held3 (fun W' => W'.cell? ⟨gb, off + (i - 15), none⟩ = some (.int .u32 p15) ∧ W'.cell? ⟨gb, off + (i - 2), none⟩ = some (.int .u32 p2)) (exact ⟨c15, c2⟩) (fail)
          clear y15 y2 z15 z2 n15 n2 t15 t2 c15 c2
          go_upto_region 12 with (first
            | (go_at_call 39; first
                | (with_reducible refine (d1.out _).mono ?_; rintro e' w' ⟨rfl, rfl⟩)
                | (with_reducible refine (d2.out _).mono ?_; rintro e' w' ⟨rfl, rfl⟩)
                | (with_reducible refine (d4.out _).mono ?_; rintro e' w' ⟨rfl, rfl⟩)
                | (with_reducible refine (d5.out _).mono ?_; rintro e' w' ⟨rfl, rfl⟩))
            | (go_at_call 40; first
                | (with_reducible refine (d3.out _).mono ?_; rintro e' w' ⟨rfl, rfl⟩)
                | (with_reducible refine (d6.out _).mono ?_; rintro e' w' ⟨rfl, rfl⟩)))
          generalize hwd : wr.drew = wd
          have md : Mine .u32 63 w0.heap.size wd (some ⟨gb, off, none⟩) n' cap L0 := hwd ▸ m.drew
          have hCd : Below w0.heap.size w0 wd := hwd ▸ hC.drew
          have c7d : wd.cell? ⟨gb, off + (i - 7), none⟩ = some (.int .u32 p7) := hwd ▸ c7
          have c16d : wd.cell? ⟨gb, off + (i - 16), none⟩ = some (.int .u32 p16) := hwd ▸ c16
          have m' := Lib.hid (md.alloc (.cells #[.int .u32 (IntKind.u32.wrap (IntKind.u32.wrap (IntKind.u32.wrap (bits .xor .u32 (bits .xor .u32 a4 a5) a6 + p7) + bits .xor .u32 (bits .xor .u32 a1 a2) a3) + p16))] 63)).drew
          have at1 := Lib.hid (Mine.lit (k := .u32) (e := 63) (B := w0.heap.size) wd [(IntKind.u32.wrap (IntKind.u32.wrap (IntKind.u32.wrap (bits .xor .u32 (bits .xor .u32 a4 a5) a6 + p7) + bits .xor .u32 (bits .xor .u32 a1 a2) a3) + p16))] #[.int .u32 (IntKind.u32.wrap (IntKind.u32.wrap (IntKind.u32.wrap (bits .xor .u32 (bits .xor .u32 a4 a5) a6 + p7) + bits .xor .u32 (bits .xor .u32 a1 a2) a3) + p16))] 1 rfl rfl hCd.size (by unfold maxLen; omega)).at_.drew
          have hC' := Lib.hid (hCd.alloc hCd.size (.cells #[.int .u32 (IntKind.u32.wrap (IntKind.u32.wrap (IntKind.u32.wrap (bits .xor .u32 (bits .xor .u32 a4 a5) a6 + p7) + bits .xor .u32 (bits .xor .u32 a1 a2) a3) + p16))] 63)).drew
          clear hwd md hCd c7 c16 m hC
          go_region_law (first
            | (rw [if_pos (by rfl)]; refine oper_mine (k := .u32) (m := 1) _ _ 74 rfl i0 (.int .u32 0) 4 Tryd.underlying74 hi0 hz0 hz1 hz2 rfl m'.out rfl at1.out rfl rfl hl4.out hC'.out.size hC'.out ?_; intro q3 n3 cc3 w3 m3 hC3 e3 g3))
          clear y7 y16 z7 z16 n7 n16 t7 t16 c7d c16d o15 o2 o7 o16
          all_goals
            go_wp2
            go_roundw
            case rel =>
              refine ⟨i + 1, q3, n3, cc3, by omega, by omega, by go_num, rfl, ?_, ?_, hC3⟩
              · have := e3.out; have := hn'.out; show _ = _; omega
              · rw [← hsx.out]
                have e4 : (IntKind.u32.wrap (IntKind.u32.wrap (IntKind.u32.wrap (bits .xor .u32 (bits .xor .u32 a4 a5) a6 + p7) + bits .xor .u32 (bits .xor .u32 a1 a2) a3) + p16)) = (bits .xor .u32 (bits .xor .u32 a4 a5) a6 + p7 + bits .xor .u32 (bits .xor .u32 a1 a2) a3 + p16) % 4294967296 := by
                  simp only [IntKind.wrap_u32']
                  omega
                rw [← e4]
                exact m3
            case measure => simp [intOf]; omega
        · obtain rfl : i = 64 := by omega
          rw [show ((64 : Nat) : Int) = 64 from rfl]
          obtain ⟨wb, rfl⟩ : ∃ wb, wb = wr := ⟨wr, rfl⟩
          have hWs48 := Lib.hid (sched_u32 hWs'.out 48)
          have hlen48 := Lib.hid (show (sched M 48).length = 64 by rw [sched_length, hWl'.out])
          have hgE : w.heap.size < w0.heap.size := hE.lt
          obtain ⟨sl, s0, s1, s2, s3, s4, s5, s6, s7, -, -, -, -, -, -, -, -⟩ := (id hE)
          go_wp2_with (go_at_call 41; refine (ref8Table _).mono ?_; intro e' w1 hr; obtain ⟨qt, nt, ct, rfl, mt, hbt⟩ := hr.mine)
          have hC1 := below_then hC hbt
          have m1 := m.call hbt
          have r0 : ∀ W' : World, Below w0.heap.size w0 W' → W'.cell? ⟨w.heap.size, 0, none⟩ = some (.int .u32 s.a) := fun W' h => (h.cell (p := ⟨w.heap.size, 0, none⟩) hgE).trans s0
          have r1 : ∀ W' : World, Below w0.heap.size w0 W' → W'.cell? ⟨w.heap.size, 1, none⟩ = some (.int .u32 s.b) := fun W' h => (h.cell (p := ⟨w.heap.size, 1, none⟩) hgE).trans s1
          have r2 : ∀ W' : World, Below w0.heap.size w0 W' → W'.cell? ⟨w.heap.size, 2, none⟩ = some (.int .u32 s.c) := fun W' h => (h.cell (p := ⟨w.heap.size, 2, none⟩) hgE).trans s2
          have r3 : ∀ W' : World, Below w0.heap.size w0 W' → W'.cell? ⟨w.heap.size, 3, none⟩ = some (.int .u32 s.d) := fun W' h => (h.cell (p := ⟨w.heap.size, 3, none⟩) hgE).trans s3
          have r4 : ∀ W' : World, Below w0.heap.size w0 W' → W'.cell? ⟨w.heap.size, 4, none⟩ = some (.int .u32 s.e) := fun W' h => (h.cell (p := ⟨w.heap.size, 4, none⟩) hgE).trans s4
          have r5 : ∀ W' : World, Below w0.heap.size w0 W' → W'.cell? ⟨w.heap.size, 5, none⟩ = some (.int .u32 s.f) := fun W' h => (h.cell (p := ⟨w.heap.size, 5, none⟩) hgE).trans s5
          have r6 : ∀ W' : World, Below w0.heap.size w0 W' → W'.cell? ⟨w.heap.size, 6, none⟩ = some (.int .u32 s.g) := fun W' h => (h.cell (p := ⟨w.heap.size, 6, none⟩) hgE).trans s6
          have r7 : ∀ W' : World, Below w0.heap.size w0 W' → W'.cell? ⟨w.heap.size, 7, none⟩ = some (.int .u32 s.h) := fun W' h => (h.cell (p := ⟨w.heap.size, 7, none⟩) hgE).trans s7
          clear s0 s1 s2 s3 s4 s5 s6 s7 m hC
          go_upto_region 14 with fail
          go_region_held3 (fun W' => Below w0.heap.size w0 W') (first | exact hC1 | exact hC1.drew) (fail)
          clear r0 r1 r2 r3 r4 r5 r6 r7
          have hD0 : Below w1.heap.size w1 w1.drew := (Below.refl _ _).drew
          go_wp2
          go_loopw [13, 14, 15, 16, 17, 18, 19, 20, 21] (fun v13 v14 v15 v16 v17 v18 v19 v20 v21 wr => ∃ (i : Nat) (t : S8), i ≤ 64 ∧ v21 = .int .i64 i ∧ v13 = .int .u32 t.a ∧ v14 = .int .u32 t.b ∧ v15 = .int .u32 t.c ∧ v16 = .int .u32 t.d ∧ v17 = .int .u32 t.e ∧ v18 = .int .u32 t.f ∧ v19 = .int .u32 t.g ∧ v20 = .int .u32 t.h ∧ Hid (t = rounds8 tableW (fun j => (sched M 48).getD j 0) s i) ∧ Below w1.heap.size w1 wr) (fun _ _ _ _ _ _ _ _ v21 _ => 64 - (intOf v21).toNat)
          case atStart => exact ⟨0, s, by omega, rfl, rfl, rfl, rfl, rfl, rfl, rfl, rfl, rfl, Lib.hid rfl, hD0⟩
          case round =>
            clear hD0
            obtain ⟨i, t, hi, rfl, rfl, rfl, rfl, rfl, rfl, rfl, rfl, rfl, ht, hD⟩ := hrel
            by_cases hlt : i < 64
            · have htok : t.Ok := by rw [ht.out]; exact rounds8_ok hH.out _ _ _
              have hnt := mt.len
              have hnw := m1.len
              rw [hlen48.out] at hnw
              rw [show tableL.length = 64 from rfl] at hnt
              rcases mt.at_ with h | ⟨gt, ot, rfl, hgt, hck⟩
              · exact absurd h (by decide)
              rcases m1.at_ with h | ⟨gw, ow, rfl, hgw, hcw⟩
              · exact absurd hlen48.out (by rw [h]; decide)
              have ck : wr.cell? ⟨gt, ot + i, none⟩ = some (.int .u32 (tableL.getD i 0)) := (hD.cell (p := ⟨gt, ot + i, none⟩) hgt).trans (hck i hlt)
              have cw : wr.cell? ⟨gw, ow + i, none⟩ = some (.int .u32 ((sched M 48).getD i 0)) := (hD.cell (p := ⟨gw, ow + i, none⟩) hgw).trans (hcw i (by rw [hlen48.out]; exact hlt))
              have lk : gt < wr.heap.size := Nat.lt_of_lt_of_le hgt hD.size
              have lw : gw < wr.heap.size := Nat.lt_of_lt_of_le hgw hD.size
              have hnx : Hid (round1 t (tableL.getD i 0) ((sched M 48).getD i 0) = rounds8 tableW (fun j => (sched M 48).getD j 0) s (i + 1)) := by show _ = _; rw [ht.out]; rfl
              generalize tableL.getD i 0 = kv at *
              generalize (sched M 48).getD i 0 = wv at *
              have d6 : Hid (∀ W1 : World, Calls Tryd.prog 39 #[.int .u32 t.e, .int .i64 6] W1 fun e w' => e = .returned (.int .u32 (rot 6 t.e)) ∧ Below W1.heap.size W1 w') := fun W1 => (ref8Right 6 (by decide) t.e htok.e W1).mono fun e w' h => ⟨h.1, h.2 ▸ Below.refl _ _⟩
              have d11 : Hid (∀ W1 : World, Calls Tryd.prog 39 #[.int .u32 t.e, .int .i64 11] W1 fun e w' => e = .returned (.int .u32 (rot 11 t.e)) ∧ Below W1.heap.size W1 w') := fun W1 => (ref8Right 11 (by decide) t.e htok.e W1).mono fun e w' h => ⟨h.1, h.2 ▸ Below.refl _ _⟩
              have d25 : Hid (∀ W1 : World, Calls Tryd.prog 39 #[.int .u32 t.e, .int .i64 25] W1 fun e w' => e = .returned (.int .u32 (rot 25 t.e)) ∧ Below W1.heap.size W1 w') := fun W1 => (ref8Right 25 (by decide) t.e htok.e W1).mono fun e w' h => ⟨h.1, h.2 ▸ Below.refl _ _⟩
              have d2 : Hid (∀ W1 : World, Calls Tryd.prog 39 #[.int .u32 t.a, .int .i64 2] W1 fun e w' => e = .returned (.int .u32 (rot 2 t.a)) ∧ W1 = w') := fun W1 => ref8Right 2 (by decide) t.a htok.a W1
              have d13 : Hid (∀ W1 : World, Calls Tryd.prog 39 #[.int .u32 t.a, .int .i64 13] W1 fun e w' => e = .returned (.int .u32 (rot 13 t.a)) ∧ W1 = w') := fun W1 => ref8Right 13 (by decide) t.a htok.a W1
              have d22 : Hid (∀ W1 : World, Calls Tryd.prog 39 #[.int .u32 t.a, .int .i64 22] W1 fun e w' => e = .returned (.int .u32 (rot 22 t.a)) ∧ W1 = w') := fun W1 => ref8Right 22 (by decide) t.a htok.a W1
              have j1 : (i : Int) < 64 := by omega
              have jk : (i : Int) < (nt : Int) := by omega
              have jw : (i : Int) < (n' : Int) := by omega
              have htE := Lib.hid htok.e
              clear ht hck hcw hnt hnw htok
              go_upto_region 18 with fail
              refine wp_region_quiet_below (by kernel_rfl) (by kernel_rfl) ?_
              repeat (go_big_quiet_step (first | (go_at_call 39; first | with_reducible exact Calls.regrown_of (d6.out _) | with_reducible exact Calls.regrown_of (d11.out _) | with_reducible exact Calls.regrown_of (d25.out _))))
              refine wpQuiet_nil ?_
              intro wq hwq
              have hbq := below_of_re hwq
              clear hwq
              replace hD := below_then hD hbq
              clear hbq ck cw lk lw
              go_wp2_with (go_at_call 39; first
                | (with_reducible refine (d2.out _).mono ?_; rintro e' w' ⟨rfl, rfl⟩)
                | (with_reducible refine (d13.out _).mono ?_; rintro e' w' ⟨rfl, rfl⟩)
                | (with_reducible refine (d22.out _).mono ?_; rintro e' w' ⟨rfl, rfl⟩))
              go_roundw
              case rel =>
                refine ⟨i + 1, round1 t kv wv, by omega, by go_num, ?_, rfl, rfl, rfl, ?_, rfl, rfl, rfl, hnx, hD⟩
                · rw [not32 htE.out]; rfl
                · rw [not32 htE.out]; rfl
              case measure => simp [intOf]; omega
            · obtain rfl : i = 64 := by omega
              rw [show ((64 : Nat) : Int) = 64 from rfl]
              have hCx := below_then hC1 hD
              have hE2 := hE.below hCx hgE
              have hR2 := hR.below hCx hR.lt
              have hO2 := below_then hO (hCx.mono (Nat.le_refl _))
              have gO : w.heap.size ≤ w.heap.size + 1 := by omega
              obtain ⟨sl, s0, s1, s2, s3, s4, s5, s6, s7, -, -, -, -, -, -, -, -⟩ := hE2
              obtain ⟨rl, r0, r1, r2, r3, r4, r5, r6, r7, r8, r9, r10, r11, r12, r13, r14, r15⟩ := hR2
              clear hE hR hD hC1 hCx hO
              go_wp2
              refine bodyPost_ret (by simp [results, Tryd.results34, go_sem, r0, r1, r2, r3, r4, r5, r6, r7]; try rfl) rfl ?_
              exact ⟨by rw [hM.out]; unfold block8; rw [← ht.out]; rfl, below_putE hO2 gO (add8 s t)⟩

end Go.Proofs.YtmhehnimgkmmaaaDoor
