/- Code and tag hang on no pieces, and a key with noughts behind it, up to 64 bytes, is the same key. -/
import Derived.Test.YtdbmkelcgfmclaaDoorRows
import Derived.Test.YtdbmkelcgfmclaaDoorCards
import Derived.Test.YtdbmkelcgfmclaaDoorTie
import Derived.Test.YtdbmkelcgfmclaaDoorMacZ
import Derived.Test.YtdbmkelcgfmclaaDoorBaseN
import Derived.Test.YtdbmkelcgfmclaaDoorMacA
import Derived.Test.YtdbmkelcgfmclaaDoorLawM
import Derived.Test.YtdbmkelcgfmclaaDoorMacV
import Derived.WalkKit
import Derived.ProofKit
import Derived.OpenShut
import Derived.SevenTiedAt
import Derived.LaidMore
import Derived.Stop.Joined
import Derived.Deep.RegionHeld3
namespace Go.Proofs.YtdbmkelcgfmclaaDoor.macPieces
set_option maxRecDepth 100000
open Go.ChangeShapes Go.WideShapes Go.ChangeAt Go.RowKit
set_option linter.unusedVariables false

set_option linter.unusedSimpArgs false
attribute [local go_sem] cell_re
theorem yields_slice {P : Program} {ops : Array Oper} {S : World → Prop} {o : Oper} {a : Act} (hw : Region.wanted o (yielded ops a.tmps) = true) (T : TypeId) (x : Operand) (lo hi : Option Operand) (ho : o.op = .slice T x lo hi none) (X : Value) (hx : a.eval x = X) (L H : Option Value) (hL : lo.map a.eval = L) (hH : hi.map a.eval = H) (v : Value)
    (hr : ∀ W, (Instr.sliceAt T X L H none).run P W = .ok v W) : YieldsIf P ops S o v a :=
  .inl ⟨hw, fun W _ => by
    unfold execOp
    simp only [ho, hx, hL, hH, Option.map_none, Sem.run_bind, hr, Result.andThen_ok, Sem.run_pure]⟩
theorem head_slice {P : Program} {T E : TypeId} (hu : P.underlying T = some (.slice E)) (hE : (P.info? E).map (·.size) = some 1) {p : Option Addr} {w : World} {ys : List Int} (hA : At .u8 w p ys) {n c a : Nat} (ha : a ≤ c) (hn : ys ≠ [] ∨ p = none ∨ True) :
    ∃ q, (∀ W, (Instr.sliceAt T (.slice p n c) none (some (.int .i64 a)) none).run P W = .ok (.slice q a c) W) ∧ At .u8 w q (ys.take a) := by
  obtain ⟨x, hx, hs⟩ : ∃ x, P.info? E = some x ∧ x.size = 1 := by
    cases h : P.info? E with
    | none => rw [h] at hE; cases hE
    | some x => rw [h] at hE; exact ⟨x, rfl, by simpa using hE⟩
  have h2 : (0 : Int) ≤ (a : Int) ∧ (a : Int) ≤ (c : Int) := ⟨by omega, by omega⟩
  refine ⟨if c = 0 then p else p.map (·.add (0 * x.size)), fun W => ?_, ?_⟩
  · simp [Instr.sliceAt, Instr.slice, Instr.sliceBounds, Instr.sliceBound, run_underlying hu, asIntOf, sizeOf, typeInfo, hx, h2]
    intro h
    exact absurd h (by omega)
  · split
    · exact hA.take a
    · rcases hA with rfl | ⟨b, off, rfl, hbl, hc⟩
      · exact Or.inl List.take_nil
      · have e : (⟨b, off, none⟩ : Addr).add (0 * x.size) = ⟨b, off, none⟩ := by rw [Nat.zero_mul, Addr.add_mid]; rfl
        rw [Option.map_some, e]
        exact At.take (Or.inr ⟨b, off, rfl, hbl, hc⟩) a
theorem tail_slice {P : Program} {T E : TypeId} (hu : P.underlying T = some (.slice E)) (hE : (P.info? E).map (·.size) = some 1) {p : Option Addr} {w : World} {ys : List Int} (hA : At .u8 w p ys) {n c a : Nat} (hn : n = ys.length) (hc : n ≤ c) (ha : a ≤ n) :
    ∃ q, (∀ W, (Instr.sliceAt T (.slice p n c) (some (.int .i64 a)) none none).run P W = .ok (.slice q (n - a) (c - a)) W) ∧ At .u8 w q (ys.drop a) := by
  obtain ⟨x, hx, hs⟩ : ∃ x, P.info? E = some x ∧ x.size = 1 := by
    cases h : P.info? E with
    | none => rw [h] at hE; cases hE
    | some x => rw [h] at hE; exact ⟨x, rfl, by simpa using hE⟩
  have h2 : (0 : Int) ≤ (a : Int) ∧ (a : Int) ≤ (n : Int) := ⟨by omega, by omega⟩
  refine ⟨if c = a then p else p.map (·.add (a * x.size)), fun W => ?_, ?_⟩
  · simp [Instr.sliceAt, Instr.slice, Instr.sliceBounds, Instr.sliceBound, run_underlying hu, asIntOf, sizeOf, typeInfo, hx, h2]
    intro h
    exact absurd h (by omega)
  · split
    · exact Or.inl (List.drop_eq_nil_of_le (by omega))
    · rcases hA with rfl | ⟨b, off, rfl, hbl, hcs⟩
      · exact Or.inl List.drop_nil
      · have e : (⟨b, off, none⟩ : Addr).add (a * x.size) = ⟨b, off + a, none⟩ := by rw [hs, Nat.mul_one, Addr.add_mid]
        rw [Option.map_some, e]
        exact At.drop (Or.inr ⟨b, off, rfl, hbl, hcs⟩) a
theorem one_part {W : World} {p : Option Addr} {m cap : Nat} {xs : List Int} (h : At .u8 W p xs) (hm : m = xs.length) (hc : m ≤ cap) (hb : Byted xs) : Parts (W.alloc (.cells #[.slice p m cap] 22)) (some ⟨W.heap.size, 0, none⟩) [xs] :=
  Parts.lit [.slice p m cap] _ _ rfl [xs] (fun j hj => by obtain rfl : j = 0 := (by simpa using hj); exact ⟨_, rfl, h.part hm hc hb⟩)
theorem one_byted {xs : List Int} (hb : Byted xs) : ∀ x ∈ ([xs] : List (List Int)), Byted x := fun x hx => by obtain rfl := List.mem_singleton.mp hx; exact hb
theorem one_flat (xs : List Int) : ([xs] : List (List Int)).flatten = xs := by simp
theorem row_below (W : World) (p : Option Addr) (m cap : Nat) : Below W.heap.size W (W.alloc (.cells #[.slice p m cap] 22)) := (Below.refl _ _).alloc (Nat.le_refl _) _
set_option maxRecDepth 200000 in
set_option maxHeartbeats 8000000 in
theorem walk (v : Value) (xs0 : List Int) (k : List Int) (v2 : Value) (ys0 : List Int) (at_ : Int) (w : World) (hx : IntsAt .u8 w v xs0) (hkl : k.length = 32) (hkb : Byted k) (hy : IntsAt .u8 w v2 ys0) (hat : Half at_) (hS : Steps w) : Calls Tryd.prog 5 #[v, .agg (ints .u8 k).toArray, v2, .int .i64 at_] w fun e w' => e = .returned (.bool true) ∧ Below w.heap.size w w' := by
  obtain ⟨p, cap, rfl, hc0a, hc1a, hwfa, hata⟩ := hx
  unfold maxLen at hc1a
  have hxba := wf_byted hwfa
  have hx0a : At .u8 w p xs0 := hata
  obtain ⟨n0, hn0a⟩ : ∃ n, Hid (xs0.length = n) := ⟨_, rfl⟩
  obtain ⟨m, hma⟩ : ∃ m, Hid (min n0 64 = m) := ⟨_, rfl⟩
  have hm1a : m ≤ 64 := by rw [← hma.out]; omega
  obtain ⟨xs, hxs⟩ : ∃ xs, Hid (xs0.take 64 = xs) := ⟨_, rfl⟩
  have hla : Hid (xs.length = m) := by show _ = _; rw [← hxs.out, List.length_take, hn0a.out, ← hma.out]; omega
  have hBa : Hid (Byted xs) := by rw [← hxs.out]; exact hxba.take _
  have hAa : Hid (At .u8 w p xs) := by rw [← hxs.out]; exact hx0a.take _
  have hmca : m ≤ cap := by have := hn0a.out; have := hma.out; omega
  have j0a : (m : Int) ≤ (cap : Int) := by omega
  have jca : (cap : Int) ≤ 9223372036854775807 := by omega
  have hnca : Hid (n0 ≤ cap) := by have := hn0a.out; show _ ≤ _; omega
  rw [hn0a.out]
  clear hwfa hata hxba hx0a hc0a hc1a
  obtain ⟨p2, cap2, rfl, hc0b, hc1b, hwfb, hatb⟩ := hy
  unfold maxLen at hc1b
  have hxbb := wf_byted hwfb
  have hx0b : At .u8 w p2 ys0 := hatb
  obtain ⟨n2, hn0b⟩ : ∃ n, Hid (ys0.length = n) := ⟨_, rfl⟩
  obtain ⟨m2, hmb⟩ : ∃ m, Hid (min n2 300 = m) := ⟨_, rfl⟩
  have hm1b : m2 ≤ 300 := by rw [← hmb.out]; omega
  obtain ⟨ys, hys⟩ : ∃ xs, Hid (ys0.take 300 = xs) := ⟨_, rfl⟩
  have hlb : Hid (ys.length = m2) := by show _ = _; rw [← hys.out, List.length_take, hn0b.out, ← hmb.out]; omega
  have hBb : Hid (Byted ys) := by rw [← hys.out]; exact hxbb.take _
  have hAb : Hid (At .u8 w p2 ys) := by rw [← hys.out]; exact hx0b.take _
  have hmcb : m2 ≤ cap2 := by have := hn0b.out; have := hmb.out; omega
  have j0b : (m2 : Int) ≤ (cap2 : Int) := by omega
  have jcb : (cap2 : Int) ≤ 9223372036854775807 := by omega
  have hncb : Hid (n2 ≤ cap2) := by have := hn0b.out; show _ ≤ _; omega
  rw [hn0b.out]
  clear hwfb hatb hxbb hx0b hc0b hc1b
  have hT0 := Lib.hid hS
  obtain ⟨iE, hiE⟩ := Option.isSome_iff_exists.mp (show (Tryd.prog.info? 5).isSome = true by kernel_rfl)
  have hatH : Hid (-9223372036854775808 ≤ at_ ∧ at_ ≤ 9223372036854775807) := hat
  have hCl : (codeL xs ys).length = 32 := codeL_length xs ys
  have hDl : (tagL k ys).length = 16 := tagL_length k ys
  have hcn := Lib.hid (fun n h => codeL_noughts xs n h ys)
  obtain ⟨C, hC⟩ : ∃ C, Hid (codeL xs ys = C) := ⟨_, Lib.hid rfl⟩
  obtain ⟨D, hD⟩ : ∃ D, Hid (tagL k ys = D) := ⟨_, Lib.hid rfl⟩
  rw [hC.out] at hCl hcn
  rw [hD.out] at hDl
  have hqC := Lib.hid (fun W1 : World => equal_ints (P := Tryd.prog) (t := 31) (e := 5) (k := .u8) Tryd.underlying31 hiE (by kernel_rfl) (by kernel_rfl) Tryd.underlying5 C hCl W1)
  have hqD := Lib.hid (fun W1 : World => equal_ints (P := Tryd.prog) (t := 26) (e := 5) (k := .u8) Tryd.underlying26 hiE (by kernel_rfl) (by kernel_rfl) Tryd.underlying5 D hDl W1)
  obtain ⟨Ck, hCk⟩ : ∃ c, Hid (ints .u8 k = c) := ⟨_, Lib.hid rfl⟩
  obtain ⟨YC, hYC⟩ : ∃ Y, Hid ((ints .u8 C).toArray = Y) := ⟨_, rfl⟩
  obtain ⟨YD, hYD⟩ : ∃ Y, Hid ((ints .u8 D).toArray = Y) := ⟨_, rfl⟩
  have hKa : Hid ((ints .u8 k).toArray = Ck.toArray) := by show _ = _; rw [hCk.out]
  have hiK' : Hid ((Tryd.prog.info? 24).map (·.size) = some Ck.length) := by show _ = _; rw [← hCk.out, ints, List.length_map, hkl]; kernel_rfl
  rw [hKa.out]
  rw [hYC.out] at hqC
  rw [hYD.out] at hqD
  have hkl' := Lib.hid hkl
  have hkb' := Lib.hid hkb
  have hB0 : Below w.heap.size w w := Below.refl _ _
  obtain ⟨i0, hi0, hz0, hz1, hz2⟩ := info_parts infoByte
  clear hS hkl hkb hiE hat hCl hDl
  go_enter Tryd.func5, Tryd.ntmps5
  go_upto_region 3 with (first
    | (refine walk_boxed rfl 24 _ rfl .u8 k Ck.toArray hKa rfl ?_; intro w1 k1 b1 s1; clear s1)
    | (go_at_call 14; refine (works w1 (hT0.out.call b1)).mono ?_; rintro e' w2 ⟨rfl, b2⟩; have k2 := k1.call b2; have hB2 := below_then b1 b2))
  clear k1 b1 b2
  try simp only [Act.put, List.setIfInBounds_toArray, List.set_cons_zero, List.set_cons_succ]
  go_cut [0, 2] (fun s0 s2 wx => s0 = .slice p m cap ∧ s2 = .slice p2 m2 cap2 ∧ Arr .u8 wx w.heap.size k ∧ Below w.heap.size w wx)
  case first =>
    by_cases hlea : n0 ≤ 64
    · have hmma : Hid (n0 = m) := by have := hma.out; show _ = _; omega
      have k1a : (n0 : Int) ≤ 64 := by omega
      have k9a : ¬ (64 : Int) < (n0 : Int) := by omega
      have k2a : (n0 : Int) ≤ (cap : Int) := by have := hnca.out; omega
      have k3a : n0 ≤ cap := hnca.out
      have k6a : (0 : Int) ≤ (n0 : Int) := by omega
      by_cases hleb : n2 ≤ 300
      · have hmmb : Hid (n2 = m2) := by have := hmb.out; show _ = _; omega
        have k1b : (n2 : Int) ≤ 300 := by omega
        have k9b : ¬ (300 : Int) < (n2 : Int) := by omega
        have k2b : (n2 : Int) ≤ (cap2 : Int) := by have := hncb.out; omega
        have k3b : n2 ≤ cap2 := hncb.out
        have k6b : (0 : Int) ≤ (n2 : Int) := by omega
        go_quiet (fail)
        go_wp2
        go_meet
        exact ⟨by rw [hmma.out], by rw [hmmb.out], k2.call (below_drewN _ _), below_then hB2 (below_drewN _ _)⟩
      · have hmmb : Hid (300 = m2) := by have := hmb.out; show _ = _; omega
        have k1b : ¬ (n2 : Int) ≤ 300 := by omega
        have k4b : (300 : Int) < (n2 : Int) := by omega
        have k2b : (300 : Int) ≤ (cap2 : Int) := by have := hncb.out; omega
        have k3b : 300 ≤ cap2 := by have := hncb.out; omega
        go_quiet (fail)
        go_wp2
        go_meet
        exact ⟨by rw [hmma.out], by rw [hmmb.out], k2.call (below_drewN _ _), below_then hB2 (below_drewN _ _)⟩
    · have hmma : Hid (64 = m) := by have := hma.out; show _ = _; omega
      have k1a : ¬ (n0 : Int) ≤ 64 := by omega
      have k4a : (64 : Int) < (n0 : Int) := by omega
      have k2a : (64 : Int) ≤ (cap : Int) := by have := hnca.out; omega
      have k3a : 64 ≤ cap := by have := hnca.out; omega
      by_cases hleb : n2 ≤ 300
      · have hmmb : Hid (n2 = m2) := by have := hmb.out; show _ = _; omega
        have k1b : (n2 : Int) ≤ 300 := by omega
        have k9b : ¬ (300 : Int) < (n2 : Int) := by omega
        have k2b : (n2 : Int) ≤ (cap2 : Int) := by have := hncb.out; omega
        have k3b : n2 ≤ cap2 := hncb.out
        have k6b : (0 : Int) ≤ (n2 : Int) := by omega
        go_quiet (fail)
        go_wp2
        go_meet
        exact ⟨by rw [hmma.out], by rw [hmmb.out], k2.call (below_drewN _ _), below_then hB2 (below_drewN _ _)⟩
      · have hmmb : Hid (300 = m2) := by have := hmb.out; show _ = _; omega
        have k1b : ¬ (n2 : Int) ≤ 300 := by omega
        have k4b : (300 : Int) < (n2 : Int) := by omega
        have k2b : (300 : Int) ≤ (cap2 : Int) := by have := hncb.out; omega
        have k3b : 300 ≤ cap2 := by have := hncb.out; omega
        go_quiet (fail)
        go_wp2
        go_meet
        exact ⟨by rw [hmma.out], by rw [hmmb.out], k2.call (below_drewN _ _), below_then hB2 (below_drewN _ _)⟩
  case rest =>
    clear k2 hB2 hma hmb hn0a hn0b hxs hys hnca hncb hB0
    obtain ⟨rfl, rfl, k2, hB2⟩ := hcut
    obtain ⟨a, ha, dN⟩ := baseAmongN at_ hatH.out (m2 + 1) (by omega) (by omega) wc
    rw [show (((m2 + 1 : Nat)) : Int) = (m2 : Int) + 1 from by omega] at dN
    have dN := Lib.hid dN
    have jm : (m : Int) ≤ 64 := by omega
    have jm2 : (m2 : Int) ≤ 300 := by omega
    have ha' : a ≤ m2 := by omega
    have dX := Lib.hid (fun (W : World) (h : Below w.heap.size w W) => baseBytes xs (by rw [hla.out]; omega) m hla.out.symm p cap W (hAa.out.call h))
    have hleN : Hid (∀ n4 a2 : Nat, n4 = xs.length → a2 < 65 - m → (n4 + a2) * (1 + 1) ≤ 1000000000000) := fun n4 a2 h1 h2 => by have h3 := hla.out; omega
    go_upto_region 6 with (first
      | (go_at_call 19; first
          | (with_reducible refine dN.out.mono ?_; rintro e' w3 ⟨rfl, b3⟩; have k3 := k2.call b3; have hB3 := below_then hB2 b3)
          | (with_reducible refine dM.out.mono ?_; rintro e' w5 ⟨rfl, b5⟩; have k5 := k4.call b5; have m5 := m4.call b5; have hB5 := below_then hB4 b5; have hle5 := Lib.hid (hleN.out n4 a2 m4.len ha2); have hs5 : w3.heap.size ≤ w5.heap.size := Nat.le_trans b4.size b5.size; have b45 : Below w3.heap.size w3 w5 := below_then b4 b5))
      | (go_at_call 10; refine (dX.out w3 hB3).mono ?_; intro e' w4 hr; obtain ⟨q4, n4, c4, rfl, m4, b4⟩ := hr.mine; have k4 := k3.call b4; have hB4 := below_then hB3 b4; obtain ⟨a2, ha2, dM⟩ := baseAmongN at_ hatH.out (65 - m) (by omega) (by omega) w4; rw [show (((65 - m : Nat)) : Int) = 65 - (m : Int) from by omega] at dM; replace dM := Lib.hid dM)
      | (at_builtin; refine walk_noughts (k := .u8) (kx := .i64) (kn := .i64) rfl _ _ 22 3 rfl i0 1 Tryd.underlying22 Tryd.underlying3 hi0 hz0 hz1 hz2 m5 rfl a2 rfl hle5.out hs5 b45 ?_; intro ql nl cl w6 m6 b36 e6 s6; have hB6 := below_then hB3 b36; have k6 := k3.call b36))
    have hal : m + a2 ≤ 64 := by omega
    have hll := hla.out
    have hcnx := hcn.out a2 (by rw [hll]; exact hal)
    have hxz : Byted (xs ++ List.replicate a2 0) := hBa.out.append (replicate_byted _)
    have hxl : (xs ++ List.replicate a2 0).length ≤ 1000000 := by rw [List.length_append, List.length_replicate, hll]; omega
    have m6' := Lib.hid m6
    have hrng : Hid (∀ W', Below w6.heap.size w6 W' → W'.rangeAt w.heap.size 0 Ck) := fun W' h => by rw [← hCk.out]; exact (k6.call h).range
    obtain ⟨ph, hh, hAh⟩ := head_slice (P := Tryd.prog) (T := 22) (E := 5) Tryd.underlying22 (by kernel_rfl) hAb.out (n := m2) (c := cap2) (a := a) (by omega) (Or.inr (Or.inr trivial))
    obtain ⟨pt, ht, hAt⟩ := tail_slice (P := Tryd.prog) (T := 22) (E := 5) Tryd.underlying22 (by kernel_rfl) hAb.out (n := m2) (c := cap2) (a := a) hlb.out.symm (by omega) ha'
    replace hh := Lib.hid hh
    replace ht := Lib.hid ht
    have hw6 := Lib.hid (fun (W : World) (h : Below w6.heap.size w6 W) => below_then hB6 h)
    have hS6 := Lib.hid (fun (W : World) (h : Below w6.heap.size w6 W) => hT0.out.call (below_then hB6 h))
    have hyl := hlb.out
    have hth : (ys.take a).length = a := by rw [List.length_take, hyl]; omega
    have htl : (ys.drop a).length = m2 - a := by rw [List.length_drop, hyl]
    have hbh : Byted (ys.take a) := hBb.out.take a
    have hbt : Byted (ys.drop a) := hBb.out.drop a
    have hpa : a ≤ cap2 := by omega
    have hpt : m2 - a ≤ cap2 - a := by omega
    have fP1 := Lib.hid (fun (W : World) (z : Below w6.heap.size w6 W) => one_part (W := W) (hAb.out.call (hw6.out W z)) hyl.symm hmcb hBb.out)
    have fP2 := Lib.hid (fun (W : World) (z : Below w6.heap.size w6 W) => Parts.lit (w := W) [.slice ph a cap2, .slice pt (m2 - a) (cap2 - a)] #[.slice ph a cap2, .slice pt (m2 - a) (cap2 - a)] 22 rfl [ys.take a, ys.drop a] (fun j hj => by
      have : j = 0 ∨ j = 1 := by simp at hj; omega
      rcases this with rfl | rfl
      · exact ⟨_, rfl, (hAh.call (hw6.out W z)).part hth.symm hpa hbh⟩
      · exact ⟨_, rfl, (hAt.call (hw6.out W z)).part htl.symm hpt hbt⟩))
    have fP3 := Lib.hid (fun (W : World) (z : Below w6.heap.size w6 W) => Parts.lit (w := W) [.slice ph a cap2, .slice none 0 0, .slice pt (m2 - a) (cap2 - a)] #[.slice ph a cap2, .slice none 0 0, .slice pt (m2 - a) (cap2 - a)] 22 rfl [ys.take a, [], ys.drop a] (fun j hj => by
      have : j = 0 ∨ j = 1 ∨ j = 2 := by simp at hj; omega
      rcases this with rfl | rfl | rfl
      · exact ⟨_, rfl, (hAh.call (hw6.out W z)).part hth.symm hpa hbh⟩
      · exact ⟨_, rfl, At.part (At.nil : At .u8 W none []) rfl (Nat.le_refl _) (fun _ h => absurd h List.not_mem_nil)⟩
      · exact ⟨_, rfl, (hAt.call (hw6.out W z)).part htl.symm hpt hbt⟩))
    have hf2 : [ys.take a, ys.drop a].flatten = ys := by simp
    have hf3 : [ys.take a, [], ys.drop a].flatten = ys := by simp
    have hfb2 : ∀ x ∈ [ys.take a, ys.drop a], Byted x := fun x hx => by
      simp only [List.mem_cons, List.not_mem_nil, or_false] at hx
      rcases hx with rfl | rfl
      · exact hbh
      · exact hbt
    have hfb3 : ∀ x ∈ [ys.take a, [], ys.drop a], Byted x := fun x hx => by
      simp only [List.mem_cons, List.not_mem_nil, or_false] at hx
      rcases hx with rfl | rfl | rfl
      · exact hbh
      · exact fun _ h => by cases h
      · exact hbt
    have hyL : ys.length ≤ 1000000 := by rw [hyl]; omega
    have dC1 := Lib.hid (fun (W : World) (g : Nat) (z : Below w6.heap.size w6 W) (hP : Parts W (some ⟨g, 0, none⟩) [ys]) => macCode xs hBa.out (by rw [hll]; omega) p m cap hll.symm hmca [ys] (one_byted hBb.out) (by rw [one_flat]; exact hyL) (some ⟨g, 0, none⟩) 1 1 rfl (by decide) (fun e => by cases e) W (hS6.out W z) (hAa.out.call (hw6.out W z)) hP)
    have dC2 := Lib.hid (fun (W : World) (g : Nat) (z : Below w6.heap.size w6 W) (hP : Parts W (some ⟨g, 0, none⟩) [ys.take a, ys.drop a]) => macCode (xs ++ List.replicate a2 0) hxz hxl ql nl cl m6'.out.len m6'.out.hi [ys.take a, ys.drop a] hfb2 (by rw [hf2]; exact hyL) (some ⟨g, 0, none⟩) 2 2 rfl (by decide) (fun e => by cases e) W (hS6.out W z) (m6'.out.at_.call z) hP)
    have dT1 := Lib.hid (fun (W : World) (g : Nat) (z : Below w6.heap.size w6 W) (hP : Parts W (some ⟨g, 0, none⟩) [ys]) => macTag k hkb'.out hkl'.out Ck.toArray hKa [ys] (one_byted hBb.out) (by rw [one_flat]; exact hyL) (some ⟨g, 0, none⟩) 1 1 rfl (by decide) (fun e => by cases e) W (hS6.out W z) hP)
    have dT2 := Lib.hid (fun (W : World) (g : Nat) (z : Below w6.heap.size w6 W) (hP : Parts W (some ⟨g, 0, none⟩) [ys.take a, [], ys.drop a]) => macTag k hkb'.out hkl'.out Ck.toArray hKa [ys.take a, [], ys.drop a] hfb3 (by rw [hf3]; exact hyL) (some ⟨g, 0, none⟩) 3 3 rfl (by decide) (fun e => by cases e) W (hS6.out W z) hP)
    rw [one_flat] at dC1 dT1
    rw [hf2, hcnx, hYC.out] at dC2
    rw [hC.out, hYC.out] at dC1
    rw [hf3] at dT2
    rw [hD.out, hYD.out] at dT1 dT2
    have huK : Tryd.prog.underlying 24 = some (.array 32 5) := Tryd.underlying24
    have hiK := hiK'.out
    have hq1 := hqC.out
    have hq2 := hqD.out
    have zd : Below w6.heap.size w6 w6.drew := (Below.refl _ _).drew
    clear dN dX k2 hB2 b3 k3 hB3 m4 b4 k4 hB4 dM k5 m5 hB5 hle5 hs5 b45 b5 b36 e6 s6 m6 k6 hf2 hf3 hfb2 hfb3 hyL hyl hth htl hbh hbt hpa hpt hal hll hcnx hxz hxl hAh hAt ha2 ha hw6 hS6 hcn hatH
    try simp only [Act.put, List.setIfInBounds_toArray, List.set_cons_zero, List.set_cons_succ]
    refine wp_region_held_drew (S := fun W' => W'.rangeAt w.heap.size 0 Ck) (by kernel_rfl) (hrng.out _ zd) (fun _ => ?_)
    generalize w6.drew = wd at zd ⊢
    refine wpAnyH_take (i := 0) (oi := ⟨some 36, .move (.tmp 0), _, _, _, _⟩) (v := .slice p m cap) rfl (by kernel_rfl) (by kernel_rfl) (by kernel_rfl) (fun _ _ _ h => h) (Or.inl ⟨by rfl, by intro W _; go_simp⟩) (hrng.out _ zd) ?_
    try simp only [Act.put, List.setIfInBounds_toArray, List.set_cons_zero, List.set_cons_succ]
    refine wpAnyH_take (i := 1) (oi := ⟨some 37, .move (.tmp 2), _, _, _, _⟩) (v := .slice p2 m2 cap2) rfl (by kernel_rfl) (by kernel_rfl) (by kernel_rfl) (fun _ _ _ h => h) (Or.inl ⟨by rfl, by intro W _; go_simp⟩) (hrng.out _ zd) ?_
    try simp only [Act.put, List.setIfInBounds_toArray, List.set_cons_zero, List.set_cons_succ]
    refine wpAnyH_take (i := 4) (oi := ⟨some 40, .move (.tmp 10), _, _, _, _⟩) (v := .slice ql nl cl) rfl (by kernel_rfl) (by kernel_rfl) (by kernel_rfl) (fun _ _ _ h => h) (Or.inl ⟨by rfl, by intro W _; go_simp⟩) (hrng.out _ zd) ?_
    try simp only [Act.put, List.setIfInBounds_toArray, List.set_cons_zero, List.set_cons_succ]
    refine wpAnyH_take (i := 5) (oi := ⟨some 41, .move (.tmp 2), _, _, _, _⟩) (v := .slice p2 m2 cap2) rfl (by kernel_rfl) (by kernel_rfl) (by kernel_rfl) (fun _ _ _ h => h) (Or.inl ⟨by rfl, by intro W _; go_simp⟩) (hrng.out _ zd) ?_
    try simp only [Act.put, List.setIfInBounds_toArray, List.set_cons_zero, List.set_cons_succ]
    refine wpAnyH_take (i := 6) (oi := ⟨some 42, .move (.tmp 9), _, _, _, _⟩) (v := .int .i64 (a : Int)) rfl (by kernel_rfl) (by kernel_rfl) (by kernel_rfl) (fun _ _ _ h => h) (Or.inl ⟨by rfl, by intro W _; go_simp⟩) (hrng.out _ zd) ?_
    try simp only [Act.put, List.setIfInBounds_toArray, List.set_cons_zero, List.set_cons_succ]
    refine wpAnyH_take (i := 7) (oi := ⟨some 43, .slice 22 (.tmp 41) none (some (.tmp 42)) none, _, _, _, _⟩) (v := .slice ph a cap2) rfl (by kernel_rfl) (by kernel_rfl) (by kernel_rfl) (fun _ _ _ h => h) (yields_slice (by rfl) 22 (.tmp 41) none (some (.tmp 42)) rfl (.slice p2 m2 cap2) rfl _ _ rfl rfl _ hh.out) (hrng.out _ zd) ?_
    try simp only [Act.put, List.setIfInBounds_toArray, List.set_cons_zero, List.set_cons_succ]
    refine wpAnyH_take (i := 8) (oi := ⟨some 44, .move (.tmp 2), _, _, _, _⟩) (v := .slice p2 m2 cap2) rfl (by kernel_rfl) (by kernel_rfl) (by kernel_rfl) (fun _ _ _ h => h) (Or.inl ⟨by rfl, by intro W _; go_simp⟩) (hrng.out _ zd) ?_
    try simp only [Act.put, List.setIfInBounds_toArray, List.set_cons_zero, List.set_cons_succ]
    refine wpAnyH_take (i := 9) (oi := ⟨some 45, .move (.tmp 9), _, _, _, _⟩) (v := .int .i64 (a : Int)) rfl (by kernel_rfl) (by kernel_rfl) (by kernel_rfl) (fun _ _ _ h => h) (Or.inl ⟨by rfl, by intro W _; go_simp⟩) (hrng.out _ zd) ?_
    try simp only [Act.put, List.setIfInBounds_toArray, List.set_cons_zero, List.set_cons_succ]
    refine wpAnyH_take (i := 10) (oi := ⟨some 46, .slice 22 (.tmp 44) (some (.tmp 45)) none none, _, _, _, _⟩) (v := .slice pt (m2 - a) (cap2 - a)) rfl (by kernel_rfl) (by kernel_rfl) (by kernel_rfl) (fun _ _ _ h => h) (yields_slice (by rfl) 22 (.tmp 44) (some (.tmp 45)) none rfl (.slice p2 m2 cap2) rfl _ _ rfl rfl _ ht.out) (hrng.out _ zd) ?_
    try simp only [Act.put, List.setIfInBounds_toArray, List.set_cons_zero, List.set_cons_succ]
    refine wpAnyH_ready (rs := [2, 11]) (by kernel_rfl) (by simp) ?_
    refine AllReadyH.cons (o := ⟨some 38, .buildSlice 27 1 #[(0, .tmp 37)], _, _, _, _⟩) rfl (fun K hK => ?_) ?_
    · skip
      go_simp
      have f20 := And.intro (fP1.out wd zd) ((Below.refl wd.heap.size wd).alloc (Nat.le_refl _) (.cells #[.slice p2 m2 cap2] 22))
      generalize World.alloc wd (.cells #[.slice p2 m2 cap2] 22) = w20 at f20 ⊢
      obtain ⟨r2, b20⟩ := f20
      have z20 := below_then zd b20
      refine hK.out _ _ (hrng.out _ z20) (fun _ => ?_)
      clear hK K
      try simp only [Act.put, List.setIfInBounds_toArray, List.set_cons_zero, List.set_cons_succ]
      refine wpAnyH_ready (rs := [3, 11]) (by kernel_rfl) (by simp) ?_
      refine AllReadyH.cons (o := ⟨some 39, .call { callee := .value (.func 9), args := #[.tmp 36, .tmp 38], argTypes := #[22, 27] }, _, _, _, _⟩) rfl (fun K hK => ?_) ?_
      · skip
        go_simp
        refine (dC1.out w20 wd.heap.size z20 r2).mono ?_
        rintro e' w21 ⟨rfl, b21⟩
        clear r2
        have z21 := below_then z20 b21
        refine hK.out _ _ (hrng.out _ z21) (fun _ => ?_)
        clear hK K
        try simp only [Act.put, List.setIfInBounds_toArray, List.set_cons_zero, List.set_cons_succ]
        refine wpAnyH_ready (rs := [11]) (by kernel_rfl) (by simp) ?_
        refine AllReadyH.cons (o := ⟨some 47, .buildSlice 27 2 #[(0, .tmp 43), (1, .tmp 46)], _, _, _, _⟩) rfl (fun K hK => ?_) AllReadyH.nil
        go_simp
        have f22 := And.intro (fP2.out w21 z21) ((Below.refl w21.heap.size w21).alloc (Nat.le_refl _) (.cells #[.slice ph a cap2, .slice pt (m2 - a) (cap2 - a)] 22))
        generalize World.alloc w21 (.cells #[.slice ph a cap2, .slice pt (m2 - a) (cap2 - a)] 22) = w22 at f22 ⊢
        obtain ⟨r11, b22⟩ := f22
        have z22 := below_then z21 b22
        refine hK.out _ _ (hrng.out _ z22) (fun _ => ?_)
        clear hK K
        try simp only [Act.put, List.setIfInBounds_toArray, List.set_cons_zero, List.set_cons_succ]
        refine wpAnyH_ready (rs := [12]) (by kernel_rfl) (by simp) ?_
        refine AllReadyH.cons (o := ⟨some 48, .call { callee := .value (.func 9), args := #[.tmp 40, .tmp 47], argTypes := #[22, 27] }, _, _, _, _⟩) rfl (fun K hK => ?_) AllReadyH.nil
        go_simp
        refine (dC2.out w22 w21.heap.size z22 r11).mono ?_
        rintro e' w23 ⟨rfl, b23⟩
        clear r11
        have z23 := below_then z22 b23
        refine hK.out _ _ (hrng.out _ z23) (fun _ => ?_)
        clear hK K
        try simp only [Act.put, List.setIfInBounds_toArray, List.set_cons_zero, List.set_cons_succ]
        refine wpAnyH_take (i := 13) (oi := ⟨some 49, .binOp .eql 31 (.tmp 39) (.tmp 48) 31, _, _, _, _⟩) (v := .bool true) rfl (by kernel_rfl) (by kernel_rfl) (by kernel_rfl) (fun _ _ _ h => h) (Or.inl ⟨by rfl, by intro W _; go_simp⟩) (hrng.out _ z23) ?_
        try simp only [Act.put, List.setIfInBounds_toArray, List.set_cons_zero, List.set_cons_succ]
        refine wpAnyH_take (i := 14) (oi := ⟨some 50, .move (.tmp 49), _, _, _, _⟩) (v := .bool true) rfl (by kernel_rfl) (by kernel_rfl) (by kernel_rfl) (fun _ _ _ h => h) (Or.inl ⟨by rfl, by intro W _; go_simp⟩) (hrng.out _ z23) ?_
        try simp only [Act.put, List.setIfInBounds_toArray, List.set_cons_zero, List.set_cons_succ]
        refine wpAnyH_take (i := 15) (oi := ⟨some 51, .load 24 (.tmp 5), _, _, _, _⟩) (v := .agg Ck.toArray) rfl (by kernel_rfl) (by kernel_rfl) (by kernel_rfl) (fun _ _ _ h => h) (yieldsIf_load_mid (by rfl) 24 (.tmp 5) rfl w.heap.size 0 rfl Ck _ (fun _ h => h) huK rfl hiK) (hrng.out _ z23) ?_
        try simp only [Act.put, List.setIfInBounds_toArray, List.set_cons_zero, List.set_cons_succ]
        refine wpAnyH_take (i := 16) (oi := ⟨some 52, .move (.tmp 2), _, _, _, _⟩) (v := .slice p2 m2 cap2) rfl (by kernel_rfl) (by kernel_rfl) (by kernel_rfl) (fun _ _ _ h => h) (Or.inl ⟨by rfl, by intro W _; go_simp⟩) (hrng.out _ z23) ?_
        try simp only [Act.put, List.setIfInBounds_toArray, List.set_cons_zero, List.set_cons_succ]
        refine wpAnyH_take (i := 19) (oi := ⟨some 55, .load 24 (.tmp 5), _, _, _, _⟩) (v := .agg Ck.toArray) rfl (by kernel_rfl) (by kernel_rfl) (by kernel_rfl) (fun _ _ _ h => h) (yieldsIf_load_mid (by rfl) 24 (.tmp 5) rfl w.heap.size 0 rfl Ck _ (fun _ h => h) huK rfl hiK) (hrng.out _ z23) ?_
        try simp only [Act.put, List.setIfInBounds_toArray, List.set_cons_zero, List.set_cons_succ]
        refine wpAnyH_take (i := 20) (oi := ⟨some 56, .move (.tmp 2), _, _, _, _⟩) (v := .slice p2 m2 cap2) rfl (by kernel_rfl) (by kernel_rfl) (by kernel_rfl) (fun _ _ _ h => h) (Or.inl ⟨by rfl, by intro W _; go_simp⟩) (hrng.out _ z23) ?_
        try simp only [Act.put, List.setIfInBounds_toArray, List.set_cons_zero, List.set_cons_succ]
        refine wpAnyH_take (i := 21) (oi := ⟨some 57, .move (.tmp 9), _, _, _, _⟩) (v := .int .i64 (a : Int)) rfl (by kernel_rfl) (by kernel_rfl) (by kernel_rfl) (fun _ _ _ h => h) (Or.inl ⟨by rfl, by intro W _; go_simp⟩) (hrng.out _ z23) ?_
        try simp only [Act.put, List.setIfInBounds_toArray, List.set_cons_zero, List.set_cons_succ]
        refine wpAnyH_take (i := 22) (oi := ⟨some 58, .slice 22 (.tmp 56) none (some (.tmp 57)) none, _, _, _, _⟩) (v := .slice ph a cap2) rfl (by kernel_rfl) (by kernel_rfl) (by kernel_rfl) (fun _ _ _ h => h) (yields_slice (by rfl) 22 (.tmp 56) none (some (.tmp 57)) rfl (.slice p2 m2 cap2) rfl _ _ rfl rfl _ hh.out) (hrng.out _ z23) ?_
        try simp only [Act.put, List.setIfInBounds_toArray, List.set_cons_zero, List.set_cons_succ]
        refine wpAnyH_take (i := 23) (oi := ⟨some 59, .move (.tmp 2), _, _, _, _⟩) (v := .slice p2 m2 cap2) rfl (by kernel_rfl) (by kernel_rfl) (by kernel_rfl) (fun _ _ _ h => h) (Or.inl ⟨by rfl, by intro W _; go_simp⟩) (hrng.out _ z23) ?_
        try simp only [Act.put, List.setIfInBounds_toArray, List.set_cons_zero, List.set_cons_succ]
        refine wpAnyH_take (i := 24) (oi := ⟨some 60, .move (.tmp 9), _, _, _, _⟩) (v := .int .i64 (a : Int)) rfl (by kernel_rfl) (by kernel_rfl) (by kernel_rfl) (fun _ _ _ h => h) (Or.inl ⟨by rfl, by intro W _; go_simp⟩) (hrng.out _ z23) ?_
        try simp only [Act.put, List.setIfInBounds_toArray, List.set_cons_zero, List.set_cons_succ]
        refine wpAnyH_take (i := 25) (oi := ⟨some 61, .slice 22 (.tmp 59) (some (.tmp 60)) none none, _, _, _, _⟩) (v := .slice pt (m2 - a) (cap2 - a)) rfl (by kernel_rfl) (by kernel_rfl) (by kernel_rfl) (fun _ _ _ h => h) (yields_slice (by rfl) 22 (.tmp 59) (some (.tmp 60)) none rfl (.slice p2 m2 cap2) rfl _ _ rfl rfl _ ht.out) (hrng.out _ z23) ?_
        try simp only [Act.put, List.setIfInBounds_toArray, List.set_cons_zero, List.set_cons_succ]
        refine wpAnyH_ready (rs := [17, 26]) (by kernel_rfl) (by simp) ?_
        refine AllReadyH.cons (o := ⟨some 53, .buildSlice 27 1 #[(0, .tmp 52)], _, _, _, _⟩) rfl (fun K hK => ?_) ?_
        · skip
          go_simp
          have f24 := And.intro (fP1.out w23 z23) ((Below.refl w23.heap.size w23).alloc (Nat.le_refl _) (.cells #[.slice p2 m2 cap2] 22))
          generalize World.alloc w23 (.cells #[.slice p2 m2 cap2] 22) = w24 at f24 ⊢
          obtain ⟨r17, b24⟩ := f24
          have z24 := below_then z23 b24
          refine hK.out _ _ (hrng.out _ z24) (fun _ => ?_)
          clear hK K
          try simp only [Act.put, List.setIfInBounds_toArray, List.set_cons_zero, List.set_cons_succ]
          refine wpAnyH_ready (rs := [18, 26]) (by kernel_rfl) (by simp) ?_
          refine AllReadyH.cons (o := ⟨some 54, .call { callee := .value (.func 12), args := #[.tmp 51, .tmp 53], argTypes := #[24, 27] }, _, _, _, _⟩) rfl (fun K hK => ?_) ?_
          · skip
            go_simp
            refine (dT1.out w24 w23.heap.size z24 r17).mono ?_
            rintro e' w25 ⟨rfl, b25⟩
            clear r17
            have z25 := below_then z24 b25
            refine hK.out _ _ (hrng.out _ z25) (fun _ => ?_)
            clear hK K
            try simp only [Act.put, List.setIfInBounds_toArray, List.set_cons_zero, List.set_cons_succ]
            refine wpAnyH_ready (rs := [26]) (by kernel_rfl) (by simp) ?_
            refine AllReadyH.cons (o := ⟨some 62, .buildSlice 27 3 #[(0, .tmp 58), (1, .const (.slice none 0 0)), (2, .tmp 61)], _, _, _, _⟩) rfl (fun K hK => ?_) AllReadyH.nil
            go_simp
            have f26 := And.intro (fP3.out w25 z25) ((Below.refl w25.heap.size w25).alloc (Nat.le_refl _) (.cells #[.slice ph a cap2, .slice none 0 0, .slice pt (m2 - a) (cap2 - a)] 22))
            generalize World.alloc w25 (.cells #[.slice ph a cap2, .slice none 0 0, .slice pt (m2 - a) (cap2 - a)] 22) = w26 at f26 ⊢
            obtain ⟨r26, b26⟩ := f26
            have z26 := below_then z25 b26
            refine hK.out _ _ (hrng.out _ z26) (fun _ => ?_)
            clear hK K
            try simp only [Act.put, List.setIfInBounds_toArray, List.set_cons_zero, List.set_cons_succ]
            refine wpAnyH_ready (rs := [27]) (by kernel_rfl) (by simp) ?_
            refine AllReadyH.cons (o := ⟨some 63, .call { callee := .value (.func 12), args := #[.tmp 55, .tmp 62], argTypes := #[24, 27] }, _, _, _, _⟩) rfl (fun K hK => ?_) AllReadyH.nil
            go_simp
            refine (dT2.out w26 w25.heap.size z26 r26).mono ?_
            rintro e' w27 ⟨rfl, b27⟩
            clear r26
            have z27 := below_then z26 b27
            refine hK.out _ _ (hrng.out _ z27) (fun _ => ?_)
            clear hK K
            try simp only [Act.put, List.setIfInBounds_toArray, List.set_cons_zero, List.set_cons_succ]
            refine wpAnyH_take (i := 28) (oi := ⟨some 64, .binOp .eql 26 (.tmp 54) (.tmp 63) 26, _, _, _, _⟩) (v := .bool true) rfl (by kernel_rfl) (by kernel_rfl) (by kernel_rfl) (fun _ _ _ h => h) (Or.inl ⟨by rfl, by intro W _; go_simp⟩) (hrng.out _ z27) ?_
            try simp only [Act.put, List.setIfInBounds_toArray, List.set_cons_zero, List.set_cons_succ]
            refine wpAnyH_take (i := 29) (oi := ⟨some 65, .pick (.tmp 50) (.tmp 64) (.const (.bool false)), _, _, _, _⟩) (v := .bool true) rfl (by kernel_rfl) (by kernel_rfl) (by kernel_rfl) (fun _ _ _ h => h) (Or.inl ⟨by rfl, by intro W _; go_simp⟩) (hrng.out _ z27) ?_
            try simp only [Act.put, List.setIfInBounds_toArray, List.set_cons_zero, List.set_cons_succ]
            refine wpAnyH_take (i := 30) (oi := ⟨some 8, .assign (.tmp 65), _, _, _, _⟩) (v := .bool true) rfl (by kernel_rfl) (by kernel_rfl) (by kernel_rfl) (fun _ _ _ h => h) (Or.inl ⟨by rfl, by intro W _; go_simp⟩) (hrng.out _ z27) ?_
            try simp only [Act.put, List.setIfInBounds_toArray, List.set_cons_zero, List.set_cons_succ]
            refine wpAnyH_done (by kernel_rfl) ?_ _
            go_wp2
            go_ret
            exact ⟨rfl, below_then hB6 z27⟩
          refine AllReadyH.cons (o := ⟨some 62, .buildSlice 27 3 #[(0, .tmp 58), (1, .const (.slice none 0 0)), (2, .tmp 61)], _, _, _, _⟩) rfl (fun K hK => ?_) ?_
          · skip
            go_simp
            have f25 := And.intro (fP3.out w24 z24) ((Below.refl w24.heap.size w24).alloc (Nat.le_refl _) (.cells #[.slice ph a cap2, .slice none 0 0, .slice pt (m2 - a) (cap2 - a)] 22))
            generalize World.alloc w24 (.cells #[.slice ph a cap2, .slice none 0 0, .slice pt (m2 - a) (cap2 - a)] 22) = w25 at f25 ⊢
            obtain ⟨r26, b25⟩ := f25
            replace r17 := r17.call b25
            have z25 := below_then z24 b25
            refine hK.out _ _ (hrng.out _ z25) (fun _ => ?_)
            clear hK K
            try simp only [Act.put, List.setIfInBounds_toArray, List.set_cons_zero, List.set_cons_succ]
            refine wpAnyH_ready (rs := [18]) (by kernel_rfl) (by simp) ?_
            refine AllReadyH.cons (o := ⟨some 54, .call { callee := .value (.func 12), args := #[.tmp 51, .tmp 53], argTypes := #[24, 27] }, _, _, _, _⟩) rfl (fun K hK => ?_) AllReadyH.nil
            go_simp
            refine (dT1.out w25 w23.heap.size z25 r17).mono ?_
            rintro e' w26 ⟨rfl, b26⟩
            clear r17
            replace r26 := r26.call b26
            have z26 := below_then z25 b26
            refine hK.out _ _ (hrng.out _ z26) (fun _ => ?_)
            clear hK K
            try simp only [Act.put, List.setIfInBounds_toArray, List.set_cons_zero, List.set_cons_succ]
            refine wpAnyH_ready (rs := [27]) (by kernel_rfl) (by simp) ?_
            refine AllReadyH.cons (o := ⟨some 63, .call { callee := .value (.func 12), args := #[.tmp 55, .tmp 62], argTypes := #[24, 27] }, _, _, _, _⟩) rfl (fun K hK => ?_) AllReadyH.nil
            go_simp
            refine (dT2.out w26 w24.heap.size z26 r26).mono ?_
            rintro e' w27 ⟨rfl, b27⟩
            clear r26
            have z27 := below_then z26 b27
            refine hK.out _ _ (hrng.out _ z27) (fun _ => ?_)
            clear hK K
            try simp only [Act.put, List.setIfInBounds_toArray, List.set_cons_zero, List.set_cons_succ]
            refine wpAnyH_take (i := 28) (oi := ⟨some 64, .binOp .eql 26 (.tmp 54) (.tmp 63) 26, _, _, _, _⟩) (v := .bool true) rfl (by kernel_rfl) (by kernel_rfl) (by kernel_rfl) (fun _ _ _ h => h) (Or.inl ⟨by rfl, by intro W _; go_simp⟩) (hrng.out _ z27) ?_
            try simp only [Act.put, List.setIfInBounds_toArray, List.set_cons_zero, List.set_cons_succ]
            refine wpAnyH_take (i := 29) (oi := ⟨some 65, .pick (.tmp 50) (.tmp 64) (.const (.bool false)), _, _, _, _⟩) (v := .bool true) rfl (by kernel_rfl) (by kernel_rfl) (by kernel_rfl) (fun _ _ _ h => h) (Or.inl ⟨by rfl, by intro W _; go_simp⟩) (hrng.out _ z27) ?_
            try simp only [Act.put, List.setIfInBounds_toArray, List.set_cons_zero, List.set_cons_succ]
            refine wpAnyH_take (i := 30) (oi := ⟨some 8, .assign (.tmp 65), _, _, _, _⟩) (v := .bool true) rfl (by kernel_rfl) (by kernel_rfl) (by kernel_rfl) (fun _ _ _ h => h) (Or.inl ⟨by rfl, by intro W _; go_simp⟩) (hrng.out _ z27) ?_
            try simp only [Act.put, List.setIfInBounds_toArray, List.set_cons_zero, List.set_cons_succ]
            refine wpAnyH_done (by kernel_rfl) ?_ _
            go_wp2
            go_ret
            exact ⟨rfl, below_then hB6 z27⟩
          exact AllReadyH.nil
        refine AllReadyH.cons (o := ⟨some 62, .buildSlice 27 3 #[(0, .tmp 58), (1, .const (.slice none 0 0)), (2, .tmp 61)], _, _, _, _⟩) rfl (fun K hK => ?_) ?_
        · skip
          go_simp
          have f24 := And.intro (fP3.out w23 z23) ((Below.refl w23.heap.size w23).alloc (Nat.le_refl _) (.cells #[.slice ph a cap2, .slice none 0 0, .slice pt (m2 - a) (cap2 - a)] 22))
          generalize World.alloc w23 (.cells #[.slice ph a cap2, .slice none 0 0, .slice pt (m2 - a) (cap2 - a)] 22) = w24 at f24 ⊢
          obtain ⟨r26, b24⟩ := f24
          have z24 := below_then z23 b24
          refine hK.out _ _ (hrng.out _ z24) (fun _ => ?_)
          clear hK K
          try simp only [Act.put, List.setIfInBounds_toArray, List.set_cons_zero, List.set_cons_succ]
          refine wpAnyH_ready (rs := [17]) (by kernel_rfl) (by simp) ?_
          refine AllReadyH.cons (o := ⟨some 53, .buildSlice 27 1 #[(0, .tmp 52)], _, _, _, _⟩) rfl (fun K hK => ?_) AllReadyH.nil
          go_simp
          have f25 := And.intro (fP1.out w24 z24) ((Below.refl w24.heap.size w24).alloc (Nat.le_refl _) (.cells #[.slice p2 m2 cap2] 22))
          generalize World.alloc w24 (.cells #[.slice p2 m2 cap2] 22) = w25 at f25 ⊢
          obtain ⟨r17, b25⟩ := f25
          replace r26 := r26.call b25
          have z25 := below_then z24 b25
          refine hK.out _ _ (hrng.out _ z25) (fun _ => ?_)
          clear hK K
          try simp only [Act.put, List.setIfInBounds_toArray, List.set_cons_zero, List.set_cons_succ]
          refine wpAnyH_ready (rs := [18]) (by kernel_rfl) (by simp) ?_
          refine AllReadyH.cons (o := ⟨some 54, .call { callee := .value (.func 12), args := #[.tmp 51, .tmp 53], argTypes := #[24, 27] }, _, _, _, _⟩) rfl (fun K hK => ?_) AllReadyH.nil
          go_simp
          refine (dT1.out w25 w24.heap.size z25 r17).mono ?_
          rintro e' w26 ⟨rfl, b26⟩
          clear r17
          replace r26 := r26.call b26
          have z26 := below_then z25 b26
          refine hK.out _ _ (hrng.out _ z26) (fun _ => ?_)
          clear hK K
          try simp only [Act.put, List.setIfInBounds_toArray, List.set_cons_zero, List.set_cons_succ]
          refine wpAnyH_ready (rs := [27]) (by kernel_rfl) (by simp) ?_
          refine AllReadyH.cons (o := ⟨some 63, .call { callee := .value (.func 12), args := #[.tmp 55, .tmp 62], argTypes := #[24, 27] }, _, _, _, _⟩) rfl (fun K hK => ?_) AllReadyH.nil
          go_simp
          refine (dT2.out w26 w23.heap.size z26 r26).mono ?_
          rintro e' w27 ⟨rfl, b27⟩
          clear r26
          have z27 := below_then z26 b27
          refine hK.out _ _ (hrng.out _ z27) (fun _ => ?_)
          clear hK K
          try simp only [Act.put, List.setIfInBounds_toArray, List.set_cons_zero, List.set_cons_succ]
          refine wpAnyH_take (i := 28) (oi := ⟨some 64, .binOp .eql 26 (.tmp 54) (.tmp 63) 26, _, _, _, _⟩) (v := .bool true) rfl (by kernel_rfl) (by kernel_rfl) (by kernel_rfl) (fun _ _ _ h => h) (Or.inl ⟨by rfl, by intro W _; go_simp⟩) (hrng.out _ z27) ?_
          try simp only [Act.put, List.setIfInBounds_toArray, List.set_cons_zero, List.set_cons_succ]
          refine wpAnyH_take (i := 29) (oi := ⟨some 65, .pick (.tmp 50) (.tmp 64) (.const (.bool false)), _, _, _, _⟩) (v := .bool true) rfl (by kernel_rfl) (by kernel_rfl) (by kernel_rfl) (fun _ _ _ h => h) (Or.inl ⟨by rfl, by intro W _; go_simp⟩) (hrng.out _ z27) ?_
          try simp only [Act.put, List.setIfInBounds_toArray, List.set_cons_zero, List.set_cons_succ]
          refine wpAnyH_take (i := 30) (oi := ⟨some 8, .assign (.tmp 65), _, _, _, _⟩) (v := .bool true) rfl (by kernel_rfl) (by kernel_rfl) (by kernel_rfl) (fun _ _ _ h => h) (Or.inl ⟨by rfl, by intro W _; go_simp⟩) (hrng.out _ z27) ?_
          try simp only [Act.put, List.setIfInBounds_toArray, List.set_cons_zero, List.set_cons_succ]
          refine wpAnyH_done (by kernel_rfl) ?_ _
          go_wp2
          go_ret
          exact ⟨rfl, below_then hB6 z27⟩
        exact AllReadyH.nil
      refine AllReadyH.cons (o := ⟨some 47, .buildSlice 27 2 #[(0, .tmp 43), (1, .tmp 46)], _, _, _, _⟩) rfl (fun K hK => ?_) ?_
      · skip
        go_simp
        have f21 := And.intro (fP2.out w20 z20) ((Below.refl w20.heap.size w20).alloc (Nat.le_refl _) (.cells #[.slice ph a cap2, .slice pt (m2 - a) (cap2 - a)] 22))
        generalize World.alloc w20 (.cells #[.slice ph a cap2, .slice pt (m2 - a) (cap2 - a)] 22) = w21 at f21 ⊢
        obtain ⟨r11, b21⟩ := f21
        replace r2 := r2.call b21
        have z21 := below_then z20 b21
        refine hK.out _ _ (hrng.out _ z21) (fun _ => ?_)
        clear hK K
        try simp only [Act.put, List.setIfInBounds_toArray, List.set_cons_zero, List.set_cons_succ]
        refine wpAnyH_ready (rs := [3]) (by kernel_rfl) (by simp) ?_
        refine AllReadyH.cons (o := ⟨some 39, .call { callee := .value (.func 9), args := #[.tmp 36, .tmp 38], argTypes := #[22, 27] }, _, _, _, _⟩) rfl (fun K hK => ?_) AllReadyH.nil
        go_simp
        refine (dC1.out w21 wd.heap.size z21 r2).mono ?_
        rintro e' w22 ⟨rfl, b22⟩
        clear r2
        replace r11 := r11.call b22
        have z22 := below_then z21 b22
        refine hK.out _ _ (hrng.out _ z22) (fun _ => ?_)
        clear hK K
        try simp only [Act.put, List.setIfInBounds_toArray, List.set_cons_zero, List.set_cons_succ]
        refine wpAnyH_ready (rs := [12]) (by kernel_rfl) (by simp) ?_
        refine AllReadyH.cons (o := ⟨some 48, .call { callee := .value (.func 9), args := #[.tmp 40, .tmp 47], argTypes := #[22, 27] }, _, _, _, _⟩) rfl (fun K hK => ?_) AllReadyH.nil
        go_simp
        refine (dC2.out w22 w20.heap.size z22 r11).mono ?_
        rintro e' w23 ⟨rfl, b23⟩
        clear r11
        have z23 := below_then z22 b23
        refine hK.out _ _ (hrng.out _ z23) (fun _ => ?_)
        clear hK K
        try simp only [Act.put, List.setIfInBounds_toArray, List.set_cons_zero, List.set_cons_succ]
        refine wpAnyH_take (i := 13) (oi := ⟨some 49, .binOp .eql 31 (.tmp 39) (.tmp 48) 31, _, _, _, _⟩) (v := .bool true) rfl (by kernel_rfl) (by kernel_rfl) (by kernel_rfl) (fun _ _ _ h => h) (Or.inl ⟨by rfl, by intro W _; go_simp⟩) (hrng.out _ z23) ?_
        try simp only [Act.put, List.setIfInBounds_toArray, List.set_cons_zero, List.set_cons_succ]
        refine wpAnyH_take (i := 14) (oi := ⟨some 50, .move (.tmp 49), _, _, _, _⟩) (v := .bool true) rfl (by kernel_rfl) (by kernel_rfl) (by kernel_rfl) (fun _ _ _ h => h) (Or.inl ⟨by rfl, by intro W _; go_simp⟩) (hrng.out _ z23) ?_
        try simp only [Act.put, List.setIfInBounds_toArray, List.set_cons_zero, List.set_cons_succ]
        refine wpAnyH_take (i := 15) (oi := ⟨some 51, .load 24 (.tmp 5), _, _, _, _⟩) (v := .agg Ck.toArray) rfl (by kernel_rfl) (by kernel_rfl) (by kernel_rfl) (fun _ _ _ h => h) (yieldsIf_load_mid (by rfl) 24 (.tmp 5) rfl w.heap.size 0 rfl Ck _ (fun _ h => h) huK rfl hiK) (hrng.out _ z23) ?_
        try simp only [Act.put, List.setIfInBounds_toArray, List.set_cons_zero, List.set_cons_succ]
        refine wpAnyH_take (i := 16) (oi := ⟨some 52, .move (.tmp 2), _, _, _, _⟩) (v := .slice p2 m2 cap2) rfl (by kernel_rfl) (by kernel_rfl) (by kernel_rfl) (fun _ _ _ h => h) (Or.inl ⟨by rfl, by intro W _; go_simp⟩) (hrng.out _ z23) ?_
        try simp only [Act.put, List.setIfInBounds_toArray, List.set_cons_zero, List.set_cons_succ]
        refine wpAnyH_take (i := 19) (oi := ⟨some 55, .load 24 (.tmp 5), _, _, _, _⟩) (v := .agg Ck.toArray) rfl (by kernel_rfl) (by kernel_rfl) (by kernel_rfl) (fun _ _ _ h => h) (yieldsIf_load_mid (by rfl) 24 (.tmp 5) rfl w.heap.size 0 rfl Ck _ (fun _ h => h) huK rfl hiK) (hrng.out _ z23) ?_
        try simp only [Act.put, List.setIfInBounds_toArray, List.set_cons_zero, List.set_cons_succ]
        refine wpAnyH_take (i := 20) (oi := ⟨some 56, .move (.tmp 2), _, _, _, _⟩) (v := .slice p2 m2 cap2) rfl (by kernel_rfl) (by kernel_rfl) (by kernel_rfl) (fun _ _ _ h => h) (Or.inl ⟨by rfl, by intro W _; go_simp⟩) (hrng.out _ z23) ?_
        try simp only [Act.put, List.setIfInBounds_toArray, List.set_cons_zero, List.set_cons_succ]
        refine wpAnyH_take (i := 21) (oi := ⟨some 57, .move (.tmp 9), _, _, _, _⟩) (v := .int .i64 (a : Int)) rfl (by kernel_rfl) (by kernel_rfl) (by kernel_rfl) (fun _ _ _ h => h) (Or.inl ⟨by rfl, by intro W _; go_simp⟩) (hrng.out _ z23) ?_
        try simp only [Act.put, List.setIfInBounds_toArray, List.set_cons_zero, List.set_cons_succ]
        refine wpAnyH_take (i := 22) (oi := ⟨some 58, .slice 22 (.tmp 56) none (some (.tmp 57)) none, _, _, _, _⟩) (v := .slice ph a cap2) rfl (by kernel_rfl) (by kernel_rfl) (by kernel_rfl) (fun _ _ _ h => h) (yields_slice (by rfl) 22 (.tmp 56) none (some (.tmp 57)) rfl (.slice p2 m2 cap2) rfl _ _ rfl rfl _ hh.out) (hrng.out _ z23) ?_
        try simp only [Act.put, List.setIfInBounds_toArray, List.set_cons_zero, List.set_cons_succ]
        refine wpAnyH_take (i := 23) (oi := ⟨some 59, .move (.tmp 2), _, _, _, _⟩) (v := .slice p2 m2 cap2) rfl (by kernel_rfl) (by kernel_rfl) (by kernel_rfl) (fun _ _ _ h => h) (Or.inl ⟨by rfl, by intro W _; go_simp⟩) (hrng.out _ z23) ?_
        try simp only [Act.put, List.setIfInBounds_toArray, List.set_cons_zero, List.set_cons_succ]
        refine wpAnyH_take (i := 24) (oi := ⟨some 60, .move (.tmp 9), _, _, _, _⟩) (v := .int .i64 (a : Int)) rfl (by kernel_rfl) (by kernel_rfl) (by kernel_rfl) (fun _ _ _ h => h) (Or.inl ⟨by rfl, by intro W _; go_simp⟩) (hrng.out _ z23) ?_
        try simp only [Act.put, List.setIfInBounds_toArray, List.set_cons_zero, List.set_cons_succ]
        refine wpAnyH_take (i := 25) (oi := ⟨some 61, .slice 22 (.tmp 59) (some (.tmp 60)) none none, _, _, _, _⟩) (v := .slice pt (m2 - a) (cap2 - a)) rfl (by kernel_rfl) (by kernel_rfl) (by kernel_rfl) (fun _ _ _ h => h) (yields_slice (by rfl) 22 (.tmp 59) (some (.tmp 60)) none rfl (.slice p2 m2 cap2) rfl _ _ rfl rfl _ ht.out) (hrng.out _ z23) ?_
        try simp only [Act.put, List.setIfInBounds_toArray, List.set_cons_zero, List.set_cons_succ]
        refine wpAnyH_ready (rs := [17, 26]) (by kernel_rfl) (by simp) ?_
        refine AllReadyH.cons (o := ⟨some 53, .buildSlice 27 1 #[(0, .tmp 52)], _, _, _, _⟩) rfl (fun K hK => ?_) ?_
        · skip
          go_simp
          have f24 := And.intro (fP1.out w23 z23) ((Below.refl w23.heap.size w23).alloc (Nat.le_refl _) (.cells #[.slice p2 m2 cap2] 22))
          generalize World.alloc w23 (.cells #[.slice p2 m2 cap2] 22) = w24 at f24 ⊢
          obtain ⟨r17, b24⟩ := f24
          have z24 := below_then z23 b24
          refine hK.out _ _ (hrng.out _ z24) (fun _ => ?_)
          clear hK K
          try simp only [Act.put, List.setIfInBounds_toArray, List.set_cons_zero, List.set_cons_succ]
          refine wpAnyH_ready (rs := [18, 26]) (by kernel_rfl) (by simp) ?_
          refine AllReadyH.cons (o := ⟨some 54, .call { callee := .value (.func 12), args := #[.tmp 51, .tmp 53], argTypes := #[24, 27] }, _, _, _, _⟩) rfl (fun K hK => ?_) ?_
          · skip
            go_simp
            refine (dT1.out w24 w23.heap.size z24 r17).mono ?_
            rintro e' w25 ⟨rfl, b25⟩
            clear r17
            have z25 := below_then z24 b25
            refine hK.out _ _ (hrng.out _ z25) (fun _ => ?_)
            clear hK K
            try simp only [Act.put, List.setIfInBounds_toArray, List.set_cons_zero, List.set_cons_succ]
            refine wpAnyH_ready (rs := [26]) (by kernel_rfl) (by simp) ?_
            refine AllReadyH.cons (o := ⟨some 62, .buildSlice 27 3 #[(0, .tmp 58), (1, .const (.slice none 0 0)), (2, .tmp 61)], _, _, _, _⟩) rfl (fun K hK => ?_) AllReadyH.nil
            go_simp
            have f26 := And.intro (fP3.out w25 z25) ((Below.refl w25.heap.size w25).alloc (Nat.le_refl _) (.cells #[.slice ph a cap2, .slice none 0 0, .slice pt (m2 - a) (cap2 - a)] 22))
            generalize World.alloc w25 (.cells #[.slice ph a cap2, .slice none 0 0, .slice pt (m2 - a) (cap2 - a)] 22) = w26 at f26 ⊢
            obtain ⟨r26, b26⟩ := f26
            have z26 := below_then z25 b26
            refine hK.out _ _ (hrng.out _ z26) (fun _ => ?_)
            clear hK K
            try simp only [Act.put, List.setIfInBounds_toArray, List.set_cons_zero, List.set_cons_succ]
            refine wpAnyH_ready (rs := [27]) (by kernel_rfl) (by simp) ?_
            refine AllReadyH.cons (o := ⟨some 63, .call { callee := .value (.func 12), args := #[.tmp 55, .tmp 62], argTypes := #[24, 27] }, _, _, _, _⟩) rfl (fun K hK => ?_) AllReadyH.nil
            go_simp
            refine (dT2.out w26 w25.heap.size z26 r26).mono ?_
            rintro e' w27 ⟨rfl, b27⟩
            clear r26
            have z27 := below_then z26 b27
            refine hK.out _ _ (hrng.out _ z27) (fun _ => ?_)
            clear hK K
            try simp only [Act.put, List.setIfInBounds_toArray, List.set_cons_zero, List.set_cons_succ]
            refine wpAnyH_take (i := 28) (oi := ⟨some 64, .binOp .eql 26 (.tmp 54) (.tmp 63) 26, _, _, _, _⟩) (v := .bool true) rfl (by kernel_rfl) (by kernel_rfl) (by kernel_rfl) (fun _ _ _ h => h) (Or.inl ⟨by rfl, by intro W _; go_simp⟩) (hrng.out _ z27) ?_
            try simp only [Act.put, List.setIfInBounds_toArray, List.set_cons_zero, List.set_cons_succ]
            refine wpAnyH_take (i := 29) (oi := ⟨some 65, .pick (.tmp 50) (.tmp 64) (.const (.bool false)), _, _, _, _⟩) (v := .bool true) rfl (by kernel_rfl) (by kernel_rfl) (by kernel_rfl) (fun _ _ _ h => h) (Or.inl ⟨by rfl, by intro W _; go_simp⟩) (hrng.out _ z27) ?_
            try simp only [Act.put, List.setIfInBounds_toArray, List.set_cons_zero, List.set_cons_succ]
            refine wpAnyH_take (i := 30) (oi := ⟨some 8, .assign (.tmp 65), _, _, _, _⟩) (v := .bool true) rfl (by kernel_rfl) (by kernel_rfl) (by kernel_rfl) (fun _ _ _ h => h) (Or.inl ⟨by rfl, by intro W _; go_simp⟩) (hrng.out _ z27) ?_
            try simp only [Act.put, List.setIfInBounds_toArray, List.set_cons_zero, List.set_cons_succ]
            refine wpAnyH_done (by kernel_rfl) ?_ _
            go_wp2
            go_ret
            exact ⟨rfl, below_then hB6 z27⟩
          refine AllReadyH.cons (o := ⟨some 62, .buildSlice 27 3 #[(0, .tmp 58), (1, .const (.slice none 0 0)), (2, .tmp 61)], _, _, _, _⟩) rfl (fun K hK => ?_) ?_
          · skip
            go_simp
            have f25 := And.intro (fP3.out w24 z24) ((Below.refl w24.heap.size w24).alloc (Nat.le_refl _) (.cells #[.slice ph a cap2, .slice none 0 0, .slice pt (m2 - a) (cap2 - a)] 22))
            generalize World.alloc w24 (.cells #[.slice ph a cap2, .slice none 0 0, .slice pt (m2 - a) (cap2 - a)] 22) = w25 at f25 ⊢
            obtain ⟨r26, b25⟩ := f25
            replace r17 := r17.call b25
            have z25 := below_then z24 b25
            refine hK.out _ _ (hrng.out _ z25) (fun _ => ?_)
            clear hK K
            try simp only [Act.put, List.setIfInBounds_toArray, List.set_cons_zero, List.set_cons_succ]
            refine wpAnyH_ready (rs := [18]) (by kernel_rfl) (by simp) ?_
            refine AllReadyH.cons (o := ⟨some 54, .call { callee := .value (.func 12), args := #[.tmp 51, .tmp 53], argTypes := #[24, 27] }, _, _, _, _⟩) rfl (fun K hK => ?_) AllReadyH.nil
            go_simp
            refine (dT1.out w25 w23.heap.size z25 r17).mono ?_
            rintro e' w26 ⟨rfl, b26⟩
            clear r17
            replace r26 := r26.call b26
            have z26 := below_then z25 b26
            refine hK.out _ _ (hrng.out _ z26) (fun _ => ?_)
            clear hK K
            try simp only [Act.put, List.setIfInBounds_toArray, List.set_cons_zero, List.set_cons_succ]
            refine wpAnyH_ready (rs := [27]) (by kernel_rfl) (by simp) ?_
            refine AllReadyH.cons (o := ⟨some 63, .call { callee := .value (.func 12), args := #[.tmp 55, .tmp 62], argTypes := #[24, 27] }, _, _, _, _⟩) rfl (fun K hK => ?_) AllReadyH.nil
            go_simp
            refine (dT2.out w26 w24.heap.size z26 r26).mono ?_
            rintro e' w27 ⟨rfl, b27⟩
            clear r26
            have z27 := below_then z26 b27
            refine hK.out _ _ (hrng.out _ z27) (fun _ => ?_)
            clear hK K
            try simp only [Act.put, List.setIfInBounds_toArray, List.set_cons_zero, List.set_cons_succ]
            refine wpAnyH_take (i := 28) (oi := ⟨some 64, .binOp .eql 26 (.tmp 54) (.tmp 63) 26, _, _, _, _⟩) (v := .bool true) rfl (by kernel_rfl) (by kernel_rfl) (by kernel_rfl) (fun _ _ _ h => h) (Or.inl ⟨by rfl, by intro W _; go_simp⟩) (hrng.out _ z27) ?_
            try simp only [Act.put, List.setIfInBounds_toArray, List.set_cons_zero, List.set_cons_succ]
            refine wpAnyH_take (i := 29) (oi := ⟨some 65, .pick (.tmp 50) (.tmp 64) (.const (.bool false)), _, _, _, _⟩) (v := .bool true) rfl (by kernel_rfl) (by kernel_rfl) (by kernel_rfl) (fun _ _ _ h => h) (Or.inl ⟨by rfl, by intro W _; go_simp⟩) (hrng.out _ z27) ?_
            try simp only [Act.put, List.setIfInBounds_toArray, List.set_cons_zero, List.set_cons_succ]
            refine wpAnyH_take (i := 30) (oi := ⟨some 8, .assign (.tmp 65), _, _, _, _⟩) (v := .bool true) rfl (by kernel_rfl) (by kernel_rfl) (by kernel_rfl) (fun _ _ _ h => h) (Or.inl ⟨by rfl, by intro W _; go_simp⟩) (hrng.out _ z27) ?_
            try simp only [Act.put, List.setIfInBounds_toArray, List.set_cons_zero, List.set_cons_succ]
            refine wpAnyH_done (by kernel_rfl) ?_ _
            go_wp2
            go_ret
            exact ⟨rfl, below_then hB6 z27⟩
          exact AllReadyH.nil
        refine AllReadyH.cons (o := ⟨some 62, .buildSlice 27 3 #[(0, .tmp 58), (1, .const (.slice none 0 0)), (2, .tmp 61)], _, _, _, _⟩) rfl (fun K hK => ?_) ?_
        · skip
          go_simp
          have f24 := And.intro (fP3.out w23 z23) ((Below.refl w23.heap.size w23).alloc (Nat.le_refl _) (.cells #[.slice ph a cap2, .slice none 0 0, .slice pt (m2 - a) (cap2 - a)] 22))
          generalize World.alloc w23 (.cells #[.slice ph a cap2, .slice none 0 0, .slice pt (m2 - a) (cap2 - a)] 22) = w24 at f24 ⊢
          obtain ⟨r26, b24⟩ := f24
          have z24 := below_then z23 b24
          refine hK.out _ _ (hrng.out _ z24) (fun _ => ?_)
          clear hK K
          try simp only [Act.put, List.setIfInBounds_toArray, List.set_cons_zero, List.set_cons_succ]
          refine wpAnyH_ready (rs := [17]) (by kernel_rfl) (by simp) ?_
          refine AllReadyH.cons (o := ⟨some 53, .buildSlice 27 1 #[(0, .tmp 52)], _, _, _, _⟩) rfl (fun K hK => ?_) AllReadyH.nil
          go_simp
          have f25 := And.intro (fP1.out w24 z24) ((Below.refl w24.heap.size w24).alloc (Nat.le_refl _) (.cells #[.slice p2 m2 cap2] 22))
          generalize World.alloc w24 (.cells #[.slice p2 m2 cap2] 22) = w25 at f25 ⊢
          obtain ⟨r17, b25⟩ := f25
          replace r26 := r26.call b25
          have z25 := below_then z24 b25
          refine hK.out _ _ (hrng.out _ z25) (fun _ => ?_)
          clear hK K
          try simp only [Act.put, List.setIfInBounds_toArray, List.set_cons_zero, List.set_cons_succ]
          refine wpAnyH_ready (rs := [18]) (by kernel_rfl) (by simp) ?_
          refine AllReadyH.cons (o := ⟨some 54, .call { callee := .value (.func 12), args := #[.tmp 51, .tmp 53], argTypes := #[24, 27] }, _, _, _, _⟩) rfl (fun K hK => ?_) AllReadyH.nil
          go_simp
          refine (dT1.out w25 w24.heap.size z25 r17).mono ?_
          rintro e' w26 ⟨rfl, b26⟩
          clear r17
          replace r26 := r26.call b26
          have z26 := below_then z25 b26
          refine hK.out _ _ (hrng.out _ z26) (fun _ => ?_)
          clear hK K
          try simp only [Act.put, List.setIfInBounds_toArray, List.set_cons_zero, List.set_cons_succ]
          refine wpAnyH_ready (rs := [27]) (by kernel_rfl) (by simp) ?_
          refine AllReadyH.cons (o := ⟨some 63, .call { callee := .value (.func 12), args := #[.tmp 55, .tmp 62], argTypes := #[24, 27] }, _, _, _, _⟩) rfl (fun K hK => ?_) AllReadyH.nil
          go_simp
          refine (dT2.out w26 w23.heap.size z26 r26).mono ?_
          rintro e' w27 ⟨rfl, b27⟩
          clear r26
          have z27 := below_then z26 b27
          refine hK.out _ _ (hrng.out _ z27) (fun _ => ?_)
          clear hK K
          try simp only [Act.put, List.setIfInBounds_toArray, List.set_cons_zero, List.set_cons_succ]
          refine wpAnyH_take (i := 28) (oi := ⟨some 64, .binOp .eql 26 (.tmp 54) (.tmp 63) 26, _, _, _, _⟩) (v := .bool true) rfl (by kernel_rfl) (by kernel_rfl) (by kernel_rfl) (fun _ _ _ h => h) (Or.inl ⟨by rfl, by intro W _; go_simp⟩) (hrng.out _ z27) ?_
          try simp only [Act.put, List.setIfInBounds_toArray, List.set_cons_zero, List.set_cons_succ]
          refine wpAnyH_take (i := 29) (oi := ⟨some 65, .pick (.tmp 50) (.tmp 64) (.const (.bool false)), _, _, _, _⟩) (v := .bool true) rfl (by kernel_rfl) (by kernel_rfl) (by kernel_rfl) (fun _ _ _ h => h) (Or.inl ⟨by rfl, by intro W _; go_simp⟩) (hrng.out _ z27) ?_
          try simp only [Act.put, List.setIfInBounds_toArray, List.set_cons_zero, List.set_cons_succ]
          refine wpAnyH_take (i := 30) (oi := ⟨some 8, .assign (.tmp 65), _, _, _, _⟩) (v := .bool true) rfl (by kernel_rfl) (by kernel_rfl) (by kernel_rfl) (fun _ _ _ h => h) (Or.inl ⟨by rfl, by intro W _; go_simp⟩) (hrng.out _ z27) ?_
          try simp only [Act.put, List.setIfInBounds_toArray, List.set_cons_zero, List.set_cons_succ]
          refine wpAnyH_done (by kernel_rfl) ?_ _
          go_wp2
          go_ret
          exact ⟨rfl, below_then hB6 z27⟩
        exact AllReadyH.nil
      exact AllReadyH.nil
    refine AllReadyH.cons (o := ⟨some 47, .buildSlice 27 2 #[(0, .tmp 43), (1, .tmp 46)], _, _, _, _⟩) rfl (fun K hK => ?_) ?_
    · skip
      go_simp
      have f20 := And.intro (fP2.out wd zd) ((Below.refl wd.heap.size wd).alloc (Nat.le_refl _) (.cells #[.slice ph a cap2, .slice pt (m2 - a) (cap2 - a)] 22))
      generalize World.alloc wd (.cells #[.slice ph a cap2, .slice pt (m2 - a) (cap2 - a)] 22) = w20 at f20 ⊢
      obtain ⟨r11, b20⟩ := f20
      have z20 := below_then zd b20
      refine hK.out _ _ (hrng.out _ z20) (fun _ => ?_)
      clear hK K
      try simp only [Act.put, List.setIfInBounds_toArray, List.set_cons_zero, List.set_cons_succ]
      refine wpAnyH_ready (rs := [2]) (by kernel_rfl) (by simp) ?_
      refine AllReadyH.cons (o := ⟨some 38, .buildSlice 27 1 #[(0, .tmp 37)], _, _, _, _⟩) rfl (fun K hK => ?_) AllReadyH.nil
      go_simp
      have f21 := And.intro (fP1.out w20 z20) ((Below.refl w20.heap.size w20).alloc (Nat.le_refl _) (.cells #[.slice p2 m2 cap2] 22))
      generalize World.alloc w20 (.cells #[.slice p2 m2 cap2] 22) = w21 at f21 ⊢
      obtain ⟨r2, b21⟩ := f21
      replace r11 := r11.call b21
      have z21 := below_then z20 b21
      refine hK.out _ _ (hrng.out _ z21) (fun _ => ?_)
      clear hK K
      try simp only [Act.put, List.setIfInBounds_toArray, List.set_cons_zero, List.set_cons_succ]
      refine wpAnyH_ready (rs := [3]) (by kernel_rfl) (by simp) ?_
      refine AllReadyH.cons (o := ⟨some 39, .call { callee := .value (.func 9), args := #[.tmp 36, .tmp 38], argTypes := #[22, 27] }, _, _, _, _⟩) rfl (fun K hK => ?_) AllReadyH.nil
      go_simp
      refine (dC1.out w21 w20.heap.size z21 r2).mono ?_
      rintro e' w22 ⟨rfl, b22⟩
      clear r2
      replace r11 := r11.call b22
      have z22 := below_then z21 b22
      refine hK.out _ _ (hrng.out _ z22) (fun _ => ?_)
      clear hK K
      try simp only [Act.put, List.setIfInBounds_toArray, List.set_cons_zero, List.set_cons_succ]
      refine wpAnyH_ready (rs := [12]) (by kernel_rfl) (by simp) ?_
      refine AllReadyH.cons (o := ⟨some 48, .call { callee := .value (.func 9), args := #[.tmp 40, .tmp 47], argTypes := #[22, 27] }, _, _, _, _⟩) rfl (fun K hK => ?_) AllReadyH.nil
      go_simp
      refine (dC2.out w22 wd.heap.size z22 r11).mono ?_
      rintro e' w23 ⟨rfl, b23⟩
      clear r11
      have z23 := below_then z22 b23
      refine hK.out _ _ (hrng.out _ z23) (fun _ => ?_)
      clear hK K
      try simp only [Act.put, List.setIfInBounds_toArray, List.set_cons_zero, List.set_cons_succ]
      refine wpAnyH_take (i := 13) (oi := ⟨some 49, .binOp .eql 31 (.tmp 39) (.tmp 48) 31, _, _, _, _⟩) (v := .bool true) rfl (by kernel_rfl) (by kernel_rfl) (by kernel_rfl) (fun _ _ _ h => h) (Or.inl ⟨by rfl, by intro W _; go_simp⟩) (hrng.out _ z23) ?_
      try simp only [Act.put, List.setIfInBounds_toArray, List.set_cons_zero, List.set_cons_succ]
      refine wpAnyH_take (i := 14) (oi := ⟨some 50, .move (.tmp 49), _, _, _, _⟩) (v := .bool true) rfl (by kernel_rfl) (by kernel_rfl) (by kernel_rfl) (fun _ _ _ h => h) (Or.inl ⟨by rfl, by intro W _; go_simp⟩) (hrng.out _ z23) ?_
      try simp only [Act.put, List.setIfInBounds_toArray, List.set_cons_zero, List.set_cons_succ]
      refine wpAnyH_take (i := 15) (oi := ⟨some 51, .load 24 (.tmp 5), _, _, _, _⟩) (v := .agg Ck.toArray) rfl (by kernel_rfl) (by kernel_rfl) (by kernel_rfl) (fun _ _ _ h => h) (yieldsIf_load_mid (by rfl) 24 (.tmp 5) rfl w.heap.size 0 rfl Ck _ (fun _ h => h) huK rfl hiK) (hrng.out _ z23) ?_
      try simp only [Act.put, List.setIfInBounds_toArray, List.set_cons_zero, List.set_cons_succ]
      refine wpAnyH_take (i := 16) (oi := ⟨some 52, .move (.tmp 2), _, _, _, _⟩) (v := .slice p2 m2 cap2) rfl (by kernel_rfl) (by kernel_rfl) (by kernel_rfl) (fun _ _ _ h => h) (Or.inl ⟨by rfl, by intro W _; go_simp⟩) (hrng.out _ z23) ?_
      try simp only [Act.put, List.setIfInBounds_toArray, List.set_cons_zero, List.set_cons_succ]
      refine wpAnyH_take (i := 19) (oi := ⟨some 55, .load 24 (.tmp 5), _, _, _, _⟩) (v := .agg Ck.toArray) rfl (by kernel_rfl) (by kernel_rfl) (by kernel_rfl) (fun _ _ _ h => h) (yieldsIf_load_mid (by rfl) 24 (.tmp 5) rfl w.heap.size 0 rfl Ck _ (fun _ h => h) huK rfl hiK) (hrng.out _ z23) ?_
      try simp only [Act.put, List.setIfInBounds_toArray, List.set_cons_zero, List.set_cons_succ]
      refine wpAnyH_take (i := 20) (oi := ⟨some 56, .move (.tmp 2), _, _, _, _⟩) (v := .slice p2 m2 cap2) rfl (by kernel_rfl) (by kernel_rfl) (by kernel_rfl) (fun _ _ _ h => h) (Or.inl ⟨by rfl, by intro W _; go_simp⟩) (hrng.out _ z23) ?_
      try simp only [Act.put, List.setIfInBounds_toArray, List.set_cons_zero, List.set_cons_succ]
      refine wpAnyH_take (i := 21) (oi := ⟨some 57, .move (.tmp 9), _, _, _, _⟩) (v := .int .i64 (a : Int)) rfl (by kernel_rfl) (by kernel_rfl) (by kernel_rfl) (fun _ _ _ h => h) (Or.inl ⟨by rfl, by intro W _; go_simp⟩) (hrng.out _ z23) ?_
      try simp only [Act.put, List.setIfInBounds_toArray, List.set_cons_zero, List.set_cons_succ]
      refine wpAnyH_take (i := 22) (oi := ⟨some 58, .slice 22 (.tmp 56) none (some (.tmp 57)) none, _, _, _, _⟩) (v := .slice ph a cap2) rfl (by kernel_rfl) (by kernel_rfl) (by kernel_rfl) (fun _ _ _ h => h) (yields_slice (by rfl) 22 (.tmp 56) none (some (.tmp 57)) rfl (.slice p2 m2 cap2) rfl _ _ rfl rfl _ hh.out) (hrng.out _ z23) ?_
      try simp only [Act.put, List.setIfInBounds_toArray, List.set_cons_zero, List.set_cons_succ]
      refine wpAnyH_take (i := 23) (oi := ⟨some 59, .move (.tmp 2), _, _, _, _⟩) (v := .slice p2 m2 cap2) rfl (by kernel_rfl) (by kernel_rfl) (by kernel_rfl) (fun _ _ _ h => h) (Or.inl ⟨by rfl, by intro W _; go_simp⟩) (hrng.out _ z23) ?_
      try simp only [Act.put, List.setIfInBounds_toArray, List.set_cons_zero, List.set_cons_succ]
      refine wpAnyH_take (i := 24) (oi := ⟨some 60, .move (.tmp 9), _, _, _, _⟩) (v := .int .i64 (a : Int)) rfl (by kernel_rfl) (by kernel_rfl) (by kernel_rfl) (fun _ _ _ h => h) (Or.inl ⟨by rfl, by intro W _; go_simp⟩) (hrng.out _ z23) ?_
      try simp only [Act.put, List.setIfInBounds_toArray, List.set_cons_zero, List.set_cons_succ]
      refine wpAnyH_take (i := 25) (oi := ⟨some 61, .slice 22 (.tmp 59) (some (.tmp 60)) none none, _, _, _, _⟩) (v := .slice pt (m2 - a) (cap2 - a)) rfl (by kernel_rfl) (by kernel_rfl) (by kernel_rfl) (fun _ _ _ h => h) (yields_slice (by rfl) 22 (.tmp 59) (some (.tmp 60)) none rfl (.slice p2 m2 cap2) rfl _ _ rfl rfl _ ht.out) (hrng.out _ z23) ?_
      try simp only [Act.put, List.setIfInBounds_toArray, List.set_cons_zero, List.set_cons_succ]
      refine wpAnyH_ready (rs := [17, 26]) (by kernel_rfl) (by simp) ?_
      refine AllReadyH.cons (o := ⟨some 53, .buildSlice 27 1 #[(0, .tmp 52)], _, _, _, _⟩) rfl (fun K hK => ?_) ?_
      · skip
        go_simp
        have f24 := And.intro (fP1.out w23 z23) ((Below.refl w23.heap.size w23).alloc (Nat.le_refl _) (.cells #[.slice p2 m2 cap2] 22))
        generalize World.alloc w23 (.cells #[.slice p2 m2 cap2] 22) = w24 at f24 ⊢
        obtain ⟨r17, b24⟩ := f24
        have z24 := below_then z23 b24
        refine hK.out _ _ (hrng.out _ z24) (fun _ => ?_)
        clear hK K
        try simp only [Act.put, List.setIfInBounds_toArray, List.set_cons_zero, List.set_cons_succ]
        refine wpAnyH_ready (rs := [18, 26]) (by kernel_rfl) (by simp) ?_
        refine AllReadyH.cons (o := ⟨some 54, .call { callee := .value (.func 12), args := #[.tmp 51, .tmp 53], argTypes := #[24, 27] }, _, _, _, _⟩) rfl (fun K hK => ?_) ?_
        · skip
          go_simp
          refine (dT1.out w24 w23.heap.size z24 r17).mono ?_
          rintro e' w25 ⟨rfl, b25⟩
          clear r17
          have z25 := below_then z24 b25
          refine hK.out _ _ (hrng.out _ z25) (fun _ => ?_)
          clear hK K
          try simp only [Act.put, List.setIfInBounds_toArray, List.set_cons_zero, List.set_cons_succ]
          refine wpAnyH_ready (rs := [26]) (by kernel_rfl) (by simp) ?_
          refine AllReadyH.cons (o := ⟨some 62, .buildSlice 27 3 #[(0, .tmp 58), (1, .const (.slice none 0 0)), (2, .tmp 61)], _, _, _, _⟩) rfl (fun K hK => ?_) AllReadyH.nil
          go_simp
          have f26 := And.intro (fP3.out w25 z25) ((Below.refl w25.heap.size w25).alloc (Nat.le_refl _) (.cells #[.slice ph a cap2, .slice none 0 0, .slice pt (m2 - a) (cap2 - a)] 22))
          generalize World.alloc w25 (.cells #[.slice ph a cap2, .slice none 0 0, .slice pt (m2 - a) (cap2 - a)] 22) = w26 at f26 ⊢
          obtain ⟨r26, b26⟩ := f26
          have z26 := below_then z25 b26
          refine hK.out _ _ (hrng.out _ z26) (fun _ => ?_)
          clear hK K
          try simp only [Act.put, List.setIfInBounds_toArray, List.set_cons_zero, List.set_cons_succ]
          refine wpAnyH_ready (rs := [27]) (by kernel_rfl) (by simp) ?_
          refine AllReadyH.cons (o := ⟨some 63, .call { callee := .value (.func 12), args := #[.tmp 55, .tmp 62], argTypes := #[24, 27] }, _, _, _, _⟩) rfl (fun K hK => ?_) AllReadyH.nil
          go_simp
          refine (dT2.out w26 w25.heap.size z26 r26).mono ?_
          rintro e' w27 ⟨rfl, b27⟩
          clear r26
          have z27 := below_then z26 b27
          refine hK.out _ _ (hrng.out _ z27) (fun _ => ?_)
          clear hK K
          try simp only [Act.put, List.setIfInBounds_toArray, List.set_cons_zero, List.set_cons_succ]
          refine wpAnyH_take (i := 28) (oi := ⟨some 64, .binOp .eql 26 (.tmp 54) (.tmp 63) 26, _, _, _, _⟩) (v := .bool true) rfl (by kernel_rfl) (by kernel_rfl) (by kernel_rfl) (fun _ _ _ h => h) (Or.inl ⟨by rfl, by intro W _; go_simp⟩) (hrng.out _ z27) ?_
          try simp only [Act.put, List.setIfInBounds_toArray, List.set_cons_zero, List.set_cons_succ]
          refine wpAnyH_take (i := 29) (oi := ⟨some 65, .pick (.tmp 50) (.tmp 64) (.const (.bool false)), _, _, _, _⟩) (v := .bool true) rfl (by kernel_rfl) (by kernel_rfl) (by kernel_rfl) (fun _ _ _ h => h) (Or.inl ⟨by rfl, by intro W _; go_simp⟩) (hrng.out _ z27) ?_
          try simp only [Act.put, List.setIfInBounds_toArray, List.set_cons_zero, List.set_cons_succ]
          refine wpAnyH_take (i := 30) (oi := ⟨some 8, .assign (.tmp 65), _, _, _, _⟩) (v := .bool true) rfl (by kernel_rfl) (by kernel_rfl) (by kernel_rfl) (fun _ _ _ h => h) (Or.inl ⟨by rfl, by intro W _; go_simp⟩) (hrng.out _ z27) ?_
          try simp only [Act.put, List.setIfInBounds_toArray, List.set_cons_zero, List.set_cons_succ]
          refine wpAnyH_done (by kernel_rfl) ?_ _
          go_wp2
          go_ret
          exact ⟨rfl, below_then hB6 z27⟩
        refine AllReadyH.cons (o := ⟨some 62, .buildSlice 27 3 #[(0, .tmp 58), (1, .const (.slice none 0 0)), (2, .tmp 61)], _, _, _, _⟩) rfl (fun K hK => ?_) ?_
        · skip
          go_simp
          have f25 := And.intro (fP3.out w24 z24) ((Below.refl w24.heap.size w24).alloc (Nat.le_refl _) (.cells #[.slice ph a cap2, .slice none 0 0, .slice pt (m2 - a) (cap2 - a)] 22))
          generalize World.alloc w24 (.cells #[.slice ph a cap2, .slice none 0 0, .slice pt (m2 - a) (cap2 - a)] 22) = w25 at f25 ⊢
          obtain ⟨r26, b25⟩ := f25
          replace r17 := r17.call b25
          have z25 := below_then z24 b25
          refine hK.out _ _ (hrng.out _ z25) (fun _ => ?_)
          clear hK K
          try simp only [Act.put, List.setIfInBounds_toArray, List.set_cons_zero, List.set_cons_succ]
          refine wpAnyH_ready (rs := [18]) (by kernel_rfl) (by simp) ?_
          refine AllReadyH.cons (o := ⟨some 54, .call { callee := .value (.func 12), args := #[.tmp 51, .tmp 53], argTypes := #[24, 27] }, _, _, _, _⟩) rfl (fun K hK => ?_) AllReadyH.nil
          go_simp
          refine (dT1.out w25 w23.heap.size z25 r17).mono ?_
          rintro e' w26 ⟨rfl, b26⟩
          clear r17
          replace r26 := r26.call b26
          have z26 := below_then z25 b26
          refine hK.out _ _ (hrng.out _ z26) (fun _ => ?_)
          clear hK K
          try simp only [Act.put, List.setIfInBounds_toArray, List.set_cons_zero, List.set_cons_succ]
          refine wpAnyH_ready (rs := [27]) (by kernel_rfl) (by simp) ?_
          refine AllReadyH.cons (o := ⟨some 63, .call { callee := .value (.func 12), args := #[.tmp 55, .tmp 62], argTypes := #[24, 27] }, _, _, _, _⟩) rfl (fun K hK => ?_) AllReadyH.nil
          go_simp
          refine (dT2.out w26 w24.heap.size z26 r26).mono ?_
          rintro e' w27 ⟨rfl, b27⟩
          clear r26
          have z27 := below_then z26 b27
          refine hK.out _ _ (hrng.out _ z27) (fun _ => ?_)
          clear hK K
          try simp only [Act.put, List.setIfInBounds_toArray, List.set_cons_zero, List.set_cons_succ]
          refine wpAnyH_take (i := 28) (oi := ⟨some 64, .binOp .eql 26 (.tmp 54) (.tmp 63) 26, _, _, _, _⟩) (v := .bool true) rfl (by kernel_rfl) (by kernel_rfl) (by kernel_rfl) (fun _ _ _ h => h) (Or.inl ⟨by rfl, by intro W _; go_simp⟩) (hrng.out _ z27) ?_
          try simp only [Act.put, List.setIfInBounds_toArray, List.set_cons_zero, List.set_cons_succ]
          refine wpAnyH_take (i := 29) (oi := ⟨some 65, .pick (.tmp 50) (.tmp 64) (.const (.bool false)), _, _, _, _⟩) (v := .bool true) rfl (by kernel_rfl) (by kernel_rfl) (by kernel_rfl) (fun _ _ _ h => h) (Or.inl ⟨by rfl, by intro W _; go_simp⟩) (hrng.out _ z27) ?_
          try simp only [Act.put, List.setIfInBounds_toArray, List.set_cons_zero, List.set_cons_succ]
          refine wpAnyH_take (i := 30) (oi := ⟨some 8, .assign (.tmp 65), _, _, _, _⟩) (v := .bool true) rfl (by kernel_rfl) (by kernel_rfl) (by kernel_rfl) (fun _ _ _ h => h) (Or.inl ⟨by rfl, by intro W _; go_simp⟩) (hrng.out _ z27) ?_
          try simp only [Act.put, List.setIfInBounds_toArray, List.set_cons_zero, List.set_cons_succ]
          refine wpAnyH_done (by kernel_rfl) ?_ _
          go_wp2
          go_ret
          exact ⟨rfl, below_then hB6 z27⟩
        exact AllReadyH.nil
      refine AllReadyH.cons (o := ⟨some 62, .buildSlice 27 3 #[(0, .tmp 58), (1, .const (.slice none 0 0)), (2, .tmp 61)], _, _, _, _⟩) rfl (fun K hK => ?_) ?_
      · skip
        go_simp
        have f24 := And.intro (fP3.out w23 z23) ((Below.refl w23.heap.size w23).alloc (Nat.le_refl _) (.cells #[.slice ph a cap2, .slice none 0 0, .slice pt (m2 - a) (cap2 - a)] 22))
        generalize World.alloc w23 (.cells #[.slice ph a cap2, .slice none 0 0, .slice pt (m2 - a) (cap2 - a)] 22) = w24 at f24 ⊢
        obtain ⟨r26, b24⟩ := f24
        have z24 := below_then z23 b24
        refine hK.out _ _ (hrng.out _ z24) (fun _ => ?_)
        clear hK K
        try simp only [Act.put, List.setIfInBounds_toArray, List.set_cons_zero, List.set_cons_succ]
        refine wpAnyH_ready (rs := [17]) (by kernel_rfl) (by simp) ?_
        refine AllReadyH.cons (o := ⟨some 53, .buildSlice 27 1 #[(0, .tmp 52)], _, _, _, _⟩) rfl (fun K hK => ?_) AllReadyH.nil
        go_simp
        have f25 := And.intro (fP1.out w24 z24) ((Below.refl w24.heap.size w24).alloc (Nat.le_refl _) (.cells #[.slice p2 m2 cap2] 22))
        generalize World.alloc w24 (.cells #[.slice p2 m2 cap2] 22) = w25 at f25 ⊢
        obtain ⟨r17, b25⟩ := f25
        replace r26 := r26.call b25
        have z25 := below_then z24 b25
        refine hK.out _ _ (hrng.out _ z25) (fun _ => ?_)
        clear hK K
        try simp only [Act.put, List.setIfInBounds_toArray, List.set_cons_zero, List.set_cons_succ]
        refine wpAnyH_ready (rs := [18]) (by kernel_rfl) (by simp) ?_
        refine AllReadyH.cons (o := ⟨some 54, .call { callee := .value (.func 12), args := #[.tmp 51, .tmp 53], argTypes := #[24, 27] }, _, _, _, _⟩) rfl (fun K hK => ?_) AllReadyH.nil
        go_simp
        refine (dT1.out w25 w24.heap.size z25 r17).mono ?_
        rintro e' w26 ⟨rfl, b26⟩
        clear r17
        replace r26 := r26.call b26
        have z26 := below_then z25 b26
        refine hK.out _ _ (hrng.out _ z26) (fun _ => ?_)
        clear hK K
        try simp only [Act.put, List.setIfInBounds_toArray, List.set_cons_zero, List.set_cons_succ]
        refine wpAnyH_ready (rs := [27]) (by kernel_rfl) (by simp) ?_
        refine AllReadyH.cons (o := ⟨some 63, .call { callee := .value (.func 12), args := #[.tmp 55, .tmp 62], argTypes := #[24, 27] }, _, _, _, _⟩) rfl (fun K hK => ?_) AllReadyH.nil
        go_simp
        refine (dT2.out w26 w23.heap.size z26 r26).mono ?_
        rintro e' w27 ⟨rfl, b27⟩
        clear r26
        have z27 := below_then z26 b27
        refine hK.out _ _ (hrng.out _ z27) (fun _ => ?_)
        clear hK K
        try simp only [Act.put, List.setIfInBounds_toArray, List.set_cons_zero, List.set_cons_succ]
        refine wpAnyH_take (i := 28) (oi := ⟨some 64, .binOp .eql 26 (.tmp 54) (.tmp 63) 26, _, _, _, _⟩) (v := .bool true) rfl (by kernel_rfl) (by kernel_rfl) (by kernel_rfl) (fun _ _ _ h => h) (Or.inl ⟨by rfl, by intro W _; go_simp⟩) (hrng.out _ z27) ?_
        try simp only [Act.put, List.setIfInBounds_toArray, List.set_cons_zero, List.set_cons_succ]
        refine wpAnyH_take (i := 29) (oi := ⟨some 65, .pick (.tmp 50) (.tmp 64) (.const (.bool false)), _, _, _, _⟩) (v := .bool true) rfl (by kernel_rfl) (by kernel_rfl) (by kernel_rfl) (fun _ _ _ h => h) (Or.inl ⟨by rfl, by intro W _; go_simp⟩) (hrng.out _ z27) ?_
        try simp only [Act.put, List.setIfInBounds_toArray, List.set_cons_zero, List.set_cons_succ]
        refine wpAnyH_take (i := 30) (oi := ⟨some 8, .assign (.tmp 65), _, _, _, _⟩) (v := .bool true) rfl (by kernel_rfl) (by kernel_rfl) (by kernel_rfl) (fun _ _ _ h => h) (Or.inl ⟨by rfl, by intro W _; go_simp⟩) (hrng.out _ z27) ?_
        try simp only [Act.put, List.setIfInBounds_toArray, List.set_cons_zero, List.set_cons_succ]
        refine wpAnyH_done (by kernel_rfl) ?_ _
        go_wp2
        go_ret
        exact ⟨rfl, below_then hB6 z27⟩
      exact AllReadyH.nil
    exact AllReadyH.nil


set_option maxRecDepth 100000 in
theorem lifted (os : Os) (started : os.Started) (H : Type) (enc : TypeId × Value → H) :
    ReturnsInHanded {} Tryd.checked os 5 .any (fun w args => (Rows.macPiecesSpec.pre enc Tryd.prog Tryd.f5 [] false w args ∧ laidMetH Tryd.prog laidT w) ∧ sizedMet enc Tryd.prog Tryd.f5 (OpenSpec.ofChange Rows.macPiecesSpec) false w args)
      (Rows.macPiecesSpec.post enc Tryd.prog Tryd.f5 false true false false) := by
  refine returnsInHanded_of_change_and (C := Tryd.checked) (X := fun w _ => laidMetH Tryd.prog laidT w) (fun _ _ _ hh h => h.of_heap hh) own started (by kernel_rfl) Tryd.func5
    (ChangeSpec.witness_shaped (enc := enc) (C := Tryd.checked) (os := os) (X := fun w _ => laidMetH Tryd.prog laidT w) false (World.doorLaid Tryd.prog 400 os) #[.slice none 0 0, .agg #[.int .u8 0, .int .u8 0, .int .u8 0, .int .u8 0, .int .u8 0, .int .u8 0, .int .u8 0, .int .u8 0, .int .u8 0, .int .u8 0, .int .u8 0, .int .u8 0, .int .u8 0, .int .u8 0, .int .u8 0, .int .u8 0, .int .u8 0, .int .u8 0, .int .u8 0, .int .u8 0, .int .u8 0, .int .u8 0, .int .u8 0, .int .u8 0, .int .u8 0, .int .u8 0, .int .u8 0, .int .u8 0, .int .u8 0, .int .u8 0, .int .u8 0, .int .u8 0], .slice none 0 0, .int .i64 0] 8 rfl (World.shaped_of_RefB (by kernel_rfl) (by kernel_rfl)) (by kernel_rfl) (by kernel_rfl) (by kernel_rfl) (door_met os _)) ?_
  intro W1 base args ds gs before hval0 hW _ _ hL _
  have hval : ∀ (j : Nat) t v, Tryd.f5.params[j]? = some t → args[j]? = some v → Value.okWide Tryd.prog W1 .any base t v := hval0
  have hW' := hW
  obtain ⟨p, q, hA0, hV, rfl, hfz, hnd⟩ := hW
  have hA : DataW.TrodAll enc Tryd.prog W1 0 (fun _ => true) true Tryd.f5.params.toList args.toList ds p := hA0
  rw [Tryd.params5] at hA hval
  obtain ⟨v0, vs0, d0, ds0, p0, q0, hargs, rfl, rfl, h0, r0⟩ := trodAll_cons hA
  obtain ⟨v1, vs1, d1, ds1, p1, q1, rfl, rfl, rfl, h1, r1⟩ := trodAll_cons r0
  obtain ⟨v2, vs2, d2, ds2, p2, q2, rfl, rfl, rfl, h2, r2⟩ := trodAll_cons r1
  obtain ⟨v3, vs3, d3, ds3, p3, q3, rfl, rfl, rfl, h3, r3⟩ := trodAll_cons r2
  obtain ⟨rfl, rfl, rfl⟩ := trodAll_nil r3
  obtain rfl : args = #[v0, v1, v2, v3] := by cases args; simp_all
  obtain ⟨rfl, rfl⟩ := trodVars_none hV
  obtain ⟨key, w0⟩ := open_list (k := .u8) Tryd.underlying22 Tryd.underlying5 (by kernel_rfl) (hval 0 22 v0 rfl rfl) h0
  obtain ⟨k, w1, u1, rfl⟩ := open_bytes Tryd.underlying24 Tryd.underlying5 (by kernel_rfl) (by kernel_rfl) (hval 1 24 v1 rfl rfl) h1
  obtain ⟨ys, w2⟩ := open_list (k := .u8) Tryd.underlying22 Tryd.underlying5 (by kernel_rfl) (hval 2 22 v2 rfl rfl) h2
  obtain ⟨at_, rfl, e3, -, w3⟩ := open_int Tryd.underlying3 (hval 3 3 v3 rfl rfl) h3
  have hS := steps_of_laid hL
  clear hA0 hval0 hval hA hL
  refine (walk v0 key k v2 ys at_ W1 w0 w1 u1 w2 (half_of_wf w3) hS).mono fun e W' ⟨he, hg⟩ => ?_
  subst he
  exact ⟨_, rfl, law_post laidOut (by kernel_rfl) rfl (by kernel_rfl) Tryd.underlying4 hW' rfl hg⟩

theorem over : Rows.MacPiecesSaid :=
  OpenClaim.holds_of_wide 5 Tryd.f5 rfl rfl rfl rfl rfl rfl rfl ⟨rfl, rfl, rfl, rfl, rfl⟩ rfl rfl rfl rfl rfl (by kernel_rfl) Tryd.func5 (by kernel_rfl)
    (of_decide_eq_true (by kernel_rfl)) (by unfold Func.isWrapper; first | (rw [if_pos (by decide +kernel)]; kernel_rfl) | (rw [if_neg (by decide +kernel)]; exact ⟨rfl, rfl⟩))
    (fun os started H enc _ => lifted os started H enc)

theorem proved : Rows.MacPiecesCardSaid :=
  Claim7.holds_tied_plain_at .later [] [.data] true (true, "69e4521ff2fdce1f051ee1d69ed6419597ed824af55348f8ef85668a2928a1fb") false
    over (fun _ h => by cases h) (by kernel_rfl) (fun _ h => by cases h) macPieces_row_tie rfl ⟨rfl, rfl⟩ (by kernel_rfl) rfl
    (fun f fn hf hfn => by
      obtain rfl : f = 5 := Option.some.inj ((show Tryd.prog.funcNamed "pelorus/peloruslaw09.MacPieces" = some 5 by kernel_rfl).symm.trans hf) |>.symm
      obtain rfl : fn = Tryd.f5 := (Option.some.inj (Tryd.func5.symm.trans hfn)).symm
      exact ⟨by kernel_rfl, fun j t ht => by
        rw [Tryd.params5] at ht
        have hm : t ∈ [22, 24, 22, 3] := by simpa using Array.mem_of_getElem? ht
        have hall : ([22, 24, 22, 3].all fun u => !Tryd.prog.wantsStandIn u) = true := by kernel_rfl
        exact (show Tryd.prog.wantsStandIn t = false by simpa using List.all_eq_true.1 hall t hm)⟩)
    (by kernel_rfl)
end Go.Proofs.YtdbmkelcgfmclaaDoor.macPieces
