/- What pads bytes, in the program. -/
import Derived.Test.YtmhehnimgkmmaaaDoorHasE
import Derived.Test.YtmhehnimgkmmaaaDoorHashC
import Derived.Deep.RegionHeld3
import Derived.Deep.DeepCutAuto
import Derived.IntWalk
import Derived.Laws.MakeOwn
namespace Go.Proofs.YtmhehnimgkmmaaaDoor
set_option maxRecDepth 100000
open Go.RowKit
set_option linter.unusedVariables false
attribute [local go_sem] cell_re

theorem made_ints (k : IntKind) (n : Nat) : madeCells #[.int k 0] n = (ints k (List.replicate n 0)).toArray := by
  apply Array.ext
  · simp [madeCells]
  · intro i h1 h2
    simp [madeCells]
    have : i % 1 = 0 := Nat.mod_one i
    simp [this]
theorem walk_make {P : Program} {w : World} {ops : Array Oper} {rest : List Oper} {o : Oper} {a : Act} {Q : Exit → Act → World → Prop} (hg : o.guard = none) (t e : TypeId) (x y : Operand) (ho : o.op = .makeSlice t x y) (k : IntKind) (i : TypeInfo) (ht : P.underlying t = some (.slice e)) (hi : P.info? e = some i) (hz : i.zero = some (.int k 0)) (h1 : i.size = 1) (hb : i.bytes = 1)
    (n : Nat) (hx : a.eval x = .int .i64 n) (hy : a.eval y = .int .i64 n) (hn : n ≤ 1000000000)
    (h : ∀ w', Arr k w' w.heap.size (List.replicate n 0) → Below w.heap.size w w' → w'.heap.size = w.heap.size + 1 → wpList P ops Q rest (a.put o.dst (.slice (some ⟨w.heap.size, 0, none⟩) n n)) w') : wpList P ops Q (o :: rest) a w := by
  have hr := run_make (P := P) w t e i (.int k 0) ht hi hz .i64 .i64 n n (by omega) (Int.le_refl _) (by rw [hb]; omega) (by omega)
  rw [h1, Int.toNat_natCast, Nat.mul_one, show (Value.int k 0).cells = #[.int k 0] from rfl, made_ints] at hr
  refine wpList_plain hg fun K hK => ?_
  unfold Oper.wp execOp
  simp only [ho, hx, hy, hr, Sem.run_bind, Sem.run_pure, Result.andThen_ok]
  exact hK _ _ (h _ (Arr.new w _ _ e rfl) ((Below.refl _ _).alloc (Nat.le_refl _) _) (by simp))
theorem set_last (m : Nat) (v : Int) (l : List Int) : (128 :: List.replicate (m + 1) 0 ++ l).set (m + 1) v = 128 :: List.replicate m 0 ++ (v :: l) := by
  rw [List.cons_append, List.set_cons_succ, List.cons_append, List.replicate_succ', List.append_assoc, List.set_append_right _ _ (by rw [List.length_replicate]; exact Nat.le_refl _), List.length_replicate, Nat.sub_self]
  rfl
theorem Arr.at_ {k : IntKind} {w : World} {g : Nat} {zs : List Int} (h : Arr k w g zs) : At k w (some ⟨g, 0, none⟩) zs :=
  Or.inr ⟨g, 0, rfl, h.lt, fun j hj => by rw [Nat.zero_add]; exact h.c j hj⟩
/-- What padding hands out. -/
def PadPost (n : Nat) (w : World) (e : Ending) (w' : World) : Prop := ∃ g m, e = .returned (.slice (some ⟨g, 0, none⟩) m m) ∧ m = (padTail n).length ∧ w.heap.size ≤ g ∧ Arr .u8 w' g (padTail n) ∧ Below w.heap.size w w'
set_option maxRecDepth 200000 in
set_option maxHeartbeats 8000000 in
theorem hashPadding (n : Nat) (hn : n ≤ 1000000000) (w : World) : Calls Tryd.prog 37 #[.int .i64 n] w (PadPost n w) := by
  obtain ⟨i0, hi0, hz0, hz1, hz2⟩ := info_parts infoByte
  have hN := Lib.hid hn
  have e1 : Hid (((n : Int) + 1 + 8) % 64 = (((n + 9) % 64 : Nat) : Int)) := by show _ = _; omega
  obtain ⟨ov, hov⟩ : ∃ v, Hid ((n + 9) % 64 = v) := ⟨_, rfl⟩
  obtain ⟨z, hz⟩ : ∃ z, Hid (noughts n = z) := ⟨_, rfl⟩
  have e2 : Hid ((64 - (ov : Int)) % 64 = (z : Int)) := by show _ = _; rw [← hov.out, ← hz.out]; unfold noughts; omega
  have z1 : z ≤ 63 := by rw [← hz.out]; unfold noughts; omega
  have o1 : ov ≤ 63 := by rw [← hov.out]; omega
  obtain ⟨m, hm⟩ : ∃ m, Hid (9 + z = m) := ⟨_, rfl⟩
  have e3 : Hid (1 + (z : Int) + 8 = (m : Int)) := by show _ = _; rw [← hm.out]; omega
  have j4 : IntKind.u64.wrap (n : Int) = n := by rw [IntKind.wrap_u64]; omega
  have j5 : IntKind.u64.wrap ((n : Int) * 8) = 8 * (n : Int) := by rw [IntKind.wrap_u64]; omega
  obtain ⟨N, hNN⟩ : ∃ N, Hid (8 * (n : Int) = N) := ⟨_, rfl⟩
  have hNb := Lib.hid (show 0 ≤ N ∧ N ≤ 8000000000 by rw [← hNN.out]; omega)
  rw [hov.out] at e1
  rw [hNN.out] at j5
  have f1 := e1.out
  have f2 := e2.out
  have f3 := e3.out
  have j0 : (n : Int) ≤ 1000000000 := by omega
  clear e1 e2 e3 hn
  go_enter Tryd.func37, Tryd.ntmps37
  go_wp2_with (refine walk_make rfl 48 5 _ _ rfl .u8 i0 Tryd.underlying48 hi0 hz0 hz1 hz2 m rfl rfl (by rw [← hm.out]; omega) ?_; intro w1 hA1 hB1 hs1; have c0 := hA1.c 0 (by rw [List.length_replicate, ← hm.out]; omega); have f0 := hA1.f 0 (by rw [List.length_replicate, ← hm.out]; omega); generalize (List.replicate m (0 : Int)).getD 0 0 = v0 at c0; have l0 := hA1.lt; have m0 : 0 < m := (by rw [← hm.out]; omega))
  have hA : Arr .u8 (w1.setCell ⟨w.heap.size, 0, none⟩ (.int .u8 128)) w.heap.size (128 :: List.replicate (z + (8 - 0)) 0 ++ lowest 0 N) := (by
    have := hA1.set 0 128 (by rw [List.length_replicate]; exact m0)
    rw [← hm.out, show 9 + z = (z + 8) + 1 by omega, List.replicate_succ, List.set_cons_zero] at this
    rw [lowest, List.append_nil]
    exact this)
  have hB := hB1.setCell (p := ⟨w.heap.size, 0, none⟩) (Nat.le_refl _) (.int .u8 128)
  clear hA1 hB1 hs1 c0 f0 l0
  generalize w1.setCell ⟨w.heap.size, 0, none⟩ (.int .u8 128) = w2 at hA hB ⊢
  generalize hg : w.heap.size = g at *
  have hgw : w.heap.size ≤ g := Nat.le_of_eq hg
  replace hg := Lib.hid hg
  go_loopw [6, 24] (fun v6 v24 wr => ∃ (k : Nat) (x : Int), k ≤ 8 ∧ v24 = .int .i64 k ∧ v6 = .int .u64 x ∧ 0 ≤ x ∧ x ≤ 8000000000 ∧ Hid (x = N / 256 ^ k) ∧ Arr .u8 wr g (128 :: List.replicate (z + (8 - k)) 0 ++ lowest k N) ∧ Below g w wr) (fun _ v24 _ => 8 - (intOf v24).toNat)
  case atStart => exact ⟨0, N, by omega, rfl, rfl, hNb.out.1, hNb.out.2, by show _ = _; simp, hA, hB⟩
  case round =>
    clear hA hB
    obtain ⟨k, x, hk, rfl, rfl, x0, x1, hx, hA, hB⟩ := hrel
    have hPl : Hid ((128 :: List.replicate (z + (8 - k)) 0 ++ lowest k N).length = m) := by show _ = _; rw [← hm.out]; simp [lowest_len]; omega
    by_cases hlt : k < 8
    · have hln := hPl.out
      have hmm := hm.out
      have cI := hA.c (m - 1 - k) (by omega)
      have fI := hA.f (m - 1 - k) (by omega)
      have gl := hA.lt
      have e1 : Hid (x / 256 = N / 256 ^ (k + 1)) := by show _ = _; rw [div256, hx.out]
      have e2 : Hid ([x % 256] ++ lowest k N = lowest (k + 1) N) := by show _ = _; rw [lowest, hx.out]
      have hst := Lib.hid (show Arr .u8 (wr.setCell ⟨g, m - 1 - k, none⟩ (.int .u8 (x % 256))) g (128 :: List.replicate (z + (8 - (k + 1))) 0 ++ lowest (k + 1) N) from by
        have := hA.set (m - 1 - k) (x % 256) (by omega)
        rw [show m - 1 - k = (z + (8 - (k + 1))) + 1 by omega] at this ⊢
        rw [show z + (8 - k) = (z + (8 - (k + 1))) + 1 by omega, set_last] at this
        rw [← e2.out]
        exact this)
      have hBs := Lib.hid (hB.setCell (p := ⟨g, m - 1 - k, none⟩) (Nat.le_refl _) (.int .u8 (x % 256)))
      generalize (128 :: List.replicate (z + (8 - k)) 0 ++ lowest k N).getD (m - 1 - k) 0 = vI at cI
      have j1 : (k : Int) < 8 := by omega
      have z0 : ((m : Int) - 1 - (k : Int)).toNat = m - 1 - k := by omega
      have n0 : (0 : Int) ≤ (m : Int) - 1 - (k : Int) := by omega
      have t0 : (m : Int) - 1 - (k : Int) < (m : Int) := by omega
      have y0 : (1 : Int) ≤ (m : Int) := by omega
      have b0 : (m : Int) ≤ 100 := by omega
      clear hA hB hln hmm hx
      go_wp2
      go_round
      case rel => exact ⟨k + 1, x / 256, by omega, by go_num, rfl, by omega, by omega, e1, hst.out, hBs.out⟩
      case measure => simp [intOf]; omega
    · obtain rfl : k = 8 := by omega
      rw [show ((8 : Nat) : Int) = 8 from rfl]
      have hpt : Hid (128 :: List.replicate (z + (8 - 8)) 0 ++ lowest 8 N = padTail n) := by show _ = _; rw [lowest8, ← hNN.out, ← hz.out]; rfl
      rw [hpt.out] at hA hPl
      have hfin := Lib.hid (show PadPost n w (.returned (.slice (some ⟨g, 0, none⟩) m m)) wr from ⟨g, m, rfl, hPl.out.symm, hgw, hA, by rw [hg.out]; exact hB⟩)
      go_wp2
      go_ret
      exact hfin.out

end Go.Proofs.YtmhehnimgkmmaaaDoor
