import Derived.Test.YtodfcbpcgcgijaaGreatDoorJH
import Derived.Test.YtodfcbpcgcgijaaGreatDoorJU
/- What the rows' arguments are; and the chapter's example. -/
namespace Go.Proofs.YtodfcbpcgcgijaaGreatDoor
set_option maxRecDepth 100000
open Go.RowKit Go.ChangeShapes Go.WideShapes Go.ChangeAt
set_option linter.unusedVariables false
attribute [local go_sem] cell_re eqW_self eqV_self eqM_self
attribute [local go_sem ↓] run_eqlW run_neqW run_eqlV run_eqlM run_indexM0 run_indexM1 run_indexM2

theorem run_indexV1' (x y z : Int) (w : World) : (Instr.index 24 (V x y z) (.int .i64 1)).run Tryz.prog w = .ok (.int .i64 y) w := by
  simp [Instr.index, run_underlying Tryz.underlying24, asIntOf, go_sem]
attribute [local go_sem ↓] run_indexV1'
theorem quarter_nums : 4294966272 < sinA 1073741824 := by decide +kernel
set_option maxRecDepth 100000 in
set_option maxHeartbeats 2000000 in
theorem works (K : MatC) (w : World) (hS : Steps w) : Calls Tryz.prog 10 #[] w fun e' w' => e' = .returned (.bool true) ∧ Below w.heap.size w w' := by
  have hw : Word32 1073741824 := by unfold Word32; omega
  have d1 : Hid (∀ W1 : World, Steps W1 → Calls Tryz.prog 30 #[.int .i64 2, .int .u32 1073741824] W1 fun e' w' => e' = .returned (.tuple #[M9 (cosA 1073741824) (-sinA 1073741824) 0 (sinA 1073741824) (cosA 1073741824) 0 0 0 4294967296, .int .i64 0]) ∧ Below W1.heap.size W1 w') := fun W1 h => K.about 2 1073741824 (by unfold Half; omega) hw W1 h
  obtain ⟨bc, bs⟩ := cosA_bd 1073741824 hw
  have hq := quarter_nums
  generalize cosA 1073741824 = c at *
  generalize sinA 1073741824 = s at *
  have hc : Half c := by unfold Half; omega
  have hs : Half s := by unfold Half; omega
  have hn : Half (-s) := by unfold Half; omega
  have h0 : Half 0 := by unfold Half; omega
  have h1 : Half 4294967296 := by unfold Half; omega
  have d2 := Lib.hid (fun W1 : World => K.apply c (-s) 0 s c 0 0 0 4294967296 hc hn h0 hs hc h0 h0 h0 h1 4294967296 0 0 h1 h0 h0 W1)
  have d3 := Lib.hid (fun W1 : World => K.apply c (-s) 0 s c 0 0 0 4294967296 hc hn h0 hs hc h0 h0 h0 h1 0 0 4294967296 h0 h0 h1 W1)
  rw [dot_same0, dot_same0, dot_same0, clip_half hc, clip_half hs, clip_half h0, cut_half hc, cut_half hs, cut_half h0] at d2
  rw [dot_same2, dot_same2, dot_same2, clip_half h0, clip_half h1, cut_half h0, cut_half h1] at d3
  have d4 := Lib.hid (fun W1 : World => K.same W1)
  clear hc hs hn h0 h1 bc bs hw
  have hO : Below w.heap.size w w := Below.refl _ _
  go_enter Tryz.func10, Tryz.ntmps10
  go_wp2_with fail
  refine (d1.out _ hS).mono ?_
  rintro e' w1 ⟨rfl, hb1⟩
  replace hO := below_then hO hb1
  clear hb1
  have hA := Nine.new w1 c (-s) 0 s c 0 0 0 4294967296 26
  replace hO := hO.alloc hO.size (.cells #[.int .i64 c, .int .i64 (-s), .int .i64 0, .int .i64 s, .int .i64 c, .int .i64 0, .int .i64 0, .int .i64 0, .int .i64 4294967296] 26)
  obtain ⟨al, a0, a1, a2, a3, a4, a5, a6, a7, a8, -, -, -, -, -, -, -, -, -⟩ := (id hA : Nine _ _ c (-s) 0 s c 0 0 0 4294967296)
  go_wp2_with fail
  refine (d2.out _).mono ?_
  rintro e' w2 ⟨rfl, hb1⟩
  replace hA := hA.call hb1
  replace hO := below_then hO hb1
  clear hb1
  have hX := Tri.new w2 c s 0 24
  replace hA := hA.alloc (.cells #[.int .i64 c, .int .i64 s, .int .i64 0] 24)
  replace hO := hO.alloc hO.size (.cells #[.int .i64 c, .int .i64 s, .int .i64 0] 24)
  obtain ⟨al, a0, a1, a2, a3, a4, a5, a6, a7, a8, -, -, -, -, -, -, -, -, -⟩ := (id hA : Nine _ _ c (-s) 0 s c 0 0 0 4294967296)
  go_wp2_with fail
  refine (d3.out _).mono ?_
  rintro e' w3 ⟨rfl, hb1⟩
  replace hX := hX.call hb1
  replace hO := below_then hO hb1
  clear hb1
  have hZ := Tri.new w3 0 0 4294967296 24
  replace hX := hX.alloc (.cells #[.int .i64 0, .int .i64 0, .int .i64 4294967296] 24)
  replace hO := hO.alloc hO.size (.cells #[.int .i64 0, .int .i64 0, .int .i64 4294967296] 24)
  obtain ⟨xl, x0, x1, x2, -, -, -⟩ := (id hX : Tri _ _ c s 0)
  obtain ⟨zl, z0, z1, z2, -, -, -⟩ := (id hZ : Tri _ _ 0 0 4294967296)

  go_wp2_with fail
  refine (d4.out _).mono ?_
  rintro e' w4 ⟨rfl, hb1⟩
  replace hO := below_then hO hb1
  go_wp2
  go_ret
  exact ⟨rfl, hO⟩

section
variable {H : Type} {enc : TypeId × Value → H} {w : World} {base : Nat} {spare : Nat → Bool} {held : Bool}
theorem array_nine {xs : List Value} (h : xs.length = 9) : ∃ c0 c1 c2 c3 c4 c5 c6 c7 c8, xs = [c0, c1, c2, c3, c4, c5, c6, c7, c8] :=
  match xs, h with
  | [c0, c1, c2, c3, c4, c5, c6, c7, c8], _ => ⟨c0, c1, c2, c3, c4, c5, c6, c7, c8, rfl⟩
structure NineY (w : World) (blk : Nat) (Y : Nat → Int) : Prop where
  lt : blk < w.heap.size
  c : ∀ k, k < 9 → w.cell? ⟨blk, k, none⟩ = some (.int .i32 (Y k))
theorem NineY.call {w w' : World} {blk : Nat} {Y : Nat → Int} (h : NineY w blk Y) (hb : Below w.heap.size w w') : NineY w' blk Y :=
  ⟨Nat.lt_of_lt_of_le h.lt hb.size, fun k hk => (hb.cell (p := ⟨blk, k, none⟩) h.lt).trans (h.c k hk)⟩
theorem NineY.alloc {w : World} {blk : Nat} {Y : Nat → Int} (h : NineY w blk Y) (o : Obj) : NineY (w.alloc o) blk Y := h.call ((Below.refl _ _).alloc (Nat.le_refl _) o)
theorem NineY.new (w : World) (Y : Nat → Int) (t : TypeId) : NineY (w.alloc (.cells #[.int .i32 (Y 0), .int .i32 (Y 1), .int .i32 (Y 2), .int .i32 (Y 3), .int .i32 (Y 4), .int .i32 (Y 5), .int .i32 (Y 6), .int .i32 (Y 7), .int .i32 (Y 8)] t)) w.heap.size Y :=
  ⟨by simp, fun k hk => by
    have : k = 0 ∨ k = 1 ∨ k = 2 ∨ k = 3 ∨ k = 4 ∨ k = 5 ∨ k = 6 ∨ k = 7 ∨ k = 8 := by omega
    rcases this with rfl | rfl | rfl | rfl | rfl | rfl | rfl | rfl | rfl <;> simp [go_sem]⟩
theorem short_bd {n : Int} (h : (Lit.int .i32 n).wf = true) : -2147483648 ≤ n ∧ n ≤ 2147483647 := by
  simp [Lit.wf, IntKind.min, IntKind.max, IntKind.signed, IntKind.bits] at h
  exact ⟨by omega, by omega⟩
end

end Go.Proofs.YtodfcbpcgcgijaaGreatDoor
