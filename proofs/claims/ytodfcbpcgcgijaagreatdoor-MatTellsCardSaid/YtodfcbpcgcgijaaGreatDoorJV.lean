import Derived.Test.YtodfcbpcgcgijaaGreatDoorJK
import Derived.Test.YtodfcbpcgcgijaaGreatDoorJS
import Derived.Test.YtodfcbpcgcgijaaGreatDoorJN
import Derived.Test.YtodfcbpcgcgijaaGreatDoorJG
import Derived.Test.YtodfcbpcgcgijaaGreatDoorJH
import Derived.Deep.RegionHeld3
import Derived.Deep.DeepCutAuto
/- Package mat: Same, Back, Heading. -/
namespace Go.Proofs.YtodfcbpcgcgijaaGreatDoor
set_option maxRecDepth 100000
open Go.RowKit
set_option linter.unusedVariables false
attribute [local go_sem] cell_re eqW_self eqV_self eqM_self
attribute [local go_sem ↓] run_eqlW run_neqW run_eqlV run_eqlM

attribute [local go_sem ↓] run_indexM0 run_indexM1 run_indexM2 run_indexV0 run_indexV1 run_indexV2
set_option maxRecDepth 100000 in
set_option maxHeartbeats 2000000 in
theorem matSame  (w : World) :
    Calls Tryz.prog 12 #[] w fun e' w' => e' = .returned (M9 4294967296 0 0 0 4294967296 0 0 0 4294967296) ∧ Below w.heap.size w w' := by
  go_enter Tryz.func12, Tryz.ntmps12
  go_wp2
  refine bodyPost_ret (by simp [results, Tryz.results12, go_sem]; try rfl) rfl ?_
  exact ⟨rfl, by go_grown⟩

set_option maxRecDepth 100000 in
set_option maxHeartbeats 8000000 in
theorem matBack (a b c d e f g h i : Int) (w : World) :
    Calls Tryz.prog 22 #[M9 a b c d e f g h i] w fun e' w' => e' = .returned (M9 a d g b e h c f i) ∧ Below w.heap.size w w' := by
  have hR := (Nine.new (w.alloc (.cells #[.int .i64 a, .int .i64 b, .int .i64 c, .int .i64 d, .int .i64 e, .int .i64 f, .int .i64 g, .int .i64 h, .int .i64 i] 26)) 0 0 0 0 0 0 0 0 0 26).alloc (.cells #[.int .i64 0, .int .i64 0, .int .i64 0, .int .i64 0, .int .i64 0, .int .i64 0, .int .i64 0, .int .i64 0, .int .i64 0] 26)
  have hT := Nine.new ((w.alloc (.cells #[.int .i64 a, .int .i64 b, .int .i64 c, .int .i64 d, .int .i64 e, .int .i64 f, .int .i64 g, .int .i64 h, .int .i64 i] 26)).alloc (.cells #[.int .i64 0, .int .i64 0, .int .i64 0, .int .i64 0, .int .i64 0, .int .i64 0, .int .i64 0, .int .i64 0, .int .i64 0] 26)) 0 0 0 0 0 0 0 0 0 26
  rw [World.size_alloc] at hR hT
  rw [World.size_alloc] at hT
  have hO : Below w.heap.size w (((w.alloc (.cells #[.int .i64 a, .int .i64 b, .int .i64 c, .int .i64 d, .int .i64 e, .int .i64 f, .int .i64 g, .int .i64 h, .int .i64 i] 26)).alloc (.cells #[.int .i64 0, .int .i64 0, .int .i64 0, .int .i64 0, .int .i64 0, .int .i64 0, .int .i64 0, .int .i64 0, .int .i64 0] 26)).alloc (.cells #[.int .i64 0, .int .i64 0, .int .i64 0, .int .i64 0, .int .i64 0, .int .i64 0, .int .i64 0, .int .i64 0, .int .i64 0] 26)) := by go_grown
  have gR : w.heap.size + 1 ≠ w.heap.size + 1 + 1 := by omega
  have gO : w.heap.size ≤ w.heap.size + 1 + 1 := by omega
  go_enter Tryz.func22, Tryz.ntmps22
  go_wp2
  generalize (((w.alloc (.cells #[.int .i64 a, .int .i64 b, .int .i64 c, .int .i64 d, .int .i64 e, .int .i64 f, .int .i64 g, .int .i64 h, .int .i64 i] 26)).alloc (.cells #[.int .i64 0, .int .i64 0, .int .i64 0, .int .i64 0, .int .i64 0, .int .i64 0, .int .i64 0, .int .i64 0, .int .i64 0] 26)).alloc (.cells #[.int .i64 0, .int .i64 0, .int .i64 0, .int .i64 0, .int .i64 0, .int .i64 0, .int .i64 0, .int .i64 0, .int .i64 0] 26)) = u0 at hR hT hO ⊢
  refine wp_loop_rounds 4 ?_
  rw [rounds_succ]
  replace hR := hR.alloc (.cells #[.int .i64 a, .int .i64 b, .int .i64 c] 24)
  replace hT := hT.alloc (.cells #[.int .i64 a, .int .i64 b, .int .i64 c] 24)
  replace hO := hO.alloc hO.size (.cells #[.int .i64 a, .int .i64 b, .int .i64 c] 24)
  go_wp2
  generalize World.alloc u0 (.cells #[.int .i64 a, .int .i64 b, .int .i64 c] 24) = u1 at hR hT hO ⊢
  refine wp_loop_rounds 4 ?_
  obtain ⟨tl, t0, t1, t2, t3, t4, t5, t6, t7, t8, -, -, -, -, -, -, -, -, -⟩ := (id hT : Nine _ _ 0 0 0 0 0 0 0 0 0)
  have tf0 := hT.f0
  rw [rounds_succ]
  go_wp2
  replace hR := hR.apart gR 0 (.int .i64 a)
  replace hT := hT.set0 a
  replace hO := hO.setCell (p := ⟨w.heap.size + 1 + 1, 0, none⟩) gO (.int .i64 a)
  clear t0 t1 t2 t3 t4 t5 t6 t7 t8 tl tf0
  generalize World.setCell u1 ⟨w.heap.size + 1 + 1, 0, none⟩ (.int .i64 a) = u2 at hR hT hO ⊢
  obtain ⟨tl, t0, t1, t2, t3, t4, t5, t6, t7, t8, -, -, -, -, -, -, -, -, -⟩ := (id hT : Nine _ _ a 0 0 0 0 0 0 0 0)
  have tf3 := hT.f3
  rw [rounds_succ]
  go_wp2
  replace hR := hR.apart gR 3 (.int .i64 b)
  replace hT := hT.set3 b
  replace hO := hO.setCell (p := ⟨w.heap.size + 1 + 1, 3, none⟩) gO (.int .i64 b)
  clear t0 t1 t2 t3 t4 t5 t6 t7 t8 tl tf3
  generalize World.setCell u2 ⟨w.heap.size + 1 + 1, 3, none⟩ (.int .i64 b) = u3 at hR hT hO ⊢
  obtain ⟨tl, t0, t1, t2, t3, t4, t5, t6, t7, t8, -, -, -, -, -, -, -, -, -⟩ := (id hT : Nine _ _ a 0 0 b 0 0 0 0 0)
  have tf6 := hT.f6
  rw [rounds_succ]
  go_wp2
  replace hR := hR.apart gR 6 (.int .i64 c)
  replace hT := hT.set6 c
  replace hO := hO.setCell (p := ⟨w.heap.size + 1 + 1, 6, none⟩) gO (.int .i64 c)
  clear t0 t1 t2 t3 t4 t5 t6 t7 t8 tl tf6
  generalize World.setCell u3 ⟨w.heap.size + 1 + 1, 6, none⟩ (.int .i64 c) = u4 at hR hT hO ⊢
  rw [rounds_succ]
  go_wp2
  rw [rounds_succ]
  replace hR := hR.alloc (.cells #[.int .i64 d, .int .i64 e, .int .i64 f] 24)
  replace hT := hT.alloc (.cells #[.int .i64 d, .int .i64 e, .int .i64 f] 24)
  replace hO := hO.alloc hO.size (.cells #[.int .i64 d, .int .i64 e, .int .i64 f] 24)
  go_wp2
  generalize World.alloc u4 (.cells #[.int .i64 d, .int .i64 e, .int .i64 f] 24) = u5 at hR hT hO ⊢
  refine wp_loop_rounds 4 ?_
  obtain ⟨tl, t0, t1, t2, t3, t4, t5, t6, t7, t8, -, -, -, -, -, -, -, -, -⟩ := (id hT : Nine _ _ a 0 0 b 0 0 c 0 0)
  have tf1 := hT.f1
  rw [rounds_succ]
  go_wp2
  replace hR := hR.apart gR 1 (.int .i64 d)
  replace hT := hT.set1 d
  replace hO := hO.setCell (p := ⟨w.heap.size + 1 + 1, 1, none⟩) gO (.int .i64 d)
  clear t0 t1 t2 t3 t4 t5 t6 t7 t8 tl tf1
  generalize World.setCell u5 ⟨w.heap.size + 1 + 1, 1, none⟩ (.int .i64 d) = u6 at hR hT hO ⊢
  obtain ⟨tl, t0, t1, t2, t3, t4, t5, t6, t7, t8, -, -, -, -, -, -, -, -, -⟩ := (id hT : Nine _ _ a d 0 b 0 0 c 0 0)
  have tf4 := hT.f4
  rw [rounds_succ]
  go_wp2
  replace hR := hR.apart gR 4 (.int .i64 e)
  replace hT := hT.set4 e
  replace hO := hO.setCell (p := ⟨w.heap.size + 1 + 1, 4, none⟩) gO (.int .i64 e)
  clear t0 t1 t2 t3 t4 t5 t6 t7 t8 tl tf4
  generalize World.setCell u6 ⟨w.heap.size + 1 + 1, 4, none⟩ (.int .i64 e) = u7 at hR hT hO ⊢
  obtain ⟨tl, t0, t1, t2, t3, t4, t5, t6, t7, t8, -, -, -, -, -, -, -, -, -⟩ := (id hT : Nine _ _ a d 0 b e 0 c 0 0)
  have tf7 := hT.f7
  rw [rounds_succ]
  go_wp2
  replace hR := hR.apart gR 7 (.int .i64 f)
  replace hT := hT.set7 f
  replace hO := hO.setCell (p := ⟨w.heap.size + 1 + 1, 7, none⟩) gO (.int .i64 f)
  clear t0 t1 t2 t3 t4 t5 t6 t7 t8 tl tf7
  generalize World.setCell u7 ⟨w.heap.size + 1 + 1, 7, none⟩ (.int .i64 f) = u8 at hR hT hO ⊢
  rw [rounds_succ]
  go_wp2
  rw [rounds_succ]
  replace hR := hR.alloc (.cells #[.int .i64 g, .int .i64 h, .int .i64 i] 24)
  replace hT := hT.alloc (.cells #[.int .i64 g, .int .i64 h, .int .i64 i] 24)
  replace hO := hO.alloc hO.size (.cells #[.int .i64 g, .int .i64 h, .int .i64 i] 24)
  go_wp2
  generalize World.alloc u8 (.cells #[.int .i64 g, .int .i64 h, .int .i64 i] 24) = u9 at hR hT hO ⊢
  refine wp_loop_rounds 4 ?_
  obtain ⟨tl, t0, t1, t2, t3, t4, t5, t6, t7, t8, -, -, -, -, -, -, -, -, -⟩ := (id hT : Nine _ _ a d 0 b e 0 c f 0)
  have tf2 := hT.f2
  rw [rounds_succ]
  go_wp2
  replace hR := hR.apart gR 2 (.int .i64 g)
  replace hT := hT.set2 g
  replace hO := hO.setCell (p := ⟨w.heap.size + 1 + 1, 2, none⟩) gO (.int .i64 g)
  clear t0 t1 t2 t3 t4 t5 t6 t7 t8 tl tf2
  generalize World.setCell u9 ⟨w.heap.size + 1 + 1, 2, none⟩ (.int .i64 g) = u10 at hR hT hO ⊢
  obtain ⟨tl, t0, t1, t2, t3, t4, t5, t6, t7, t8, -, -, -, -, -, -, -, -, -⟩ := (id hT : Nine _ _ a d g b e 0 c f 0)
  have tf5 := hT.f5
  rw [rounds_succ]
  go_wp2
  replace hR := hR.apart gR 5 (.int .i64 h)
  replace hT := hT.set5 h
  replace hO := hO.setCell (p := ⟨w.heap.size + 1 + 1, 5, none⟩) gO (.int .i64 h)
  clear t0 t1 t2 t3 t4 t5 t6 t7 t8 tl tf5
  generalize World.setCell u10 ⟨w.heap.size + 1 + 1, 5, none⟩ (.int .i64 h) = u11 at hR hT hO ⊢
  obtain ⟨tl, t0, t1, t2, t3, t4, t5, t6, t7, t8, -, -, -, -, -, -, -, -, -⟩ := (id hT : Nine _ _ a d g b e h c f 0)
  have tf8 := hT.f8
  rw [rounds_succ]
  go_wp2
  replace hR := hR.apart gR 8 (.int .i64 i)
  replace hT := hT.set8 i
  replace hO := hO.setCell (p := ⟨w.heap.size + 1 + 1, 8, none⟩) gO (.int .i64 i)
  clear t0 t1 t2 t3 t4 t5 t6 t7 t8 tl tf8
  generalize World.setCell u11 ⟨w.heap.size + 1 + 1, 8, none⟩ (.int .i64 i) = u12 at hR hT hO ⊢
  rw [rounds_succ]
  go_wp2
  rw [rounds_succ]
  obtain ⟨tl, t0, t1, t2, t3, t4, t5, t6, t7, t8, -, -, -, -, -, -, -, -, -⟩ := (id hT : Nine _ _ a d g b e h c f i)
  obtain ⟨rl, r0, r1, r2, r3, r4, r5, r6, r7, r8, r9, r10, r11, r12, r13, r14, r15, r16, r17⟩ := hR
  go_wp2
  refine bodyPost_ret (by simp [results, Tryz.results22, go_sem, r0, r1, r2, r3, r4, r5, r6, r7, r8]; try rfl) rfl ?_
  exact ⟨rfl, below_putM hO (by omega) _ _ _ _ _ _ _ _ _⟩

set_option maxRecDepth 100000 in
set_option maxHeartbeats 2000000 in
theorem matHeading (a b c d e f g h i : Int) (ha : Half a) (hb : Half b) (hc : Half c) (hd : Half d) (he : Half e) (hf : Half f) (hg : Half g) (hh : Half h) (hi : Half i) (w : World) (hS : Steps w) :
    Calls Tryz.prog 8 #[M9 a b c d e f g h i] w fun e' w' => e' = .returned (.int .u32 (angA d a)) ∧ Below w.heap.size w w' := by
  have d1 := Lib.hid (fun (W1 : World) (h : Steps W1) => turnAngle d a hd ha W1 h)
  obtain ⟨z, hz⟩ : ∃ z, Hid (angA d a = z) := ⟨_, rfl⟩
  rw [hz.out] at d1 ⊢
  clear ha hb hc hd he hf hg hh hi hz
  have hO : Below w.heap.size w (w.alloc (.cells #[.int .i64 a, .int .i64 b, .int .i64 c, .int .i64 d, .int .i64 e, .int .i64 f, .int .i64 g, .int .i64 h, .int .i64 i] 26)) := by go_grown
  go_enter Tryz.func8, Tryz.ntmps8
  go_wp2_with fail
  refine (d1.out _ (hS.call hO)).mono ?_
  rintro e' w1 ⟨rfl, hb1⟩
  replace hO := below_then hO hb1
  go_wp2
  go_ret
  exact ⟨rfl, hO⟩


end Go.Proofs.YtodfcbpcgcgijaaGreatDoor

/- Package mat: Heading. -/
namespace Go.Proofs.YtodfcbpcgcgijaaGreatDoor
set_option maxRecDepth 100000
open Go.RowKit
set_option linter.unusedVariables false
attribute [local go_sem] cell_re eqW_self eqV_self eqM_self
attribute [local go_sem ↓] run_eqlW run_neqW run_eqlV run_eqlM

attribute [local go_sem ↓] run_indexM0 run_indexM1 run_indexM2 run_indexV0 run_indexV1 run_indexV2
set_option maxRecDepth 100000 in
set_option maxHeartbeats 2000000 in
theorem matHead (a d : Int) (ha : Half a) (hd : Half d) (b c e f g h i : Int) (w : World) (hS : Steps w) :
    Calls Tryz.prog 8 #[M9 a b c d e f g h i] w fun e' w' => e' = .returned (.int .u32 (angA d a)) ∧ Below w.heap.size w w' := by
  have d1 := Lib.hid (fun (W1 : World) (h : Steps W1) => turnAngle d a hd ha W1 h)
  obtain ⟨z, hz⟩ : ∃ z, Hid (angA d a = z) := ⟨_, rfl⟩
  rw [hz.out] at d1 ⊢
  clear ha hd hz
  have hO : Below w.heap.size w (w.alloc (.cells #[.int .i64 a, .int .i64 b, .int .i64 c, .int .i64 d, .int .i64 e, .int .i64 f, .int .i64 g, .int .i64 h, .int .i64 i] 26)) := by go_grown
  go_enter Tryz.func8, Tryz.ntmps8
  go_wp2_with fail
  refine (d1.out _ (hS.call hO)).mono ?_
  rintro e' w1 ⟨rfl, hb1⟩
  replace hO := below_then hO hb1
  go_wp2
  go_ret
  exact ⟨rfl, hO⟩


end Go.Proofs.YtodfcbpcgcgijaaGreatDoor
