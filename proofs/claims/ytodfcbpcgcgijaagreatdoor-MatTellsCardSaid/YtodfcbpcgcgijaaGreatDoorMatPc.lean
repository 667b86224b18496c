import Derived.Test.YtodfcbpcgcgijaaGreatDoorJT
import Derived.Test.YtodfcbpcgcgijaaGreatDoorJK
import Derived.Test.YtodfcbpcgcgijaaGreatDoorJV
import Derived.Test.YtodfcbpcgcgijaaGreatDoorJG
import Derived.Test.YtodfcbpcgcgijaaGreatDoorJH
import Derived.Deep.RegionHeld3
import Derived.Deep.DeepCutAuto
/- Package mat: About. -/
namespace Go.Proofs.YtodfcbpcgcgijaaGreatDoor
set_option maxRecDepth 100000
open Go.RowKit
set_option linter.unusedVariables false
attribute [local go_sem] cell_re eqW_self eqV_self eqM_self
attribute [local go_sem ↓] run_eqlW run_neqW run_eqlV run_eqlM

attribute [local go_sem ↓] run_indexM0 run_indexM1 run_indexM2 run_indexV0 run_indexV1 run_indexV2
set_option maxRecDepth 100000 in
set_option maxHeartbeats 8000000 in
theorem matAbout (k a : Int) (hk : Half k) (ha : Word32 a) (w : World) (hS : Steps w) :
    Calls Tryz.prog 30 #[.int .i64 k, .int .u32 a] w fun e' w' => e' = .returned (aboutOf k (cosA a) (sinA a)) ∧ Below w.heap.size w w' := by
  have d1 := Lib.hid (fun (W1 : World) (h : Steps W1) => turnBoth a ha W1 h)
  obtain ⟨⟨c0, c1⟩, ⟨s0, s1⟩⟩ := cosA_bd a ha
  obtain ⟨c, hc⟩ : ∃ c, Hid (cosA a = c) := ⟨_, rfl⟩
  obtain ⟨s, hs⟩ : ∃ c, Hid (sinA a = c) := ⟨_, rfl⟩
  rw [hc.out] at d1 c0 c1 ⊢
  rw [hs.out] at d1 s0 s1 ⊢
  clear hc hs
  obtain ⟨a0, a1⟩ := ha
  obtain ⟨k0, k1⟩ := hk
  unfold aboutOf
  by_cases h0 : k = 0
  · subst h0
    rw [if_pos rfl]
    have hR := (Nine.new w 0 0 0 0 0 0 0 0 0 26).alloc (.cells #[.int .i64 0, .int .i64 0, .int .i64 0, .int .i64 0, .int .i64 0, .int .i64 0, .int .i64 0, .int .i64 0, .int .i64 0] 26)
    have hT := Nine.new (w.alloc (.cells #[.int .i64 0, .int .i64 0, .int .i64 0, .int .i64 0, .int .i64 0, .int .i64 0, .int .i64 0, .int .i64 0, .int .i64 0] 26)) 0 0 0 0 0 0 0 0 0 26
    rw [World.size_alloc] at hT
    have hO : Below w.heap.size w ((w.alloc (.cells #[.int .i64 0, .int .i64 0, .int .i64 0, .int .i64 0, .int .i64 0, .int .i64 0, .int .i64 0, .int .i64 0, .int .i64 0] 26)).alloc (.cells #[.int .i64 0, .int .i64 0, .int .i64 0, .int .i64 0, .int .i64 0, .int .i64 0, .int .i64 0, .int .i64 0, .int .i64 0] 26)) := by go_grown
    have gR : w.heap.size ≠ w.heap.size + 1 := by omega
    have gO : w.heap.size ≤ w.heap.size + 1 := by omega
    have gO0 : w.heap.size ≤ w.heap.size := Nat.le_refl _
    go_enter Tryz.func30, Tryz.ntmps30
    go_wp2_with fail
    refine (d1.out _ (hS.call hO)).mono ?_
    rintro e' w1 ⟨rfl, hb1⟩
    replace hT := hT.call hb1
    replace hR := hR.call hb1
    replace hO := below_then hO hb1
    clear hb1
    obtain ⟨tl, t0, t1, t2, t3, t4, t5, t6, t7, t8, t9, t10, t11, t12, t13, t14, t15, t16, t17⟩ := (id hT : Nine _ _ 0 0 0 0 0 0 0 0 0)
    go_wp2
    clear tl t0 t1 t2 t3 t4 t5 t6 t7 t8 t9 t10 t11 t12 t13 t14 t15 t16 t17
    replace hT := hT.set0 4294967296
    replace hR := hR.apart gR 0 (.int .i64 4294967296)
    replace hO := hO.setCell (p := ⟨w.heap.size + 1, 0, none⟩) gO (.int .i64 4294967296)
    generalize (World.setCell w1 ⟨w.heap.size + 1, 0, none⟩ (.int .i64 4294967296)) = v1 at hT hR hO ⊢
    obtain ⟨tl, t0, t1, t2, t3, t4, t5, t6, t7, t8, t9, t10, t11, t12, t13, t14, t15, t16, t17⟩ := (id hT : Nine _ _ 4294967296 0 0 0 0 0 0 0 0)
    go_region
    clear tl t0 t1 t2 t3 t4 t5 t6 t7 t8 t9 t10 t11 t12 t13 t14 t15 t16 t17
    replace hT := hT.set4 c
    replace hR := hR.apart gR 4 (.int .i64 c)
    replace hO := hO.setCell (p := ⟨w.heap.size + 1, 4, none⟩) gO (.int .i64 c)
    replace hT := hT.set5 (-s)
    replace hR := hR.apart gR 5 (.int .i64 (-s))
    replace hO := hO.setCell (p := ⟨w.heap.size + 1, 5, none⟩) gO (.int .i64 (-s))
    replace hT := hT.drew
    replace hR := hR.drew
    replace hO := hO.drew
    generalize (World.drew (World.setCell (World.setCell v1 ⟨w.heap.size + 1, 4, none⟩ (.int .i64 c)) ⟨w.heap.size + 1, 5, none⟩ (.int .i64 (-s)))) = v2 at hT hR hO ⊢
    obtain ⟨tl, t0, t1, t2, t3, t4, t5, t6, t7, t8, t9, t10, t11, t12, t13, t14, t15, t16, t17⟩ := (id hT : Nine _ _ 4294967296 0 0 0 c (-s) 0 0 0)
    go_wp2
    go_region
    clear tl t0 t1 t2 t3 t4 t5 t6 t7 t8 t9 t10 t11 t12 t13 t14 t15 t16 t17
    replace hT := hT.set7 s
    replace hR := hR.apart gR 7 (.int .i64 s)
    replace hO := hO.setCell (p := ⟨w.heap.size + 1, 7, none⟩) gO (.int .i64 s)
    replace hT := hT.set8 c
    replace hR := hR.apart gR 8 (.int .i64 c)
    replace hO := hO.setCell (p := ⟨w.heap.size + 1, 8, none⟩) gO (.int .i64 c)
    replace hT := hT.drew
    replace hR := hR.drew
    replace hO := hO.drew
    generalize (World.drew (World.setCell (World.setCell v2 ⟨w.heap.size + 1, 7, none⟩ (.int .i64 s)) ⟨w.heap.size + 1, 8, none⟩ (.int .i64 c))) = v3 at hT hR hO ⊢
    obtain ⟨tl, t0, t1, t2, t3, t4, t5, t6, t7, t8, t9, t10, t11, t12, t13, t14, t15, t16, t17⟩ := (id hT : Nine _ _ 4294967296 0 0 0 c (-s) 0 s c)
    obtain ⟨rl, r0, r1, r2, r3, r4, r5, r6, r7, r8, r9, r10, r11, r12, r13, r14, r15, r16, r17⟩ := hR
    go_wp2
    refine bodyPost_ret (by simp [results, Tryz.results30, go_sem, r0, r1, r2, r3, r4, r5, r6, r7, r8]; try rfl) rfl ?_
    exact ⟨rfl, below_putM hO gO0 _ _ _ _ _ _ _ _ _⟩
  by_cases h1 : k = 1
  · subst h1
    rw [if_neg (by decide), if_pos rfl]
    clear h0
    have hR := (Nine.new w 0 0 0 0 0 0 0 0 0 26).alloc (.cells #[.int .i64 0, .int .i64 0, .int .i64 0, .int .i64 0, .int .i64 0, .int .i64 0, .int .i64 0, .int .i64 0, .int .i64 0] 26)
    have hT := Nine.new (w.alloc (.cells #[.int .i64 0, .int .i64 0, .int .i64 0, .int .i64 0, .int .i64 0, .int .i64 0, .int .i64 0, .int .i64 0, .int .i64 0] 26)) 0 0 0 0 0 0 0 0 0 26
    rw [World.size_alloc] at hT
    have hO : Below w.heap.size w ((w.alloc (.cells #[.int .i64 0, .int .i64 0, .int .i64 0, .int .i64 0, .int .i64 0, .int .i64 0, .int .i64 0, .int .i64 0, .int .i64 0] 26)).alloc (.cells #[.int .i64 0, .int .i64 0, .int .i64 0, .int .i64 0, .int .i64 0, .int .i64 0, .int .i64 0, .int .i64 0, .int .i64 0] 26)) := by go_grown
    have gR : w.heap.size ≠ w.heap.size + 1 := by omega
    have gO : w.heap.size ≤ w.heap.size + 1 := by omega
    have gO0 : w.heap.size ≤ w.heap.size := Nat.le_refl _
    go_enter Tryz.func30, Tryz.ntmps30
    go_wp2_with fail
    refine (d1.out _ (hS.call hO)).mono ?_
    rintro e' w1 ⟨rfl, hb1⟩
    replace hT := hT.call hb1
    replace hR := hR.call hb1
    replace hO := below_then hO hb1
    clear hb1
    obtain ⟨tl, t0, t1, t2, t3, t4, t5, t6, t7, t8, t9, t10, t11, t12, t13, t14, t15, t16, t17⟩ := (id hT : Nine _ _ 0 0 0 0 0 0 0 0 0)
    go_wp2
    clear tl t0 t1 t2 t3 t4 t5 t6 t7 t8 t9 t10 t11 t12 t13 t14 t15 t16 t17
    replace hT := hT.set4 4294967296
    replace hR := hR.apart gR 4 (.int .i64 4294967296)
    replace hO := hO.setCell (p := ⟨w.heap.size + 1, 4, none⟩) gO (.int .i64 4294967296)
    generalize (World.setCell w1 ⟨w.heap.size + 1, 4, none⟩ (.int .i64 4294967296)) = v1 at hT hR hO ⊢
    obtain ⟨tl, t0, t1, t2, t3, t4, t5, t6, t7, t8, t9, t10, t11, t12, t13, t14, t15, t16, t17⟩ := (id hT : Nine _ _ 0 0 0 0 4294967296 0 0 0 0)
    go_region
    clear tl t0 t1 t2 t3 t4 t5 t6 t7 t8 t9 t10 t11 t12 t13 t14 t15 t16 t17
    replace hT := hT.set8 c
    replace hR := hR.apart gR 8 (.int .i64 c)
    replace hO := hO.setCell (p := ⟨w.heap.size + 1, 8, none⟩) gO (.int .i64 c)
    replace hT := hT.set6 (-s)
    replace hR := hR.apart gR 6 (.int .i64 (-s))
    replace hO := hO.setCell (p := ⟨w.heap.size + 1, 6, none⟩) gO (.int .i64 (-s))
    replace hT := hT.drew
    replace hR := hR.drew
    replace hO := hO.drew
    generalize (World.drew (World.setCell (World.setCell v1 ⟨w.heap.size + 1, 8, none⟩ (.int .i64 c)) ⟨w.heap.size + 1, 6, none⟩ (.int .i64 (-s)))) = v2 at hT hR hO ⊢
    obtain ⟨tl, t0, t1, t2, t3, t4, t5, t6, t7, t8, t9, t10, t11, t12, t13, t14, t15, t16, t17⟩ := (id hT : Nine _ _ 0 0 0 0 4294967296 0 (-s) 0 c)
    go_wp2
    go_region
    clear tl t0 t1 t2 t3 t4 t5 t6 t7 t8 t9 t10 t11 t12 t13 t14 t15 t16 t17
    replace hT := hT.set2 s
    replace hR := hR.apart gR 2 (.int .i64 s)
    replace hO := hO.setCell (p := ⟨w.heap.size + 1, 2, none⟩) gO (.int .i64 s)
    replace hT := hT.set0 c
    replace hR := hR.apart gR 0 (.int .i64 c)
    replace hO := hO.setCell (p := ⟨w.heap.size + 1, 0, none⟩) gO (.int .i64 c)
    replace hT := hT.drew
    replace hR := hR.drew
    replace hO := hO.drew
    generalize (World.drew (World.setCell (World.setCell v2 ⟨w.heap.size + 1, 2, none⟩ (.int .i64 s)) ⟨w.heap.size + 1, 0, none⟩ (.int .i64 c))) = v3 at hT hR hO ⊢
    obtain ⟨tl, t0, t1, t2, t3, t4, t5, t6, t7, t8, t9, t10, t11, t12, t13, t14, t15, t16, t17⟩ := (id hT : Nine _ _ c 0 s 0 4294967296 0 (-s) 0 c)
    obtain ⟨rl, r0, r1, r2, r3, r4, r5, r6, r7, r8, r9, r10, r11, r12, r13, r14, r15, r16, r17⟩ := hR
    go_wp2
    refine bodyPost_ret (by simp [results, Tryz.results30, go_sem, r0, r1, r2, r3, r4, r5, r6, r7, r8]; try rfl) rfl ?_
    exact ⟨rfl, below_putM hO gO0 _ _ _ _ _ _ _ _ _⟩
  by_cases h2 : k = 2
  · subst h2
    rw [if_neg (by decide), if_neg (by decide), if_pos rfl]
    clear h0 h1
    have hR := (Nine.new w 0 0 0 0 0 0 0 0 0 26).alloc (.cells #[.int .i64 0, .int .i64 0, .int .i64 0, .int .i64 0, .int .i64 0, .int .i64 0, .int .i64 0, .int .i64 0, .int .i64 0] 26)
    have hT := Nine.new (w.alloc (.cells #[.int .i64 0, .int .i64 0, .int .i64 0, .int .i64 0, .int .i64 0, .int .i64 0, .int .i64 0, .int .i64 0, .int .i64 0] 26)) 0 0 0 0 0 0 0 0 0 26
    rw [World.size_alloc] at hT
    have hO : Below w.heap.size w ((w.alloc (.cells #[.int .i64 0, .int .i64 0, .int .i64 0, .int .i64 0, .int .i64 0, .int .i64 0, .int .i64 0, .int .i64 0, .int .i64 0] 26)).alloc (.cells #[.int .i64 0, .int .i64 0, .int .i64 0, .int .i64 0, .int .i64 0, .int .i64 0, .int .i64 0, .int .i64 0, .int .i64 0] 26)) := by go_grown
    have gR : w.heap.size ≠ w.heap.size + 1 := by omega
    have gO : w.heap.size ≤ w.heap.size + 1 := by omega
    have gO0 : w.heap.size ≤ w.heap.size := Nat.le_refl _
    go_enter Tryz.func30, Tryz.ntmps30
    go_wp2_with fail
    refine (d1.out _ (hS.call hO)).mono ?_
    rintro e' w1 ⟨rfl, hb1⟩
    replace hT := hT.call hb1
    replace hR := hR.call hb1
    replace hO := below_then hO hb1
    clear hb1
    obtain ⟨tl, t0, t1, t2, t3, t4, t5, t6, t7, t8, t9, t10, t11, t12, t13, t14, t15, t16, t17⟩ := (id hT : Nine _ _ 0 0 0 0 0 0 0 0 0)
    go_wp2
    clear tl t0 t1 t2 t3 t4 t5 t6 t7 t8 t9 t10 t11 t12 t13 t14 t15 t16 t17
    replace hT := hT.set8 4294967296
    replace hR := hR.apart gR 8 (.int .i64 4294967296)
    replace hO := hO.setCell (p := ⟨w.heap.size + 1, 8, none⟩) gO (.int .i64 4294967296)
    generalize (World.setCell w1 ⟨w.heap.size + 1, 8, none⟩ (.int .i64 4294967296)) = v1 at hT hR hO ⊢
    obtain ⟨tl, t0, t1, t2, t3, t4, t5, t6, t7, t8, t9, t10, t11, t12, t13, t14, t15, t16, t17⟩ := (id hT : Nine _ _ 0 0 0 0 0 0 0 0 4294967296)
    go_region
    clear tl t0 t1 t2 t3 t4 t5 t6 t7 t8 t9 t10 t11 t12 t13 t14 t15 t16 t17
    replace hT := hT.set0 c
    replace hR := hR.apart gR 0 (.int .i64 c)
    replace hO := hO.setCell (p := ⟨w.heap.size + 1, 0, none⟩) gO (.int .i64 c)
    replace hT := hT.set1 (-s)
    replace hR := hR.apart gR 1 (.int .i64 (-s))
    replace hO := hO.setCell (p := ⟨w.heap.size + 1, 1, none⟩) gO (.int .i64 (-s))
    replace hT := hT.drew
    replace hR := hR.drew
    replace hO := hO.drew
    generalize (World.drew (World.setCell (World.setCell v1 ⟨w.heap.size + 1, 0, none⟩ (.int .i64 c)) ⟨w.heap.size + 1, 1, none⟩ (.int .i64 (-s)))) = v2 at hT hR hO ⊢
    obtain ⟨tl, t0, t1, t2, t3, t4, t5, t6, t7, t8, t9, t10, t11, t12, t13, t14, t15, t16, t17⟩ := (id hT : Nine _ _ c (-s) 0 0 0 0 0 0 4294967296)
    go_wp2
    go_region
    clear tl t0 t1 t2 t3 t4 t5 t6 t7 t8 t9 t10 t11 t12 t13 t14 t15 t16 t17
    replace hT := hT.set3 s
    replace hR := hR.apart gR 3 (.int .i64 s)
    replace hO := hO.setCell (p := ⟨w.heap.size + 1, 3, none⟩) gO (.int .i64 s)
    replace hT := hT.set4 c
    replace hR := hR.apart gR 4 (.int .i64 c)
    replace hO := hO.setCell (p := ⟨w.heap.size + 1, 4, none⟩) gO (.int .i64 c)
    replace hT := hT.drew
    replace hR := hR.drew
    replace hO := hO.drew
    generalize (World.drew (World.setCell (World.setCell v2 ⟨w.heap.size + 1, 3, none⟩ (.int .i64 s)) ⟨w.heap.size + 1, 4, none⟩ (.int .i64 c))) = v3 at hT hR hO ⊢
    obtain ⟨tl, t0, t1, t2, t3, t4, t5, t6, t7, t8, t9, t10, t11, t12, t13, t14, t15, t16, t17⟩ := (id hT : Nine _ _ c (-s) 0 s c 0 0 0 4294967296)
    obtain ⟨rl, r0, r1, r2, r3, r4, r5, r6, r7, r8, r9, r10, r11, r12, r13, r14, r15, r16, r17⟩ := hR
    go_wp2
    refine bodyPost_ret (by simp [results, Tryz.results30, go_sem, r0, r1, r2, r3, r4, r5, r6, r7, r8]; try rfl) rfl ?_
    exact ⟨rfl, below_putM hO gO0 _ _ _ _ _ _ _ _ _⟩
  · rw [if_neg h0, if_neg h1, if_neg h2]
    have hR := (Nine.new w 0 0 0 0 0 0 0 0 0 26).alloc (.cells #[.int .i64 0, .int .i64 0, .int .i64 0, .int .i64 0, .int .i64 0, .int .i64 0, .int .i64 0, .int .i64 0, .int .i64 0] 26)
    have hT := Nine.new (w.alloc (.cells #[.int .i64 0, .int .i64 0, .int .i64 0, .int .i64 0, .int .i64 0, .int .i64 0, .int .i64 0, .int .i64 0, .int .i64 0] 26)) 0 0 0 0 0 0 0 0 0 26
    rw [World.size_alloc] at hT
    have hO : Below w.heap.size w ((w.alloc (.cells #[.int .i64 0, .int .i64 0, .int .i64 0, .int .i64 0, .int .i64 0, .int .i64 0, .int .i64 0, .int .i64 0, .int .i64 0] 26)).alloc (.cells #[.int .i64 0, .int .i64 0, .int .i64 0, .int .i64 0, .int .i64 0, .int .i64 0, .int .i64 0, .int .i64 0, .int .i64 0] 26)) := by go_grown
    have gO : w.heap.size ≤ w.heap.size := Nat.le_refl _
    rcases Int.lt_or_le k 0 with h | h
    · have h' : ¬ 0 ≤ k := by omega
      go_enter Tryz.func30, Tryz.ntmps30
      go_upto_region 3 with fail
      generalize ((w.alloc (.cells #[.int .i64 0, .int .i64 0, .int .i64 0, .int .i64 0, .int .i64 0, .int .i64 0, .int .i64 0, .int .i64 0, .int .i64 0] 26)).alloc (.cells #[.int .i64 0, .int .i64 0, .int .i64 0, .int .i64 0, .int .i64 0, .int .i64 0, .int .i64 0, .int .i64 0, .int .i64 0] 26)) = v1 at hT hR hO ⊢
      obtain ⟨tl, t0, t1, t2, t3, t4, t5, t6, t7, t8, t9, t10, t11, t12, t13, t14, t15, t16, t17⟩ := (id hT : Nine _ _ 0 0 0 0 0 0 0 0 0)
      obtain ⟨rl, r0, r1, r2, r3, r4, r5, r6, r7, r8, r9, r10, r11, r12, r13, r14, r15, r16, r17⟩ := hR
      go_wp2
      refine bodyPost_ret (by simp [results, Tryz.results30, go_sem, r0, r1, r2, r3, r4, r5, r6, r7, r8]; try rfl) rfl ?_
      exact ⟨rfl, below_putM hO gO _ _ _ _ _ _ _ _ _⟩
    · have h' : ¬ k < 0 := by omega
      have h3 : 3 ≤ k := by omega
      go_enter Tryz.func30, Tryz.ntmps30
      go_upto_region 3 with fail
      generalize ((w.alloc (.cells #[.int .i64 0, .int .i64 0, .int .i64 0, .int .i64 0, .int .i64 0, .int .i64 0, .int .i64 0, .int .i64 0, .int .i64 0] 26)).alloc (.cells #[.int .i64 0, .int .i64 0, .int .i64 0, .int .i64 0, .int .i64 0, .int .i64 0, .int .i64 0, .int .i64 0, .int .i64 0] 26)) = v1 at hT hR hO ⊢
      obtain ⟨tl, t0, t1, t2, t3, t4, t5, t6, t7, t8, t9, t10, t11, t12, t13, t14, t15, t16, t17⟩ := (id hT : Nine _ _ 0 0 0 0 0 0 0 0 0)
      obtain ⟨rl, r0, r1, r2, r3, r4, r5, r6, r7, r8, r9, r10, r11, r12, r13, r14, r15, r16, r17⟩ := hR
      go_wp2
      refine bodyPost_ret (by simp [results, Tryz.results30, go_sem, r0, r1, r2, r3, r4, r5, r6, r7, r8]; try rfl) rfl ?_
      exact ⟨rfl, below_putM hO gO _ _ _ _ _ _ _ _ _⟩


end Go.Proofs.YtodfcbpcgcgijaaGreatDoor
