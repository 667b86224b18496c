import Derived.Test.YtodfcbpcgcgijaaDoorRows
import Derived.Test.YtodfcbpcgcgijaaDoorCards
import Derived.Test.YtodfcbpcgcgijaaDoorTie
import Derived.Test.YtodfcbpcgcgijaaDoorMatW
import Derived.Test.YtodfcbpcgcgijaaDoorMatP
import Derived.Test.YtodfcbpcgcgijaaDoorJH
import Derived.WalkKit
import Derived.ProofKit
import Derived.OpenShut
import Derived.SevenTiedAt
import Derived.LaidMore
import Derived.Stop.Joined
import Derived.Deep.RegionHeld3
/- About an axis the axis stays; what turns one way, turned back, is off Same by 4096 parts at most. -/
namespace Go.Proofs.YtodfcbpcgcgijaaDoor.matTurned
set_option maxRecDepth 100000
open Go.ChangeShapes Go.WideShapes Go.ChangeAt Go.RowKit
set_option linter.unusedVariables false

attribute [local go_sem] cell_re eqW_self eqV_self eqM_self
attribute [local go_sem ↓] run_eqlW run_neqW run_eqlV run_eqlM run_indexM0 run_indexM1 run_indexM2

theorem baseAmong (n : Int) (hn : Half n) (w : World) : Calls Tryd.prog 20 #[.int .i64 n, .int .i64 3] w fun e' w' => e' = .returned (.int .i64 (n % 18446744073709551616 % 3)) ∧ Below w.heap.size w w' := by
  obtain ⟨n0, n1⟩ := hn
  go_enter Tryd.func20, Tryd.ntmps20
  go_wp2
  go_returns
  refine ⟨retI ?_, by go_grown⟩
  first
    | rfl
    | omega
    | (simp only [IntKind.wrap_u64]; rw [Int.tmod_eq_emod_of_nonneg (by omega)]; unfold wrap64; omega)

set_option maxRecDepth 100000 in
set_option maxHeartbeats 4000000 in
theorem walk (K : MatC) (n a : Int) (hn : Half n) (ha : 0 ≤ a ∧ a ≤ 4294967295) (w : World) (hS : Steps w) : Calls Tryd.prog 6 #[.int .i64 n, .int .u32 a] w fun e' w' => e' = .returned (.bool true) ∧ Below w.heap.size w w' := by
  have d2 := Lib.hid (fun W1 : World => baseAmong n hn W1)
  have d4 := Lib.hid (fun W1 : World => K.same W1)
  obtain ⟨bc, bs⟩ := cosA_bd a ha
  obtain ⟨c, hcc⟩ : ∃ c, Hid (cosA a = c) := ⟨_, rfl⟩
  obtain ⟨s, hss⟩ : ∃ c, Hid (sinA a = c) := ⟨_, rfl⟩
  rw [hcc.out] at bc
  rw [hss.out] at bs
  have hk : n % 18446744073709551616 % 3 = 0 ∨ n % 18446744073709551616 % 3 = 1 ∨ n % 18446744073709551616 % 3 = 2 := by omega
  rcases hk with h | h | h
  · rw [h] at d2
    clear h
    have d3 : Hid (∀ W1 : World, Steps W1 → Calls Tryd.prog 18 #[.int .i64 0, .int .u32 a] W1 fun e' w' => e' = .returned (.tuple #[M9 4294967296 0 0 0 c (-s) 0 s c, .int .i64 0]) ∧ Below W1.heap.size W1 w') := fun W1 h => by
      have := K.about 0 a (by unfold Half; omega) ha W1 h
      rw [hcc.out, hss.out] at this
      exact this
    have d5 : Hid (∀ W1 : World, Calls Tryd.prog 11 #[M9 4294967296 0 0 0 c (-s) 0 s c, V 4294967296 0 0] W1 fun e' w' => e' = .returned (.tuple #[V 4294967296 0 0, .bool false]) ∧ Below W1.heap.size W1 w') := fun W1 => by
      have := K.apply 4294967296 0 0 0 c (-s) 0 s c (by unfold Half; omega) (by unfold Half; omega) (by unfold Half; omega) (by unfold Half; omega) (by unfold Half; omega) (by unfold Half; omega) (by unfold Half; omega) (by unfold Half; omega) (by unfold Half; omega) 4294967296 0 0 (by unfold Half; omega) (by unfold Half; omega) (by unfold Half; omega) W1
      rw [dot_same0, dot_same0, dot_same0] at this
      exact this
    have sp := spun_of 0 (by decide) a ha
    rw [hcc.out, hss.out] at sp
    have fo := off_near (B := 242) (by decide) (fun i j hi hj => spun_dot sp hi hj)
    have d6 : Hid (∀ W1 : World, Calls Tryd.prog 21 #[M9 4294967296 0 0 0 c (-s) 0 s c] W1 fun e' w' => e' = .returned (.int .i64 (offOf (spun 0 c s))) ∧ Below W1.heap.size W1 w') := fun W1 => K.off (spun 0 c s) (spun_half sp) W1
    generalize offOf (spun 0 c s) = f at *
    obtain ⟨f0, f1⟩ := fo
    clear sp hcc hss bc bs ha hn
    have hO : Below w.heap.size w w := Below.refl _ _
    go_enter Tryd.func6, Tryd.ntmps6
    go_wp2_with fail
    refine (works K _ (hS.call hO)).mono ?_
    rintro e' w1 ⟨rfl, hb1⟩
    replace hO := below_then hO hb1
    clear hb1
    go_wp2_with fail
    refine (d2.out _).mono ?_
    rintro e' w2 ⟨rfl, hb1⟩
    replace hO := below_then hO hb1
    clear hb1
    go_wp2_with fail
    refine (d3.out _ (hS.call hO)).mono ?_
    rintro e' w3 ⟨rfl, hb1⟩
    replace hO := below_then hO hb1
    clear hb1
    have hA := Nine.new w3 4294967296 0 0 0 c (-s) 0 s c 26
    replace hO := hO.alloc hO.size (.cells #[.int .i64 4294967296, .int .i64 0, .int .i64 0, .int .i64 0, .int .i64 c, .int .i64 (-s), .int .i64 0, .int .i64 s, .int .i64 c] 26)
    go_wp2_with fail
    refine (d4.out _).mono ?_
    rintro e' w4 ⟨rfl, hb1⟩
    replace hA := hA.call hb1
    replace hO := below_then hO hb1
    clear hb1
    have hX := Tri.new w4 4294967296 0 0 24
    replace hA := hA.alloc (.cells #[.int .i64 4294967296, .int .i64 0, .int .i64 0] 24)
    replace hO := hO.alloc hO.size (.cells #[.int .i64 4294967296, .int .i64 0, .int .i64 0] 24)
    obtain ⟨al, a0, a1, a2, a3, a4, a5, a6, a7, a8, -, -, -, -, -, -, -, -, -⟩ := (id hA : Nine _ _ 4294967296 0 0 0 c (-s) 0 s c)
    obtain ⟨xl, x0, x1, x2, -, -, -⟩ := (id hX : Tri _ _ 4294967296 0 0)
    go_wp2_with fail
    refine (d5.out _).mono ?_
    rintro e' w5 ⟨rfl, hb1⟩
    replace hA := hA.call hb1
    replace hX := hX.call hb1
    replace hO := below_then hO hb1
    clear hb1
    have hY := Tri.new w5 4294967296 0 0 24
    replace hA := hA.alloc (.cells #[.int .i64 4294967296, .int .i64 0, .int .i64 0] 24)
    replace hX := hX.alloc (.cells #[.int .i64 4294967296, .int .i64 0, .int .i64 0] 24)
    replace hO := hO.alloc hO.size (.cells #[.int .i64 4294967296, .int .i64 0, .int .i64 0] 24)
    obtain ⟨al, a0, a1, a2, a3, a4, a5, a6, a7, a8, -, -, -, -, -, -, -, -, -⟩ := (id hA : Nine _ _ 4294967296 0 0 0 c (-s) 0 s c)
    obtain ⟨xl, x0, x1, x2, -, -, -⟩ := (id hX : Tri _ _ 4294967296 0 0)
    obtain ⟨yl, y0, y1, y2, -, -, -⟩ := (id hY : Tri _ _ 4294967296 0 0)
    go_wp2_with fail
    refine (d6.out _).mono ?_
    rintro e' w6 ⟨rfl, hb1⟩
    replace hA := hA.call hb1
    replace hO := below_then hO hb1
    clear hb1
    obtain ⟨al, a0, a1, a2, a3, a4, a5, a6, a7, a8, -, -, -, -, -, -, -, -, -⟩ := (id hA : Nine _ _ 4294967296 0 0 0 c (-s) 0 s c)
    go_wp2_with fail
    refine (d6.out _).mono ?_
    rintro e' w7 ⟨rfl, hb1⟩
    replace hA := hA.call hb1
    replace hO := below_then hO hb1
    clear hb1
    go_wp2
    go_ret
    exact ⟨rfl, hO⟩
  · rw [h] at d2
    clear h
    have d3 : Hid (∀ W1 : World, Steps W1 → Calls Tryd.prog 18 #[.int .i64 1, .int .u32 a] W1 fun e' w' => e' = .returned (.tuple #[M9 c 0 s 0 4294967296 0 (-s) 0 c, .int .i64 0]) ∧ Below W1.heap.size W1 w') := fun W1 h => by
      have := K.about 1 a (by unfold Half; omega) ha W1 h
      rw [hcc.out, hss.out] at this
      exact this
    have d5 : Hid (∀ W1 : World, Calls Tryd.prog 11 #[M9 c 0 s 0 4294967296 0 (-s) 0 c, V 0 4294967296 0] W1 fun e' w' => e' = .returned (.tuple #[V 0 4294967296 0, .bool false]) ∧ Below W1.heap.size W1 w') := fun W1 => by
      have := K.apply c 0 s 0 4294967296 0 (-s) 0 c (by unfold Half; omega) (by unfold Half; omega) (by unfold Half; omega) (by unfold Half; omega) (by unfold Half; omega) (by unfold Half; omega) (by unfold Half; omega) (by unfold Half; omega) (by unfold Half; omega) 0 4294967296 0 (by unfold Half; omega) (by unfold Half; omega) (by unfold Half; omega) W1
      rw [dot_same1, dot_same1, dot_same1] at this
      exact this
    have sp := spun_of 1 (by decide) a ha
    rw [hcc.out, hss.out] at sp
    have fo := off_near (B := 242) (by decide) (fun i j hi hj => spun_dot sp hi hj)
    have d6 : Hid (∀ W1 : World, Calls Tryd.prog 21 #[M9 c 0 s 0 4294967296 0 (-s) 0 c] W1 fun e' w' => e' = .returned (.int .i64 (offOf (spun 1 c s))) ∧ Below W1.heap.size W1 w') := fun W1 => K.off (spun 1 c s) (spun_half sp) W1
    generalize offOf (spun 1 c s) = f at *
    obtain ⟨f0, f1⟩ := fo
    clear sp hcc hss bc bs ha hn
    have hO : Below w.heap.size w w := Below.refl _ _
    go_enter Tryd.func6, Tryd.ntmps6
    go_wp2_with fail
    refine (works K _ (hS.call hO)).mono ?_
    rintro e' w1 ⟨rfl, hb1⟩
    replace hO := below_then hO hb1
    clear hb1
    go_wp2_with fail
    refine (d2.out _).mono ?_
    rintro e' w2 ⟨rfl, hb1⟩
    replace hO := below_then hO hb1
    clear hb1
    go_wp2_with fail
    refine (d3.out _ (hS.call hO)).mono ?_
    rintro e' w3 ⟨rfl, hb1⟩
    replace hO := below_then hO hb1
    clear hb1
    have hA := Nine.new w3 c 0 s 0 4294967296 0 (-s) 0 c 26
    replace hO := hO.alloc hO.size (.cells #[.int .i64 c, .int .i64 0, .int .i64 s, .int .i64 0, .int .i64 4294967296, .int .i64 0, .int .i64 (-s), .int .i64 0, .int .i64 c] 26)
    go_wp2_with fail
    refine (d4.out _).mono ?_
    rintro e' w4 ⟨rfl, hb1⟩
    replace hA := hA.call hb1
    replace hO := below_then hO hb1
    clear hb1
    have hX := Tri.new w4 0 4294967296 0 24
    replace hA := hA.alloc (.cells #[.int .i64 0, .int .i64 4294967296, .int .i64 0] 24)
    replace hO := hO.alloc hO.size (.cells #[.int .i64 0, .int .i64 4294967296, .int .i64 0] 24)
    obtain ⟨al, a0, a1, a2, a3, a4, a5, a6, a7, a8, -, -, -, -, -, -, -, -, -⟩ := (id hA : Nine _ _ c 0 s 0 4294967296 0 (-s) 0 c)
    obtain ⟨xl, x0, x1, x2, -, -, -⟩ := (id hX : Tri _ _ 0 4294967296 0)
    go_wp2_with fail
    refine (d5.out _).mono ?_
    rintro e' w5 ⟨rfl, hb1⟩
    replace hA := hA.call hb1
    replace hX := hX.call hb1
    replace hO := below_then hO hb1
    clear hb1
    have hY := Tri.new w5 0 4294967296 0 24
    replace hA := hA.alloc (.cells #[.int .i64 0, .int .i64 4294967296, .int .i64 0] 24)
    replace hX := hX.alloc (.cells #[.int .i64 0, .int .i64 4294967296, .int .i64 0] 24)
    replace hO := hO.alloc hO.size (.cells #[.int .i64 0, .int .i64 4294967296, .int .i64 0] 24)
    obtain ⟨al, a0, a1, a2, a3, a4, a5, a6, a7, a8, -, -, -, -, -, -, -, -, -⟩ := (id hA : Nine _ _ c 0 s 0 4294967296 0 (-s) 0 c)
    obtain ⟨xl, x0, x1, x2, -, -, -⟩ := (id hX : Tri _ _ 0 4294967296 0)
    obtain ⟨yl, y0, y1, y2, -, -, -⟩ := (id hY : Tri _ _ 0 4294967296 0)
    go_wp2_with fail
    refine (d6.out _).mono ?_
    rintro e' w6 ⟨rfl, hb1⟩
    replace hA := hA.call hb1
    replace hO := below_then hO hb1
    clear hb1
    obtain ⟨al, a0, a1, a2, a3, a4, a5, a6, a7, a8, -, -, -, -, -, -, -, -, -⟩ := (id hA : Nine _ _ c 0 s 0 4294967296 0 (-s) 0 c)
    go_wp2_with fail
    refine (d6.out _).mono ?_
    rintro e' w7 ⟨rfl, hb1⟩
    replace hA := hA.call hb1
    replace hO := below_then hO hb1
    clear hb1
    go_wp2
    go_ret
    exact ⟨rfl, hO⟩
  · rw [h] at d2
    clear h
    have d3 : Hid (∀ W1 : World, Steps W1 → Calls Tryd.prog 18 #[.int .i64 2, .int .u32 a] W1 fun e' w' => e' = .returned (.tuple #[M9 c (-s) 0 s c 0 0 0 4294967296, .int .i64 0]) ∧ Below W1.heap.size W1 w') := fun W1 h => by
      have := K.about 2 a (by unfold Half; omega) ha W1 h
      rw [hcc.out, hss.out] at this
      exact this
    have d5 : Hid (∀ W1 : World, Calls Tryd.prog 11 #[M9 c (-s) 0 s c 0 0 0 4294967296, V 0 0 4294967296] W1 fun e' w' => e' = .returned (.tuple #[V 0 0 4294967296, .bool false]) ∧ Below W1.heap.size W1 w') := fun W1 => by
      have := K.apply c (-s) 0 s c 0 0 0 4294967296 (by unfold Half; omega) (by unfold Half; omega) (by unfold Half; omega) (by unfold Half; omega) (by unfold Half; omega) (by unfold Half; omega) (by unfold Half; omega) (by unfold Half; omega) (by unfold Half; omega) 0 0 4294967296 (by unfold Half; omega) (by unfold Half; omega) (by unfold Half; omega) W1
      rw [dot_same2, dot_same2, dot_same2] at this
      exact this
    have sp := spun_of 2 (by decide) a ha
    rw [hcc.out, hss.out] at sp
    have fo := off_near (B := 242) (by decide) (fun i j hi hj => spun_dot sp hi hj)
    have d6 : Hid (∀ W1 : World, Calls Tryd.prog 21 #[M9 c (-s) 0 s c 0 0 0 4294967296] W1 fun e' w' => e' = .returned (.int .i64 (offOf (spun 2 c s))) ∧ Below W1.heap.size W1 w') := fun W1 => K.off (spun 2 c s) (spun_half sp) W1
    generalize offOf (spun 2 c s) = f at *
    obtain ⟨f0, f1⟩ := fo
    clear sp hcc hss bc bs ha hn
    have hO : Below w.heap.size w w := Below.refl _ _
    go_enter Tryd.func6, Tryd.ntmps6
    go_wp2_with fail
    refine (works K _ (hS.call hO)).mono ?_
    rintro e' w1 ⟨rfl, hb1⟩
    replace hO := below_then hO hb1
    clear hb1
    go_wp2_with fail
    refine (d2.out _).mono ?_
    rintro e' w2 ⟨rfl, hb1⟩
    replace hO := below_then hO hb1
    clear hb1
    go_wp2_with fail
    refine (d3.out _ (hS.call hO)).mono ?_
    rintro e' w3 ⟨rfl, hb1⟩
    replace hO := below_then hO hb1
    clear hb1
    have hA := Nine.new w3 c (-s) 0 s c 0 0 0 4294967296 26
    replace hO := hO.alloc hO.size (.cells #[.int .i64 c, .int .i64 (-s), .int .i64 0, .int .i64 s, .int .i64 c, .int .i64 0, .int .i64 0, .int .i64 0, .int .i64 4294967296] 26)
    go_wp2_with fail
    refine (d4.out _).mono ?_
    rintro e' w4 ⟨rfl, hb1⟩
    replace hA := hA.call hb1
    replace hO := below_then hO hb1
    clear hb1
    have hX := Tri.new w4 0 0 4294967296 24
    replace hA := hA.alloc (.cells #[.int .i64 0, .int .i64 0, .int .i64 4294967296] 24)
    replace hO := hO.alloc hO.size (.cells #[.int .i64 0, .int .i64 0, .int .i64 4294967296] 24)
    obtain ⟨al, a0, a1, a2, a3, a4, a5, a6, a7, a8, -, -, -, -, -, -, -, -, -⟩ := (id hA : Nine _ _ c (-s) 0 s c 0 0 0 4294967296)
    obtain ⟨xl, x0, x1, x2, -, -, -⟩ := (id hX : Tri _ _ 0 0 4294967296)
    go_wp2_with fail
    refine (d5.out _).mono ?_
    rintro e' w5 ⟨rfl, hb1⟩
    replace hA := hA.call hb1
    replace hX := hX.call hb1
    replace hO := below_then hO hb1
    clear hb1
    have hY := Tri.new w5 0 0 4294967296 24
    replace hA := hA.alloc (.cells #[.int .i64 0, .int .i64 0, .int .i64 4294967296] 24)
    replace hX := hX.alloc (.cells #[.int .i64 0, .int .i64 0, .int .i64 4294967296] 24)
    replace hO := hO.alloc hO.size (.cells #[.int .i64 0, .int .i64 0, .int .i64 4294967296] 24)
    obtain ⟨al, a0, a1, a2, a3, a4, a5, a6, a7, a8, -, -, -, -, -, -, -, -, -⟩ := (id hA : Nine _ _ c (-s) 0 s c 0 0 0 4294967296)
    obtain ⟨xl, x0, x1, x2, -, -, -⟩ := (id hX : Tri _ _ 0 0 4294967296)
    obtain ⟨yl, y0, y1, y2, -, -, -⟩ := (id hY : Tri _ _ 0 0 4294967296)
    go_wp2_with fail
    refine (d6.out _).mono ?_
    rintro e' w6 ⟨rfl, hb1⟩
    replace hA := hA.call hb1
    replace hO := below_then hO hb1
    clear hb1
    obtain ⟨al, a0, a1, a2, a3, a4, a5, a6, a7, a8, -, -, -, -, -, -, -, -, -⟩ := (id hA : Nine _ _ c (-s) 0 s c 0 0 0 4294967296)
    go_wp2_with fail
    refine (d6.out _).mono ?_
    rintro e' w7 ⟨rfl, hb1⟩
    replace hA := hA.call hb1
    replace hO := below_then hO hb1
    clear hb1
    go_wp2
    go_ret
    exact ⟨rfl, hO⟩


set_option maxRecDepth 100000 in
theorem lifted (os : Os) (started : os.Started) (H : Type) (enc : TypeId × Value → H) :
    ReturnsInHanded {} Tryd.checked os 6 .any (fun w args => (Rows.matTurnedSpec.pre enc Tryd.prog Tryd.f6 [] false w args ∧ laidMetH Tryd.prog laidT w) ∧ sizedMet enc Tryd.prog Tryd.f6 (OpenSpec.ofChange Rows.matTurnedSpec) false w args)
      (Rows.matTurnedSpec.post enc Tryd.prog Tryd.f6 false true false false) := by
  refine returnsInHanded_of_change_and (C := Tryd.checked) (X := fun w _ => laidMetH Tryd.prog laidT w) (fun _ _ _ hh h => h.of_heap hh) own started (by kernel_rfl) Tryd.func6
    (ChangeSpec.witness_shaped (enc := enc) (C := Tryd.checked) (os := os) (X := fun w _ => laidMetH Tryd.prog laidT w) false (World.doorLaid Tryd.prog 400 os) #[.int .i64 0, .int .u32 0] 8 rfl (World.shaped_of_RefB (by kernel_rfl) (by kernel_rfl)) (by kernel_rfl) (by kernel_rfl) (by kernel_rfl) (door_met os _)) ?_
  intro W1 base args ds gs before hval0 hW _ _ hL _
  have hval : ∀ (j : Nat) t v, Tryd.f6.params[j]? = some t → args[j]? = some v → Value.okWide Tryd.prog W1 .any base t v := hval0
  have hW' := hW
  obtain ⟨p, q, hA0, hV, rfl, hfz, hnd⟩ := hW
  have hA : DataW.TrodAll enc Tryd.prog W1 0 (fun _ => true) true Tryd.f6.params.toList args.toList ds p := hA0
  rw [Tryd.params6] at hA hval
  obtain ⟨v0, vs0, d0, ds0, p0, q0, hargs, rfl, rfl, h0, r0⟩ := trodAll_cons hA
  obtain ⟨v1, vs1, d1, ds1, p1, q1, rfl, rfl, rfl, h1, r1⟩ := trodAll_cons r0
  obtain ⟨rfl, rfl, rfl⟩ := trodAll_nil r1
  obtain rfl : args = #[v0, v1] := by cases args; simp_all
  obtain ⟨rfl, rfl⟩ := trodVars_none hV
  obtain ⟨n, rfl, e0, -, w0⟩ := open_int Tryd.underlying3 (hval 0 3 v0 rfl rfl) h0
  obtain ⟨a, rfl, e1, -, w1⟩ := open_int Tryd.underlying35 (hval 1 35 v1 rfl rfl) h1
  have hS := steps_of_laid hL
  clear hA0 hval0 hval hA hL
  refine (walk matC n a (half_of_wf w0) (word32_of_wf w1) W1 hS).mono fun e W' ⟨he, hg⟩ => ?_
  subst he
  exact ⟨_, rfl, law_post laidOut (by kernel_rfl) rfl (by kernel_rfl) Tryd.underlying4 hW' rfl hg⟩

theorem over : Rows.MatTurnedSaid :=
  OpenClaim.holds_of_wide 6 Tryd.f6 rfl rfl rfl rfl rfl rfl rfl ⟨rfl, rfl, rfl, rfl, rfl⟩ rfl rfl rfl rfl rfl (by kernel_rfl) Tryd.func6 (by kernel_rfl)
    (of_decide_eq_true (by kernel_rfl)) (by unfold Func.isWrapper; first | (rw [if_pos (by decide +kernel)]; kernel_rfl) | (rw [if_neg (by decide +kernel)]; exact ⟨rfl, rfl⟩))
    (fun os started H enc _ => lifted os started H enc)

theorem proved : Rows.MatTurnedCardSaid :=
  Claim7.holds_tied_plain_at .later [] [.data] true (true, "76501850add5e039de148ba0a8a185064ebbb291c75d7fbdb2f78020d96a9ea8") false
    over (fun _ h => by cases h) (by kernel_rfl) (fun _ h => by cases h) matTurned_row_tie rfl ⟨rfl, rfl⟩ (by kernel_rfl) rfl
    (fun f fn hf hfn => by
      obtain rfl : f = 6 := Option.some.inj ((show Tryd.prog.funcNamed "pelorus/peloruslaw07.MatTurned" = some 6 by kernel_rfl).symm.trans hf) |>.symm
      obtain rfl : fn = Tryd.f6 := (Option.some.inj (Tryd.func6.symm.trans hfn)).symm
      exact ⟨by kernel_rfl, fun j t ht => by
        rw [Tryd.params6] at ht
        have hm : t ∈ [3, 35] := by simpa using Array.mem_of_getElem? ht
        have hall : ([3, 35].all fun u => !Tryd.prog.wantsStandIn u) = true := by kernel_rfl
        exact (show Tryd.prog.wantsStandIn t = false by simpa using List.all_eq_true.1 hall t hm)⟩)
    (by kernel_rfl)
end Go.Proofs.YtodfcbpcgcgijaaDoor.matTurned
