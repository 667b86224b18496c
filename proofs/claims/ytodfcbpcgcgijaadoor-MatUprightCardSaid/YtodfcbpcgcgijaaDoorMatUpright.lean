import Derived.Test.YtodfcbpcgcgijaaDoorRows
import Derived.Test.YtodfcbpcgcgijaaDoorCards
import Derived.Test.YtodfcbpcgcgijaaDoorTie
import Derived.Test.YtodfcbpcgcgijaaDoorMatW
import Derived.Test.YtodfcbpcgcgijaaDoorMatP
import Derived.Test.YtodfcbpcgcgijaaDoorJH
import Derived.WalkKit
import Derived.ProofKit
import Derived.OpenShut
import Derived.SevenTiedAt
import Derived.LaidMore
import Derived.Stop.Joined
import Derived.Deep.RegionHeld3
/- What turns about two axes, and is then changed a little, is made upright. -/
namespace Go.Proofs.YtodfcbpcgcgijaaDoor.matUpright
set_option maxRecDepth 100000
open Go.ChangeShapes Go.WideShapes Go.ChangeAt Go.RowKit
set_option linter.unusedVariables false

attribute [local go_sem] cell_re eqW_self eqV_self eqM_self
attribute [local go_sem ↓] run_eqlW run_neqW run_eqlV run_eqlM run_indexM0 run_indexM1 run_indexM2

theorem baseAmong (n : Int) (hn : Half n) (w : World) : Calls Tryd.prog 20 #[.int .i64 n, .int .i64 3] w fun e' w' => e' = .returned (.int .i64 (n % 18446744073709551616 % 3)) ∧ Below w.heap.size w w' := by
  obtain ⟨n0, n1⟩ := hn
  go_enter Tryd.func20, Tryd.ntmps20
  go_wp2
  go_returns
  refine ⟨retI ?_, by go_grown⟩
  first
    | rfl
    | omega
    | (simp only [IntKind.wrap_u64]; rw [Int.tmod_eq_emod_of_nonneg (by omega)]; unfold wrap64; omega)

theorem moved_by {c y : Int} (hc : Within c 12884901894) (hy : -2147483648 ≤ y ∧ y ≤ 2147483647) : Within (wrap64 (c + wrap64 (wrap32 (y.tdiv 128))) - c) 16777216 ∧ Half (wrap64 (c + wrap64 (wrap32 (y.tdiv 128)))) := by
  have h1 : -16777216 ≤ y.tdiv 128 ∧ y.tdiv 128 ≤ 16777216 := by
    have e := Int.mul_tdiv_add_tmod y 128
    have a := Int.tmod_lt_of_pos y (show (0 : Int) < 128 by decide)
    have b := Int.lt_tmod_of_pos y (show (0 : Int) < 128 by decide)
    omega
  generalize y.tdiv 128 = t at *
  have e1 : wrap32 t = t := by unfold wrap32; omega
  have e2 : wrap64 t = t := by unfold wrap64; omega
  have e3 : wrap64 (c + t) = c + t := by unfold Within at hc; unfold wrap64; omega
  rw [e1, e2, e3]
  unfold Within Half at *
  omega

set_option maxRecDepth 100000 in
set_option maxHeartbeats 4000000 in
theorem walk (K : MatC) (i x j y : Int) (Y : Nat → Int) (hi : Half i) (hx : 0 ≤ x ∧ x ≤ 4294967295) (hj : Half j) (hy : 0 ≤ y ∧ y ≤ 4294967295) (hY : ∀ k, k < 9 → -2147483648 ≤ Y k ∧ Y k ≤ 2147483647) (w : World) (hS : Steps w) : Calls Tryd.prog 7 #[.int .i64 i, .int .u32 x, .int .i64 j, .int .u32 y, .agg #[.int .i32 (Y 0), .int .i32 (Y 1), .int .i32 (Y 2), .int .i32 (Y 3), .int .i32 (Y 4), .int .i32 (Y 5), .int .i32 (Y 6), .int .i32 (Y 7), .int .i32 (Y 8)]] w fun e' w' => e' = .returned (.bool true) ∧ Below w.heap.size w w' := by
  have d1 := Lib.hid (fun W1 : World => baseAmong i hi W1)
  have d2 := Lib.hid (fun W1 : World => baseAmong j hj W1)
  obtain ⟨k, hk, hki⟩ : ∃ k : Nat, k < 3 ∧ i % 18446744073709551616 % 3 = k := ⟨(i % 18446744073709551616 % 3).toNat, by omega, by omega⟩
  obtain ⟨l, hl, hlj⟩ : ∃ k : Nat, k < 3 ∧ j % 18446744073709551616 % 3 = k := ⟨(j % 18446744073709551616 % 3).toNat, by omega, by omega⟩
  rw [hki] at d1
  rw [hlj] at d2
  have d3 := Lib.hid (fun (W1 : World) (h : Steps W1) => K.about k x (by unfold Half; omega) hx W1 h)
  have d4 := Lib.hid (fun (W1 : World) (h : Steps W1) => K.about l y (by unfold Half; omega) hy W1 h)
  rw [about_spun k hk] at d3
  rw [about_spun l hl] at d4
  have sA := spun_of k hk x hx
  have sB := spun_of l hl y hy
  obtain ⟨A, hA⟩ : ∃ A, spun k (cosA x) (sinA x) = A := ⟨_, rfl⟩
  obtain ⟨B, hB⟩ : ∃ A, spun l (cosA y) (sinA y) = A := ⟨_, rfl⟩
  rw [hA] at d3 sA
  rw [hB] at d4 sB
  have d5 := Lib.hid (fun W1 : World => K.mul A B (spun_half sA) (spun_half sB) W1)
  rw [(spun_mul sA sB).1] at d5
  have bd := (spun_mul sA sB).2
  obtain ⟨C, hC⟩ : ∃ C, mulM A B = C := ⟨_, rfl⟩
  rw [hC] at d5 bd
  unfold Mx at d3 d4 d5
  clear hki hlj
  have mv := fun k (hk : k < 9) (i j : Nat) (hi : i < 3) (hj : j < 3) => moved_by (bd i j hi hj) (hY k hk)
  obtain ⟨D, hD, hor, f0, f1⟩ := moved_ortho (M := of9 (wrap64 (C 0 0 + wrap64 (wrap32 ((Y 0).tdiv 128)))) (wrap64 (C 0 1 + wrap64 (wrap32 ((Y 1).tdiv 128)))) (wrap64 (C 0 2 + wrap64 (wrap32 ((Y 2).tdiv 128)))) (wrap64 (C 1 0 + wrap64 (wrap32 ((Y 3).tdiv 128)))) (wrap64 (C 1 1 + wrap64 (wrap32 ((Y 4).tdiv 128)))) (wrap64 (C 1 2 + wrap64 (wrap32 ((Y 5).tdiv 128)))) (wrap64 (C 2 0 + wrap64 (wrap32 ((Y 6).tdiv 128)))) (wrap64 (C 2 1 + wrap64 (wrap32 ((Y 7).tdiv 128)))) (wrap64 (C 2 2 + wrap64 (wrap32 ((Y 8).tdiv 128))))) sA sB (by
    rw [hC]
    intro i j hi hj
    rcases three hi with rfl | rfl | rfl <;> rcases three hj with rfl | rfl | rfl
    · exact (mv 0 (by decide) 0 0 (by decide) (by decide)).1
    · exact (mv 1 (by decide) 0 1 (by decide) (by decide)).1
    · exact (mv 2 (by decide) 0 2 (by decide) (by decide)).1
    · exact (mv 3 (by decide) 1 0 (by decide) (by decide)).1
    · exact (mv 4 (by decide) 1 1 (by decide) (by decide)).1
    · exact (mv 5 (by decide) 1 2 (by decide) (by decide)).1
    · exact (mv 6 (by decide) 2 0 (by decide) (by decide)).1
    · exact (mv 7 (by decide) 2 1 (by decide) (by decide)).1
    · exact (mv 8 (by decide) 2 2 (by decide) (by decide)).1)
  have d6 : Hid (∀ W1 : World, Calls Tryd.prog 22 #[M9 (wrap64 (C 0 0 + wrap64 (wrap32 ((Y 0).tdiv 128)))) (wrap64 (C 0 1 + wrap64 (wrap32 ((Y 1).tdiv 128)))) (wrap64 (C 0 2 + wrap64 (wrap32 ((Y 2).tdiv 128)))) (wrap64 (C 1 0 + wrap64 (wrap32 ((Y 3).tdiv 128)))) (wrap64 (C 1 1 + wrap64 (wrap32 ((Y 4).tdiv 128)))) (wrap64 (C 1 2 + wrap64 (wrap32 ((Y 5).tdiv 128)))) (wrap64 (C 2 0 + wrap64 (wrap32 ((Y 6).tdiv 128)))) (wrap64 (C 2 1 + wrap64 (wrap32 ((Y 7).tdiv 128)))) (wrap64 (C 2 2 + wrap64 (wrap32 ((Y 8).tdiv 128))))] W1 fun e' w' => e' = .returned (.tuple #[Mx D, .bool true]) ∧ Below W1.heap.size W1 w') := fun W1 => by
    have := K.ortho (wrap64 (C 0 0 + wrap64 (wrap32 ((Y 0).tdiv 128)))) (wrap64 (C 0 1 + wrap64 (wrap32 ((Y 1).tdiv 128)))) (wrap64 (C 0 2 + wrap64 (wrap32 ((Y 2).tdiv 128)))) (wrap64 (C 1 0 + wrap64 (wrap32 ((Y 3).tdiv 128)))) (wrap64 (C 1 1 + wrap64 (wrap32 ((Y 4).tdiv 128)))) (wrap64 (C 1 2 + wrap64 (wrap32 ((Y 5).tdiv 128)))) (wrap64 (C 2 0 + wrap64 (wrap32 ((Y 6).tdiv 128)))) (wrap64 (C 2 1 + wrap64 (wrap32 ((Y 7).tdiv 128)))) (wrap64 (C 2 2 + wrap64 (wrap32 ((Y 8).tdiv 128)))) (mv 0 (by decide) 0 0 (by decide) (by decide)).2 (mv 1 (by decide) 0 1 (by decide) (by decide)).2 (mv 2 (by decide) 0 2 (by decide) (by decide)).2 (mv 3 (by decide) 1 0 (by decide) (by decide)).2 (mv 4 (by decide) 1 1 (by decide) (by decide)).2 (mv 5 (by decide) 1 2 (by decide) (by decide)).2 (mv 6 (by decide) 2 0 (by decide) (by decide)).2 (mv 7 (by decide) 2 1 (by decide) (by decide)).2 (mv 8 (by decide) 2 2 (by decide) (by decide)).2 W1
    rw [show orthoOf (wrap64 (C 0 0 + wrap64 (wrap32 ((Y 0).tdiv 128)))) (wrap64 (C 0 1 + wrap64 (wrap32 ((Y 1).tdiv 128)))) (wrap64 (C 0 2 + wrap64 (wrap32 ((Y 2).tdiv 128)))) (wrap64 (C 1 0 + wrap64 (wrap32 ((Y 3).tdiv 128)))) (wrap64 (C 1 1 + wrap64 (wrap32 ((Y 4).tdiv 128)))) (wrap64 (C 1 2 + wrap64 (wrap32 ((Y 5).tdiv 128)))) = .tuple #[Mx D, .bool true] from hor] at this
    exact this
  have d7 := Lib.hid (fun W1 : World => K.off D hD W1)
  obtain ⟨f, hf⟩ : ∃ f, offOf D = f := ⟨_, rfl⟩
  rw [hf] at d7 f0 f1
  unfold Mx at d6 d7
  clear hor hf hD mv sA sB
  have hV := NineY.new w Y 43
  have hO : Below w.heap.size w (w.alloc (.cells #[.int .i32 (Y 0), .int .i32 (Y 1), .int .i32 (Y 2), .int .i32 (Y 3), .int .i32 (Y 4), .int .i32 (Y 5), .int .i32 (Y 6), .int .i32 (Y 7), .int .i32 (Y 8)] 43)) := by go_grown
  obtain ⟨y0a, y0b⟩ := hY 0 (by decide)
  obtain ⟨y1a, y1b⟩ := hY 1 (by decide)
  obtain ⟨y2a, y2b⟩ := hY 2 (by decide)
  obtain ⟨y3a, y3b⟩ := hY 3 (by decide)
  obtain ⟨y4a, y4b⟩ := hY 4 (by decide)
  obtain ⟨y5a, y5b⟩ := hY 5 (by decide)
  obtain ⟨y6a, y6b⟩ := hY 6 (by decide)
  obtain ⟨y7a, y7b⟩ := hY 7 (by decide)
  obtain ⟨y8a, y8b⟩ := hY 8 (by decide)
  obtain ⟨c0a, c0b⟩ := bd 0 0 (by decide) (by decide)
  obtain ⟨c1a, c1b⟩ := bd 0 1 (by decide) (by decide)
  obtain ⟨c2a, c2b⟩ := bd 0 2 (by decide) (by decide)
  obtain ⟨c3a, c3b⟩ := bd 1 0 (by decide) (by decide)
  obtain ⟨c4a, c4b⟩ := bd 1 1 (by decide) (by decide)
  obtain ⟨c5a, c5b⟩ := bd 1 2 (by decide) (by decide)
  obtain ⟨c6a, c6b⟩ := bd 2 0 (by decide) (by decide)
  obtain ⟨c7a, c7b⟩ := bd 2 1 (by decide) (by decide)
  obtain ⟨c8a, c8b⟩ := bd 2 2 (by decide) (by decide)
  clear hY
  go_enter Tryd.func7, Tryd.ntmps7
  go_wp2_with fail
  refine (works K _ (hS.call hO)).mono ?_
  rintro e' w1 ⟨rfl, hb1⟩
  replace hV := hV.call hb1
  replace hO := below_then hO hb1
  clear hb1
  go_wp2_with fail
  refine (d1.out _).mono ?_
  rintro e' w2 ⟨rfl, hb1⟩
  replace hV := hV.call hb1
  replace hO := below_then hO hb1
  clear hb1
  go_wp2_with fail
  refine (d3.out _ (hS.call hO)).mono ?_
  rintro e' w3 ⟨rfl, hb1⟩
  replace hV := hV.call hb1
  replace hO := below_then hO hb1
  clear hb1
  have hA := Nine.new w3 (A 0 0) (A 0 1) (A 0 2) (A 1 0) (A 1 1) (A 1 2) (A 2 0) (A 2 1) (A 2 2) 26
  replace hV := hV.alloc (.cells #[.int .i64 (A 0 0), .int .i64 (A 0 1), .int .i64 (A 0 2), .int .i64 (A 1 0), .int .i64 (A 1 1), .int .i64 (A 1 2), .int .i64 (A 2 0), .int .i64 (A 2 1), .int .i64 (A 2 2)] 26)
  replace hO := hO.alloc hO.size (.cells #[.int .i64 (A 0 0), .int .i64 (A 0 1), .int .i64 (A 0 2), .int .i64 (A 1 0), .int .i64 (A 1 1), .int .i64 (A 1 2), .int .i64 (A 2 0), .int .i64 (A 2 1), .int .i64 (A 2 2)] 26)
  go_wp2_with fail
  refine (d2.out _).mono ?_
  rintro e' w4 ⟨rfl, hb1⟩
  replace hV := hV.call hb1
  replace hA := hA.call hb1
  replace hO := below_then hO hb1
  clear hb1
  go_wp2_with fail
  refine (d4.out _ (hS.call hO)).mono ?_
  rintro e' w5 ⟨rfl, hb1⟩
  replace hV := hV.call hb1
  replace hA := hA.call hb1
  replace hO := below_then hO hb1
  clear hb1
  have hB := Nine.new w5 (B 0 0) (B 0 1) (B 0 2) (B 1 0) (B 1 1) (B 1 2) (B 2 0) (B 2 1) (B 2 2) 26
  replace hV := hV.alloc (.cells #[.int .i64 (B 0 0), .int .i64 (B 0 1), .int .i64 (B 0 2), .int .i64 (B 1 0), .int .i64 (B 1 1), .int .i64 (B 1 2), .int .i64 (B 2 0), .int .i64 (B 2 1), .int .i64 (B 2 2)] 26)
  replace hA := hA.alloc (.cells #[.int .i64 (B 0 0), .int .i64 (B 0 1), .int .i64 (B 0 2), .int .i64 (B 1 0), .int .i64 (B 1 1), .int .i64 (B 1 2), .int .i64 (B 2 0), .int .i64 (B 2 1), .int .i64 (B 2 2)] 26)
  replace hO := hO.alloc hO.size (.cells #[.int .i64 (B 0 0), .int .i64 (B 0 1), .int .i64 (B 0 2), .int .i64 (B 1 0), .int .i64 (B 1 1), .int .i64 (B 1 2), .int .i64 (B 2 0), .int .i64 (B 2 1), .int .i64 (B 2 2)] 26)
  obtain ⟨al, a0, a1, a2, a3, a4, a5, a6, a7, a8, -, -, -, -, -, -, -, -, -⟩ := (id hA : Nine _ _ (A 0 0) (A 0 1) (A 0 2) (A 1 0) (A 1 1) (A 1 2) (A 2 0) (A 2 1) (A 2 2))
  obtain ⟨bl, b0, b1, b2, b3, b4, b5, b6, b7, b8, -, -, -, -, -, -, -, -, -⟩ := (id hB : Nine _ _ (B 0 0) (B 0 1) (B 0 2) (B 1 0) (B 1 1) (B 1 2) (B 2 0) (B 2 1) (B 2 2))
  go_wp2_with fail
  refine (d5.out _).mono ?_
  rintro e' w6 ⟨rfl, hb1⟩
  replace hV := hV.call hb1
  replace hO := below_then hO hb1
  clear hb1
  have gV := hV.lt
  have t0 := hV.c 0 (by decide)
  have t1 := hV.c 1 (by decide)
  have t2 := hV.c 2 (by decide)
  have t3 := hV.c 3 (by decide)
  have t4 := hV.c 4 (by decide)
  have t5 := hV.c 5 (by decide)
  have t6 := hV.c 6 (by decide)
  have t7 := hV.c 7 (by decide)
  have t8 := hV.c 8 (by decide)
  clear hA hB hV
  go_wp2
  refine wp_loop_rounds 10 ?_
  rw [rounds_succ]
  go_wp2
  go_region
  go_wp2
  rw [rounds_succ]
  go_wp2
  go_region
  go_wp2
  rw [rounds_succ]
  go_wp2
  go_region
  go_wp2
  rw [rounds_succ]
  go_wp2
  go_region
  go_wp2
  rw [rounds_succ]
  go_wp2
  go_region
  go_wp2
  rw [rounds_succ]
  go_wp2
  go_region
  go_wp2
  rw [rounds_succ]
  go_wp2
  go_region
  go_wp2
  rw [rounds_succ]
  go_wp2
  go_region
  go_wp2
  rw [rounds_succ]
  go_wp2
  go_region
  go_wp2
  rw [rounds_succ]
  go_wp2_with fail
  refine (d6.out _).mono ?_
  rintro e' w7 ⟨rfl, hb1⟩
  replace hO := below_then (hO.alloc hO.size (.cells #[.int .i64 (wrap64 (C 0 0 + wrap64 (wrap32 ((Y 0).tdiv 128)))), .int .i64 (wrap64 (C 0 1 + wrap64 (wrap32 ((Y 1).tdiv 128)))), .int .i64 (wrap64 (C 0 2 + wrap64 (wrap32 ((Y 2).tdiv 128)))), .int .i64 (wrap64 (C 1 0 + wrap64 (wrap32 ((Y 3).tdiv 128)))), .int .i64 (wrap64 (C 1 1 + wrap64 (wrap32 ((Y 4).tdiv 128)))), .int .i64 (wrap64 (C 1 2 + wrap64 (wrap32 ((Y 5).tdiv 128)))), .int .i64 (wrap64 (C 2 0 + wrap64 (wrap32 ((Y 6).tdiv 128)))), .int .i64 (wrap64 (C 2 1 + wrap64 (wrap32 ((Y 7).tdiv 128)))), .int .i64 (wrap64 (C 2 2 + wrap64 (wrap32 ((Y 8).tdiv 128))))] 26)).drew.drew.drew.drew.drew.drew.drew.drew.drew hb1
  clear hb1 gV t0 t1 t2 t3 t4 t5 t6 t7 t8
  have hD := Nine.new w7 (D 0 0) (D 0 1) (D 0 2) (D 1 0) (D 1 1) (D 1 2) (D 2 0) (D 2 1) (D 2 2) 26
  replace hO := hO.alloc hO.size (.cells #[.int .i64 (D 0 0), .int .i64 (D 0 1), .int .i64 (D 0 2), .int .i64 (D 1 0), .int .i64 (D 1 1), .int .i64 (D 1 2), .int .i64 (D 2 0), .int .i64 (D 2 1), .int .i64 (D 2 2)] 26)
  obtain ⟨m'l, m'0, m'1, m'2, m'3, m'4, m'5, m'6, m'7, m'8, -, -, -, -, -, -, -, -, -⟩ := (id hD : Nine _ _ (D 0 0) (D 0 1) (D 0 2) (D 1 0) (D 1 1) (D 1 2) (D 2 0) (D 2 1) (D 2 2))
  go_wp2_with fail
  refine (d7.out _).mono ?_
  rintro e' w8 ⟨rfl, hb1⟩
  replace hD := hD.call hb1
  replace hO := below_then hO hb1
  clear hb1
  obtain ⟨m'l, m'0, m'1, m'2, m'3, m'4, m'5, m'6, m'7, m'8, -, -, -, -, -, -, -, -, -⟩ := (id hD : Nine _ _ (D 0 0) (D 0 1) (D 0 2) (D 1 0) (D 1 1) (D 1 2) (D 2 0) (D 2 1) (D 2 2))
  go_wp2_with fail
  refine (d7.out _).mono ?_
  rintro e' w9 ⟨rfl, hb1⟩
  replace hD := hD.call hb1
  replace hO := below_then hO hb1
  clear hb1
  go_wp2
  go_ret
  exact ⟨rfl, hO⟩


set_option maxRecDepth 100000 in
theorem lifted (os : Os) (started : os.Started) (H : Type) (enc : TypeId × Value → H) :
    ReturnsInHanded {} Tryd.checked os 7 .any (fun w args => (Rows.matUprightSpec.pre enc Tryd.prog Tryd.f7 [] false w args ∧ laidMetH Tryd.prog laidT w) ∧ sizedMet enc Tryd.prog Tryd.f7 (OpenSpec.ofChange Rows.matUprightSpec) false w args)
      (Rows.matUprightSpec.post enc Tryd.prog Tryd.f7 false true false false) := by
  refine returnsInHanded_of_change_and (C := Tryd.checked) (X := fun w _ => laidMetH Tryd.prog laidT w) (fun _ _ _ hh h => h.of_heap hh) own started (by kernel_rfl) Tryd.func7
    (ChangeSpec.witness_shaped (enc := enc) (C := Tryd.checked) (os := os) (X := fun w _ => laidMetH Tryd.prog laidT w) false (World.doorLaid Tryd.prog 400 os) #[.int .i64 0, .int .u32 0, .int .i64 0, .int .u32 0, .agg #[.int .i32 0, .int .i32 0, .int .i32 0, .int .i32 0, .int .i32 0, .int .i32 0, .int .i32 0, .int .i32 0, .int .i32 0]] 8 rfl (World.shaped_of_RefB (by kernel_rfl) (by kernel_rfl)) (by kernel_rfl) (by kernel_rfl) (by kernel_rfl) (door_met os _)) ?_
  intro W1 base args ds gs before hval0 hW _ _ hL _
  have hval : ∀ (j : Nat) t v, Tryd.f7.params[j]? = some t → args[j]? = some v → Value.okWide Tryd.prog W1 .any base t v := hval0
  have hW' := hW
  obtain ⟨p, q, hA0, hV, rfl, hfz, hnd⟩ := hW
  have hA : DataW.TrodAll enc Tryd.prog W1 0 (fun _ => true) true Tryd.f7.params.toList args.toList ds p := hA0
  rw [Tryd.params7] at hA hval
  obtain ⟨v0, vs0, d0, ds0, p0, q0, hargs, rfl, rfl, h0, r0⟩ := trodAll_cons hA
  obtain ⟨v1, vs1, d1, ds1, p1, q1, rfl, rfl, rfl, h1, r1⟩ := trodAll_cons r0
  obtain ⟨v2, vs2, d2, ds2, p2, q2, rfl, rfl, rfl, h2, r2⟩ := trodAll_cons r1
  obtain ⟨v3, vs3, d3, ds3, p3, q3, rfl, rfl, rfl, h3, r3⟩ := trodAll_cons r2
  obtain ⟨v4, vs4, d4, ds4, p4, q4, rfl, rfl, rfl, h4, r4⟩ := trodAll_cons r3
  obtain ⟨rfl, rfl, rfl⟩ := trodAll_nil r4
  obtain rfl : args = #[v0, v1, v2, v3, v4] := by cases args; simp_all
  obtain ⟨rfl, rfl⟩ := trodVars_none hV
  obtain ⟨i, rfl, e0, -, w0⟩ := open_int Tryd.underlying3 (hval 0 3 v0 rfl rfl) h0
  obtain ⟨x, rfl, e1, -, w1⟩ := open_int Tryd.underlying35 (hval 1 35 v1 rfl rfl) h1
  obtain ⟨j, rfl, e2, -, w2⟩ := open_int Tryd.underlying3 (hval 2 3 v2 rfl rfl) h2
  obtain ⟨y, rfl, e3, -, w3⟩ := open_int Tryd.underlying35 (hval 3 35 v3 rfl rfl) h3
  obtain ⟨Y, w4, rfl⟩ := open_A9 (hval 4 43 v4 rfl rfl) h4
  have hS := steps_of_laid hL
  clear hA0 hval0 hval hA hL
  refine (walk matC i x j y Y (half_of_wf w0) (word32_of_wf w1) (half_of_wf w2) (word32_of_wf w3) w4 W1 hS).mono fun e W' ⟨he, hg⟩ => ?_
  subst he
  exact ⟨_, rfl, law_post laidOut (by kernel_rfl) rfl (by kernel_rfl) Tryd.underlying4 hW' rfl hg⟩

theorem over : Rows.MatUprightSaid :=
  OpenClaim.holds_of_wide 7 Tryd.f7 rfl rfl rfl rfl rfl rfl rfl ⟨rfl, rfl, rfl, rfl, rfl⟩ rfl rfl rfl rfl rfl (by kernel_rfl) Tryd.func7 (by kernel_rfl)
    (of_decide_eq_true (by kernel_rfl)) (by unfold Func.isWrapper; first | (rw [if_pos (by decide +kernel)]; kernel_rfl) | (rw [if_neg (by decide +kernel)]; exact ⟨rfl, rfl⟩))
    (fun os started H enc _ => lifted os started H enc)

theorem proved : Rows.MatUprightCardSaid :=
  Claim7.holds_tied_plain_at .later [] [.data] true (true, "76501850add5e039de148ba0a8a185064ebbb291c75d7fbdb2f78020d96a9ea8") false
    over (fun _ h => by cases h) (by kernel_rfl) (fun _ h => by cases h) matUpright_row_tie rfl ⟨rfl, rfl⟩ (by kernel_rfl) rfl
    (fun f fn hf hfn => by
      obtain rfl : f = 7 := Option.some.inj ((show Tryd.prog.funcNamed "pelorus/peloruslaw07.MatUpright" = some 7 by kernel_rfl).symm.trans hf) |>.symm
      obtain rfl : fn = Tryd.f7 := (Option.some.inj (Tryd.func7.symm.trans hfn)).symm
      exact ⟨by kernel_rfl, fun j t ht => by
        rw [Tryd.params7] at ht
        have hm : t ∈ [3, 35, 3, 35, 43] := by simpa using Array.mem_of_getElem? ht
        have hall : ([3, 35, 3, 35, 43].all fun u => !Tryd.prog.wantsStandIn u) = true := by kernel_rfl
        exact (show Tryd.prog.wantsStandIn t = false by simpa using List.all_eq_true.1 hall t hm)⟩)
    (by kernel_rfl)
end Go.Proofs.YtodfcbpcgcgijaaDoor.matUpright
