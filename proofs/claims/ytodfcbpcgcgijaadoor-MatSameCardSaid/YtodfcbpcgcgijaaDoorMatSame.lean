import Derived.Test.YtodfcbpcgcgijaaDoorRows
import Derived.Test.YtodfcbpcgcgijaaDoorCards
import Derived.Test.YtodfcbpcgcgijaaDoorTie
import Derived.Test.YtodfcbpcgcgijaaDoorMatW
import Derived.Test.YtodfcbpcgcgijaaDoorMatP
import Derived.Test.YtodfcbpcgcgijaaDoorJK
import Derived.Test.YtodfcbpcgcgijaaDoorJH
import Derived.WalkKit
import Derived.ProofKit
import Derived.OpenShut
import Derived.SevenTiedAt
import Derived.LaidMore
import Derived.Stop.Joined
import Derived.Deep.RegionHeld3
/- Same times a matrix, and a matrix times Same, is the matrix; Same leaves a vector. -/
namespace Go.Proofs.YtodfcbpcgcgijaaDoor.matSame
set_option maxRecDepth 100000
open Go.ChangeShapes Go.WideShapes Go.ChangeAt Go.RowKit
set_option linter.unusedVariables false

attribute [local go_sem] cell_re eqW_self eqV_self eqM_self
attribute [local go_sem ↓] run_eqlW run_neqW run_eqlV run_eqlM run_indexM0 run_indexM1 run_indexM2

set_option maxRecDepth 100000 in
set_option maxHeartbeats 32000000 in
theorem walk (K : MatC) (A : Nat → Nat → Int) (x y z : Int) (hA : HalfM A) (h0 : Half x ∧ Half y ∧ Half z) (w : World) (hS : Steps w) : Calls Tryd.prog 5 #[Mx A, V x y z] w fun e' w' => e' = .returned (.bool true) ∧ Below w.heap.size w w' := by
  obtain ⟨hx, hy, hz⟩ := h0
  have d1 := Lib.hid (fun W1 : World => K.same W1)
  have d2 : Hid (∀ W1 : World, Calls Tryd.prog 9 #[M9 4294967296 0 0 0 4294967296 0 0 0 4294967296, Mx A] W1 fun e' w' => e' = .returned (.tuple #[Mx A, .bool false]) ∧ Below W1.heap.size W1 w') := fun W1 => by
    have := K.mul same A same_half hA W1
    rw [mulC_is hA (same_mulM A)] at this
    exact this
  have d3 : Hid (∀ W1 : World, Calls Tryd.prog 9 #[Mx A, M9 4294967296 0 0 0 4294967296 0 0 0 4294967296] W1 fun e' w' => e' = .returned (.tuple #[Mx A, .bool false]) ∧ Below W1.heap.size W1 w') := fun W1 => by
    have := K.mul A same hA same_half W1
    rw [mulC_is hA (mulM_same A)] at this
    exact this
  have h0 : Half 0 := by unfold Half; omega
  have h1 : Half 4294967296 := by unfold Half; omega
  have d4 : Hid (∀ W1 : World, Calls Tryd.prog 11 #[M9 4294967296 0 0 0 4294967296 0 0 0 4294967296, V x y z] W1 fun e' w' => e' = .returned (.tuple #[V x y z, .bool false]) ∧ Below W1.heap.size W1 w') := fun W1 => by
    have := K.apply 4294967296 0 0 0 4294967296 0 0 0 4294967296 h1 h0 h0 h0 h1 h0 h0 h0 h1 x y z hx hy hz W1
    rw [same_dot0, same_dot1, same_dot2, clip_half hx, clip_half hy, clip_half hz, cut_half hx, cut_half hy, cut_half hz] at this
    exact this
  have d5 := Lib.hid (fun W1 : World => K.back (A 0 0) (A 0 1) (A 0 2) (A 1 0) (A 1 1) (A 1 2) (A 2 0) (A 2 1) (A 2 2) W1)
  have d6 := Lib.hid (fun W1 : World => K.back (A 0 0) (A 1 0) (A 2 0) (A 0 1) (A 1 1) (A 2 1) (A 0 2) (A 1 2) (A 2 2) W1)
  clear h0 h1 hA hx hy hz
  have hA := (Nine.new w (A 0 0) (A 0 1) (A 0 2) (A 1 0) (A 1 1) (A 1 2) (A 2 0) (A 2 1) (A 2 2) 26).alloc (.cells #[.int .i64 x, .int .i64 y, .int .i64 z] 24)
  have hX := Tri.new (w.alloc (.cells #[.int .i64 (A 0 0), .int .i64 (A 0 1), .int .i64 (A 0 2), .int .i64 (A 1 0), .int .i64 (A 1 1), .int .i64 (A 1 2), .int .i64 (A 2 0), .int .i64 (A 2 1), .int .i64 (A 2 2)] 26)) x y z 24
  rw [World.size_alloc] at hX
  have hO : Below w.heap.size w ((w.alloc (.cells #[.int .i64 (A 0 0), .int .i64 (A 0 1), .int .i64 (A 0 2), .int .i64 (A 1 0), .int .i64 (A 1 1), .int .i64 (A 1 2), .int .i64 (A 2 0), .int .i64 (A 2 1), .int .i64 (A 2 2)] 26)).alloc (.cells #[.int .i64 x, .int .i64 y, .int .i64 z] 24)) := by go_grown
  go_enter Tryd.func5, Tryd.ntmps5
  go_wp2_with fail
  refine (works K _ (hS.call hO)).mono ?_
  rintro e' w1 ⟨rfl, hb1⟩
  replace hA := hA.call hb1
  replace hX := hX.call hb1
  replace hO := below_then hO hb1
  clear hb1
  go_upto_region 3 with fail
  go_cut [5, 6] (fun s5 s6 wx => ∃ G1 : Nat, s5 = .pointer (some ⟨G1, 0, none⟩) ∧ s6 = .bool false ∧ Nine wx G1 (A 0 0) (A 0 1) (A 0 2) (A 1 0) (A 1 1) (A 1 2) (A 2 0) (A 2 1) (A 2 2) ∧ Below w.heap.size w wx ∧ Nine wx (w.heap.size) (A 0 0) (A 0 1) (A 0 2) (A 1 0) (A 1 1) (A 1 2) (A 2 0) (A 2 1) (A 2 2) ∧ Tri wx (w.heap.size + 1) x y z)
  case first =>
    have hl00 := fun (W' : World) (h' : Nine W' (w.heap.size) (A 0 0) (A 0 1) (A 0 2) (A 1 0) (A 1 1) (A 1 2) (A 2 0) (A 2 1) (A 2 2)) => h'.c0
    have hl01 := fun (W' : World) (h' : Nine W' (w.heap.size) (A 0 0) (A 0 1) (A 0 2) (A 1 0) (A 1 1) (A 1 2) (A 2 0) (A 2 1) (A 2 2)) => h'.c1
    have hl02 := fun (W' : World) (h' : Nine W' (w.heap.size) (A 0 0) (A 0 1) (A 0 2) (A 1 0) (A 1 1) (A 1 2) (A 2 0) (A 2 1) (A 2 2)) => h'.c2
    have hl03 := fun (W' : World) (h' : Nine W' (w.heap.size) (A 0 0) (A 0 1) (A 0 2) (A 1 0) (A 1 1) (A 1 2) (A 2 0) (A 2 1) (A 2 2)) => h'.c3
    have hl04 := fun (W' : World) (h' : Nine W' (w.heap.size) (A 0 0) (A 0 1) (A 0 2) (A 1 0) (A 1 1) (A 1 2) (A 2 0) (A 2 1) (A 2 2)) => h'.c4
    have hl05 := fun (W' : World) (h' : Nine W' (w.heap.size) (A 0 0) (A 0 1) (A 0 2) (A 1 0) (A 1 1) (A 1 2) (A 2 0) (A 2 1) (A 2 2)) => h'.c5
    have hl06 := fun (W' : World) (h' : Nine W' (w.heap.size) (A 0 0) (A 0 1) (A 0 2) (A 1 0) (A 1 1) (A 1 2) (A 2 0) (A 2 1) (A 2 2)) => h'.c6
    have hl07 := fun (W' : World) (h' : Nine W' (w.heap.size) (A 0 0) (A 0 1) (A 0 2) (A 1 0) (A 1 1) (A 1 2) (A 2 0) (A 2 1) (A 2 2)) => h'.c7
    have hl08 := fun (W' : World) (h' : Nine W' (w.heap.size) (A 0 0) (A 0 1) (A 0 2) (A 1 0) (A 1 1) (A 1 2) (A 2 0) (A 2 1) (A 2 2)) => h'.c8
    go_region_held3 (fun W' => Nine W' (w.heap.size) (A 0 0) (A 0 1) (A 0 2) (A 1 0) (A 1 1) (A 1 2) (A 2 0) (A 2 1) (A 2 2)) (first | (with_reducible exact hA) | (with_reducible exact hA.drew) | (with_reducible exact (hA.alloc (.cells #[.int .i64 0, .int .i64 0, .int .i64 0, .int .i64 0, .int .i64 0, .int .i64 0, .int .i64 0, .int .i64 0, .int .i64 0] 26)).drew) | (with_reducible exact hA.drew.alloc (.cells #[.int .i64 0, .int .i64 0, .int .i64 0, .int .i64 0, .int .i64 0, .int .i64 0, .int .i64 0, .int .i64 0, .int .i64 0] 26)) | (with_reducible exact hA1) | (with_reducible exact hA1.alloc (.cells #[.int .i64 0, .int .i64 0, .int .i64 0, .int .i64 0, .int .i64 0, .int .i64 0, .int .i64 0, .int .i64 0, .int .i64 0] 26)) | (with_reducible exact hA2) | (with_reducible exact hA2.alloc (.cells #[.int .i64 (A 0 0), .int .i64 (A 0 1), .int .i64 (A 0 2), .int .i64 (A 1 0), .int .i64 (A 1 1), .int .i64 (A 1 2), .int .i64 (A 2 0), .int .i64 (A 2 1), .int .i64 (A 2 2)] 26)) | (with_reducible exact hA2.alloc (.cells #[.int .i64 0, .int .i64 0, .int .i64 0, .int .i64 0, .int .i64 0, .int .i64 0, .int .i64 0, .int .i64 0, .int .i64 0] 26)) | (with_reducible exact hA2.apartM (Nat.ne_of_lt hAg) (A 0 0) (A 0 1) (A 0 2) (A 1 0) (A 1 1) (A 1 2) (A 2 0) (A 2 1) (A 2 2))) (first
      | (go_at_call 15; refine (d1.out _).mono ?_; rintro e' wa ⟨rfl, hb1⟩; (first | (have hZ0 := Nine.new w1 0 0 0 0 0 0 0 0 0 26; have hZ1 : Nine wa w1.heap.size 0 0 0 0 0 0 0 0 0 := (by with_reducible exact hZ0.drew.call hb1); clear hZ0; have hA1 : Nine wa (w.heap.size) (A 0 0) (A 0 1) (A 0 2) (A 1 0) (A 1 1) (A 1 2) (A 2 0) (A 2 1) (A 2 2) := (by with_reducible exact (hA.alloc (.cells #[.int .i64 0, .int .i64 0, .int .i64 0, .int .i64 0, .int .i64 0, .int .i64 0, .int .i64 0, .int .i64 0, .int .i64 0] 26)).drew.call hb1); have hX1 : Tri wa (w.heap.size + 1) x y z := (by with_reducible exact (hX.alloc (.cells #[.int .i64 0, .int .i64 0, .int .i64 0, .int .i64 0, .int .i64 0, .int .i64 0, .int .i64 0, .int .i64 0, .int .i64 0] 26)).drew.call hb1); have hO1 : Below w.heap.size w wa := (by with_reducible exact below_then (hO.alloc hO.size (.cells #[.int .i64 0, .int .i64 0, .int .i64 0, .int .i64 0, .int .i64 0, .int .i64 0, .int .i64 0, .int .i64 0, .int .i64 0] 26)).drew hb1); have hG := hO.size; have hAg := hA.lt; have hXg := hX.lt) | (have hA1 : Nine wa (w.heap.size) (A 0 0) (A 0 1) (A 0 2) (A 1 0) (A 1 1) (A 1 2) (A 2 0) (A 2 1) (A 2 2) := (by with_reducible exact hA.drew.call hb1); have hX1 : Tri wa (w.heap.size + 1) x y z := (by with_reducible exact hX.drew.call hb1); have hO1 : Below w.heap.size w wa := (by with_reducible exact below_then hO.drew hb1); have hZ1 := True.intro)))
      | (go_at_call 9; refine (d2.out _).mono ?_; rintro e' wb ⟨rfl, hb2⟩; (first | (have hZ2 : Nine wb w1.heap.size 0 0 0 0 0 0 0 0 0 := (by with_reducible exact hZ1.call hb2); have hA2 : Nine wb (w.heap.size) (A 0 0) (A 0 1) (A 0 2) (A 1 0) (A 1 1) (A 1 2) (A 2 0) (A 2 1) (A 2 2) := (by with_reducible exact hA1.call hb2); have hX2 : Tri wb (w.heap.size + 1) x y z := (by with_reducible exact hX1.call hb2); have hO2 : Below w.heap.size w wb := (by with_reducible exact below_then hO1 hb2); obtain ⟨zl, z0, z1, z2, z3, z4, z5, z6, z7, z8, z9, z10, z11, z12, z13, z14, z15, z16, z17⟩ := (id hZ2 : Nine _ _ 0 0 0 0 0 0 0 0 0)) | (have hZ2 : Nine wb wa.heap.size 0 0 0 0 0 0 0 0 0 := (by with_reducible exact (Nine.new wa 0 0 0 0 0 0 0 0 0 26).call hb2); have hA2 : Nine wb (w.heap.size) (A 0 0) (A 0 1) (A 0 2) (A 1 0) (A 1 1) (A 1 2) (A 2 0) (A 2 1) (A 2 2) := (by with_reducible exact (hA1.alloc (.cells #[.int .i64 0, .int .i64 0, .int .i64 0, .int .i64 0, .int .i64 0, .int .i64 0, .int .i64 0, .int .i64 0, .int .i64 0] 26)).call hb2); have hX2 : Tri wb (w.heap.size + 1) x y z := (by with_reducible exact (hX1.alloc (.cells #[.int .i64 0, .int .i64 0, .int .i64 0, .int .i64 0, .int .i64 0, .int .i64 0, .int .i64 0, .int .i64 0, .int .i64 0] 26)).call hb2); have hO2 : Below w.heap.size w wb := (by with_reducible exact below_then (hO1.alloc hO1.size (.cells #[.int .i64 0, .int .i64 0, .int .i64 0, .int .i64 0, .int .i64 0, .int .i64 0, .int .i64 0, .int .i64 0, .int .i64 0] 26)) hb2); have hG := hO1.size; have hAg := hA1.lt; have hXg := hX1.lt; obtain ⟨zl, z0, z1, z2, z3, z4, z5, z6, z7, z8, z9, z10, z11, z12, z13, z14, z15, z16, z17⟩ := (id hZ2 : Nine _ _ 0 0 0 0 0 0 0 0 0)) | (have hA2 : Nine wb (w.heap.size) (A 0 0) (A 0 1) (A 0 2) (A 1 0) (A 1 1) (A 1 2) (A 2 0) (A 2 1) (A 2 2) := (by with_reducible exact hA1.call hb2); have hX2 : Tri wb (w.heap.size + 1) x y z := (by with_reducible exact hX1.call hb2); have hO2 : Below w.heap.size w wb := (by with_reducible exact below_then hO1 hb2); have hZ2 := True.intro))))
    all_goals
      clear hl00 hl01 hl02 hl03 hl04 hl05 hl06 hl07 hl08
      first | (have hN := hZ2.same (A 0 0) (A 0 1) (A 0 2) (A 1 0) (A 1 1) (A 1 2) (A 2 0) (A 2 1) (A 2 2); have hO3 := below_putM hO2 hG (A 0 0) (A 0 1) (A 0 2) (A 1 0) (A 1 1) (A 1 2) (A 2 0) (A 2 1) (A 2 2); have hA3 := hA2.apartM (Nat.ne_of_lt hAg) (A 0 0) (A 0 1) (A 0 2) (A 1 0) (A 1 1) (A 1 2) (A 2 0) (A 2 1) (A 2 2); have hX3 := hX2.apartM (Nat.ne_of_lt hXg) (A 0 0) (A 0 1) (A 0 2) (A 1 0) (A 1 1) (A 1 2) (A 2 0) (A 2 1) (A 2 2)) | (have hN := Nine.new wb (A 0 0) (A 0 1) (A 0 2) (A 1 0) (A 1 1) (A 1 2) (A 2 0) (A 2 1) (A 2 2) 26; have hO3 := hO2.alloc hO2.size (.cells #[.int .i64 (A 0 0), .int .i64 (A 0 1), .int .i64 (A 0 2), .int .i64 (A 1 0), .int .i64 (A 1 1), .int .i64 (A 1 2), .int .i64 (A 2 0), .int .i64 (A 2 1), .int .i64 (A 2 2)] 26); have hA3 := hA2.alloc (.cells #[.int .i64 (A 0 0), .int .i64 (A 0 1), .int .i64 (A 0 2), .int .i64 (A 1 0), .int .i64 (A 1 1), .int .i64 (A 1 2), .int .i64 (A 2 0), .int .i64 (A 2 1), .int .i64 (A 2 2)] 26); have hX3 := hX2.alloc (.cells #[.int .i64 (A 0 0), .int .i64 (A 0 1), .int .i64 (A 0 2), .int .i64 (A 1 0), .int .i64 (A 1 1), .int .i64 (A 1 2), .int .i64 (A 2 0), .int .i64 (A 2 1), .int .i64 (A 2 2)] 26))
      go_wp2_with fail
      go_meet
      exact ⟨_, rfl, rfl, hN, hO3, hA3, hX3⟩
  case rest =>
    clear hO hA hX
    obtain ⟨G1, rfl, rfl, hN, hO, hA, hX⟩ := hcut
    have hP := hN
    clear hN
    go_upto_region 4 with fail
    go_cut [7, 8] (fun s7 s8 wx => ∃ G2 : Nat, s7 = .pointer (some ⟨G2, 0, none⟩) ∧ s8 = .bool false ∧ Nine wx G2 (A 0 0) (A 0 1) (A 0 2) (A 1 0) (A 1 1) (A 1 2) (A 2 0) (A 2 1) (A 2 2) ∧ Below w.heap.size w wx ∧ Nine wx (w.heap.size) (A 0 0) (A 0 1) (A 0 2) (A 1 0) (A 1 1) (A 1 2) (A 2 0) (A 2 1) (A 2 2) ∧ Tri wx (w.heap.size + 1) x y z ∧ Nine wx (G1) (A 0 0) (A 0 1) (A 0 2) (A 1 0) (A 1 1) (A 1 2) (A 2 0) (A 2 1) (A 2 2))
    case first =>
      have hl00 := fun (W' : World) (h' : Nine W' (w.heap.size) (A 0 0) (A 0 1) (A 0 2) (A 1 0) (A 1 1) (A 1 2) (A 2 0) (A 2 1) (A 2 2)) => h'.c0
      have hl01 := fun (W' : World) (h' : Nine W' (w.heap.size) (A 0 0) (A 0 1) (A 0 2) (A 1 0) (A 1 1) (A 1 2) (A 2 0) (A 2 1) (A 2 2)) => h'.c1
      have hl02 := fun (W' : World) (h' : Nine W' (w.heap.size) (A 0 0) (A 0 1) (A 0 2) (A 1 0) (A 1 1) (A 1 2) (A 2 0) (A 2 1) (A 2 2)) => h'.c2
      have hl03 := fun (W' : World) (h' : Nine W' (w.heap.size) (A 0 0) (A 0 1) (A 0 2) (A 1 0) (A 1 1) (A 1 2) (A 2 0) (A 2 1) (A 2 2)) => h'.c3
      have hl04 := fun (W' : World) (h' : Nine W' (w.heap.size) (A 0 0) (A 0 1) (A 0 2) (A 1 0) (A 1 1) (A 1 2) (A 2 0) (A 2 1) (A 2 2)) => h'.c4
      have hl05 := fun (W' : World) (h' : Nine W' (w.heap.size) (A 0 0) (A 0 1) (A 0 2) (A 1 0) (A 1 1) (A 1 2) (A 2 0) (A 2 1) (A 2 2)) => h'.c5
      have hl06 := fun (W' : World) (h' : Nine W' (w.heap.size) (A 0 0) (A 0 1) (A 0 2) (A 1 0) (A 1 1) (A 1 2) (A 2 0) (A 2 1) (A 2 2)) => h'.c6
      have hl07 := fun (W' : World) (h' : Nine W' (w.heap.size) (A 0 0) (A 0 1) (A 0 2) (A 1 0) (A 1 1) (A 1 2) (A 2 0) (A 2 1) (A 2 2)) => h'.c7
      have hl08 := fun (W' : World) (h' : Nine W' (w.heap.size) (A 0 0) (A 0 1) (A 0 2) (A 1 0) (A 1 1) (A 1 2) (A 2 0) (A 2 1) (A 2 2)) => h'.c8
      go_region_held3 (fun W' => Nine W' (w.heap.size) (A 0 0) (A 0 1) (A 0 2) (A 1 0) (A 1 1) (A 1 2) (A 2 0) (A 2 1) (A 2 2)) (first | (with_reducible exact hA) | (with_reducible exact hA.drew) | (with_reducible exact (hA.alloc (.cells #[.int .i64 0, .int .i64 0, .int .i64 0, .int .i64 0, .int .i64 0, .int .i64 0, .int .i64 0, .int .i64 0, .int .i64 0] 26)).drew) | (with_reducible exact hA.drew.alloc (.cells #[.int .i64 0, .int .i64 0, .int .i64 0, .int .i64 0, .int .i64 0, .int .i64 0, .int .i64 0, .int .i64 0, .int .i64 0] 26)) | (with_reducible exact hA1) | (with_reducible exact hA1.alloc (.cells #[.int .i64 0, .int .i64 0, .int .i64 0, .int .i64 0, .int .i64 0, .int .i64 0, .int .i64 0, .int .i64 0, .int .i64 0] 26)) | (with_reducible exact hA2) | (with_reducible exact hA2.alloc (.cells #[.int .i64 (A 0 0), .int .i64 (A 0 1), .int .i64 (A 0 2), .int .i64 (A 1 0), .int .i64 (A 1 1), .int .i64 (A 1 2), .int .i64 (A 2 0), .int .i64 (A 2 1), .int .i64 (A 2 2)] 26)) | (with_reducible exact hA2.alloc (.cells #[.int .i64 0, .int .i64 0, .int .i64 0, .int .i64 0, .int .i64 0, .int .i64 0, .int .i64 0, .int .i64 0, .int .i64 0] 26)) | (with_reducible exact hA2.apartM (Nat.ne_of_lt hAg) (A 0 0) (A 0 1) (A 0 2) (A 1 0) (A 1 1) (A 1 2) (A 2 0) (A 2 1) (A 2 2))) (first
        | (go_at_call 15; refine (d1.out _).mono ?_; rintro e' wa ⟨rfl, hb1⟩; (first | (have hZ0 := Nine.new wc 0 0 0 0 0 0 0 0 0 26; have hZ1 : Nine wa wc.heap.size 0 0 0 0 0 0 0 0 0 := (by with_reducible exact hZ0.drew.call hb1); clear hZ0; have hA1 : Nine wa (w.heap.size) (A 0 0) (A 0 1) (A 0 2) (A 1 0) (A 1 1) (A 1 2) (A 2 0) (A 2 1) (A 2 2) := (by with_reducible exact (hA.alloc (.cells #[.int .i64 0, .int .i64 0, .int .i64 0, .int .i64 0, .int .i64 0, .int .i64 0, .int .i64 0, .int .i64 0, .int .i64 0] 26)).drew.call hb1); have hX1 : Tri wa (w.heap.size + 1) x y z := (by with_reducible exact (hX.alloc (.cells #[.int .i64 0, .int .i64 0, .int .i64 0, .int .i64 0, .int .i64 0, .int .i64 0, .int .i64 0, .int .i64 0, .int .i64 0] 26)).drew.call hb1); have hP1 : Nine wa (G1) (A 0 0) (A 0 1) (A 0 2) (A 1 0) (A 1 1) (A 1 2) (A 2 0) (A 2 1) (A 2 2) := (by with_reducible exact (hP.alloc (.cells #[.int .i64 0, .int .i64 0, .int .i64 0, .int .i64 0, .int .i64 0, .int .i64 0, .int .i64 0, .int .i64 0, .int .i64 0] 26)).drew.call hb1); have hO1 : Below w.heap.size w wa := (by with_reducible exact below_then (hO.alloc hO.size (.cells #[.int .i64 0, .int .i64 0, .int .i64 0, .int .i64 0, .int .i64 0, .int .i64 0, .int .i64 0, .int .i64 0, .int .i64 0] 26)).drew hb1); have hG := hO.size; have hAg := hA.lt; have hXg := hX.lt; have hPg := hP.lt) | (have hA1 : Nine wa (w.heap.size) (A 0 0) (A 0 1) (A 0 2) (A 1 0) (A 1 1) (A 1 2) (A 2 0) (A 2 1) (A 2 2) := (by with_reducible exact hA.drew.call hb1); have hX1 : Tri wa (w.heap.size + 1) x y z := (by with_reducible exact hX.drew.call hb1); have hP1 : Nine wa (G1) (A 0 0) (A 0 1) (A 0 2) (A 1 0) (A 1 1) (A 1 2) (A 2 0) (A 2 1) (A 2 2) := (by with_reducible exact hP.drew.call hb1); have hO1 : Below w.heap.size w wa := (by with_reducible exact below_then hO.drew hb1); have hZ1 := True.intro)))
        | (go_at_call 9; refine (d3.out _).mono ?_; rintro e' wb ⟨rfl, hb2⟩; (first | (have hZ2 : Nine wb wc.heap.size 0 0 0 0 0 0 0 0 0 := (by with_reducible exact hZ1.call hb2); have hA2 : Nine wb (w.heap.size) (A 0 0) (A 0 1) (A 0 2) (A 1 0) (A 1 1) (A 1 2) (A 2 0) (A 2 1) (A 2 2) := (by with_reducible exact hA1.call hb2); have hX2 : Tri wb (w.heap.size + 1) x y z := (by with_reducible exact hX1.call hb2); have hP2 : Nine wb (G1) (A 0 0) (A 0 1) (A 0 2) (A 1 0) (A 1 1) (A 1 2) (A 2 0) (A 2 1) (A 2 2) := (by with_reducible exact hP1.call hb2); have hO2 : Below w.heap.size w wb := (by with_reducible exact below_then hO1 hb2); obtain ⟨zl, z0, z1, z2, z3, z4, z5, z6, z7, z8, z9, z10, z11, z12, z13, z14, z15, z16, z17⟩ := (id hZ2 : Nine _ _ 0 0 0 0 0 0 0 0 0)) | (have hZ2 : Nine wb wa.heap.size 0 0 0 0 0 0 0 0 0 := (by with_reducible exact (Nine.new wa 0 0 0 0 0 0 0 0 0 26).call hb2); have hA2 : Nine wb (w.heap.size) (A 0 0) (A 0 1) (A 0 2) (A 1 0) (A 1 1) (A 1 2) (A 2 0) (A 2 1) (A 2 2) := (by with_reducible exact (hA1.alloc (.cells #[.int .i64 0, .int .i64 0, .int .i64 0, .int .i64 0, .int .i64 0, .int .i64 0, .int .i64 0, .int .i64 0, .int .i64 0] 26)).call hb2); have hX2 : Tri wb (w.heap.size + 1) x y z := (by with_reducible exact (hX1.alloc (.cells #[.int .i64 0, .int .i64 0, .int .i64 0, .int .i64 0, .int .i64 0, .int .i64 0, .int .i64 0, .int .i64 0, .int .i64 0] 26)).call hb2); have hP2 : Nine wb (G1) (A 0 0) (A 0 1) (A 0 2) (A 1 0) (A 1 1) (A 1 2) (A 2 0) (A 2 1) (A 2 2) := (by with_reducible exact (hP1.alloc (.cells #[.int .i64 0, .int .i64 0, .int .i64 0, .int .i64 0, .int .i64 0, .int .i64 0, .int .i64 0, .int .i64 0, .int .i64 0] 26)).call hb2); have hO2 : Below w.heap.size w wb := (by with_reducible exact below_then (hO1.alloc hO1.size (.cells #[.int .i64 0, .int .i64 0, .int .i64 0, .int .i64 0, .int .i64 0, .int .i64 0, .int .i64 0, .int .i64 0, .int .i64 0] 26)) hb2); have hG := hO1.size; have hAg := hA1.lt; have hXg := hX1.lt; have hPg := hP1.lt; obtain ⟨zl, z0, z1, z2, z3, z4, z5, z6, z7, z8, z9, z10, z11, z12, z13, z14, z15, z16, z17⟩ := (id hZ2 : Nine _ _ 0 0 0 0 0 0 0 0 0)) | (have hA2 : Nine wb (w.heap.size) (A 0 0) (A 0 1) (A 0 2) (A 1 0) (A 1 1) (A 1 2) (A 2 0) (A 2 1) (A 2 2) := (by with_reducible exact hA1.call hb2); have hX2 : Tri wb (w.heap.size + 1) x y z := (by with_reducible exact hX1.call hb2); have hP2 : Nine wb (G1) (A 0 0) (A 0 1) (A 0 2) (A 1 0) (A 1 1) (A 1 2) (A 2 0) (A 2 1) (A 2 2) := (by with_reducible exact hP1.call hb2); have hO2 : Below w.heap.size w wb := (by with_reducible exact below_then hO1 hb2); have hZ2 := True.intro))))
      all_goals
        clear hl00 hl01 hl02 hl03 hl04 hl05 hl06 hl07 hl08
        first | (have hN := hZ2.same (A 0 0) (A 0 1) (A 0 2) (A 1 0) (A 1 1) (A 1 2) (A 2 0) (A 2 1) (A 2 2); have hO3 := below_putM hO2 hG (A 0 0) (A 0 1) (A 0 2) (A 1 0) (A 1 1) (A 1 2) (A 2 0) (A 2 1) (A 2 2); have hA3 := hA2.apartM (Nat.ne_of_lt hAg) (A 0 0) (A 0 1) (A 0 2) (A 1 0) (A 1 1) (A 1 2) (A 2 0) (A 2 1) (A 2 2); have hX3 := hX2.apartM (Nat.ne_of_lt hXg) (A 0 0) (A 0 1) (A 0 2) (A 1 0) (A 1 1) (A 1 2) (A 2 0) (A 2 1) (A 2 2); have hP3 := hP2.apartM (Nat.ne_of_lt hPg) (A 0 0) (A 0 1) (A 0 2) (A 1 0) (A 1 1) (A 1 2) (A 2 0) (A 2 1) (A 2 2)) | (have hN := Nine.new wb (A 0 0) (A 0 1) (A 0 2) (A 1 0) (A 1 1) (A 1 2) (A 2 0) (A 2 1) (A 2 2) 26; have hO3 := hO2.alloc hO2.size (.cells #[.int .i64 (A 0 0), .int .i64 (A 0 1), .int .i64 (A 0 2), .int .i64 (A 1 0), .int .i64 (A 1 1), .int .i64 (A 1 2), .int .i64 (A 2 0), .int .i64 (A 2 1), .int .i64 (A 2 2)] 26); have hA3 := hA2.alloc (.cells #[.int .i64 (A 0 0), .int .i64 (A 0 1), .int .i64 (A 0 2), .int .i64 (A 1 0), .int .i64 (A 1 1), .int .i64 (A 1 2), .int .i64 (A 2 0), .int .i64 (A 2 1), .int .i64 (A 2 2)] 26); have hX3 := hX2.alloc (.cells #[.int .i64 (A 0 0), .int .i64 (A 0 1), .int .i64 (A 0 2), .int .i64 (A 1 0), .int .i64 (A 1 1), .int .i64 (A 1 2), .int .i64 (A 2 0), .int .i64 (A 2 1), .int .i64 (A 2 2)] 26); have hP3 := hP2.alloc (.cells #[.int .i64 (A 0 0), .int .i64 (A 0 1), .int .i64 (A 0 2), .int .i64 (A 1 0), .int .i64 (A 1 1), .int .i64 (A 1 2), .int .i64 (A 2 0), .int .i64 (A 2 1), .int .i64 (A 2 2)] 26))
        go_wp2_with fail
        go_meet
        exact ⟨_, rfl, rfl, hN, hO3, hA3, hX3, hP3⟩
    case rest =>
      clear hO hA hX hP
      obtain ⟨G2, rfl, rfl, hN, hO, hA, hX, hP⟩ := hcut
      have hQ := hN
      clear hN
      go_upto_region 5 with fail
      go_cut [9, 10] (fun s9 s10 wx => ∃ G3 : Nat, s9 = .pointer (some ⟨G3, 0, none⟩) ∧ s10 = .bool false ∧ Tri wx G3 x y z ∧ Below w.heap.size w wx ∧ Tri wx (w.heap.size + 1) x y z ∧ Nine wx (w.heap.size) (A 0 0) (A 0 1) (A 0 2) (A 1 0) (A 1 1) (A 1 2) (A 2 0) (A 2 1) (A 2 2) ∧ Nine wx (G1) (A 0 0) (A 0 1) (A 0 2) (A 1 0) (A 1 1) (A 1 2) (A 2 0) (A 2 1) (A 2 2) ∧ Nine wx (G2) (A 0 0) (A 0 1) (A 0 2) (A 1 0) (A 1 1) (A 1 2) (A 2 0) (A 2 1) (A 2 2))
      case first =>
        have hl00 := fun (W' : World) (h' : Tri W' (w.heap.size + 1) x y z) => h'.c0
        have hl01 := fun (W' : World) (h' : Tri W' (w.heap.size + 1) x y z) => h'.c1
        have hl02 := fun (W' : World) (h' : Tri W' (w.heap.size + 1) x y z) => h'.c2
        go_region_held3 (fun W' => Tri W' (w.heap.size + 1) x y z) (first | (with_reducible exact hX) | (with_reducible exact hX.drew) | (with_reducible exact (hX.alloc (.cells #[.int .i64 0, .int .i64 0, .int .i64 0] 24)).drew) | (with_reducible exact hX.drew.alloc (.cells #[.int .i64 0, .int .i64 0, .int .i64 0] 24)) | (with_reducible exact hX1) | (with_reducible exact hX1.alloc (.cells #[.int .i64 0, .int .i64 0, .int .i64 0] 24)) | (with_reducible exact hX2) | (with_reducible exact hX2.alloc (.cells #[.int .i64 x, .int .i64 y, .int .i64 z] 24)) | (with_reducible exact hX2.alloc (.cells #[.int .i64 0, .int .i64 0, .int .i64 0] 24)) | (with_reducible exact hX2.apartV (Nat.ne_of_lt hXg) x y z)) (first
          | (go_at_call 15; refine (d1.out _).mono ?_; rintro e' wa ⟨rfl, hb1⟩; (first | (have hZ0 := Tri.new wc 0 0 0 24; have hZ1 : Tri wa wc.heap.size 0 0 0 := (by with_reducible exact hZ0.drew.call hb1); clear hZ0; have hX1 : Tri wa (w.heap.size + 1) x y z := (by with_reducible exact (hX.alloc (.cells #[.int .i64 0, .int .i64 0, .int .i64 0] 24)).drew.call hb1); have hA1 : Nine wa (w.heap.size) (A 0 0) (A 0 1) (A 0 2) (A 1 0) (A 1 1) (A 1 2) (A 2 0) (A 2 1) (A 2 2) := (by with_reducible exact (hA.alloc (.cells #[.int .i64 0, .int .i64 0, .int .i64 0] 24)).drew.call hb1); have hP1 : Nine wa (G1) (A 0 0) (A 0 1) (A 0 2) (A 1 0) (A 1 1) (A 1 2) (A 2 0) (A 2 1) (A 2 2) := (by with_reducible exact (hP.alloc (.cells #[.int .i64 0, .int .i64 0, .int .i64 0] 24)).drew.call hb1); have hQ1 : Nine wa (G2) (A 0 0) (A 0 1) (A 0 2) (A 1 0) (A 1 1) (A 1 2) (A 2 0) (A 2 1) (A 2 2) := (by with_reducible exact (hQ.alloc (.cells #[.int .i64 0, .int .i64 0, .int .i64 0] 24)).drew.call hb1); have hO1 : Below w.heap.size w wa := (by with_reducible exact below_then (hO.alloc hO.size (.cells #[.int .i64 0, .int .i64 0, .int .i64 0] 24)).drew hb1); have hG := hO.size; have hXg := hX.lt; have hAg := hA.lt; have hPg := hP.lt; have hQg := hQ.lt) | (have hX1 : Tri wa (w.heap.size + 1) x y z := (by with_reducible exact hX.drew.call hb1); have hA1 : Nine wa (w.heap.size) (A 0 0) (A 0 1) (A 0 2) (A 1 0) (A 1 1) (A 1 2) (A 2 0) (A 2 1) (A 2 2) := (by with_reducible exact hA.drew.call hb1); have hP1 : Nine wa (G1) (A 0 0) (A 0 1) (A 0 2) (A 1 0) (A 1 1) (A 1 2) (A 2 0) (A 2 1) (A 2 2) := (by with_reducible exact hP.drew.call hb1); have hQ1 : Nine wa (G2) (A 0 0) (A 0 1) (A 0 2) (A 1 0) (A 1 1) (A 1 2) (A 2 0) (A 2 1) (A 2 2) := (by with_reducible exact hQ.drew.call hb1); have hO1 : Below w.heap.size w wa := (by with_reducible exact below_then hO.drew hb1); have hZ1 := True.intro)))
          | (go_at_call 11; refine (d4.out _).mono ?_; rintro e' wb ⟨rfl, hb2⟩; (first | (have hZ2 : Tri wb wc.heap.size 0 0 0 := (by with_reducible exact hZ1.call hb2); have hX2 : Tri wb (w.heap.size + 1) x y z := (by with_reducible exact hX1.call hb2); have hA2 : Nine wb (w.heap.size) (A 0 0) (A 0 1) (A 0 2) (A 1 0) (A 1 1) (A 1 2) (A 2 0) (A 2 1) (A 2 2) := (by with_reducible exact hA1.call hb2); have hP2 : Nine wb (G1) (A 0 0) (A 0 1) (A 0 2) (A 1 0) (A 1 1) (A 1 2) (A 2 0) (A 2 1) (A 2 2) := (by with_reducible exact hP1.call hb2); have hQ2 : Nine wb (G2) (A 0 0) (A 0 1) (A 0 2) (A 1 0) (A 1 1) (A 1 2) (A 2 0) (A 2 1) (A 2 2) := (by with_reducible exact hQ1.call hb2); have hO2 : Below w.heap.size w wb := (by with_reducible exact below_then hO1 hb2); obtain ⟨zl, z0, z1, z2, z3, z4, z5⟩ := (id hZ2 : Tri _ _ 0 0 0)) | (have hZ2 : Tri wb wa.heap.size 0 0 0 := (by with_reducible exact (Tri.new wa 0 0 0 24).call hb2); have hX2 : Tri wb (w.heap.size + 1) x y z := (by with_reducible exact (hX1.alloc (.cells #[.int .i64 0, .int .i64 0, .int .i64 0] 24)).call hb2); have hA2 : Nine wb (w.heap.size) (A 0 0) (A 0 1) (A 0 2) (A 1 0) (A 1 1) (A 1 2) (A 2 0) (A 2 1) (A 2 2) := (by with_reducible exact (hA1.alloc (.cells #[.int .i64 0, .int .i64 0, .int .i64 0] 24)).call hb2); have hP2 : Nine wb (G1) (A 0 0) (A 0 1) (A 0 2) (A 1 0) (A 1 1) (A 1 2) (A 2 0) (A 2 1) (A 2 2) := (by with_reducible exact (hP1.alloc (.cells #[.int .i64 0, .int .i64 0, .int .i64 0] 24)).call hb2); have hQ2 : Nine wb (G2) (A 0 0) (A 0 1) (A 0 2) (A 1 0) (A 1 1) (A 1 2) (A 2 0) (A 2 1) (A 2 2) := (by with_reducible exact (hQ1.alloc (.cells #[.int .i64 0, .int .i64 0, .int .i64 0] 24)).call hb2); have hO2 : Below w.heap.size w wb := (by with_reducible exact below_then (hO1.alloc hO1.size (.cells #[.int .i64 0, .int .i64 0, .int .i64 0] 24)) hb2); have hG := hO1.size; have hXg := hX1.lt; have hAg := hA1.lt; have hPg := hP1.lt; have hQg := hQ1.lt; obtain ⟨zl, z0, z1, z2, z3, z4, z5⟩ := (id hZ2 : Tri _ _ 0 0 0)) | (have hX2 : Tri wb (w.heap.size + 1) x y z := (by with_reducible exact hX1.call hb2); have hA2 : Nine wb (w.heap.size) (A 0 0) (A 0 1) (A 0 2) (A 1 0) (A 1 1) (A 1 2) (A 2 0) (A 2 1) (A 2 2) := (by with_reducible exact hA1.call hb2); have hP2 : Nine wb (G1) (A 0 0) (A 0 1) (A 0 2) (A 1 0) (A 1 1) (A 1 2) (A 2 0) (A 2 1) (A 2 2) := (by with_reducible exact hP1.call hb2); have hQ2 : Nine wb (G2) (A 0 0) (A 0 1) (A 0 2) (A 1 0) (A 1 1) (A 1 2) (A 2 0) (A 2 1) (A 2 2) := (by with_reducible exact hQ1.call hb2); have hO2 : Below w.heap.size w wb := (by with_reducible exact below_then hO1 hb2); have hZ2 := True.intro))))
        all_goals
          clear hl00 hl01 hl02
          first | (have hN := hZ2.same x y z; have hO3 := below_putV hO2 hG x y z; have hX3 := hX2.apartV (Nat.ne_of_lt hXg) x y z; have hA3 := hA2.apartV (Nat.ne_of_lt hAg) x y z; have hP3 := hP2.apartV (Nat.ne_of_lt hPg) x y z; have hQ3 := hQ2.apartV (Nat.ne_of_lt hQg) x y z) | (have hN := Tri.new wb x y z 24; have hO3 := hO2.alloc hO2.size (.cells #[.int .i64 x, .int .i64 y, .int .i64 z] 24); have hX3 := hX2.alloc (.cells #[.int .i64 x, .int .i64 y, .int .i64 z] 24); have hA3 := hA2.alloc (.cells #[.int .i64 x, .int .i64 y, .int .i64 z] 24); have hP3 := hP2.alloc (.cells #[.int .i64 x, .int .i64 y, .int .i64 z] 24); have hQ3 := hQ2.alloc (.cells #[.int .i64 x, .int .i64 y, .int .i64 z] 24))
          go_wp2_with fail
          go_meet
          exact ⟨_, rfl, rfl, hN, hO3, hX3, hA3, hP3, hQ3⟩
      case rest =>
        clear hO hX hA hP hQ
        obtain ⟨G3, rfl, rfl, hN, hO, hX, hA, hP, hQ⟩ := hcut
        have hV := hN
        clear hN
        obtain ⟨al, a0, a1, a2, a3, a4, a5, a6, a7, a8, -, -, -, -, -, -, -, -, -⟩ := (id hA : Nine _ _ (A 0 0) (A 0 1) (A 0 2) (A 1 0) (A 1 1) (A 1 2) (A 2 0) (A 2 1) (A 2 2))
        obtain ⟨x'l, x'0, x'1, x'2, -, -, -⟩ := (id hX : Tri _ _ x y z)
        obtain ⟨pl, p0, p1, p2, p3, p4, p5, p6, p7, p8, -, -, -, -, -, -, -, -, -⟩ := (id hP : Nine _ _ (A 0 0) (A 0 1) (A 0 2) (A 1 0) (A 1 1) (A 1 2) (A 2 0) (A 2 1) (A 2 2))
        obtain ⟨ql, q0, q1, q2, q3, q4, q5, q6, q7, q8, -, -, -, -, -, -, -, -, -⟩ := (id hQ : Nine _ _ (A 0 0) (A 0 1) (A 0 2) (A 1 0) (A 1 1) (A 1 2) (A 2 0) (A 2 1) (A 2 2))
        obtain ⟨vl, v0, v1, v2, -, -, -⟩ := (id hV : Tri _ _ x y z)
        clear hA hX hP hQ hV
        go_wp2_with fail
        refine wp_region_quiet_below (by kernel_rfl) (by kernel_rfl) ?_
        repeat (go_big_quiet_step (first | (go_at_call 13; first | with_reducible exact Calls.regrown_of (d5.out _) | with_reducible exact Calls.regrown_of (d6.out _))))
        refine wpQuiet_nil ?_
        intro wq hwq
        have hbq := below_of_re hwq
        clear hwq
        replace hO := below_then hO hbq
        go_wp2
        go_ret
        exact ⟨rfl, hO⟩


set_option maxRecDepth 100000 in
theorem lifted (os : Os) (started : os.Started) (H : Type) (enc : TypeId × Value → H) :
    ReturnsInHanded {} Tryd.checked os 5 .any (fun w args => (Rows.matSameSpec.pre enc Tryd.prog Tryd.f5 [] false w args ∧ laidMetH Tryd.prog laidT w) ∧ sizedMet enc Tryd.prog Tryd.f5 (OpenSpec.ofChange Rows.matSameSpec) false w args)
      (Rows.matSameSpec.post enc Tryd.prog Tryd.f5 false true false false) := by
  refine returnsInHanded_of_change_and (C := Tryd.checked) (X := fun w _ => laidMetH Tryd.prog laidT w) (fun _ _ _ hh h => h.of_heap hh) own started (by kernel_rfl) Tryd.func5
    (ChangeSpec.witness_shaped (enc := enc) (C := Tryd.checked) (os := os) (X := fun w _ => laidMetH Tryd.prog laidT w) false (World.doorLaid Tryd.prog 400 os) #[.agg #[.int .i64 0, .int .i64 0, .int .i64 0, .int .i64 0, .int .i64 0, .int .i64 0, .int .i64 0, .int .i64 0, .int .i64 0], .agg #[.int .i64 0, .int .i64 0, .int .i64 0]] 8 rfl (World.shaped_of_RefB (by kernel_rfl) (by kernel_rfl)) (by kernel_rfl) (by kernel_rfl) (by kernel_rfl) (door_met os _)) ?_
  intro W1 base args ds gs before hval0 hW _ _ hL _
  have hval : ∀ (j : Nat) t v, Tryd.f5.params[j]? = some t → args[j]? = some v → Value.okWide Tryd.prog W1 .any base t v := hval0
  have hW' := hW
  obtain ⟨p, q, hA0, hV, rfl, hfz, hnd⟩ := hW
  have hA : DataW.TrodAll enc Tryd.prog W1 0 (fun _ => true) true Tryd.f5.params.toList args.toList ds p := hA0
  rw [Tryd.params5] at hA hval
  obtain ⟨v0, vs0, d0, ds0, p0, q0, hargs, rfl, rfl, h0, r0⟩ := trodAll_cons hA
  obtain ⟨v1, vs1, d1, ds1, p1, q1, rfl, rfl, rfl, h1, r1⟩ := trodAll_cons r0
  obtain ⟨rfl, rfl, rfl⟩ := trodAll_nil r1
  obtain rfl : args = #[v0, v1] := by cases args; simp_all
  obtain ⟨rfl, rfl⟩ := trodVars_none hV
  obtain ⟨A, w0, rfl⟩ := open_MF (hval 0 26 v0 rfl rfl) h0
  obtain ⟨x, y, z, w1, rfl, -⟩ := open_V (hval 1 24 v1 rfl rfl) h1
  have hS := steps_of_laid hL
  clear hA0 hval0 hval hA hL
  refine (walk matC A x y z w0 w1 W1 hS).mono fun e W' ⟨he, hg⟩ => ?_
  subst he
  exact ⟨_, rfl, law_post laidOut (by kernel_rfl) rfl (by kernel_rfl) Tryd.underlying4 hW' rfl hg⟩

theorem over : Rows.MatSameSaid :=
  OpenClaim.holds_of_wide 5 Tryd.f5 rfl rfl rfl rfl rfl rfl rfl ⟨rfl, rfl, rfl, rfl, rfl⟩ rfl rfl rfl rfl rfl (by kernel_rfl) Tryd.func5 (by kernel_rfl)
    (of_decide_eq_true (by kernel_rfl)) (by unfold Func.isWrapper; first | (rw [if_pos (by decide +kernel)]; kernel_rfl) | (rw [if_neg (by decide +kernel)]; exact ⟨rfl, rfl⟩))
    (fun os started H enc _ => lifted os started H enc)

theorem proved : Rows.MatSameCardSaid :=
  Claim7.holds_tied_plain_at .later [] [.data] true (true, "76501850add5e039de148ba0a8a185064ebbb291c75d7fbdb2f78020d96a9ea8") false
    over (fun _ h => by cases h) (by kernel_rfl) (fun _ h => by cases h) matSame_row_tie rfl ⟨rfl, rfl⟩ (by kernel_rfl) rfl
    (fun f fn hf hfn => by
      obtain rfl : f = 5 := Option.some.inj ((show Tryd.prog.funcNamed "pelorus/peloruslaw07.MatSame" = some 5 by kernel_rfl).symm.trans hf) |>.symm
      obtain rfl : fn = Tryd.f5 := (Option.some.inj (Tryd.func5.symm.trans hfn)).symm
      exact ⟨by kernel_rfl, fun j t ht => by
        rw [Tryd.params5] at ht
        have hm : t ∈ [26, 24] := by simpa using Array.mem_of_getElem? ht
        have hall : ([26, 24].all fun u => !Tryd.prog.wantsStandIn u) = true := by kernel_rfl
        exact (show Tryd.prog.wantsStandIn t = false by simpa using List.all_eq_true.1 hall t hm)⟩)
    (by kernel_rfl)
end Go.Proofs.YtodfcbpcgcgijaaDoor.matSame
