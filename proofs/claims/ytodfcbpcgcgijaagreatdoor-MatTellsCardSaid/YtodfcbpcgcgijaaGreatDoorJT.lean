import Derived.Test.YtodfcbpcgcgijaaGreatDoorJK
import Derived.Test.YtodfcbpcgcgijaaGreatDoorJA
import Derived.Test.YtodfcbpcgcgijaaGreatDoorJG
import Derived.Test.YtodfcbpcgcgijaaGreatDoorJH
import Derived.Deep.RegionHeld3
import Derived.Deep.DeepCutAuto
/- Matrices, in the document's answers: what turns about an axis; the heading. -/
namespace Go.Proofs.YtodfcbpcgcgijaaGreatDoor
set_option maxRecDepth 100000
open Go.RowKit
set_option linter.unusedVariables false
attribute [local go_sem] cell_re eqW_self eqV_self eqM_self
attribute [local go_sem ↓] run_eqlW run_neqW run_eqlV run_eqlM

/-- What About answers, and whether it does. -/
def aboutOf (k c s : Int) : Value := if k = 0 then .tuple #[M9 4294967296 0 0 0 c (-s) 0 s c, .int .i64 0] else if k = 1 then .tuple #[M9 c 0 s 0 4294967296 0 (-s) 0 c, .int .i64 0] else if k = 2 then .tuple #[M9 c (-s) 0 s c 0 0 0 4294967296, .int .i64 0] else .tuple #[M9 0 0 0 0 0 0 0 0 0, .int .i64 2]
set_option maxRecDepth 100000 in
set_option maxHeartbeats 2000000 in
theorem ref7Heading (a b c d e f g h i : Int) (ha : Half a) (hb : Half b) (hc : Half c) (hd : Half d) (he : Half e) (hf : Half f) (hg : Half g) (hh : Half h) (hi : Half i) (w : World) :
    Calls Tryz.prog 9 #[M9 a b c d e f g h i] w fun e' w' => e' = .returned (.int .u32 (angA d a)) ∧ Below w.heap.size w w' := by
  have d1 := Lib.hid (fun W1 : World => ref5Angle d a hd ha W1)
  obtain ⟨z, hz⟩ : ∃ z, Hid (angA d a = z) := ⟨_, rfl⟩
  rw [hz.out] at d1 ⊢
  clear ha hb hc hd he hf hg hh hi hz
  have hO : Below w.heap.size w (w.alloc (.cells #[.int .i64 a, .int .i64 b, .int .i64 c, .int .i64 d, .int .i64 e, .int .i64 f, .int .i64 g, .int .i64 h, .int .i64 i] 26)) := by go_grown
  go_enter Tryz.func9, Tryz.ntmps9
  go_wp2_with fail
  refine (d1.out _).mono ?_
  rintro e' w1 ⟨rfl, hb1⟩
  replace hO := below_then hO hb1
  go_wp2
  go_ret
  exact ⟨rfl, hO⟩


end Go.Proofs.YtodfcbpcgcgijaaGreatDoor
