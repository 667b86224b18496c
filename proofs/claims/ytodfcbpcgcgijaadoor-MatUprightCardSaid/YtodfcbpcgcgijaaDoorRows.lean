/-
  NARROWER THAN 'FOR EVERY INPUT', by the rows' own cells (each row's printed sentence says how): MatMuls: laid · MatAbout: laid · MatSame: laid · MatTurned: laid · MatUpright: laid · MatHeads: laid.
  DERIVED. THE GIVEN ROWS OF THIS SEAT. 6 by the template 'for every input the law returns true; each argument reads behind the call as it read before'; 0 by the template 'total and deterministic' (their statements: YtodfcbpcgcgijaaDoorTotals.lean).
  GIVEN WITH THE SEED: the statements are not yours to turn. If you find one false, say at which input.
  Laid BY PROGRAM, IN A SANDBOX (cutbox-rows.mjs): the forced cells as the released guide's own fill.sh prints them over the translation 46e54593d95c7d2e… (all of the seat's roots in one cut). By AI agents, Wed Nov 11 2026. No macro, syntax, notation, axiom, sorry.
-/
import Derived.Test.YtodfcbpcgcgijaaDoorChecked
import GoSem.Claim
import GoSem.ClaimJoined
import GoSem.ClaimMapViews
import Derived.JoinedTies
import Derived.KernelRfl
namespace Go.Proofs.YtodfcbpcgcgijaaDoor
/- THE CELL 'sum', in the pinned program and in every row, IS THE sha256 OF THE DUMP (.gsa) THAT YtodfcbpcgcgijaaDoorProg.lean LOADS. Nothing in Lean hashes anything: it is a label: what it is worth is what the hold of that sum in a sandbox is worth. -/
noncomputable def Tryd.pinned : Pinned := { name := "ytodfcbpcgcgijaadoor", sum := "46e54593d95c7d2ecb229543fa3deaf42bbe80d69ac928e8a103095cdabf422d", checked := Tryd.checked }
namespace Rows
def none {H : Type} : Left H := { results := [], args := [] }

/- WHAT THE LISTED PACKAGE-LEVEL VARIABLES READ AS WHEN THE CALL BEGINS. Each datum BY PROGRAM (the guide's laid-datum.mjs) off the statement by which the dump's own 'gosem.cut.vars' lays the variable. In a bare row this is a premise. The card (YtodfcbpcgcgijaaDoorCards.lean) ties it to the program's text. -/
def laid_pelorus_turn_steps {H : Type} : DataW H := .agg [.lit (.int .u32 536870912), .lit (.int .u32 316933406), .lit (.int .u32 167458907), .lit (.int .u32 85004756), .lit (.int .u32 42667331), .lit (.int .u32 21354465), .lit (.int .u32 10679838), .lit (.int .u32 5340245), .lit (.int .u32 2670163), .lit (.int .u32 1335087), .lit (.int .u32 667544), .lit (.int .u32 333772), .lit (.int .u32 166886), .lit (.int .u32 83443), .lit (.int .u32 41722), .lit (.int .u32 20861), .lit (.int .u32 10430), .lit (.int .u32 5215), .lit (.int .u32 2608), .lit (.int .u32 1304), .lit (.int .u32 652), .lit (.int .u32 326), .lit (.int .u32 163), .lit (.int .u32 81), .lit (.int .u32 41), .lit (.int .u32 20), .lit (.int .u32 10), .lit (.int .u32 5), .lit (.int .u32 3), .lit (.int .u32 1)]

/-- 'peloruslaw07.MatMuls': WHATEVER THE INPUT: true; the input reads as it did. -/
def matMulsSpec : ChangeSpec := { name := "matMuls", fn := fun _ => fun
  | [d1, d2, d3] => { results := [.lit (.bool true)], args := [d1, d2, d3] }
  | _ => none }
def matMulsRow : OpenClaim := { program := "ytodfcbpcgcgijaadoor", sum := "46e54593d95c7d2ecb229543fa3deaf42bbe80d69ac928e8a103095cdabf422d", func := "pelorus/peloruslaw07.MatMuls", spec := "matMuls", named := ["pelorus/turn.steps"], apart := false, laid := [("pelorus/turn.steps", laid_pelorus_turn_steps)] }
def MatMulsSaid : Prop := matMulsRow.holds Tryd.pinned (OpenSpec.ofChange matMulsSpec)

/-- ITS FALSE NEIGHBOUR: 'it returns false'. Refute it at one input. -/
def matMulsWrong : ChangeSpec := { name := "matMuls", fn := fun _ => fun
  | [d1, d2, d3] => { results := [.lit (.bool false)], args := [d1, d2, d3] }
  | _ => none }
def MatMulsWrongFalsely : Prop := matMulsRow.holds Tryd.pinned (OpenSpec.ofChange matMulsWrong)

/-- 'peloruslaw07.MatAbout': WHATEVER THE INPUT: true; the input reads as it did. -/
def matAboutSpec : ChangeSpec := { name := "matAbout", fn := fun _ => fun
  | [d1, d2] => { results := [.lit (.bool true)], args := [d1, d2] }
  | _ => none }
def matAboutRow : OpenClaim := { program := "ytodfcbpcgcgijaadoor", sum := "46e54593d95c7d2ecb229543fa3deaf42bbe80d69ac928e8a103095cdabf422d", func := "pelorus/peloruslaw07.MatAbout", spec := "matAbout", named := ["pelorus/turn.steps"], apart := false, laid := [("pelorus/turn.steps", laid_pelorus_turn_steps)] }
def MatAboutSaid : Prop := matAboutRow.holds Tryd.pinned (OpenSpec.ofChange matAboutSpec)

/-- ITS FALSE NEIGHBOUR: 'it returns false'. Refute it at one input. -/
def matAboutWrong : ChangeSpec := { name := "matAbout", fn := fun _ => fun
  | [d1, d2] => { results := [.lit (.bool false)], args := [d1, d2] }
  | _ => none }
def MatAboutWrongFalsely : Prop := matAboutRow.holds Tryd.pinned (OpenSpec.ofChange matAboutWrong)

/-- 'peloruslaw07.MatSame': WHATEVER THE INPUT: true; the input reads as it did. -/
def matSameSpec : ChangeSpec := { name := "matSame", fn := fun _ => fun
  | [d1, d2] => { results := [.lit (.bool true)], args := [d1, d2] }
  | _ => none }
def matSameRow : OpenClaim := { program := "ytodfcbpcgcgijaadoor", sum := "46e54593d95c7d2ecb229543fa3deaf42bbe80d69ac928e8a103095cdabf422d", func := "pelorus/peloruslaw07.MatSame", spec := "matSame", named := ["pelorus/turn.steps"], apart := false, laid := [("pelorus/turn.steps", laid_pelorus_turn_steps)] }
def MatSameSaid : Prop := matSameRow.holds Tryd.pinned (OpenSpec.ofChange matSameSpec)

/-- ITS FALSE NEIGHBOUR: 'it returns false'. Refute it at one input. -/
def matSameWrong : ChangeSpec := { name := "matSame", fn := fun _ => fun
  | [d1, d2] => { results := [.lit (.bool false)], args := [d1, d2] }
  | _ => none }
def MatSameWrongFalsely : Prop := matSameRow.holds Tryd.pinned (OpenSpec.ofChange matSameWrong)

/-- 'peloruslaw07.MatTurned': WHATEVER THE INPUT: true; the input reads as it did. -/
def matTurnedSpec : ChangeSpec := { name := "matTurned", fn := fun _ => fun
  | [d1, d2] => { results := [.lit (.bool true)], args := [d1, d2] }
  | _ => none }
def matTurnedRow : OpenClaim := { program := "ytodfcbpcgcgijaadoor", sum := "46e54593d95c7d2ecb229543fa3deaf42bbe80d69ac928e8a103095cdabf422d", func := "pelorus/peloruslaw07.MatTurned", spec := "matTurned", unfollowed := true, recurses := true, named := ["pelorus/turn.steps"], apart := false, laid := [("pelorus/turn.steps", laid_pelorus_turn_steps)] }
def MatTurnedSaid : Prop := matTurnedRow.holds Tryd.pinned (OpenSpec.ofChange matTurnedSpec)

/-- ITS FALSE NEIGHBOUR: 'it returns false'. Refute it at one input. -/
def matTurnedWrong : ChangeSpec := { name := "matTurned", fn := fun _ => fun
  | [d1, d2] => { results := [.lit (.bool false)], args := [d1, d2] }
  | _ => none }
def MatTurnedWrongFalsely : Prop := matTurnedRow.holds Tryd.pinned (OpenSpec.ofChange matTurnedWrong)

/-- 'peloruslaw07.MatUpright': WHATEVER THE INPUT: true; the input reads as it did. -/
def matUprightSpec : ChangeSpec := { name := "matUpright", fn := fun _ => fun
  | [d1, d2, d3, d4, d5] => { results := [.lit (.bool true)], args := [d1, d2, d3, d4, d5] }
  | _ => none }
def matUprightRow : OpenClaim := { program := "ytodfcbpcgcgijaadoor", sum := "46e54593d95c7d2ecb229543fa3deaf42bbe80d69ac928e8a103095cdabf422d", func := "pelorus/peloruslaw07.MatUpright", spec := "matUpright", unfollowed := true, recurses := true, named := ["pelorus/turn.steps"], apart := false, laid := [("pelorus/turn.steps", laid_pelorus_turn_steps)] }
def MatUprightSaid : Prop := matUprightRow.holds Tryd.pinned (OpenSpec.ofChange matUprightSpec)

/-- ITS FALSE NEIGHBOUR: 'it returns false'. Refute it at one input. -/
def matUprightWrong : ChangeSpec := { name := "matUpright", fn := fun _ => fun
  | [d1, d2, d3, d4, d5] => { results := [.lit (.bool false)], args := [d1, d2, d3, d4, d5] }
  | _ => none }
def MatUprightWrongFalsely : Prop := matUprightRow.holds Tryd.pinned (OpenSpec.ofChange matUprightWrong)

/-- 'peloruslaw07.MatHeads': WHATEVER THE INPUT: true; the input reads as it did. -/
def matHeadsSpec : ChangeSpec := { name := "matHeads", fn := fun _ => fun
  | [d] => { results := [.lit (.bool true)], args := [d] }
  | _ => none }
def matHeadsRow : OpenClaim := { program := "ytodfcbpcgcgijaadoor", sum := "46e54593d95c7d2ecb229543fa3deaf42bbe80d69ac928e8a103095cdabf422d", func := "pelorus/peloruslaw07.MatHeads", spec := "matHeads", named := ["pelorus/turn.steps"], apart := false, laid := [("pelorus/turn.steps", laid_pelorus_turn_steps)] }
def MatHeadsSaid : Prop := matHeadsRow.holds Tryd.pinned (OpenSpec.ofChange matHeadsSpec)

/-- ITS FALSE NEIGHBOUR: 'it returns false'. Refute it at one input. -/
def matHeadsWrong : ChangeSpec := { name := "matHeads", fn := fun _ => fun
  | [d] => { results := [.lit (.bool false)], args := [d] }
  | _ => none }
def MatHeadsWrongFalsely : Prop := matHeadsRow.holds Tryd.pinned (OpenSpec.ofChange matHeadsWrong)

/- THE SECOND FORM. 'bulk': how many values and letters a reading holds, each counted each time it is reached (what is shared counts as often as it is met; a slice's spare places count too). A statement '..UptoSaid' is the law's where the arguments, and the package variables that the reading takes, are together of bulk at most 1048576: NARROWER than '..Said'. Prove '..Said' where nothing that the law and all that it calls make is longer than what came in: it says more and counts as full. Else prove '..UptoSaid'. A law counts once. -/
mutual
def uptoBulk {H : Type} : DataW H → Nat
  | .lit (.string bytes) => bytes.length + 1
  | .lit _ => 1
  | .nil => 1
  | .ptr d => uptoBulk d + 1
  | .slice elems spare => uptoBulkAll elems + uptoBulkAll spare + 1
  | .agg parts => uptoBulkAll parts + 1
  | .iface _ d => uptoBulk d + 1
  | .map entries => uptoBulkEntries entries + 1
  | .held _ => 1
def uptoBulkAll {H : Type} : List (DataW H) → Nat
  | [] => 0
  | d :: r => uptoBulk d + uptoBulkAll r
def uptoBulkEntries {H : Type} : List (Lit × DataW H) → Nat
  | [] => 0
  | x :: r => uptoBulkEntry x + uptoBulkEntries r
def uptoBulkEntry {H : Type} : Lit × DataW H → Nat
  | (.string bytes, d) => bytes.length + uptoBulk d + 1
  | (_, d) => uptoBulk d + 1
 end
def uptoSmall : (H : Type) → List (DataW H) → Bool := fun _ ds => decide (uptoBulkAll ds ≤ 1048576)
def OpenSpec.upto (s : _root_.Go.ChangeSpec) : _root_.Go.OpenSpec := { _root_.Go.OpenSpec.ofChange s with cond := some uptoSmall }

/-- 'peloruslaw07.MatMuls', WHERE WHAT IT READS IS OF BULK AT MOST 1048576: true; the input reads as it did. -/
def matMulsUptoRow : OpenClaim := { program := "ytodfcbpcgcgijaadoor", sum := "46e54593d95c7d2ecb229543fa3deaf42bbe80d69ac928e8a103095cdabf422d", func := "pelorus/peloruslaw07.MatMuls", spec := "matMuls", named := ["pelorus/turn.steps"], apart := false, laid := [("pelorus/turn.steps", laid_pelorus_turn_steps)], narrowed := true }
def MatMulsUptoSaid : Prop := matMulsUptoRow.holds Tryd.pinned (OpenSpec.upto matMulsSpec)

/-- 'peloruslaw07.MatAbout', WHERE WHAT IT READS IS OF BULK AT MOST 1048576: true; the input reads as it did. -/
def matAboutUptoRow : OpenClaim := { program := "ytodfcbpcgcgijaadoor", sum := "46e54593d95c7d2ecb229543fa3deaf42bbe80d69ac928e8a103095cdabf422d", func := "pelorus/peloruslaw07.MatAbout", spec := "matAbout", named := ["pelorus/turn.steps"], apart := false, laid := [("pelorus/turn.steps", laid_pelorus_turn_steps)], narrowed := true }
def MatAboutUptoSaid : Prop := matAboutUptoRow.holds Tryd.pinned (OpenSpec.upto matAboutSpec)

/-- 'peloruslaw07.MatSame', WHERE WHAT IT READS IS OF BULK AT MOST 1048576: true; the input reads as it did. -/
def matSameUptoRow : OpenClaim := { program := "ytodfcbpcgcgijaadoor", sum := "46e54593d95c7d2ecb229543fa3deaf42bbe80d69ac928e8a103095cdabf422d", func := "pelorus/peloruslaw07.MatSame", spec := "matSame", named := ["pelorus/turn.steps"], apart := false, laid := [("pelorus/turn.steps", laid_pelorus_turn_steps)], narrowed := true }
def MatSameUptoSaid : Prop := matSameUptoRow.holds Tryd.pinned (OpenSpec.upto matSameSpec)

/-- 'peloruslaw07.MatTurned', WHERE WHAT IT READS IS OF BULK AT MOST 1048576: true; the input reads as it did. -/
def matTurnedUptoRow : OpenClaim := { program := "ytodfcbpcgcgijaadoor", sum := "46e54593d95c7d2ecb229543fa3deaf42bbe80d69ac928e8a103095cdabf422d", func := "pelorus/peloruslaw07.MatTurned", spec := "matTurned", unfollowed := true, recurses := true, named := ["pelorus/turn.steps"], apart := false, laid := [("pelorus/turn.steps", laid_pelorus_turn_steps)], narrowed := true }
def MatTurnedUptoSaid : Prop := matTurnedUptoRow.holds Tryd.pinned (OpenSpec.upto matTurnedSpec)

/-- 'peloruslaw07.MatUpright', WHERE WHAT IT READS IS OF BULK AT MOST 1048576: true; the input reads as it did. -/
def matUprightUptoRow : OpenClaim := { program := "ytodfcbpcgcgijaadoor", sum := "46e54593d95c7d2ecb229543fa3deaf42bbe80d69ac928e8a103095cdabf422d", func := "pelorus/peloruslaw07.MatUpright", spec := "matUpright", unfollowed := true, recurses := true, named := ["pelorus/turn.steps"], apart := false, laid := [("pelorus/turn.steps", laid_pelorus_turn_steps)], narrowed := true }
def MatUprightUptoSaid : Prop := matUprightUptoRow.holds Tryd.pinned (OpenSpec.upto matUprightSpec)

/-- 'peloruslaw07.MatHeads', WHERE WHAT IT READS IS OF BULK AT MOST 1048576: true; the input reads as it did. -/
def matHeadsUptoRow : OpenClaim := { program := "ytodfcbpcgcgijaadoor", sum := "46e54593d95c7d2ecb229543fa3deaf42bbe80d69ac928e8a103095cdabf422d", func := "pelorus/peloruslaw07.MatHeads", spec := "matHeads", named := ["pelorus/turn.steps"], apart := false, laid := [("pelorus/turn.steps", laid_pelorus_turn_steps)], narrowed := true }
def MatHeadsUptoSaid : Prop := matHeadsUptoRow.holds Tryd.pinned (OpenSpec.upto matHeadsSpec)

end Rows
end Go.Proofs.YtodfcbpcgcgijaaDoor
