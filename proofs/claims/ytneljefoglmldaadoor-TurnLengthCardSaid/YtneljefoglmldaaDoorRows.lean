/-
  NARROWER THAN 'FOR EVERY INPUT', by the rows' own cells (each row's printed sentence says how): TurnBoth: laid · TurnAngle: laid · TurnTells: laid · TurnAround: laid · TurnUnit: laid · TurnBack: laid · TurnLength: laid.
  DERIVED. THE GIVEN ROWS OF THIS SEAT. 7 by the template 'for every input the law returns true; each argument reads behind the call as it read before'; 0 by the template 'total and deterministic' (their statements: YtneljefoglmldaaDoorTotals.lean).
  GIVEN WITH THE SEED: the statements are not yours to turn. If you find one false, say at which input.
  Laid BY PROGRAM, IN A SANDBOX (cutbox-rows.mjs): the forced cells as the released guide's own fill.sh prints them over the translation 1cd9dbe53915968a… (all of the seat's roots in one cut). By AI agents, Wed Nov 11 2026. No macro, syntax, notation, axiom, sorry.
-/
import Derived.Test.YtneljefoglmldaaDoorChecked
import GoSem.Claim
import GoSem.ClaimJoined
import GoSem.ClaimMapViews
import Derived.JoinedTies
import Derived.KernelRfl
namespace Go.Proofs.YtneljefoglmldaaDoor
/- THE CELL 'sum', in the pinned program and in every row, IS THE sha256 OF THE DUMP (.gsa) THAT YtneljefoglmldaaDoorProg.lean LOADS. Nothing in Lean hashes anything: it is a label: what it is worth is what the hold of that sum in a sandbox is worth. -/
noncomputable def Tryd.pinned : Pinned := { name := "ytneljefoglmldaadoor", sum := "1cd9dbe53915968a40a7f55b21b55f5d7c6a31c9f9423f81ef424b8bfade7835", checked := Tryd.checked }
namespace Rows
def none {H : Type} : Left H := { results := [], args := [] }

/- WHAT THE LISTED PACKAGE-LEVEL VARIABLES READ AS WHEN THE CALL BEGINS. Each datum BY PROGRAM (the guide's laid-datum.mjs) off the statement by which the dump's own 'gosem.cut.vars' lays the variable. In a bare row this is a premise. The card (YtneljefoglmldaaDoorCards.lean) ties it to the program's text. -/
def laid_pelorus_turn_steps {H : Type} : DataW H := .agg [.lit (.int .u32 536870912), .lit (.int .u32 316933406), .lit (.int .u32 167458907), .lit (.int .u32 85004756), .lit (.int .u32 42667331), .lit (.int .u32 21354465), .lit (.int .u32 10679838), .lit (.int .u32 5340245), .lit (.int .u32 2670163), .lit (.int .u32 1335087), .lit (.int .u32 667544), .lit (.int .u32 333772), .lit (.int .u32 166886), .lit (.int .u32 83443), .lit (.int .u32 41722), .lit (.int .u32 20861), .lit (.int .u32 10430), .lit (.int .u32 5215), .lit (.int .u32 2608), .lit (.int .u32 1304), .lit (.int .u32 652), .lit (.int .u32 326), .lit (.int .u32 163), .lit (.int .u32 81), .lit (.int .u32 41), .lit (.int .u32 20), .lit (.int .u32 10), .lit (.int .u32 5), .lit (.int .u32 3), .lit (.int .u32 1)]

/-- 'peloruslaw05.TurnBoth': WHATEVER THE INPUT: true; the input reads as it did. -/
def turnBothSpec : ChangeSpec := { name := "turnBoth", fn := fun _ => fun
  | [d] => { results := [.lit (.bool true)], args := [d] }
  | _ => none }
def turnBothRow : OpenClaim := { program := "ytneljefoglmldaadoor", sum := "1cd9dbe53915968a40a7f55b21b55f5d7c6a31c9f9423f81ef424b8bfade7835", func := "pelorus/peloruslaw05.TurnBoth", spec := "turnBoth", named := ["pelorus/turn.steps"], apart := false, laid := [("pelorus/turn.steps", laid_pelorus_turn_steps)] }
def TurnBothSaid : Prop := turnBothRow.holds Tryd.pinned (OpenSpec.ofChange turnBothSpec)

/-- ITS FALSE NEIGHBOUR: 'it returns false'. Refute it at one input. -/
def turnBothWrong : ChangeSpec := { name := "turnBoth", fn := fun _ => fun
  | [d] => { results := [.lit (.bool false)], args := [d] }
  | _ => none }
def TurnBothWrongFalsely : Prop := turnBothRow.holds Tryd.pinned (OpenSpec.ofChange turnBothWrong)

/-- 'peloruslaw05.TurnAngle': WHATEVER THE INPUT: true; the input reads as it did. -/
def turnAngleSpec : ChangeSpec := { name := "turnAngle", fn := fun _ => fun
  | [d1, d2] => { results := [.lit (.bool true)], args := [d1, d2] }
  | _ => none }
def turnAngleRow : OpenClaim := { program := "ytneljefoglmldaadoor", sum := "1cd9dbe53915968a40a7f55b21b55f5d7c6a31c9f9423f81ef424b8bfade7835", func := "pelorus/peloruslaw05.TurnAngle", spec := "turnAngle", named := ["pelorus/turn.steps"], apart := false, laid := [("pelorus/turn.steps", laid_pelorus_turn_steps)] }
def TurnAngleSaid : Prop := turnAngleRow.holds Tryd.pinned (OpenSpec.ofChange turnAngleSpec)

/-- ITS FALSE NEIGHBOUR: 'it returns false'. Refute it at one input. -/
def turnAngleWrong : ChangeSpec := { name := "turnAngle", fn := fun _ => fun
  | [d1, d2] => { results := [.lit (.bool false)], args := [d1, d2] }
  | _ => none }
def TurnAngleWrongFalsely : Prop := turnAngleRow.holds Tryd.pinned (OpenSpec.ofChange turnAngleWrong)

/-- 'peloruslaw05.TurnTells': WHATEVER THE INPUT: true; the input reads as it did. -/
def turnTellsSpec : ChangeSpec := { name := "turnTells", fn := fun _ => fun
  | [d1, d2] => { results := [.lit (.bool true)], args := [d1, d2] }
  | _ => none }
def turnTellsRow : OpenClaim := { program := "ytneljefoglmldaadoor", sum := "1cd9dbe53915968a40a7f55b21b55f5d7c6a31c9f9423f81ef424b8bfade7835", func := "pelorus/peloruslaw05.TurnTells", spec := "turnTells", named := ["pelorus/turn.steps"], apart := false, laid := [("pelorus/turn.steps", laid_pelorus_turn_steps)] }
def TurnTellsSaid : Prop := turnTellsRow.holds Tryd.pinned (OpenSpec.ofChange turnTellsSpec)

/-- ITS FALSE NEIGHBOUR: 'it returns false'. Refute it at one input. -/
def turnTellsWrong : ChangeSpec := { name := "turnTells", fn := fun _ => fun
  | [d1, d2] => { results := [.lit (.bool false)], args := [d1, d2] }
  | _ => none }
def TurnTellsWrongFalsely : Prop := turnTellsRow.holds Tryd.pinned (OpenSpec.ofChange turnTellsWrong)

/-- 'peloruslaw05.TurnAround': WHATEVER THE INPUT: true; the input reads as it did. -/
def turnAroundSpec : ChangeSpec := { name := "turnAround", fn := fun _ => fun
  | [d] => { results := [.lit (.bool true)], args := [d] }
  | _ => none }
def turnAroundRow : OpenClaim := { program := "ytneljefoglmldaadoor", sum := "1cd9dbe53915968a40a7f55b21b55f5d7c6a31c9f9423f81ef424b8bfade7835", func := "pelorus/peloruslaw05.TurnAround", spec := "turnAround", named := ["pelorus/turn.steps"], apart := false, laid := [("pelorus/turn.steps", laid_pelorus_turn_steps)] }
def TurnAroundSaid : Prop := turnAroundRow.holds Tryd.pinned (OpenSpec.ofChange turnAroundSpec)

/-- ITS FALSE NEIGHBOUR: 'it returns false'. Refute it at one input. -/
def turnAroundWrong : ChangeSpec := { name := "turnAround", fn := fun _ => fun
  | [d] => { results := [.lit (.bool false)], args := [d] }
  | _ => none }
def TurnAroundWrongFalsely : Prop := turnAroundRow.holds Tryd.pinned (OpenSpec.ofChange turnAroundWrong)

/-- 'peloruslaw05.TurnUnit': WHATEVER THE INPUT: true; the input reads as it did. -/
def turnUnitSpec : ChangeSpec := { name := "turnUnit", fn := fun _ => fun
  | [d] => { results := [.lit (.bool true)], args := [d] }
  | _ => none }
def turnUnitRow : OpenClaim := { program := "ytneljefoglmldaadoor", sum := "1cd9dbe53915968a40a7f55b21b55f5d7c6a31c9f9423f81ef424b8bfade7835", func := "pelorus/peloruslaw05.TurnUnit", spec := "turnUnit", named := ["pelorus/turn.steps"], apart := false, laid := [("pelorus/turn.steps", laid_pelorus_turn_steps)] }
def TurnUnitSaid : Prop := turnUnitRow.holds Tryd.pinned (OpenSpec.ofChange turnUnitSpec)

/-- ITS FALSE NEIGHBOUR: 'it returns false'. Refute it at one input. -/
def turnUnitWrong : ChangeSpec := { name := "turnUnit", fn := fun _ => fun
  | [d] => { results := [.lit (.bool false)], args := [d] }
  | _ => none }
def TurnUnitWrongFalsely : Prop := turnUnitRow.holds Tryd.pinned (OpenSpec.ofChange turnUnitWrong)

/-- 'peloruslaw05.TurnBack': WHATEVER THE INPUT: true; the input reads as it did. -/
def turnBackSpec : ChangeSpec := { name := "turnBack", fn := fun _ => fun
  | [d] => { results := [.lit (.bool true)], args := [d] }
  | _ => none }
def turnBackRow : OpenClaim := { program := "ytneljefoglmldaadoor", sum := "1cd9dbe53915968a40a7f55b21b55f5d7c6a31c9f9423f81ef424b8bfade7835", func := "pelorus/peloruslaw05.TurnBack", spec := "turnBack", named := ["pelorus/turn.steps"], apart := false, laid := [("pelorus/turn.steps", laid_pelorus_turn_steps)] }
def TurnBackSaid : Prop := turnBackRow.holds Tryd.pinned (OpenSpec.ofChange turnBackSpec)

/-- ITS FALSE NEIGHBOUR: 'it returns false'. Refute it at one input. -/
def turnBackWrong : ChangeSpec := { name := "turnBack", fn := fun _ => fun
  | [d] => { results := [.lit (.bool false)], args := [d] }
  | _ => none }
def TurnBackWrongFalsely : Prop := turnBackRow.holds Tryd.pinned (OpenSpec.ofChange turnBackWrong)

/-- 'peloruslaw05.TurnLength': WHATEVER THE INPUT: true; the input reads as it did. -/
def turnLengthSpec : ChangeSpec := { name := "turnLength", fn := fun _ => fun
  | [d1, d2] => { results := [.lit (.bool true)], args := [d1, d2] }
  | _ => none }
def turnLengthRow : OpenClaim := { program := "ytneljefoglmldaadoor", sum := "1cd9dbe53915968a40a7f55b21b55f5d7c6a31c9f9423f81ef424b8bfade7835", func := "pelorus/peloruslaw05.TurnLength", spec := "turnLength", named := ["pelorus/turn.steps"], apart := false, laid := [("pelorus/turn.steps", laid_pelorus_turn_steps)] }
def TurnLengthSaid : Prop := turnLengthRow.holds Tryd.pinned (OpenSpec.ofChange turnLengthSpec)

/-- ITS FALSE NEIGHBOUR: 'it returns false'. Refute it at one input. -/
def turnLengthWrong : ChangeSpec := { name := "turnLength", fn := fun _ => fun
  | [d1, d2] => { results := [.lit (.bool false)], args := [d1, d2] }
  | _ => none }
def TurnLengthWrongFalsely : Prop := turnLengthRow.holds Tryd.pinned (OpenSpec.ofChange turnLengthWrong)

/- THE SECOND FORM. 'bulk': how many values and letters a reading holds, each counted each time it is reached (what is shared counts as often as it is met; a slice's spare places count too). A statement '..UptoSaid' is the law's where the arguments, and the package variables that the reading takes, are together of bulk at most 1048576: NARROWER than '..Said'. Prove '..Said' where nothing that the law and all that it calls make is longer than what came in: it says more and counts as full. Else prove '..UptoSaid'. A law counts once. -/
mutual
def uptoBulk {H : Type} : DataW H → Nat
  | .lit (.string bytes) => bytes.length + 1
  | .lit _ => 1
  | .nil => 1
  | .ptr d => uptoBulk d + 1
  | .slice elems spare => uptoBulkAll elems + uptoBulkAll spare + 1
  | .agg parts => uptoBulkAll parts + 1
  | .iface _ d => uptoBulk d + 1
  | .map entries => uptoBulkEntries entries + 1
  | .held _ => 1
def uptoBulkAll {H : Type} : List (DataW H) → Nat
  | [] => 0
  | d :: r => uptoBulk d + uptoBulkAll r
def uptoBulkEntries {H : Type} : List (Lit × DataW H) → Nat
  | [] => 0
  | x :: r => uptoBulkEntry x + uptoBulkEntries r
def uptoBulkEntry {H : Type} : Lit × DataW H → Nat
  | (.string bytes, d) => bytes.length + uptoBulk d + 1
  | (_, d) => uptoBulk d + 1
 end
def uptoSmall : (H : Type) → List (DataW H) → Bool := fun _ ds => decide (uptoBulkAll ds ≤ 1048576)
def OpenSpec.upto (s : _root_.Go.ChangeSpec) : _root_.Go.OpenSpec := { _root_.Go.OpenSpec.ofChange s with cond := some uptoSmall }

/-- 'peloruslaw05.TurnBoth', WHERE WHAT IT READS IS OF BULK AT MOST 1048576: true; the input reads as it did. -/
def turnBothUptoRow : OpenClaim := { program := "ytneljefoglmldaadoor", sum := "1cd9dbe53915968a40a7f55b21b55f5d7c6a31c9f9423f81ef424b8bfade7835", func := "pelorus/peloruslaw05.TurnBoth", spec := "turnBoth", named := ["pelorus/turn.steps"], apart := false, laid := [("pelorus/turn.steps", laid_pelorus_turn_steps)], narrowed := true }
def TurnBothUptoSaid : Prop := turnBothUptoRow.holds Tryd.pinned (OpenSpec.upto turnBothSpec)

/-- 'peloruslaw05.TurnAngle', WHERE WHAT IT READS IS OF BULK AT MOST 1048576: true; the input reads as it did. -/
def turnAngleUptoRow : OpenClaim := { program := "ytneljefoglmldaadoor", sum := "1cd9dbe53915968a40a7f55b21b55f5d7c6a31c9f9423f81ef424b8bfade7835", func := "pelorus/peloruslaw05.TurnAngle", spec := "turnAngle", named := ["pelorus/turn.steps"], apart := false, laid := [("pelorus/turn.steps", laid_pelorus_turn_steps)], narrowed := true }
def TurnAngleUptoSaid : Prop := turnAngleUptoRow.holds Tryd.pinned (OpenSpec.upto turnAngleSpec)

/-- 'peloruslaw05.TurnTells', WHERE WHAT IT READS IS OF BULK AT MOST 1048576: true; the input reads as it did. -/
def turnTellsUptoRow : OpenClaim := { program := "ytneljefoglmldaadoor", sum := "1cd9dbe53915968a40a7f55b21b55f5d7c6a31c9f9423f81ef424b8bfade7835", func := "pelorus/peloruslaw05.TurnTells", spec := "turnTells", named := ["pelorus/turn.steps"], apart := false, laid := [("pelorus/turn.steps", laid_pelorus_turn_steps)], narrowed := true }
def TurnTellsUptoSaid : Prop := turnTellsUptoRow.holds Tryd.pinned (OpenSpec.upto turnTellsSpec)

/-- 'peloruslaw05.TurnAround', WHERE WHAT IT READS IS OF BULK AT MOST 1048576: true; the input reads as it did. -/
def turnAroundUptoRow : OpenClaim := { program := "ytneljefoglmldaadoor", sum := "1cd9dbe53915968a40a7f55b21b55f5d7c6a31c9f9423f81ef424b8bfade7835", func := "pelorus/peloruslaw05.TurnAround", spec := "turnAround", named := ["pelorus/turn.steps"], apart := false, laid := [("pelorus/turn.steps", laid_pelorus_turn_steps)], narrowed := true }
def TurnAroundUptoSaid : Prop := turnAroundUptoRow.holds Tryd.pinned (OpenSpec.upto turnAroundSpec)

/-- 'peloruslaw05.TurnUnit', WHERE WHAT IT READS IS OF BULK AT MOST 1048576: true; the input reads as it did. -/
def turnUnitUptoRow : OpenClaim := { program := "ytneljefoglmldaadoor", sum := "1cd9dbe53915968a40a7f55b21b55f5d7c6a31c9f9423f81ef424b8bfade7835", func := "pelorus/peloruslaw05.TurnUnit", spec := "turnUnit", named := ["pelorus/turn.steps"], apart := false, laid := [("pelorus/turn.steps", laid_pelorus_turn_steps)], narrowed := true }
def TurnUnitUptoSaid : Prop := turnUnitUptoRow.holds Tryd.pinned (OpenSpec.upto turnUnitSpec)

/-- 'peloruslaw05.TurnBack', WHERE WHAT IT READS IS OF BULK AT MOST 1048576: true; the input reads as it did. -/
def turnBackUptoRow : OpenClaim := { program := "ytneljefoglmldaadoor", sum := "1cd9dbe53915968a40a7f55b21b55f5d7c6a31c9f9423f81ef424b8bfade7835", func := "pelorus/peloruslaw05.TurnBack", spec := "turnBack", named := ["pelorus/turn.steps"], apart := false, laid := [("pelorus/turn.steps", laid_pelorus_turn_steps)], narrowed := true }
def TurnBackUptoSaid : Prop := turnBackUptoRow.holds Tryd.pinned (OpenSpec.upto turnBackSpec)

/-- 'peloruslaw05.TurnLength', WHERE WHAT IT READS IS OF BULK AT MOST 1048576: true; the input reads as it did. -/
def turnLengthUptoRow : OpenClaim := { program := "ytneljefoglmldaadoor", sum := "1cd9dbe53915968a40a7f55b21b55f5d7c6a31c9f9423f81ef424b8bfade7835", func := "pelorus/peloruslaw05.TurnLength", spec := "turnLength", named := ["pelorus/turn.steps"], apart := false, laid := [("pelorus/turn.steps", laid_pelorus_turn_steps)], narrowed := true }
def TurnLengthUptoSaid : Prop := turnLengthUptoRow.holds Tryd.pinned (OpenSpec.upto turnLengthSpec)

end Rows
end Go.Proofs.YtneljefoglmldaaDoor
