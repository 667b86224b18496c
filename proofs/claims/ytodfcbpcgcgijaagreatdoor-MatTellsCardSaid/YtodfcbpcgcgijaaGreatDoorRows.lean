/-
  NARROWER THAN 'FOR EVERY INPUT', by the rows' own cells (each row's printed sentence says how): MatTells: laid.
  DERIVED. THE GIVEN ROWS OF THIS SEAT. 1 by the template 'for every input the law returns true; each argument reads behind the call as it read before'; 0 by the template 'total and deterministic' (their statements: YtodfcbpcgcgijaaGreatDoorTotals.lean).
  GIVEN WITH THE SEED: the statements are not yours to turn. If you find one false, say at which input.
  Laid BY PROGRAM, IN A SANDBOX (cutbox-rows.mjs): the forced cells as the released guide's own fill.sh prints them over the translation cc5d8f5ca3865d8b… (all of the seat's roots in one cut). By AI agents, Wed Nov 11 2026. No macro, syntax, notation, axiom, sorry.
-/
import Derived.Test.YtodfcbpcgcgijaaGreatDoorChecked
import GoSem.Claim
import GoSem.ClaimJoined
import GoSem.ClaimMapViews
import Derived.JoinedTies
import Derived.KernelRfl
namespace Go.Proofs.YtodfcbpcgcgijaaGreatDoor
/- THE CELL 'sum', in the pinned program and in every row, IS THE sha256 OF THE DUMP (.gsa) THAT YtodfcbpcgcgijaaGreatDoorProg.lean LOADS. Nothing in Lean hashes anything: it is a label: what it is worth is what the hold of that sum in a sandbox is worth. -/
noncomputable def Tryz.pinned : Pinned := { name := "ytodfcbpcgcgijaagreatdoor", sum := "cc5d8f5ca3865d8b96f37a0471b48356a04dc12de5d8bc54770332c00bf6ad55", checked := Tryz.checked }
namespace Rows
def none {H : Type} : Left H := { results := [], args := [] }

/- WHAT THE LISTED PACKAGE-LEVEL VARIABLES READ AS WHEN THE CALL BEGINS. Each datum BY PROGRAM (the guide's laid-datum.mjs) off the statement by which the dump's own 'gosem.cut.vars' lays the variable. In a bare row this is a premise. The card (YtodfcbpcgcgijaaGreatDoorCards.lean) ties it to the program's text. -/
def laid_pelorus_turn_steps {H : Type} : DataW H := .agg [.lit (.int .u32 536870912), .lit (.int .u32 316933406), .lit (.int .u32 167458907), .lit (.int .u32 85004756), .lit (.int .u32 42667331), .lit (.int .u32 21354465), .lit (.int .u32 10679838), .lit (.int .u32 5340245), .lit (.int .u32 2670163), .lit (.int .u32 1335087), .lit (.int .u32 667544), .lit (.int .u32 333772), .lit (.int .u32 166886), .lit (.int .u32 83443), .lit (.int .u32 41722), .lit (.int .u32 20861), .lit (.int .u32 10430), .lit (.int .u32 5215), .lit (.int .u32 2608), .lit (.int .u32 1304), .lit (.int .u32 652), .lit (.int .u32 326), .lit (.int .u32 163), .lit (.int .u32 81), .lit (.int .u32 41), .lit (.int .u32 20), .lit (.int .u32 10), .lit (.int .u32 5), .lit (.int .u32 3), .lit (.int .u32 1)]

/-- 'peloruslaw07.MatTells': WHATEVER THE INPUT: true; the input reads as it did. -/
def matTellsSpec : ChangeSpec := { name := "matTells", fn := fun _ => fun
  | [d] => { results := [.lit (.bool true)], args := [d] }
  | _ => none }
def matTellsRow : OpenClaim := { program := "ytodfcbpcgcgijaagreatdoor", sum := "cc5d8f5ca3865d8b96f37a0471b48356a04dc12de5d8bc54770332c00bf6ad55", func := "pelorus/peloruslaw07.MatTells", spec := "matTells", unfollowed := true, recurses := true, named := ["pelorus/turn.steps"], apart := false, laid := [("pelorus/turn.steps", laid_pelorus_turn_steps)] }
def MatTellsSaid : Prop := matTellsRow.holds Tryz.pinned (OpenSpec.ofChange matTellsSpec)

/-- ITS FALSE NEIGHBOUR: 'it returns false'. Refute it at one input. -/
def matTellsWrong : ChangeSpec := { name := "matTells", fn := fun _ => fun
  | [d] => { results := [.lit (.bool false)], args := [d] }
  | _ => none }
def MatTellsWrongFalsely : Prop := matTellsRow.holds Tryz.pinned (OpenSpec.ofChange matTellsWrong)

/- THE SECOND FORM. 'bulk': how many values and letters a reading holds, each counted each time it is reached (what is shared counts as often as it is met; a slice's spare places count too). A statement '..UptoSaid' is the law's where the arguments, and the package variables that the reading takes, are together of bulk at most 1048576: NARROWER than '..Said'. Prove '..Said' where nothing that the law and all that it calls make is longer than what came in: it says more and counts as full. Else prove '..UptoSaid'. A law counts once. -/
mutual
def uptoBulk {H : Type} : DataW H → Nat
  | .lit (.string bytes) => bytes.length + 1
  | .lit _ => 1
  | .nil => 1
  | .ptr d => uptoBulk d + 1
  | .slice elems spare => uptoBulkAll elems + uptoBulkAll spare + 1
  | .agg parts => uptoBulkAll parts + 1
  | .iface _ d => uptoBulk d + 1
  | .map entries => uptoBulkEntries entries + 1
  | .held _ => 1
def uptoBulkAll {H : Type} : List (DataW H) → Nat
  | [] => 0
  | d :: r => uptoBulk d + uptoBulkAll r
def uptoBulkEntries {H : Type} : List (Lit × DataW H) → Nat
  | [] => 0
  | x :: r => uptoBulkEntry x + uptoBulkEntries r
def uptoBulkEntry {H : Type} : Lit × DataW H → Nat
  | (.string bytes, d) => bytes.length + uptoBulk d + 1
  | (_, d) => uptoBulk d + 1
 end
def uptoSmall : (H : Type) → List (DataW H) → Bool := fun _ ds => decide (uptoBulkAll ds ≤ 1048576)
def OpenSpec.upto (s : _root_.Go.ChangeSpec) : _root_.Go.OpenSpec := { _root_.Go.OpenSpec.ofChange s with cond := some uptoSmall }

/-- 'peloruslaw07.MatTells', WHERE WHAT IT READS IS OF BULK AT MOST 1048576: true; the input reads as it did. -/
def matTellsUptoRow : OpenClaim := { program := "ytodfcbpcgcgijaagreatdoor", sum := "cc5d8f5ca3865d8b96f37a0471b48356a04dc12de5d8bc54770332c00bf6ad55", func := "pelorus/peloruslaw07.MatTells", spec := "matTells", unfollowed := true, recurses := true, named := ["pelorus/turn.steps"], apart := false, laid := [("pelorus/turn.steps", laid_pelorus_turn_steps)], narrowed := true }
def MatTellsUptoSaid : Prop := matTellsUptoRow.holds Tryz.pinned (OpenSpec.upto matTellsSpec)

end Rows
end Go.Proofs.YtodfcbpcgcgijaaGreatDoor
