/-
  No cell of these rows narrows 'for every input' (looked for: loops, veiled, ifaces, maps, wideKeys, modest, calm, conditions, laid).
  DERIVED. THE GIVEN ROWS OF THIS SEAT. 5 by the template 'for every input the law returns true; each argument reads behind the call as it read before'; 0 by the template 'total and deterministic' (their statements: YtmedemniopgpeaaTotals.lean).
  GIVEN WITH THE SEED: the statements are not yours to turn. If you find one false, say at which input.
  Laid BY PROGRAM, IN A SANDBOX (cutbox-rows.mjs): the forced cells as the released guide's own fill.sh prints them over the translation 25418542abf98b04… (all of the seat's roots in one cut). By AI agents, Wed Nov 11 2026. No macro, syntax, notation, axiom, sorry.
-/
import Derived.Test.YtmedemniopgpeaaChecked
import GoSem.Claim
import GoSem.ClaimJoined
import GoSem.ClaimMapViews
import Derived.JoinedTies
import Derived.KernelRfl
namespace Go.Proofs.Ytmedemniopgpeaa
/- THE CELL 'sum', in the pinned program and in every row, IS THE sha256 OF THE DUMP (.gsa) THAT YtmedemniopgpeaaProg.lean LOADS. Nothing in Lean hashes anything: it is a label: what it is worth is what the hold of that sum in a sandbox is worth. -/
noncomputable def Try.pinned : Pinned := { name := "ytmedemniopgpeaa", sum := "25418542abf98b043e241f0bf9fdee617a2bd0d9e51e896a22fd0d5faaf4fe9c", checked := Try.checked }
namespace Rows
def none {H : Type} : Left H := { results := [], args := [] }

/-- 'peloruslaw06.VecMuls': WHATEVER THE INPUT: true; the input reads as it did. -/
def vecMulsSpec : ChangeSpec := { name := "vecMuls", fn := fun _ => fun
  | [d1, d2] => { results := [.lit (.bool true)], args := [d1, d2] }
  | _ => none }
def vecMulsRow : OpenClaim := { program := "ytmedemniopgpeaa", sum := "25418542abf98b043e241f0bf9fdee617a2bd0d9e51e896a22fd0d5faaf4fe9c", func := "pelorus/peloruslaw06.VecMuls", spec := "vecMuls", unfollowed := true, recurses := true, apart := false }
def VecMulsSaid : Prop := vecMulsRow.holds Try.pinned (OpenSpec.ofChange vecMulsSpec)

/-- ITS FALSE NEIGHBOUR: 'it returns false'. Refute it at one input. -/
def vecMulsWrong : ChangeSpec := { name := "vecMuls", fn := fun _ => fun
  | [d1, d2] => { results := [.lit (.bool false)], args := [d1, d2] }
  | _ => none }
def VecMulsWrongFalsely : Prop := vecMulsRow.holds Try.pinned (OpenSpec.ofChange vecMulsWrong)

/-- 'peloruslaw06.VecSizes': WHATEVER THE INPUT: true; the input reads as it did. -/
def vecSizesSpec : ChangeSpec := { name := "vecSizes", fn := fun _ => fun
  | [d1, d2] => { results := [.lit (.bool true)], args := [d1, d2] }
  | _ => none }
def vecSizesRow : OpenClaim := { program := "ytmedemniopgpeaa", sum := "25418542abf98b043e241f0bf9fdee617a2bd0d9e51e896a22fd0d5faaf4fe9c", func := "pelorus/peloruslaw06.VecSizes", spec := "vecSizes", unfollowed := true, recurses := true, apart := false }
def VecSizesSaid : Prop := vecSizesRow.holds Try.pinned (OpenSpec.ofChange vecSizesSpec)

/-- ITS FALSE NEIGHBOUR: 'it returns false'. Refute it at one input. -/
def vecSizesWrong : ChangeSpec := { name := "vecSizes", fn := fun _ => fun
  | [d1, d2] => { results := [.lit (.bool false)], args := [d1, d2] }
  | _ => none }
def VecSizesWrongFalsely : Prop := vecSizesRow.holds Try.pinned (OpenSpec.ofChange vecSizesWrong)

/-- 'peloruslaw06.VecApart': WHATEVER THE INPUT: true; the input reads as it did. -/
def vecApartSpec : ChangeSpec := { name := "vecApart", fn := fun _ => fun
  | [d1, d2] => { results := [.lit (.bool true)], args := [d1, d2] }
  | _ => none }
def vecApartRow : OpenClaim := { program := "ytmedemniopgpeaa", sum := "25418542abf98b043e241f0bf9fdee617a2bd0d9e51e896a22fd0d5faaf4fe9c", func := "pelorus/peloruslaw06.VecApart", spec := "vecApart", unfollowed := true, recurses := true, apart := false }
def VecApartSaid : Prop := vecApartRow.holds Try.pinned (OpenSpec.ofChange vecApartSpec)

/-- ITS FALSE NEIGHBOUR: 'it returns false'. Refute it at one input. -/
def vecApartWrong : ChangeSpec := { name := "vecApart", fn := fun _ => fun
  | [d1, d2] => { results := [.lit (.bool false)], args := [d1, d2] }
  | _ => none }
def VecApartWrongFalsely : Prop := vecApartRow.holds Try.pinned (OpenSpec.ofChange vecApartWrong)

/-- 'peloruslaw06.VecLength': WHATEVER THE INPUT: true; the input reads as it did. -/
def vecLengthSpec : ChangeSpec := { name := "vecLength", fn := fun _ => fun
  | [d] => { results := [.lit (.bool true)], args := [d] }
  | _ => none }
def vecLengthRow : OpenClaim := { program := "ytmedemniopgpeaa", sum := "25418542abf98b043e241f0bf9fdee617a2bd0d9e51e896a22fd0d5faaf4fe9c", func := "pelorus/peloruslaw06.VecLength", spec := "vecLength", unfollowed := true, recurses := true, apart := false }
def VecLengthSaid : Prop := vecLengthRow.holds Try.pinned (OpenSpec.ofChange vecLengthSpec)

/-- ITS FALSE NEIGHBOUR: 'it returns false'. Refute it at one input. -/
def vecLengthWrong : ChangeSpec := { name := "vecLength", fn := fun _ => fun
  | [d] => { results := [.lit (.bool false)], args := [d] }
  | _ => none }
def VecLengthWrongFalsely : Prop := vecLengthRow.holds Try.pinned (OpenSpec.ofChange vecLengthWrong)

/-- 'peloruslaw06.VecWithin': WHATEVER THE INPUT: true; the input reads as it did. -/
def vecWithinSpec : ChangeSpec := { name := "vecWithin", fn := fun _ => fun
  | [d1, d2] => { results := [.lit (.bool true)], args := [d1, d2] }
  | _ => none }
def vecWithinRow : OpenClaim := { program := "ytmedemniopgpeaa", sum := "25418542abf98b043e241f0bf9fdee617a2bd0d9e51e896a22fd0d5faaf4fe9c", func := "pelorus/peloruslaw06.VecWithin", spec := "vecWithin", unfollowed := true, recurses := true, apart := false }
def VecWithinSaid : Prop := vecWithinRow.holds Try.pinned (OpenSpec.ofChange vecWithinSpec)

/-- ITS FALSE NEIGHBOUR: 'it returns false'. Refute it at one input. -/
def vecWithinWrong : ChangeSpec := { name := "vecWithin", fn := fun _ => fun
  | [d1, d2] => { results := [.lit (.bool false)], args := [d1, d2] }
  | _ => none }
def VecWithinWrongFalsely : Prop := vecWithinRow.holds Try.pinned (OpenSpec.ofChange vecWithinWrong)

/- THE SECOND FORM. 'bulk': how many values and letters a reading holds, each counted each time it is reached (what is shared counts as often as it is met; a slice's spare places count too). A statement '..UptoSaid' is the law's where the arguments, and the package variables that the reading takes, are together of bulk at most 1048576: NARROWER than '..Said'. Prove '..Said' where nothing that the law and all that it calls make is longer than what came in: it says more and counts as full. Else prove '..UptoSaid'. A law counts once. -/
mutual
def uptoBulk {H : Type} : DataW H → Nat
  | .lit (.string bytes) => bytes.length + 1
  | .lit _ => 1
  | .nil => 1
  | .ptr d => uptoBulk d + 1
  | .slice elems spare => uptoBulkAll elems + uptoBulkAll spare + 1
  | .agg parts => uptoBulkAll parts + 1
  | .iface _ d => uptoBulk d + 1
  | .map entries => uptoBulkEntries entries + 1
  | .held _ => 1
def uptoBulkAll {H : Type} : List (DataW H) → Nat
  | [] => 0
  | d :: r => uptoBulk d + uptoBulkAll r
def uptoBulkEntries {H : Type} : List (Lit × DataW H) → Nat
  | [] => 0
  | x :: r => uptoBulkEntry x + uptoBulkEntries r
def uptoBulkEntry {H : Type} : Lit × DataW H → Nat
  | (.string bytes, d) => bytes.length + uptoBulk d + 1
  | (_, d) => uptoBulk d + 1
 end
def uptoSmall : (H : Type) → List (DataW H) → Bool := fun _ ds => decide (uptoBulkAll ds ≤ 1048576)
def OpenSpec.upto (s : _root_.Go.ChangeSpec) : _root_.Go.OpenSpec := { _root_.Go.OpenSpec.ofChange s with cond := some uptoSmall }

/-- 'peloruslaw06.VecMuls', WHERE WHAT IT READS IS OF BULK AT MOST 1048576: true; the input reads as it did. -/
def vecMulsUptoRow : OpenClaim := { program := "ytmedemniopgpeaa", sum := "25418542abf98b043e241f0bf9fdee617a2bd0d9e51e896a22fd0d5faaf4fe9c", func := "pelorus/peloruslaw06.VecMuls", spec := "vecMuls", unfollowed := true, recurses := true, apart := false, narrowed := true }
def VecMulsUptoSaid : Prop := vecMulsUptoRow.holds Try.pinned (OpenSpec.upto vecMulsSpec)

/-- 'peloruslaw06.VecSizes', WHERE WHAT IT READS IS OF BULK AT MOST 1048576: true; the input reads as it did. -/
def vecSizesUptoRow : OpenClaim := { program := "ytmedemniopgpeaa", sum := "25418542abf98b043e241f0bf9fdee617a2bd0d9e51e896a22fd0d5faaf4fe9c", func := "pelorus/peloruslaw06.VecSizes", spec := "vecSizes", unfollowed := true, recurses := true, apart := false, narrowed := true }
def VecSizesUptoSaid : Prop := vecSizesUptoRow.holds Try.pinned (OpenSpec.upto vecSizesSpec)

/-- 'peloruslaw06.VecApart', WHERE WHAT IT READS IS OF BULK AT MOST 1048576: true; the input reads as it did. -/
def vecApartUptoRow : OpenClaim := { program := "ytmedemniopgpeaa", sum := "25418542abf98b043e241f0bf9fdee617a2bd0d9e51e896a22fd0d5faaf4fe9c", func := "pelorus/peloruslaw06.VecApart", spec := "vecApart", unfollowed := true, recurses := true, apart := false, narrowed := true }
def VecApartUptoSaid : Prop := vecApartUptoRow.holds Try.pinned (OpenSpec.upto vecApartSpec)

/-- 'peloruslaw06.VecLength', WHERE WHAT IT READS IS OF BULK AT MOST 1048576: true; the input reads as it did. -/
def vecLengthUptoRow : OpenClaim := { program := "ytmedemniopgpeaa", sum := "25418542abf98b043e241f0bf9fdee617a2bd0d9e51e896a22fd0d5faaf4fe9c", func := "pelorus/peloruslaw06.VecLength", spec := "vecLength", unfollowed := true, recurses := true, apart := false, narrowed := true }
def VecLengthUptoSaid : Prop := vecLengthUptoRow.holds Try.pinned (OpenSpec.upto vecLengthSpec)

/-- 'peloruslaw06.VecWithin', WHERE WHAT IT READS IS OF BULK AT MOST 1048576: true; the input reads as it did. -/
def vecWithinUptoRow : OpenClaim := { program := "ytmedemniopgpeaa", sum := "25418542abf98b043e241f0bf9fdee617a2bd0d9e51e896a22fd0d5faaf4fe9c", func := "pelorus/peloruslaw06.VecWithin", spec := "vecWithin", unfollowed := true, recurses := true, apart := false, narrowed := true }
def VecWithinUptoSaid : Prop := vecWithinUptoRow.holds Try.pinned (OpenSpec.upto vecWithinSpec)

end Rows
end Go.Proofs.Ytmedemniopgpeaa
