/-
  No cell of these rows narrows 'for every input' (looked for: loops, veiled, ifaces, maps, wideKeys, modest, calm, conditions, laid).
  DERIVED. THE GIVEN ROWS OF THIS SEAT. 4 by the template 'for every input the law returns true; each argument reads behind the call as it read before'; 0 by the template 'total and deterministic' (their statements: YtmdmkofiddkikaaTotals.lean).
  GIVEN WITH THE SEED: the statements are not yours to turn. If you find one false, say at which input.
  Laid BY PROGRAM, IN A SANDBOX (cutbox-rows.mjs): the forced cells as the released guide's own fill.sh prints them over the translation 7b82e1336230c742… (all of the seat's roots in one cut). By AI agents, Wed Nov 11 2026. No macro, syntax, notation, axiom, sorry.
-/
import Derived.Test.YtmdmkofiddkikaaChecked
import GoSem.Claim
import GoSem.ClaimJoined
import GoSem.ClaimMapViews
import Derived.JoinedTies
import Derived.KernelRfl
namespace Go.Proofs.Ytmdmkofiddkikaa
/- THE CELL 'sum', in the pinned program and in every row, IS THE sha256 OF THE DUMP (.gsa) THAT YtmdmkofiddkikaaProg.lean LOADS. Nothing in Lean hashes anything: it is a label: what it is worth is what the hold of that sum in a sandbox is worth. -/
noncomputable def Try.pinned : Pinned := { name := "ytmdmkofiddkikaa", sum := "7b82e1336230c742e045d0aafadb92975a825775d2bd0d62173dca981b119132", checked := Try.checked }
namespace Rows
def none {H : Type} : Left H := { results := [], args := [] }

/-- 'peloruslaw04.RootTells': WHATEVER THE INPUT: true; the input reads as it did. -/
def rootTellsSpec : ChangeSpec := { name := "rootTells", fn := fun _ => fun
  | [d1, d2, d3] => { results := [.lit (.bool true)], args := [d1, d2, d3] }
  | _ => none }
def rootTellsRow : OpenClaim := { program := "ytmdmkofiddkikaa", sum := "7b82e1336230c742e045d0aafadb92975a825775d2bd0d62173dca981b119132", func := "pelorus/peloruslaw04.RootTells", spec := "rootTells", unfollowed := true, recurses := true, apart := false }
def RootTellsSaid : Prop := rootTellsRow.holds Try.pinned (OpenSpec.ofChange rootTellsSpec)

/-- ITS FALSE NEIGHBOUR: 'it returns false'. Refute it at one input. -/
def rootTellsWrong : ChangeSpec := { name := "rootTells", fn := fun _ => fun
  | [d1, d2, d3] => { results := [.lit (.bool false)], args := [d1, d2, d3] }
  | _ => none }
def RootTellsWrongFalsely : Prop := rootTellsRow.holds Try.pinned (OpenSpec.ofChange rootTellsWrong)

/-- 'peloruslaw04.RootGreatest': WHATEVER THE INPUT: true; the input reads as it did. -/
def rootGreatestSpec : ChangeSpec := { name := "rootGreatest", fn := fun _ => fun
  | [d] => { results := [.lit (.bool true)], args := [d] }
  | _ => none }
def rootGreatestRow : OpenClaim := { program := "ytmdmkofiddkikaa", sum := "7b82e1336230c742e045d0aafadb92975a825775d2bd0d62173dca981b119132", func := "pelorus/peloruslaw04.RootGreatest", spec := "rootGreatest", unfollowed := true, recurses := true, apart := false }
def RootGreatestSaid : Prop := rootGreatestRow.holds Try.pinned (OpenSpec.ofChange rootGreatestSpec)

/-- ITS FALSE NEIGHBOUR: 'it returns false'. Refute it at one input. -/
def rootGreatestWrong : ChangeSpec := { name := "rootGreatest", fn := fun _ => fun
  | [d] => { results := [.lit (.bool false)], args := [d] }
  | _ => none }
def RootGreatestWrongFalsely : Prop := rootGreatestRow.holds Try.pinned (OpenSpec.ofChange rootGreatestWrong)

/-- 'peloruslaw04.RootBack': WHATEVER THE INPUT: true; the input reads as it did. -/
def rootBackSpec : ChangeSpec := { name := "rootBack", fn := fun _ => fun
  | [d1, d2, d3] => { results := [.lit (.bool true)], args := [d1, d2, d3] }
  | _ => none }
def rootBackRow : OpenClaim := { program := "ytmdmkofiddkikaa", sum := "7b82e1336230c742e045d0aafadb92975a825775d2bd0d62173dca981b119132", func := "pelorus/peloruslaw04.RootBack", spec := "rootBack", unfollowed := true, recurses := true, apart := false }
def RootBackSaid : Prop := rootBackRow.holds Try.pinned (OpenSpec.ofChange rootBackSpec)

/-- ITS FALSE NEIGHBOUR: 'it returns false'. Refute it at one input. -/
def rootBackWrong : ChangeSpec := { name := "rootBack", fn := fun _ => fun
  | [d1, d2, d3] => { results := [.lit (.bool false)], args := [d1, d2, d3] }
  | _ => none }
def RootBackWrongFalsely : Prop := rootBackRow.holds Try.pinned (OpenSpec.ofChange rootBackWrong)

/-- 'peloruslaw04.RootFix': WHATEVER THE INPUT: true; the input reads as it did. -/
def rootFixSpec : ChangeSpec := { name := "rootFix", fn := fun _ => fun
  | [d] => { results := [.lit (.bool true)], args := [d] }
  | _ => none }
def rootFixRow : OpenClaim := { program := "ytmdmkofiddkikaa", sum := "7b82e1336230c742e045d0aafadb92975a825775d2bd0d62173dca981b119132", func := "pelorus/peloruslaw04.RootFix", spec := "rootFix", unfollowed := true, recurses := true, apart := false }
def RootFixSaid : Prop := rootFixRow.holds Try.pinned (OpenSpec.ofChange rootFixSpec)

/-- ITS FALSE NEIGHBOUR: 'it returns false'. Refute it at one input. -/
def rootFixWrong : ChangeSpec := { name := "rootFix", fn := fun _ => fun
  | [d] => { results := [.lit (.bool false)], args := [d] }
  | _ => none }
def RootFixWrongFalsely : Prop := rootFixRow.holds Try.pinned (OpenSpec.ofChange rootFixWrong)

/- THE SECOND FORM. 'bulk': how many values and letters a reading holds, each counted each time it is reached (what is shared counts as often as it is met; a slice's spare places count too). A statement '..UptoSaid' is the law's where the arguments, and the package variables that the reading takes, are together of bulk at most 1048576: NARROWER than '..Said'. Prove '..Said' where nothing that the law and all that it calls make is longer than what came in: it says more and counts as full. Else prove '..UptoSaid'. A law counts once. -/
mutual
def uptoBulk {H : Type} : DataW H → Nat
  | .lit (.string bytes) => bytes.length + 1
  | .lit _ => 1
  | .nil => 1
  | .ptr d => uptoBulk d + 1
  | .slice elems spare => uptoBulkAll elems + uptoBulkAll spare + 1
  | .agg parts => uptoBulkAll parts + 1
  | .iface _ d => uptoBulk d + 1
  | .map entries => uptoBulkEntries entries + 1
  | .held _ => 1
def uptoBulkAll {H : Type} : List (DataW H) → Nat
  | [] => 0
  | d :: r => uptoBulk d + uptoBulkAll r
def uptoBulkEntries {H : Type} : List (Lit × DataW H) → Nat
  | [] => 0
  | x :: r => uptoBulkEntry x + uptoBulkEntries r
def uptoBulkEntry {H : Type} : Lit × DataW H → Nat
  | (.string bytes, d) => bytes.length + uptoBulk d + 1
  | (_, d) => uptoBulk d + 1
 end
def uptoSmall : (H : Type) → List (DataW H) → Bool := fun _ ds => decide (uptoBulkAll ds ≤ 1048576)
def OpenSpec.upto (s : _root_.Go.ChangeSpec) : _root_.Go.OpenSpec := { _root_.Go.OpenSpec.ofChange s with cond := some uptoSmall }

/-- 'peloruslaw04.RootTells', WHERE WHAT IT READS IS OF BULK AT MOST 1048576: true; the input reads as it did. -/
def rootTellsUptoRow : OpenClaim := { program := "ytmdmkofiddkikaa", sum := "7b82e1336230c742e045d0aafadb92975a825775d2bd0d62173dca981b119132", func := "pelorus/peloruslaw04.RootTells", spec := "rootTells", unfollowed := true, recurses := true, apart := false, narrowed := true }
def RootTellsUptoSaid : Prop := rootTellsUptoRow.holds Try.pinned (OpenSpec.upto rootTellsSpec)

/-- 'peloruslaw04.RootGreatest', WHERE WHAT IT READS IS OF BULK AT MOST 1048576: true; the input reads as it did. -/
def rootGreatestUptoRow : OpenClaim := { program := "ytmdmkofiddkikaa", sum := "7b82e1336230c742e045d0aafadb92975a825775d2bd0d62173dca981b119132", func := "pelorus/peloruslaw04.RootGreatest", spec := "rootGreatest", unfollowed := true, recurses := true, apart := false, narrowed := true }
def RootGreatestUptoSaid : Prop := rootGreatestUptoRow.holds Try.pinned (OpenSpec.upto rootGreatestSpec)

/-- 'peloruslaw04.RootBack', WHERE WHAT IT READS IS OF BULK AT MOST 1048576: true; the input reads as it did. -/
def rootBackUptoRow : OpenClaim := { program := "ytmdmkofiddkikaa", sum := "7b82e1336230c742e045d0aafadb92975a825775d2bd0d62173dca981b119132", func := "pelorus/peloruslaw04.RootBack", spec := "rootBack", unfollowed := true, recurses := true, apart := false, narrowed := true }
def RootBackUptoSaid : Prop := rootBackUptoRow.holds Try.pinned (OpenSpec.upto rootBackSpec)

/-- 'peloruslaw04.RootFix', WHERE WHAT IT READS IS OF BULK AT MOST 1048576: true; the input reads as it did. -/
def rootFixUptoRow : OpenClaim := { program := "ytmdmkofiddkikaa", sum := "7b82e1336230c742e045d0aafadb92975a825775d2bd0d62173dca981b119132", func := "pelorus/peloruslaw04.RootFix", spec := "rootFix", unfollowed := true, recurses := true, apart := false, narrowed := true }
def RootFixUptoSaid : Prop := rootFixUptoRow.holds Try.pinned (OpenSpec.upto rootFixSpec)

end Rows
end Go.Proofs.Ytmdmkofiddkikaa
