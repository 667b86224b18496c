/-
  No cell of these rows narrows 'for every input' (looked for: loops, veiled, ifaces, maps, wideKeys, modest, calm, conditions, laid).
  DERIVED. THE GIVEN ROWS OF THIS SEAT. 5 by the template 'for every input the law returns true; each argument reads behind the call as it read before'; 0 by the template 'total and deterministic' (their statements: YtlpajjhkiaobbaaTotals.lean).
  GIVEN WITH THE SEED: the statements are not yours to turn. If you find one false, say at which input.
  Laid BY PROGRAM, IN A SANDBOX (cutbox-rows.mjs): the forced cells as the released guide's own fill.sh prints them over the translation dfbb83105483dd88… (all of the seat's roots in one cut). By AI agents, Wed Nov 11 2026. No macro, syntax, notation, axiom, sorry.
-/
import Derived.Test.YtlpajjhkiaobbaaChecked
import GoSem.Claim
import GoSem.ClaimJoined
import GoSem.ClaimMapViews
import Derived.JoinedTies
import Derived.KernelRfl
namespace Go.Proofs.Ytlpajjhkiaobbaa
/- THE CELL 'sum', in the pinned program and in every row, IS THE sha256 OF THE DUMP (.gsa) THAT YtlpajjhkiaobbaaProg.lean LOADS. Nothing in Lean hashes anything: it is a label: what it is worth is what the hold of that sum in a sandbox is worth. -/
noncomputable def Try.pinned : Pinned := { name := "ytlpajjhkiaobbaa", sum := "dfbb83105483dd88f2ae3b02ed01370ccbbe58b47c85f728ce5c052e2e11caba", checked := Try.checked }
namespace Rows
def none {H : Type} : Left H := { results := [], args := [] }

/-- 'peloruslaw03.SmallTells': WHATEVER THE INPUT: true; the input reads as it did. -/
def smallTellsSpec : ChangeSpec := { name := "smallTells", fn := fun _ => fun
  | [d1, d2, d3] => { results := [.lit (.bool true)], args := [d1, d2, d3] }
  | _ => none }
def smallTellsRow : OpenClaim := { program := "ytlpajjhkiaobbaa", sum := "dfbb83105483dd88f2ae3b02ed01370ccbbe58b47c85f728ce5c052e2e11caba", func := "pelorus/peloruslaw03.SmallTells", spec := "smallTells", apart := false }
def SmallTellsSaid : Prop := smallTellsRow.holds Try.pinned (OpenSpec.ofChange smallTellsSpec)

/-- ITS FALSE NEIGHBOUR: 'it returns false'. Refute it at one input. -/
def smallTellsWrong : ChangeSpec := { name := "smallTells", fn := fun _ => fun
  | [d1, d2, d3] => { results := [.lit (.bool false)], args := [d1, d2, d3] }
  | _ => none }
def SmallTellsWrongFalsely : Prop := smallTellsRow.holds Try.pinned (OpenSpec.ofChange smallTellsWrong)

/-- 'peloruslaw03.SmallBytes': WHATEVER THE INPUT: true; the input reads as it did. -/
def smallBytesSpec : ChangeSpec := { name := "smallBytes", fn := fun _ => fun
  | [d1, d2, d3] => { results := [.lit (.bool true)], args := [d1, d2, d3] }
  | _ => none }
def smallBytesRow : OpenClaim := { program := "ytlpajjhkiaobbaa", sum := "dfbb83105483dd88f2ae3b02ed01370ccbbe58b47c85f728ce5c052e2e11caba", func := "pelorus/peloruslaw03.SmallBytes", spec := "smallBytes", apart := false }
def SmallBytesSaid : Prop := smallBytesRow.holds Try.pinned (OpenSpec.ofChange smallBytesSpec)

/-- ITS FALSE NEIGHBOUR: 'it returns false'. Refute it at one input. -/
def smallBytesWrong : ChangeSpec := { name := "smallBytes", fn := fun _ => fun
  | [d1, d2, d3] => { results := [.lit (.bool false)], args := [d1, d2, d3] }
  | _ => none }
def SmallBytesWrongFalsely : Prop := smallBytesRow.holds Try.pinned (OpenSpec.ofChange smallBytesWrong)

/-- 'peloruslaw03.SmallTurns': WHATEVER THE INPUT: true; the input reads as it did. -/
def smallTurnsSpec : ChangeSpec := { name := "smallTurns", fn := fun _ => fun
  | [d1, d2] => { results := [.lit (.bool true)], args := [d1, d2] }
  | _ => none }
def smallTurnsRow : OpenClaim := { program := "ytlpajjhkiaobbaa", sum := "dfbb83105483dd88f2ae3b02ed01370ccbbe58b47c85f728ce5c052e2e11caba", func := "pelorus/peloruslaw03.SmallTurns", spec := "smallTurns", apart := false }
def SmallTurnsSaid : Prop := smallTurnsRow.holds Try.pinned (OpenSpec.ofChange smallTurnsSpec)

/-- ITS FALSE NEIGHBOUR: 'it returns false'. Refute it at one input. -/
def smallTurnsWrong : ChangeSpec := { name := "smallTurns", fn := fun _ => fun
  | [d1, d2] => { results := [.lit (.bool false)], args := [d1, d2] }
  | _ => none }
def SmallTurnsWrongFalsely : Prop := smallTurnsRow.holds Try.pinned (OpenSpec.ofChange smallTurnsWrong)

/-- 'peloruslaw03.SmallBack': WHATEVER THE INPUT: true; the input reads as it did. -/
def smallBackSpec : ChangeSpec := { name := "smallBack", fn := fun _ => fun
  | [d1, d2] => { results := [.lit (.bool true)], args := [d1, d2] }
  | _ => none }
def smallBackRow : OpenClaim := { program := "ytlpajjhkiaobbaa", sum := "dfbb83105483dd88f2ae3b02ed01370ccbbe58b47c85f728ce5c052e2e11caba", func := "pelorus/peloruslaw03.SmallBack", spec := "smallBack", apart := false }
def SmallBackSaid : Prop := smallBackRow.holds Try.pinned (OpenSpec.ofChange smallBackSpec)

/-- ITS FALSE NEIGHBOUR: 'it returns false'. Refute it at one input. -/
def smallBackWrong : ChangeSpec := { name := "smallBack", fn := fun _ => fun
  | [d1, d2] => { results := [.lit (.bool false)], args := [d1, d2] }
  | _ => none }
def SmallBackWrongFalsely : Prop := smallBackRow.holds Try.pinned (OpenSpec.ofChange smallBackWrong)

/-- 'peloruslaw03.SmallAround': WHATEVER THE INPUT: true; the input reads as it did. -/
def smallAroundSpec : ChangeSpec := { name := "smallAround", fn := fun _ => fun
  | [d1, d2] => { results := [.lit (.bool true)], args := [d1, d2] }
  | _ => none }
def smallAroundRow : OpenClaim := { program := "ytlpajjhkiaobbaa", sum := "dfbb83105483dd88f2ae3b02ed01370ccbbe58b47c85f728ce5c052e2e11caba", func := "pelorus/peloruslaw03.SmallAround", spec := "smallAround", apart := false }
def SmallAroundSaid : Prop := smallAroundRow.holds Try.pinned (OpenSpec.ofChange smallAroundSpec)

/-- ITS FALSE NEIGHBOUR: 'it returns false'. Refute it at one input. -/
def smallAroundWrong : ChangeSpec := { name := "smallAround", fn := fun _ => fun
  | [d1, d2] => { results := [.lit (.bool false)], args := [d1, d2] }
  | _ => none }
def SmallAroundWrongFalsely : Prop := smallAroundRow.holds Try.pinned (OpenSpec.ofChange smallAroundWrong)

/- THE SECOND FORM. 'bulk': how many values and letters a reading holds, each counted each time it is reached (what is shared counts as often as it is met; a slice's spare places count too). A statement '..UptoSaid' is the law's where the arguments, and the package variables that the reading takes, are together of bulk at most 1048576: NARROWER than '..Said'. Prove '..Said' where nothing that the law and all that it calls make is longer than what came in: it says more and counts as full. Else prove '..UptoSaid'. A law counts once. -/
mutual
def uptoBulk {H : Type} : DataW H → Nat
  | .lit (.string bytes) => bytes.length + 1
  | .lit _ => 1
  | .nil => 1
  | .ptr d => uptoBulk d + 1
  | .slice elems spare => uptoBulkAll elems + uptoBulkAll spare + 1
  | .agg parts => uptoBulkAll parts + 1
  | .iface _ d => uptoBulk d + 1
  | .map entries => uptoBulkEntries entries + 1
  | .held _ => 1
def uptoBulkAll {H : Type} : List (DataW H) → Nat
  | [] => 0
  | d :: r => uptoBulk d + uptoBulkAll r
def uptoBulkEntries {H : Type} : List (Lit × DataW H) → Nat
  | [] => 0
  | x :: r => uptoBulkEntry x + uptoBulkEntries r
def uptoBulkEntry {H : Type} : Lit × DataW H → Nat
  | (.string bytes, d) => bytes.length + uptoBulk d + 1
  | (_, d) => uptoBulk d + 1
 end
def uptoSmall : (H : Type) → List (DataW H) → Bool := fun _ ds => decide (uptoBulkAll ds ≤ 1048576)
def OpenSpec.upto (s : _root_.Go.ChangeSpec) : _root_.Go.OpenSpec := { _root_.Go.OpenSpec.ofChange s with cond := some uptoSmall }

/-- 'peloruslaw03.SmallTells', WHERE WHAT IT READS IS OF BULK AT MOST 1048576: true; the input reads as it did. -/
def smallTellsUptoRow : OpenClaim := { program := "ytlpajjhkiaobbaa", sum := "dfbb83105483dd88f2ae3b02ed01370ccbbe58b47c85f728ce5c052e2e11caba", func := "pelorus/peloruslaw03.SmallTells", spec := "smallTells", apart := false, narrowed := true }
def SmallTellsUptoSaid : Prop := smallTellsUptoRow.holds Try.pinned (OpenSpec.upto smallTellsSpec)

/-- 'peloruslaw03.SmallBytes', WHERE WHAT IT READS IS OF BULK AT MOST 1048576: true; the input reads as it did. -/
def smallBytesUptoRow : OpenClaim := { program := "ytlpajjhkiaobbaa", sum := "dfbb83105483dd88f2ae3b02ed01370ccbbe58b47c85f728ce5c052e2e11caba", func := "pelorus/peloruslaw03.SmallBytes", spec := "smallBytes", apart := false, narrowed := true }
def SmallBytesUptoSaid : Prop := smallBytesUptoRow.holds Try.pinned (OpenSpec.upto smallBytesSpec)

/-- 'peloruslaw03.SmallTurns', WHERE WHAT IT READS IS OF BULK AT MOST 1048576: true; the input reads as it did. -/
def smallTurnsUptoRow : OpenClaim := { program := "ytlpajjhkiaobbaa", sum := "dfbb83105483dd88f2ae3b02ed01370ccbbe58b47c85f728ce5c052e2e11caba", func := "pelorus/peloruslaw03.SmallTurns", spec := "smallTurns", apart := false, narrowed := true }
def SmallTurnsUptoSaid : Prop := smallTurnsUptoRow.holds Try.pinned (OpenSpec.upto smallTurnsSpec)

/-- 'peloruslaw03.SmallBack', WHERE WHAT IT READS IS OF BULK AT MOST 1048576: true; the input reads as it did. -/
def smallBackUptoRow : OpenClaim := { program := "ytlpajjhkiaobbaa", sum := "dfbb83105483dd88f2ae3b02ed01370ccbbe58b47c85f728ce5c052e2e11caba", func := "pelorus/peloruslaw03.SmallBack", spec := "smallBack", apart := false, narrowed := true }
def SmallBackUptoSaid : Prop := smallBackUptoRow.holds Try.pinned (OpenSpec.upto smallBackSpec)

/-- 'peloruslaw03.SmallAround', WHERE WHAT IT READS IS OF BULK AT MOST 1048576: true; the input reads as it did. -/
def smallAroundUptoRow : OpenClaim := { program := "ytlpajjhkiaobbaa", sum := "dfbb83105483dd88f2ae3b02ed01370ccbbe58b47c85f728ce5c052e2e11caba", func := "pelorus/peloruslaw03.SmallAround", spec := "smallAround", apart := false, narrowed := true }
def SmallAroundUptoSaid : Prop := smallAroundUptoRow.holds Try.pinned (OpenSpec.upto smallAroundSpec)

end Rows
end Go.Proofs.Ytlpajjhkiaobbaa
