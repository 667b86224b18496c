/-
  DERIVED. GIVEN WITH THE SEED: THE CARDS: each row of YtneljefoglmldaaDoorRows.lean that lists a variable, with what it lists TIED to the program's text (the seventh form; the later family's looks); each row that meets fmt, with fmt's text TOLD by the authors' own Lean function (tested against real Go, not proved from fmt's source: count such statements apart). THE CARD IS WHAT COUNTS. Prove the row's statement (the work); the ties are given (YtneljefoglmldaaDoorTie.lean); close each card by the builder's one call (the guide's Derived/Test/ToyasCard.lean, 'card_holds'). Laid BY PROGRAM, IN A SANDBOX (cutbox-door.mjs). By AI agents, Wed Nov 11 2026. No macro, syntax, notation, axiom, sorry.
-/
import Derived.Test.YtneljefoglmldaaDoorRows
import GoSem.ClaimSeven
namespace Go.Proofs.YtneljefoglmldaaDoor
namespace Rows

/-- THE TIED CARD OF 'peloruslaw05.TurnBoth'. -/
def turnBothCard : Claim7 := { stood := { row := turnBothRow, standIns := [], harness := (true, "409f6f51192dc8274d5e994bf19929d807ffa6f5e88389e1ea7b66feb9708b2a"), looks := false }, kinds := [], alts := [], laidByText := true, laidKinds := [.data], laidTests := true, laidLooks := .later }
def TurnBothCardSaid : Prop := Claim7.holds Tryd.pinned (.plain (OpenSpec.ofChange turnBothSpec)) turnBothCard

/-- THE TIED CARD OF 'peloruslaw05.TurnAngle'. -/
def turnAngleCard : Claim7 := { stood := { row := turnAngleRow, standIns := [], harness := (true, "409f6f51192dc8274d5e994bf19929d807ffa6f5e88389e1ea7b66feb9708b2a"), looks := false }, kinds := [], alts := [], laidByText := true, laidKinds := [.data], laidTests := true, laidLooks := .later }
def TurnAngleCardSaid : Prop := Claim7.holds Tryd.pinned (.plain (OpenSpec.ofChange turnAngleSpec)) turnAngleCard

/-- THE TIED CARD OF 'peloruslaw05.TurnTells'. -/
def turnTellsCard : Claim7 := { stood := { row := turnTellsRow, standIns := [], harness := (true, "409f6f51192dc8274d5e994bf19929d807ffa6f5e88389e1ea7b66feb9708b2a"), looks := false }, kinds := [], alts := [], laidByText := true, laidKinds := [.data], laidTests := true, laidLooks := .later }
def TurnTellsCardSaid : Prop := Claim7.holds Tryd.pinned (.plain (OpenSpec.ofChange turnTellsSpec)) turnTellsCard

/-- THE TIED CARD OF 'peloruslaw05.TurnAround'. -/
def turnAroundCard : Claim7 := { stood := { row := turnAroundRow, standIns := [], harness := (true, "409f6f51192dc8274d5e994bf19929d807ffa6f5e88389e1ea7b66feb9708b2a"), looks := false }, kinds := [], alts := [], laidByText := true, laidKinds := [.data], laidTests := true, laidLooks := .later }
def TurnAroundCardSaid : Prop := Claim7.holds Tryd.pinned (.plain (OpenSpec.ofChange turnAroundSpec)) turnAroundCard

/-- THE TIED CARD OF 'peloruslaw05.TurnUnit'. -/
def turnUnitCard : Claim7 := { stood := { row := turnUnitRow, standIns := [], harness := (true, "409f6f51192dc8274d5e994bf19929d807ffa6f5e88389e1ea7b66feb9708b2a"), looks := false }, kinds := [], alts := [], laidByText := true, laidKinds := [.data], laidTests := true, laidLooks := .later }
def TurnUnitCardSaid : Prop := Claim7.holds Tryd.pinned (.plain (OpenSpec.ofChange turnUnitSpec)) turnUnitCard

/-- THE TIED CARD OF 'peloruslaw05.TurnBack'. -/
def turnBackCard : Claim7 := { stood := { row := turnBackRow, standIns := [], harness := (true, "409f6f51192dc8274d5e994bf19929d807ffa6f5e88389e1ea7b66feb9708b2a"), looks := false }, kinds := [], alts := [], laidByText := true, laidKinds := [.data], laidTests := true, laidLooks := .later }
def TurnBackCardSaid : Prop := Claim7.holds Tryd.pinned (.plain (OpenSpec.ofChange turnBackSpec)) turnBackCard

/-- THE TIED CARD OF 'peloruslaw05.TurnLength'. -/
def turnLengthCard : Claim7 := { stood := { row := turnLengthRow, standIns := [], harness := (true, "409f6f51192dc8274d5e994bf19929d807ffa6f5e88389e1ea7b66feb9708b2a"), looks := false }, kinds := [], alts := [], laidByText := true, laidKinds := [.data], laidTests := true, laidLooks := .later }
def TurnLengthCardSaid : Prop := Claim7.holds Tryd.pinned (.plain (OpenSpec.ofChange turnLengthSpec)) turnLengthCard

/-- THE SECOND FORM's CARD OF 'peloruslaw05.TurnBoth'. -/
def turnBothUptoCard : Claim7 := { stood := { row := turnBothUptoRow, standIns := [], harness := (true, "409f6f51192dc8274d5e994bf19929d807ffa6f5e88389e1ea7b66feb9708b2a"), looks := false }, kinds := [], alts := [], laidByText := true, laidKinds := [.data], laidTests := true, laidLooks := .later }
def TurnBothUptoCardSaid : Prop := Claim7.holds Tryd.pinned (.plain (OpenSpec.upto turnBothSpec)) turnBothUptoCard

/-- THE SECOND FORM's CARD OF 'peloruslaw05.TurnAngle'. -/
def turnAngleUptoCard : Claim7 := { stood := { row := turnAngleUptoRow, standIns := [], harness := (true, "409f6f51192dc8274d5e994bf19929d807ffa6f5e88389e1ea7b66feb9708b2a"), looks := false }, kinds := [], alts := [], laidByText := true, laidKinds := [.data], laidTests := true, laidLooks := .later }
def TurnAngleUptoCardSaid : Prop := Claim7.holds Tryd.pinned (.plain (OpenSpec.upto turnAngleSpec)) turnAngleUptoCard

/-- THE SECOND FORM's CARD OF 'peloruslaw05.TurnTells'. -/
def turnTellsUptoCard : Claim7 := { stood := { row := turnTellsUptoRow, standIns := [], harness := (true, "409f6f51192dc8274d5e994bf19929d807ffa6f5e88389e1ea7b66feb9708b2a"), looks := false }, kinds := [], alts := [], laidByText := true, laidKinds := [.data], laidTests := true, laidLooks := .later }
def TurnTellsUptoCardSaid : Prop := Claim7.holds Tryd.pinned (.plain (OpenSpec.upto turnTellsSpec)) turnTellsUptoCard

/-- THE SECOND FORM's CARD OF 'peloruslaw05.TurnAround'. -/
def turnAroundUptoCard : Claim7 := { stood := { row := turnAroundUptoRow, standIns := [], harness := (true, "409f6f51192dc8274d5e994bf19929d807ffa6f5e88389e1ea7b66feb9708b2a"), looks := false }, kinds := [], alts := [], laidByText := true, laidKinds := [.data], laidTests := true, laidLooks := .later }
def TurnAroundUptoCardSaid : Prop := Claim7.holds Tryd.pinned (.plain (OpenSpec.upto turnAroundSpec)) turnAroundUptoCard

/-- THE SECOND FORM's CARD OF 'peloruslaw05.TurnUnit'. -/
def turnUnitUptoCard : Claim7 := { stood := { row := turnUnitUptoRow, standIns := [], harness := (true, "409f6f51192dc8274d5e994bf19929d807ffa6f5e88389e1ea7b66feb9708b2a"), looks := false }, kinds := [], alts := [], laidByText := true, laidKinds := [.data], laidTests := true, laidLooks := .later }
def TurnUnitUptoCardSaid : Prop := Claim7.holds Tryd.pinned (.plain (OpenSpec.upto turnUnitSpec)) turnUnitUptoCard

/-- THE SECOND FORM's CARD OF 'peloruslaw05.TurnBack'. -/
def turnBackUptoCard : Claim7 := { stood := { row := turnBackUptoRow, standIns := [], harness := (true, "409f6f51192dc8274d5e994bf19929d807ffa6f5e88389e1ea7b66feb9708b2a"), looks := false }, kinds := [], alts := [], laidByText := true, laidKinds := [.data], laidTests := true, laidLooks := .later }
def TurnBackUptoCardSaid : Prop := Claim7.holds Tryd.pinned (.plain (OpenSpec.upto turnBackSpec)) turnBackUptoCard

/-- THE SECOND FORM's CARD OF 'peloruslaw05.TurnLength'. -/
def turnLengthUptoCard : Claim7 := { stood := { row := turnLengthUptoRow, standIns := [], harness := (true, "409f6f51192dc8274d5e994bf19929d807ffa6f5e88389e1ea7b66feb9708b2a"), looks := false }, kinds := [], alts := [], laidByText := true, laidKinds := [.data], laidTests := true, laidLooks := .later }
def TurnLengthUptoCardSaid : Prop := Claim7.holds Tryd.pinned (.plain (OpenSpec.upto turnLengthSpec)) turnLengthUptoCard
end Rows
end Go.Proofs.YtneljefoglmldaaDoor
