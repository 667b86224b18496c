/-
  DERIVED. GIVEN WITH THE SEED: THE CARDS: each row of YtodfcbpcgcgijaaDoorRows.lean that lists a variable, with what it lists TIED to the program's text (the seventh form; the later family's looks); each row that meets fmt, with fmt's text TOLD by the authors' own Lean function (tested against real Go, not proved from fmt's source: count such statements apart). THE CARD IS WHAT COUNTS. Prove the row's statement (the work); the ties are given (YtodfcbpcgcgijaaDoorTie.lean); close each card by the builder's one call (the guide's Derived/Test/ToyasCard.lean, 'card_holds'). Laid BY PROGRAM, IN A SANDBOX (cutbox-door.mjs). By AI agents, Wed Nov 11 2026. No macro, syntax, notation, axiom, sorry.
-/
import Derived.Test.YtodfcbpcgcgijaaDoorRows
import GoSem.ClaimSeven
namespace Go.Proofs.YtodfcbpcgcgijaaDoor
namespace Rows

/-- THE TIED CARD OF 'peloruslaw07.MatMuls'. -/
def matMulsCard : Claim7 := { stood := { row := matMulsRow, standIns := [], harness := (true, "76501850add5e039de148ba0a8a185064ebbb291c75d7fbdb2f78020d96a9ea8"), looks := false }, kinds := [], alts := [], laidByText := true, laidKinds := [.data], laidTests := true, laidLooks := .later }
def MatMulsCardSaid : Prop := Claim7.holds Tryd.pinned (.plain (OpenSpec.ofChange matMulsSpec)) matMulsCard

/-- THE TIED CARD OF 'peloruslaw07.MatAbout'. -/
def matAboutCard : Claim7 := { stood := { row := matAboutRow, standIns := [], harness := (true, "76501850add5e039de148ba0a8a185064ebbb291c75d7fbdb2f78020d96a9ea8"), looks := false }, kinds := [], alts := [], laidByText := true, laidKinds := [.data], laidTests := true, laidLooks := .later }
def MatAboutCardSaid : Prop := Claim7.holds Tryd.pinned (.plain (OpenSpec.ofChange matAboutSpec)) matAboutCard

/-- THE TIED CARD OF 'peloruslaw07.MatSame'. -/
def matSameCard : Claim7 := { stood := { row := matSameRow, standIns := [], harness := (true, "76501850add5e039de148ba0a8a185064ebbb291c75d7fbdb2f78020d96a9ea8"), looks := false }, kinds := [], alts := [], laidByText := true, laidKinds := [.data], laidTests := true, laidLooks := .later }
def MatSameCardSaid : Prop := Claim7.holds Tryd.pinned (.plain (OpenSpec.ofChange matSameSpec)) matSameCard

/-- THE TIED CARD OF 'peloruslaw07.MatTurned'. -/
def matTurnedCard : Claim7 := { stood := { row := matTurnedRow, standIns := [], harness := (true, "76501850add5e039de148ba0a8a185064ebbb291c75d7fbdb2f78020d96a9ea8"), looks := false }, kinds := [], alts := [], laidByText := true, laidKinds := [.data], laidTests := true, laidLooks := .later }
def MatTurnedCardSaid : Prop := Claim7.holds Tryd.pinned (.plain (OpenSpec.ofChange matTurnedSpec)) matTurnedCard

/-- THE TIED CARD OF 'peloruslaw07.MatUpright'. -/
def matUprightCard : Claim7 := { stood := { row := matUprightRow, standIns := [], harness := (true, "76501850add5e039de148ba0a8a185064ebbb291c75d7fbdb2f78020d96a9ea8"), looks := false }, kinds := [], alts := [], laidByText := true, laidKinds := [.data], laidTests := true, laidLooks := .later }
def MatUprightCardSaid : Prop := Claim7.holds Tryd.pinned (.plain (OpenSpec.ofChange matUprightSpec)) matUprightCard

/-- THE TIED CARD OF 'peloruslaw07.MatHeads'. -/
def matHeadsCard : Claim7 := { stood := { row := matHeadsRow, standIns := [], harness := (true, "76501850add5e039de148ba0a8a185064ebbb291c75d7fbdb2f78020d96a9ea8"), looks := false }, kinds := [], alts := [], laidByText := true, laidKinds := [.data], laidTests := true, laidLooks := .later }
def MatHeadsCardSaid : Prop := Claim7.holds Tryd.pinned (.plain (OpenSpec.ofChange matHeadsSpec)) matHeadsCard

/-- THE SECOND FORM's CARD OF 'peloruslaw07.MatMuls'. -/
def matMulsUptoCard : Claim7 := { stood := { row := matMulsUptoRow, standIns := [], harness := (true, "76501850add5e039de148ba0a8a185064ebbb291c75d7fbdb2f78020d96a9ea8"), looks := false }, kinds := [], alts := [], laidByText := true, laidKinds := [.data], laidTests := true, laidLooks := .later }
def MatMulsUptoCardSaid : Prop := Claim7.holds Tryd.pinned (.plain (OpenSpec.upto matMulsSpec)) matMulsUptoCard

/-- THE SECOND FORM's CARD OF 'peloruslaw07.MatAbout'. -/
def matAboutUptoCard : Claim7 := { stood := { row := matAboutUptoRow, standIns := [], harness := (true, "76501850add5e039de148ba0a8a185064ebbb291c75d7fbdb2f78020d96a9ea8"), looks := false }, kinds := [], alts := [], laidByText := true, laidKinds := [.data], laidTests := true, laidLooks := .later }
def MatAboutUptoCardSaid : Prop := Claim7.holds Tryd.pinned (.plain (OpenSpec.upto matAboutSpec)) matAboutUptoCard

/-- THE SECOND FORM's CARD OF 'peloruslaw07.MatSame'. -/
def matSameUptoCard : Claim7 := { stood := { row := matSameUptoRow, standIns := [], harness := (true, "76501850add5e039de148ba0a8a185064ebbb291c75d7fbdb2f78020d96a9ea8"), looks := false }, kinds := [], alts := [], laidByText := true, laidKinds := [.data], laidTests := true, laidLooks := .later }
def MatSameUptoCardSaid : Prop := Claim7.holds Tryd.pinned (.plain (OpenSpec.upto matSameSpec)) matSameUptoCard

/-- THE SECOND FORM's CARD OF 'peloruslaw07.MatTurned'. -/
def matTurnedUptoCard : Claim7 := { stood := { row := matTurnedUptoRow, standIns := [], harness := (true, "76501850add5e039de148ba0a8a185064ebbb291c75d7fbdb2f78020d96a9ea8"), looks := false }, kinds := [], alts := [], laidByText := true, laidKinds := [.data], laidTests := true, laidLooks := .later }
def MatTurnedUptoCardSaid : Prop := Claim7.holds Tryd.pinned (.plain (OpenSpec.upto matTurnedSpec)) matTurnedUptoCard

/-- THE SECOND FORM's CARD OF 'peloruslaw07.MatUpright'. -/
def matUprightUptoCard : Claim7 := { stood := { row := matUprightUptoRow, standIns := [], harness := (true, "76501850add5e039de148ba0a8a185064ebbb291c75d7fbdb2f78020d96a9ea8"), looks := false }, kinds := [], alts := [], laidByText := true, laidKinds := [.data], laidTests := true, laidLooks := .later }
def MatUprightUptoCardSaid : Prop := Claim7.holds Tryd.pinned (.plain (OpenSpec.upto matUprightSpec)) matUprightUptoCard

/-- THE SECOND FORM's CARD OF 'peloruslaw07.MatHeads'. -/
def matHeadsUptoCard : Claim7 := { stood := { row := matHeadsUptoRow, standIns := [], harness := (true, "76501850add5e039de148ba0a8a185064ebbb291c75d7fbdb2f78020d96a9ea8"), looks := false }, kinds := [], alts := [], laidByText := true, laidKinds := [.data], laidTests := true, laidLooks := .later }
def MatHeadsUptoCardSaid : Prop := Claim7.holds Tryd.pinned (.plain (OpenSpec.upto matHeadsSpec)) matHeadsUptoCard
end Rows
end Go.Proofs.YtodfcbpcgcgijaaDoor
