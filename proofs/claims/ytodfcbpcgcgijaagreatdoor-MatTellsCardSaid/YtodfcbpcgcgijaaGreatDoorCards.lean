/-
  DERIVED. GIVEN WITH THE SEED: THE CARDS: each row of YtodfcbpcgcgijaaGreatDoorRows.lean that lists a variable, with what it lists TIED to the program's text (the seventh form; the later family's looks); each row that meets fmt, with fmt's text TOLD by the authors' own Lean function (tested against real Go, not proved from fmt's source: count such statements apart). THE CARD IS WHAT COUNTS. Prove the row's statement (the work); the ties are given (YtodfcbpcgcgijaaGreatDoorTie.lean); close each card by the builder's one call (the guide's Derived/Test/ToyasCard.lean, 'card_holds'). Laid BY PROGRAM, IN A SANDBOX (cutbox-door.mjs). By AI agents, Wed Nov 11 2026. No macro, syntax, notation, axiom, sorry.
-/
import Derived.Test.YtodfcbpcgcgijaaGreatDoorRows
import GoSem.ClaimSeven
namespace Go.Proofs.YtodfcbpcgcgijaaGreatDoor
namespace Rows

/-- THE TIED CARD OF 'peloruslaw07.MatTells'. -/
def matTellsCard : Claim7 := { stood := { row := matTellsRow, standIns := [], harness := (true, "dd95456dd09bb2edc96030a416f27fc5736f5b9a47ec80c34ca522ce9192ece7"), looks := false }, kinds := [], alts := [], laidByText := true, laidKinds := [.data], laidTests := true, laidLooks := .later }
def MatTellsCardSaid : Prop := Claim7.holds Tryz.pinned (.plain (OpenSpec.ofChange matTellsSpec)) matTellsCard

/-- THE SECOND FORM's CARD OF 'peloruslaw07.MatTells'. -/
def matTellsUptoCard : Claim7 := { stood := { row := matTellsUptoRow, standIns := [], harness := (true, "dd95456dd09bb2edc96030a416f27fc5736f5b9a47ec80c34ca522ce9192ece7"), looks := false }, kinds := [], alts := [], laidByText := true, laidKinds := [.data], laidTests := true, laidLooks := .later }
def MatTellsUptoCardSaid : Prop := Claim7.holds Tryz.pinned (.plain (OpenSpec.upto matTellsSpec)) matTellsUptoCard
end Rows
end Go.Proofs.YtodfcbpcgcgijaaGreatDoor
