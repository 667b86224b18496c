/-
  DERIVED. GIVEN WITH THE SEED: THE CARDS: each row of YtjgmmocadkcghaaDoorRows.lean that lists a variable, with what it lists TIED to the program's text (the seventh form; the later family's looks); each row that meets fmt, with fmt's text TOLD by the authors' own Lean function (tested against real Go, not proved from fmt's source: count such statements apart). THE CARD IS WHAT COUNTS. Prove the row's statement (the work); the ties are given (YtjgmmocadkcghaaDoorTie.lean); close each card by the builder's one call (the guide's Derived/Test/ToyasCard.lean, 'card_holds'). Laid BY PROGRAM, IN A SANDBOX (cutbox-door.mjs). By AI agents, Wed Nov 11 2026. No macro, syntax, notation, axiom, sorry.
-/
import Derived.Test.YtjgmmocadkcghaaDoorRows
import GoSem.ClaimSeven
namespace Go.Proofs.YtjgmmocadkcghaaDoor
namespace Rows

/-- THE TIED CARD OF 'peloruslaw08.HashOf'. -/
def hashOfCard : Claim7 := { stood := { row := hashOfRow, standIns := [], harness := (true, "808dd09b969e894a5e111d73f5f435a29610888f0f5953703ea7ec9454c4ac23"), looks := false }, kinds := [], alts := [], laidByText := true, laidKinds := [.data], laidTests := true, laidLooks := .later }
def HashOfCardSaid : Prop := Claim7.holds Tryd.pinned (.plain (OpenSpec.ofChange hashOfSpec)) hashOfCard

/-- THE TIED CARD OF 'peloruslaw08.HashWrites'. -/
def hashWritesCard : Claim7 := { stood := { row := hashWritesRow, standIns := [], harness := (true, "808dd09b969e894a5e111d73f5f435a29610888f0f5953703ea7ec9454c4ac23"), looks := false }, kinds := [], alts := [], laidByText := true, laidKinds := [.data], laidTests := true, laidLooks := .later }
def HashWritesCardSaid : Prop := Claim7.holds Tryd.pinned (.plain (OpenSpec.ofChange hashWritesSpec)) hashWritesCard

/-- THE TIED CARD OF 'peloruslaw08.HashPieces'. -/
def hashPiecesCard : Claim7 := { stood := { row := hashPiecesRow, standIns := [], harness := (true, "808dd09b969e894a5e111d73f5f435a29610888f0f5953703ea7ec9454c4ac23"), looks := false }, kinds := [], alts := [], laidByText := true, laidKinds := [.data], laidTests := true, laidLooks := .later }
def HashPiecesCardSaid : Prop := Claim7.holds Tryd.pinned (.plain (OpenSpec.ofChange hashPiecesSpec)) hashPiecesCard

/-- THE TIED CARD OF 'peloruslaw08.HashVoid'. -/
def hashVoidCard : Claim7 := { stood := { row := hashVoidRow, standIns := [], harness := (true, "808dd09b969e894a5e111d73f5f435a29610888f0f5953703ea7ec9454c4ac23"), looks := false }, kinds := [], alts := [], laidByText := true, laidKinds := [.data], laidTests := true, laidLooks := .later }
def HashVoidCardSaid : Prop := Claim7.holds Tryd.pinned (.plain (OpenSpec.ofChange hashVoidSpec)) hashVoidCard

/-- THE SECOND FORM's CARD OF 'peloruslaw08.HashOf'. -/
def hashOfUptoCard : Claim7 := { stood := { row := hashOfUptoRow, standIns := [], harness := (true, "808dd09b969e894a5e111d73f5f435a29610888f0f5953703ea7ec9454c4ac23"), looks := false }, kinds := [], alts := [], laidByText := true, laidKinds := [.data], laidTests := true, laidLooks := .later }
def HashOfUptoCardSaid : Prop := Claim7.holds Tryd.pinned (.plain (OpenSpec.upto hashOfSpec)) hashOfUptoCard

/-- THE SECOND FORM's CARD OF 'peloruslaw08.HashWrites'. -/
def hashWritesUptoCard : Claim7 := { stood := { row := hashWritesUptoRow, standIns := [], harness := (true, "808dd09b969e894a5e111d73f5f435a29610888f0f5953703ea7ec9454c4ac23"), looks := false }, kinds := [], alts := [], laidByText := true, laidKinds := [.data], laidTests := true, laidLooks := .later }
def HashWritesUptoCardSaid : Prop := Claim7.holds Tryd.pinned (.plain (OpenSpec.upto hashWritesSpec)) hashWritesUptoCard

/-- THE SECOND FORM's CARD OF 'peloruslaw08.HashPieces'. -/
def hashPiecesUptoCard : Claim7 := { stood := { row := hashPiecesUptoRow, standIns := [], harness := (true, "808dd09b969e894a5e111d73f5f435a29610888f0f5953703ea7ec9454c4ac23"), looks := false }, kinds := [], alts := [], laidByText := true, laidKinds := [.data], laidTests := true, laidLooks := .later }
def HashPiecesUptoCardSaid : Prop := Claim7.holds Tryd.pinned (.plain (OpenSpec.upto hashPiecesSpec)) hashPiecesUptoCard

/-- THE SECOND FORM's CARD OF 'peloruslaw08.HashVoid'. -/
def hashVoidUptoCard : Claim7 := { stood := { row := hashVoidUptoRow, standIns := [], harness := (true, "808dd09b969e894a5e111d73f5f435a29610888f0f5953703ea7ec9454c4ac23"), looks := false }, kinds := [], alts := [], laidByText := true, laidKinds := [.data], laidTests := true, laidLooks := .later }
def HashVoidUptoCardSaid : Prop := Claim7.holds Tryd.pinned (.plain (OpenSpec.upto hashVoidSpec)) hashVoidUptoCard
end Rows
end Go.Proofs.YtjgmmocadkcghaaDoor
