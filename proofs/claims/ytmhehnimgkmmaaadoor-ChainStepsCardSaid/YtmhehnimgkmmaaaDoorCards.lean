/-
  DERIVED. GIVEN WITH THE SEED: THE CARDS: each row of YtmhehnimgkmmaaaDoorRows.lean that lists a variable, with what it lists TIED to the program's text (the seventh form; the later family's looks); each row that meets fmt, with fmt's text TOLD by the authors' own Lean function (tested against real Go, not proved from fmt's source: count such statements apart). THE CARD IS WHAT COUNTS. Prove the row's statement (the work); the ties are given (YtmhehnimgkmmaaaDoorTie.lean); close each card by the builder's one call (the guide's Derived/Test/ToyasCard.lean, 'card_holds'). Laid BY PROGRAM, IN A SANDBOX (cutbox-door.mjs). By AI agents, Wed Nov 11 2026. No macro, syntax, notation, axiom, sorry.
-/
import Derived.Test.YtmhehnimgkmmaaaDoorRows
import GoSem.ClaimSeven
namespace Go.Proofs.YtmhehnimgkmmaaaDoor
namespace Rows

/-- THE TIED CARD OF 'peloruslaw10.ChainWalks'. -/
def chainWalksCard : Claim7 := { stood := { row := chainWalksRow, standIns := [], harness := (true, "0c10252f28b6da1395fae618ed1ae5e714fac5f9ac13cbcf9c33c3ee577a0903"), looks := false }, kinds := [], alts := [], laidByText := true, laidKinds := [.data], laidTests := true, laidLooks := .later }
def ChainWalksCardSaid : Prop := Claim7.holds Tryd.pinned (.plain (OpenSpec.ofChange chainWalksSpec)) chainWalksCard

/-- THE TIED CARD OF 'peloruslaw10.ChainFinds'. -/
def chainFindsCard : Claim7 := { stood := { row := chainFindsRow, standIns := [], harness := (true, "0c10252f28b6da1395fae618ed1ae5e714fac5f9ac13cbcf9c33c3ee577a0903"), looks := false }, kinds := [], alts := [], laidByText := true, laidKinds := [.data], laidTests := true, laidLooks := .later }
def ChainFindsCardSaid : Prop := Claim7.holds Tryd.pinned (.plain (OpenSpec.ofChange chainFindsSpec)) chainFindsCard

/-- THE TIED CARD OF 'peloruslaw10.ChainDerives'. -/
def chainDerivesCard : Claim7 := { stood := { row := chainDerivesRow, standIns := [], harness := (true, "0c10252f28b6da1395fae618ed1ae5e714fac5f9ac13cbcf9c33c3ee577a0903"), looks := false }, kinds := [], alts := [], laidByText := true, laidKinds := [.data], laidTests := true, laidLooks := .later }
def ChainDerivesCardSaid : Prop := Claim7.holds Tryd.pinned (.plain (OpenSpec.ofChange chainDerivesSpec)) chainDerivesCard

/-- THE TIED CARD OF 'peloruslaw10.ChainSteps'. -/
def chainStepsCard : Claim7 := { stood := { row := chainStepsRow, standIns := [], harness := (true, "0c10252f28b6da1395fae618ed1ae5e714fac5f9ac13cbcf9c33c3ee577a0903"), looks := false }, kinds := [], alts := [], laidByText := true, laidKinds := [.data], laidTests := true, laidLooks := .later }
def ChainStepsCardSaid : Prop := Claim7.holds Tryd.pinned (.plain (OpenSpec.ofChange chainStepsSpec)) chainStepsCard

/-- THE SECOND FORM's CARD OF 'peloruslaw10.ChainWalks'. -/
def chainWalksUptoCard : Claim7 := { stood := { row := chainWalksUptoRow, standIns := [], harness := (true, "0c10252f28b6da1395fae618ed1ae5e714fac5f9ac13cbcf9c33c3ee577a0903"), looks := false }, kinds := [], alts := [], laidByText := true, laidKinds := [.data], laidTests := true, laidLooks := .later }
def ChainWalksUptoCardSaid : Prop := Claim7.holds Tryd.pinned (.plain (OpenSpec.upto chainWalksSpec)) chainWalksUptoCard

/-- THE SECOND FORM's CARD OF 'peloruslaw10.ChainFinds'. -/
def chainFindsUptoCard : Claim7 := { stood := { row := chainFindsUptoRow, standIns := [], harness := (true, "0c10252f28b6da1395fae618ed1ae5e714fac5f9ac13cbcf9c33c3ee577a0903"), looks := false }, kinds := [], alts := [], laidByText := true, laidKinds := [.data], laidTests := true, laidLooks := .later }
def ChainFindsUptoCardSaid : Prop := Claim7.holds Tryd.pinned (.plain (OpenSpec.upto chainFindsSpec)) chainFindsUptoCard

/-- THE SECOND FORM's CARD OF 'peloruslaw10.ChainDerives'. -/
def chainDerivesUptoCard : Claim7 := { stood := { row := chainDerivesUptoRow, standIns := [], harness := (true, "0c10252f28b6da1395fae618ed1ae5e714fac5f9ac13cbcf9c33c3ee577a0903"), looks := false }, kinds := [], alts := [], laidByText := true, laidKinds := [.data], laidTests := true, laidLooks := .later }
def ChainDerivesUptoCardSaid : Prop := Claim7.holds Tryd.pinned (.plain (OpenSpec.upto chainDerivesSpec)) chainDerivesUptoCard

/-- THE SECOND FORM's CARD OF 'peloruslaw10.ChainSteps'. -/
def chainStepsUptoCard : Claim7 := { stood := { row := chainStepsUptoRow, standIns := [], harness := (true, "0c10252f28b6da1395fae618ed1ae5e714fac5f9ac13cbcf9c33c3ee577a0903"), looks := false }, kinds := [], alts := [], laidByText := true, laidKinds := [.data], laidTests := true, laidLooks := .later }
def ChainStepsUptoCardSaid : Prop := Claim7.holds Tryd.pinned (.plain (OpenSpec.upto chainStepsSpec)) chainStepsUptoCard
end Rows
end Go.Proofs.YtmhehnimgkmmaaaDoor
