/-
  DERIVED. GIVEN WITH THE SEED: THE CARDS: each row of YthmadcmoendndaaDoorRows.lean that lists a variable, with what it lists TIED to the program's text (the seventh form; the later family's looks); each row that meets fmt, with fmt's text TOLD by the authors' own Lean function (tested against real Go, not proved from fmt's source: count such statements apart). THE CARD IS WHAT COUNTS. Prove the row's statement (the work); the ties are given (YthmadcmoendndaaDoorTie.lean); close each card by the builder's one call (the guide's Derived/Test/ToyasCard.lean, 'card_holds'). Laid BY PROGRAM, IN A SANDBOX (cutbox-door.mjs). By AI agents, Wed Nov 11 2026. No macro, syntax, notation, axiom, sorry.
-/
import Derived.Test.YthmadcmoendndaaDoorRows
import GoSem.ClaimSeven
namespace Go.Proofs.YthmadcmoendndaaDoor
namespace Rows

/-- THE TIED CARD OF 'comitialaw06.BallotTells'. -/
def ballotTellsCard : Claim7 := { stood := { row := ballotTellsRow, standIns := [], harness := (true, "30230b7be2645dca4b6a6432acd8d1cd035f43f893574c47bf962303b520c2d9"), looks := false }, kinds := [], alts := [], laidByText := true, laidKinds := [.data, .data, .data], laidTests := true, laidLooks := .later }
def BallotTellsCardSaid : Prop := Claim7.holds Tryd.pinned (.plain (OpenSpec.ofChange ballotTellsSpec)) ballotTellsCard

/-- THE TIED CARD OF 'comitialaw06.BallotNext'. -/
def ballotNextCard : Claim7 := { stood := { row := ballotNextRow, standIns := [], harness := (true, "30230b7be2645dca4b6a6432acd8d1cd035f43f893574c47bf962303b520c2d9"), looks := false }, kinds := [], alts := [], laidByText := true, laidKinds := [.data, .data, .data], laidTests := true, laidLooks := .later }
def BallotNextCardSaid : Prop := Claim7.holds Tryd.pinned (.plain (OpenSpec.ofChange ballotNextSpec)) ballotNextCard

/-- THE TIED CARD OF 'comitialaw06.BallotBack'. -/
def ballotBackCard : Claim7 := { stood := { row := ballotBackRow, standIns := [], harness := (true, "30230b7be2645dca4b6a6432acd8d1cd035f43f893574c47bf962303b520c2d9"), looks := false }, kinds := [], alts := [], laidByText := true, laidKinds := [.data, .data, .data], laidTests := true, laidLooks := .later }
def BallotBackCardSaid : Prop := Claim7.holds Tryd.pinned (.plain (OpenSpec.ofChange ballotBackSpec)) ballotBackCard

/-- THE TIED CARD OF 'comitialaw06.BallotOrder'. -/
def ballotOrderCard : Claim7 := { stood := { row := ballotOrderRow, standIns := [], harness := (true, "30230b7be2645dca4b6a6432acd8d1cd035f43f893574c47bf962303b520c2d9"), looks := false }, kinds := [], alts := [], laidByText := true, laidKinds := [.data, .data, .data], laidTests := true, laidLooks := .later }
def BallotOrderCardSaid : Prop := Claim7.holds Tryd.pinned (.plain (OpenSpec.ofChange ballotOrderSpec)) ballotOrderCard

/-- THE TIED CARD OF 'comitialaw06.BallotTexts'. -/
def ballotTextsCard : Claim7 := { stood := { row := ballotTextsRow, standIns := [], harness := (true, "30230b7be2645dca4b6a6432acd8d1cd035f43f893574c47bf962303b520c2d9"), looks := false }, kinds := [], alts := [], laidByText := true, laidKinds := [.data, .data, .data], laidTests := true, laidLooks := .later }
def BallotTextsCardSaid : Prop := Claim7.holds Tryd.pinned (.plain (OpenSpec.ofChange ballotTextsSpec)) ballotTextsCard

/-- THE TIED CARD OF 'comitialaw06.BallotBounds'. -/
def ballotBoundsCard : Claim7 := { stood := { row := ballotBoundsRow, standIns := [], harness := (true, "30230b7be2645dca4b6a6432acd8d1cd035f43f893574c47bf962303b520c2d9"), looks := false }, kinds := [], alts := [], laidByText := true, laidKinds := [.data, .data, .data], laidTests := true, laidLooks := .later }
def BallotBoundsCardSaid : Prop := Claim7.holds Tryd.pinned (.plain (OpenSpec.ofChange ballotBoundsSpec)) ballotBoundsCard

/-- THE SECOND FORM's CARD OF 'comitialaw06.BallotTells'. -/
def ballotTellsUptoCard : Claim7 := { stood := { row := ballotTellsUptoRow, standIns := [], harness := (true, "30230b7be2645dca4b6a6432acd8d1cd035f43f893574c47bf962303b520c2d9"), looks := false }, kinds := [], alts := [], laidByText := true, laidKinds := [.data, .data, .data], laidTests := true, laidLooks := .later }
def BallotTellsUptoCardSaid : Prop := Claim7.holds Tryd.pinned (.plain (OpenSpec.upto ballotTellsSpec)) ballotTellsUptoCard

/-- THE SECOND FORM's CARD OF 'comitialaw06.BallotNext'. -/
def ballotNextUptoCard : Claim7 := { stood := { row := ballotNextUptoRow, standIns := [], harness := (true, "30230b7be2645dca4b6a6432acd8d1cd035f43f893574c47bf962303b520c2d9"), looks := false }, kinds := [], alts := [], laidByText := true, laidKinds := [.data, .data, .data], laidTests := true, laidLooks := .later }
def BallotNextUptoCardSaid : Prop := Claim7.holds Tryd.pinned (.plain (OpenSpec.upto ballotNextSpec)) ballotNextUptoCard

/-- THE SECOND FORM's CARD OF 'comitialaw06.BallotBack'. -/
def ballotBackUptoCard : Claim7 := { stood := { row := ballotBackUptoRow, standIns := [], harness := (true, "30230b7be2645dca4b6a6432acd8d1cd035f43f893574c47bf962303b520c2d9"), looks := false }, kinds := [], alts := [], laidByText := true, laidKinds := [.data, .data, .data], laidTests := true, laidLooks := .later }
def BallotBackUptoCardSaid : Prop := Claim7.holds Tryd.pinned (.plain (OpenSpec.upto ballotBackSpec)) ballotBackUptoCard

/-- THE SECOND FORM's CARD OF 'comitialaw06.BallotOrder'. -/
def ballotOrderUptoCard : Claim7 := { stood := { row := ballotOrderUptoRow, standIns := [], harness := (true, "30230b7be2645dca4b6a6432acd8d1cd035f43f893574c47bf962303b520c2d9"), looks := false }, kinds := [], alts := [], laidByText := true, laidKinds := [.data, .data, .data], laidTests := true, laidLooks := .later }
def BallotOrderUptoCardSaid : Prop := Claim7.holds Tryd.pinned (.plain (OpenSpec.upto ballotOrderSpec)) ballotOrderUptoCard

/-- THE SECOND FORM's CARD OF 'comitialaw06.BallotTexts'. -/
def ballotTextsUptoCard : Claim7 := { stood := { row := ballotTextsUptoRow, standIns := [], harness := (true, "30230b7be2645dca4b6a6432acd8d1cd035f43f893574c47bf962303b520c2d9"), looks := false }, kinds := [], alts := [], laidByText := true, laidKinds := [.data, .data, .data], laidTests := true, laidLooks := .later }
def BallotTextsUptoCardSaid : Prop := Claim7.holds Tryd.pinned (.plain (OpenSpec.upto ballotTextsSpec)) ballotTextsUptoCard

/-- THE SECOND FORM's CARD OF 'comitialaw06.BallotBounds'. -/
def ballotBoundsUptoCard : Claim7 := { stood := { row := ballotBoundsUptoRow, standIns := [], harness := (true, "30230b7be2645dca4b6a6432acd8d1cd035f43f893574c47bf962303b520c2d9"), looks := false }, kinds := [], alts := [], laidByText := true, laidKinds := [.data, .data, .data], laidTests := true, laidLooks := .later }
def BallotBoundsUptoCardSaid : Prop := Claim7.holds Tryd.pinned (.plain (OpenSpec.upto ballotBoundsSpec)) ballotBoundsUptoCard
end Rows
end Go.Proofs.YthmadcmoendndaaDoor
