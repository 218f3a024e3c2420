/-
  DERIVED. GIVEN WITH THE SEED: THE CARDS: each row of YtolgboedinbpeaaDoorRows.lean that lists a variable, with what it lists TIED to the program's text (the seventh form; the later family's looks); each row that meets fmt, with fmt's text TOLD by the authors' own Lean function (tested against real Go, not proved from fmt's source: count such statements apart). THE CARD IS WHAT COUNTS. Prove the row's statement (the work); the ties are given (YtolgboedinbpeaaDoorTie.lean); close each card by the builder's one call (the guide's Derived/Test/ToyasCard.lean, 'card_holds'). Laid BY PROGRAM, IN A SANDBOX (cutbox-door.mjs). By AI agents, Wed Nov 11 2026. No macro, syntax, notation, axiom, sorry.
-/
import Derived.Test.YtolgboedinbpeaaDoorRows
import GoSem.ClaimSeven
namespace Go.Proofs.YtolgboedinbpeaaDoor
namespace Rows

/-- THE TIED CARD OF 'comitialaw07.CmdTells'. -/
def cmdTellsCard : Claim7 := { stood := { row := cmdTellsRow, standIns := [], harness := (true, "9e9e38429177a29aa00b1b590ed2e57582048036cfc326567a715f568fe51b05"), looks := false }, kinds := [], alts := [], laidByText := true, laidKinds := [.data, .data, .data], laidTests := true, laidLooks := .later }
def CmdTellsCardSaid : Prop := Claim7.holds Tryd.pinned (.plain (OpenSpec.ofChange cmdTellsSpec)) cmdTellsCard

/-- THE TIED CARD OF 'comitialaw07.CmdReads'. -/
def cmdReadsCard : Claim7 := { stood := { row := cmdReadsRow, standIns := [], harness := (true, "9e9e38429177a29aa00b1b590ed2e57582048036cfc326567a715f568fe51b05"), looks := false }, kinds := [], alts := [], laidByText := true, laidKinds := [.data, .data, .data], laidTests := true, laidLooks := .later }
def CmdReadsCardSaid : Prop := Claim7.holds Tryd.pinned (.plain (OpenSpec.ofChange cmdReadsSpec)) cmdReadsCard

/-- THE TIED CARD OF 'comitialaw07.CmdClash'. -/
def cmdClashCard : Claim7 := { stood := { row := cmdClashRow, standIns := [], harness := (true, "9e9e38429177a29aa00b1b590ed2e57582048036cfc326567a715f568fe51b05"), looks := false }, kinds := [], alts := [], laidByText := true, laidKinds := [.data, .data, .data], laidTests := true, laidLooks := .later }
def CmdClashCardSaid : Prop := Claim7.holds Tryd.pinned (.plain (OpenSpec.ofChange cmdClashSpec)) cmdClashCard

/-- THE TIED CARD OF 'comitialaw07.CmdBack'. -/
def cmdBackCard : Claim7 := { stood := { row := cmdBackRow, standIns := [], harness := (true, "9e9e38429177a29aa00b1b590ed2e57582048036cfc326567a715f568fe51b05"), looks := false }, kinds := [], alts := [], laidByText := true, laidKinds := [.data, .data, .data], laidTests := true, laidLooks := .later }
def CmdBackCardSaid : Prop := Claim7.holds Tryd.pinned (.plain (OpenSpec.ofChange cmdBackSpec)) cmdBackCard

/-- THE TIED CARD OF 'comitialaw07.CmdBounds'. -/
def cmdBoundsCard : Claim7 := { stood := { row := cmdBoundsRow, standIns := [], harness := (true, "9e9e38429177a29aa00b1b590ed2e57582048036cfc326567a715f568fe51b05"), looks := false }, kinds := [], alts := [], laidByText := true, laidKinds := [.data, .data, .data], laidTests := true, laidLooks := .later }
def CmdBoundsCardSaid : Prop := Claim7.holds Tryd.pinned (.plain (OpenSpec.ofChange cmdBoundsSpec)) cmdBoundsCard

/-- THE TIED CARD OF 'comitialaw07.CmdTexts'. -/
def cmdTextsCard : Claim7 := { stood := { row := cmdTextsRow, standIns := [], harness := (true, "9e9e38429177a29aa00b1b590ed2e57582048036cfc326567a715f568fe51b05"), looks := false }, kinds := [], alts := [], laidByText := true, laidKinds := [.data, .data, .data], laidTests := true, laidLooks := .later }
def CmdTextsCardSaid : Prop := Claim7.holds Tryd.pinned (.plain (OpenSpec.ofChange cmdTextsSpec)) cmdTextsCard

/-- THE SECOND FORM's CARD OF 'comitialaw07.CmdTells'. -/
def cmdTellsUptoCard : Claim7 := { stood := { row := cmdTellsUptoRow, standIns := [], harness := (true, "9e9e38429177a29aa00b1b590ed2e57582048036cfc326567a715f568fe51b05"), looks := false }, kinds := [], alts := [], laidByText := true, laidKinds := [.data, .data, .data], laidTests := true, laidLooks := .later }
def CmdTellsUptoCardSaid : Prop := Claim7.holds Tryd.pinned (.plain (OpenSpec.upto cmdTellsSpec)) cmdTellsUptoCard

/-- THE SECOND FORM's CARD OF 'comitialaw07.CmdReads'. -/
def cmdReadsUptoCard : Claim7 := { stood := { row := cmdReadsUptoRow, standIns := [], harness := (true, "9e9e38429177a29aa00b1b590ed2e57582048036cfc326567a715f568fe51b05"), looks := false }, kinds := [], alts := [], laidByText := true, laidKinds := [.data, .data, .data], laidTests := true, laidLooks := .later }
def CmdReadsUptoCardSaid : Prop := Claim7.holds Tryd.pinned (.plain (OpenSpec.upto cmdReadsSpec)) cmdReadsUptoCard

/-- THE SECOND FORM's CARD OF 'comitialaw07.CmdClash'. -/
def cmdClashUptoCard : Claim7 := { stood := { row := cmdClashUptoRow, standIns := [], harness := (true, "9e9e38429177a29aa00b1b590ed2e57582048036cfc326567a715f568fe51b05"), looks := false }, kinds := [], alts := [], laidByText := true, laidKinds := [.data, .data, .data], laidTests := true, laidLooks := .later }
def CmdClashUptoCardSaid : Prop := Claim7.holds Tryd.pinned (.plain (OpenSpec.upto cmdClashSpec)) cmdClashUptoCard

/-- THE SECOND FORM's CARD OF 'comitialaw07.CmdBack'. -/
def cmdBackUptoCard : Claim7 := { stood := { row := cmdBackUptoRow, standIns := [], harness := (true, "9e9e38429177a29aa00b1b590ed2e57582048036cfc326567a715f568fe51b05"), looks := false }, kinds := [], alts := [], laidByText := true, laidKinds := [.data, .data, .data], laidTests := true, laidLooks := .later }
def CmdBackUptoCardSaid : Prop := Claim7.holds Tryd.pinned (.plain (OpenSpec.upto cmdBackSpec)) cmdBackUptoCard

/-- THE SECOND FORM's CARD OF 'comitialaw07.CmdBounds'. -/
def cmdBoundsUptoCard : Claim7 := { stood := { row := cmdBoundsUptoRow, standIns := [], harness := (true, "9e9e38429177a29aa00b1b590ed2e57582048036cfc326567a715f568fe51b05"), looks := false }, kinds := [], alts := [], laidByText := true, laidKinds := [.data, .data, .data], laidTests := true, laidLooks := .later }
def CmdBoundsUptoCardSaid : Prop := Claim7.holds Tryd.pinned (.plain (OpenSpec.upto cmdBoundsSpec)) cmdBoundsUptoCard

/-- THE SECOND FORM's CARD OF 'comitialaw07.CmdTexts'. -/
def cmdTextsUptoCard : Claim7 := { stood := { row := cmdTextsUptoRow, standIns := [], harness := (true, "9e9e38429177a29aa00b1b590ed2e57582048036cfc326567a715f568fe51b05"), looks := false }, kinds := [], alts := [], laidByText := true, laidKinds := [.data, .data, .data], laidTests := true, laidLooks := .later }
def CmdTextsUptoCardSaid : Prop := Claim7.holds Tryd.pinned (.plain (OpenSpec.upto cmdTextsSpec)) cmdTextsUptoCard
end Rows
end Go.Proofs.YtolgboedinbpeaaDoor
