/-
  DERIVED. GIVEN WITH THE SEED: THE CARDS: each row of YthcdbeggegmlmaaDoorRows.lean that lists a variable, with what it lists TIED to the program's text (the seventh form; the later family's looks); each row that meets fmt, with fmt's text TOLD by the authors' own Lean function (tested against real Go, not proved from fmt's source: count such statements apart). THE CARD IS WHAT COUNTS. Prove the row's statement (the work); the ties are given (YthcdbeggegmlmaaDoorTie.lean); close each card by the builder's one call (the guide's Derived/Test/ToyasCard.lean, 'card_holds'). Laid BY PROGRAM, IN A SANDBOX (cutbox-door.mjs). By AI agents, Wed Nov 11 2026. No macro, syntax, notation, axiom, sorry.
-/
import Derived.Test.YthcdbeggegmlmaaDoorRows
import GoSem.ClaimSeven
namespace Go.Proofs.YthcdbeggegmlmaaDoor
namespace Rows

/-- THE TIED CARD OF 'comitialaw08.DepsSets'. -/
def depsSetsCard : Claim7 := { stood := { row := depsSetsRow, standIns := [], harness := (true, "a1090945d2a62cca380ea729a0b17d4ccd3c1f2defc03aacee181d014d477886"), looks := false }, kinds := [], alts := [], laidByText := true, laidKinds := [.data, .data, .data], laidTests := true, laidLooks := .later }
def DepsSetsCardSaid : Prop := Claim7.holds Tryd.pinned (.plain (OpenSpec.ofChange depsSetsSpec)) depsSetsCard

/-- THE TIED CARD OF 'comitialaw08.DepsGets'. -/
def depsGetsCard : Claim7 := { stood := { row := depsGetsRow, standIns := [], harness := (true, "a1090945d2a62cca380ea729a0b17d4ccd3c1f2defc03aacee181d014d477886"), looks := false }, kinds := [], alts := [], laidByText := true, laidKinds := [.data, .data, .data], laidTests := true, laidLooks := .later }
def DepsGetsCardSaid : Prop := Claim7.holds Tryd.pinned (.plain (OpenSpec.ofChange depsGetsSpec)) depsGetsCard

/-- THE TIED CARD OF 'comitialaw08.DepsJoins'. -/
def depsJoinsCard : Claim7 := { stood := { row := depsJoinsRow, standIns := [], harness := (true, "a1090945d2a62cca380ea729a0b17d4ccd3c1f2defc03aacee181d014d477886"), looks := false }, kinds := [], alts := [], laidByText := true, laidKinds := [.data, .data, .data], laidTests := true, laidLooks := .later }
def DepsJoinsCardSaid : Prop := Claim7.holds Tryd.pinned (.plain (OpenSpec.ofChange depsJoinsSpec)) depsJoinsCard

/-- THE TIED CARD OF 'comitialaw08.DepsBack'. -/
def depsBackCard : Claim7 := { stood := { row := depsBackRow, standIns := [], harness := (true, "a1090945d2a62cca380ea729a0b17d4ccd3c1f2defc03aacee181d014d477886"), looks := false }, kinds := [], alts := [], laidByText := true, laidKinds := [.data, .data, .data], laidTests := true, laidLooks := .later }
def DepsBackCardSaid : Prop := Claim7.holds Tryd.pinned (.plain (OpenSpec.ofChange depsBackSpec)) depsBackCard

/-- THE TIED CARD OF 'comitialaw08.DepsOrder'. -/
def depsOrderCard : Claim7 := { stood := { row := depsOrderRow, standIns := [], harness := (true, "a1090945d2a62cca380ea729a0b17d4ccd3c1f2defc03aacee181d014d477886"), looks := false }, kinds := [], alts := [], laidByText := true, laidKinds := [.data, .data, .data], laidTests := true, laidLooks := .later }
def DepsOrderCardSaid : Prop := Claim7.holds Tryd.pinned (.plain (OpenSpec.ofChange depsOrderSpec)) depsOrderCard

/-- THE TIED CARD OF 'comitialaw08.DepsMany'. -/
def depsManyCard : Claim7 := { stood := { row := depsManyRow, standIns := [], harness := (true, "a1090945d2a62cca380ea729a0b17d4ccd3c1f2defc03aacee181d014d477886"), looks := false }, kinds := [], alts := [], laidByText := true, laidKinds := [.data, .data, .data], laidTests := true, laidLooks := .later }
def DepsManyCardSaid : Prop := Claim7.holds Tryd.pinned (.plain (OpenSpec.ofChange depsManySpec)) depsManyCard

/-- THE TIED CARD OF 'comitialaw08.DepsTexts'. -/
def depsTextsCard : Claim7 := { stood := { row := depsTextsRow, standIns := [], harness := (true, "a1090945d2a62cca380ea729a0b17d4ccd3c1f2defc03aacee181d014d477886"), looks := false }, kinds := [], alts := [], laidByText := true, laidKinds := [.data, .data, .data], laidTests := true, laidLooks := .later }
def DepsTextsCardSaid : Prop := Claim7.holds Tryd.pinned (.plain (OpenSpec.ofChange depsTextsSpec)) depsTextsCard

/-- THE SECOND FORM's CARD OF 'comitialaw08.DepsSets'. -/
def depsSetsUptoCard : Claim7 := { stood := { row := depsSetsUptoRow, standIns := [], harness := (true, "a1090945d2a62cca380ea729a0b17d4ccd3c1f2defc03aacee181d014d477886"), looks := false }, kinds := [], alts := [], laidByText := true, laidKinds := [.data, .data, .data], laidTests := true, laidLooks := .later }
def DepsSetsUptoCardSaid : Prop := Claim7.holds Tryd.pinned (.plain (OpenSpec.upto depsSetsSpec)) depsSetsUptoCard

/-- THE SECOND FORM's CARD OF 'comitialaw08.DepsGets'. -/
def depsGetsUptoCard : Claim7 := { stood := { row := depsGetsUptoRow, standIns := [], harness := (true, "a1090945d2a62cca380ea729a0b17d4ccd3c1f2defc03aacee181d014d477886"), looks := false }, kinds := [], alts := [], laidByText := true, laidKinds := [.data, .data, .data], laidTests := true, laidLooks := .later }
def DepsGetsUptoCardSaid : Prop := Claim7.holds Tryd.pinned (.plain (OpenSpec.upto depsGetsSpec)) depsGetsUptoCard

/-- THE SECOND FORM's CARD OF 'comitialaw08.DepsJoins'. -/
def depsJoinsUptoCard : Claim7 := { stood := { row := depsJoinsUptoRow, standIns := [], harness := (true, "a1090945d2a62cca380ea729a0b17d4ccd3c1f2defc03aacee181d014d477886"), looks := false }, kinds := [], alts := [], laidByText := true, laidKinds := [.data, .data, .data], laidTests := true, laidLooks := .later }
def DepsJoinsUptoCardSaid : Prop := Claim7.holds Tryd.pinned (.plain (OpenSpec.upto depsJoinsSpec)) depsJoinsUptoCard

/-- THE SECOND FORM's CARD OF 'comitialaw08.DepsBack'. -/
def depsBackUptoCard : Claim7 := { stood := { row := depsBackUptoRow, standIns := [], harness := (true, "a1090945d2a62cca380ea729a0b17d4ccd3c1f2defc03aacee181d014d477886"), looks := false }, kinds := [], alts := [], laidByText := true, laidKinds := [.data, .data, .data], laidTests := true, laidLooks := .later }
def DepsBackUptoCardSaid : Prop := Claim7.holds Tryd.pinned (.plain (OpenSpec.upto depsBackSpec)) depsBackUptoCard

/-- THE SECOND FORM's CARD OF 'comitialaw08.DepsOrder'. -/
def depsOrderUptoCard : Claim7 := { stood := { row := depsOrderUptoRow, standIns := [], harness := (true, "a1090945d2a62cca380ea729a0b17d4ccd3c1f2defc03aacee181d014d477886"), looks := false }, kinds := [], alts := [], laidByText := true, laidKinds := [.data, .data, .data], laidTests := true, laidLooks := .later }
def DepsOrderUptoCardSaid : Prop := Claim7.holds Tryd.pinned (.plain (OpenSpec.upto depsOrderSpec)) depsOrderUptoCard

/-- THE SECOND FORM's CARD OF 'comitialaw08.DepsMany'. -/
def depsManyUptoCard : Claim7 := { stood := { row := depsManyUptoRow, standIns := [], harness := (true, "a1090945d2a62cca380ea729a0b17d4ccd3c1f2defc03aacee181d014d477886"), looks := false }, kinds := [], alts := [], laidByText := true, laidKinds := [.data, .data, .data], laidTests := true, laidLooks := .later }
def DepsManyUptoCardSaid : Prop := Claim7.holds Tryd.pinned (.plain (OpenSpec.upto depsManySpec)) depsManyUptoCard

/-- THE SECOND FORM's CARD OF 'comitialaw08.DepsTexts'. -/
def depsTextsUptoCard : Claim7 := { stood := { row := depsTextsUptoRow, standIns := [], harness := (true, "a1090945d2a62cca380ea729a0b17d4ccd3c1f2defc03aacee181d014d477886"), looks := false }, kinds := [], alts := [], laidByText := true, laidKinds := [.data, .data, .data], laidTests := true, laidLooks := .later }
def DepsTextsUptoCardSaid : Prop := Claim7.holds Tryd.pinned (.plain (OpenSpec.upto depsTextsSpec)) depsTextsUptoCard
end Rows
end Go.Proofs.YthcdbeggegmlmaaDoor
