/-
  DERIVED. GIVEN WITH THE SEED: THE CARDS: each row of YtkemljpjfbmjgaaDoorRows.lean that lists a variable, with what it lists TIED to the program's text (the seventh form; the later family's looks); each row that meets fmt, with fmt's text TOLD by the authors' own Lean function (tested against real Go, not proved from fmt's source: count such statements apart). THE CARD IS WHAT COUNTS. Prove the row's statement (the work); the ties are given (YtkemljpjfbmjgaaDoorTie.lean); close each card by the builder's one call (the guide's Derived/Test/ToyasCard.lean, 'card_holds'). Laid BY PROGRAM, IN A SANDBOX (cutbox-door.mjs). By AI agents, Wed Nov 11 2026. No macro, syntax, notation, axiom, sorry.
-/
import Derived.Test.YtkemljpjfbmjgaaDoorRows
import GoSem.ClaimSeven
namespace Go.Proofs.YtkemljpjfbmjgaaDoor
namespace Rows

/-- THE TIED CARD OF 'comitialaw09.AttrTells'. -/
def attrTellsCard : Claim7 := { stood := { row := attrTellsRow, standIns := [], harness := (true, "5587a1cda0e3788e0f7e35937ea764ac5f79d13f07b31759f35975e1e134c22b"), looks := false }, kinds := [], alts := [], laidByText := true, laidKinds := [.data, .data, .data], laidTests := true, laidLooks := .later }
def AttrTellsCardSaid : Prop := Claim7.holds Tryd.pinned (.plain (OpenSpec.ofChange attrTellsSpec)) attrTellsCard

/-- THE TIED CARD OF 'comitialaw09.AttrGets'. -/
def attrGetsCard : Claim7 := { stood := { row := attrGetsRow, standIns := [], harness := (true, "5587a1cda0e3788e0f7e35937ea764ac5f79d13f07b31759f35975e1e134c22b"), looks := false }, kinds := [], alts := [], laidByText := true, laidKinds := [.data, .data, .data], laidTests := true, laidLooks := .later }
def AttrGetsCardSaid : Prop := Claim7.holds Tryd.pinned (.plain (OpenSpec.ofChange attrGetsSpec)) attrGetsCard

/-- THE TIED CARD OF 'comitialaw09.AttrJoins'. -/
def attrJoinsCard : Claim7 := { stood := { row := attrJoinsRow, standIns := [], harness := (true, "5587a1cda0e3788e0f7e35937ea764ac5f79d13f07b31759f35975e1e134c22b"), looks := false }, kinds := [], alts := [], laidByText := true, laidKinds := [.data, .data, .data], laidTests := true, laidLooks := .later }
def AttrJoinsCardSaid : Prop := Claim7.holds Tryd.pinned (.plain (OpenSpec.ofChange attrJoinsSpec)) attrJoinsCard

/-- THE TIED CARD OF 'comitialaw09.AttrBack'. -/
def attrBackCard : Claim7 := { stood := { row := attrBackRow, standIns := [], harness := (true, "5587a1cda0e3788e0f7e35937ea764ac5f79d13f07b31759f35975e1e134c22b"), looks := false }, kinds := [], alts := [], laidByText := true, laidKinds := [.data, .data, .data], laidTests := true, laidLooks := .later }
def AttrBackCardSaid : Prop := Claim7.holds Tryd.pinned (.plain (OpenSpec.ofChange attrBackSpec)) attrBackCard

/-- THE TIED CARD OF 'comitialaw09.AttrSame'. -/
def attrSameCard : Claim7 := { stood := { row := attrSameRow, standIns := [], harness := (true, "5587a1cda0e3788e0f7e35937ea764ac5f79d13f07b31759f35975e1e134c22b"), looks := false }, kinds := [], alts := [], laidByText := true, laidKinds := [.data, .data, .data], laidTests := true, laidLooks := .later }
def AttrSameCardSaid : Prop := Claim7.holds Tryd.pinned (.plain (OpenSpec.ofChange attrSameSpec)) attrSameCard

/-- THE TIED CARD OF 'comitialaw09.AttrBounds'. -/
def attrBoundsCard : Claim7 := { stood := { row := attrBoundsRow, standIns := [], harness := (true, "5587a1cda0e3788e0f7e35937ea764ac5f79d13f07b31759f35975e1e134c22b"), looks := false }, kinds := [], alts := [], laidByText := true, laidKinds := [.data, .data, .data], laidTests := true, laidLooks := .later }
def AttrBoundsCardSaid : Prop := Claim7.holds Tryd.pinned (.plain (OpenSpec.ofChange attrBoundsSpec)) attrBoundsCard

/-- THE SECOND FORM's CARD OF 'comitialaw09.AttrTells'. -/
def attrTellsUptoCard : Claim7 := { stood := { row := attrTellsUptoRow, standIns := [], harness := (true, "5587a1cda0e3788e0f7e35937ea764ac5f79d13f07b31759f35975e1e134c22b"), looks := false }, kinds := [], alts := [], laidByText := true, laidKinds := [.data, .data, .data], laidTests := true, laidLooks := .later }
def AttrTellsUptoCardSaid : Prop := Claim7.holds Tryd.pinned (.plain (OpenSpec.upto attrTellsSpec)) attrTellsUptoCard

/-- THE SECOND FORM's CARD OF 'comitialaw09.AttrGets'. -/
def attrGetsUptoCard : Claim7 := { stood := { row := attrGetsUptoRow, standIns := [], harness := (true, "5587a1cda0e3788e0f7e35937ea764ac5f79d13f07b31759f35975e1e134c22b"), looks := false }, kinds := [], alts := [], laidByText := true, laidKinds := [.data, .data, .data], laidTests := true, laidLooks := .later }
def AttrGetsUptoCardSaid : Prop := Claim7.holds Tryd.pinned (.plain (OpenSpec.upto attrGetsSpec)) attrGetsUptoCard

/-- THE SECOND FORM's CARD OF 'comitialaw09.AttrJoins'. -/
def attrJoinsUptoCard : Claim7 := { stood := { row := attrJoinsUptoRow, standIns := [], harness := (true, "5587a1cda0e3788e0f7e35937ea764ac5f79d13f07b31759f35975e1e134c22b"), looks := false }, kinds := [], alts := [], laidByText := true, laidKinds := [.data, .data, .data], laidTests := true, laidLooks := .later }
def AttrJoinsUptoCardSaid : Prop := Claim7.holds Tryd.pinned (.plain (OpenSpec.upto attrJoinsSpec)) attrJoinsUptoCard

/-- THE SECOND FORM's CARD OF 'comitialaw09.AttrBack'. -/
def attrBackUptoCard : Claim7 := { stood := { row := attrBackUptoRow, standIns := [], harness := (true, "5587a1cda0e3788e0f7e35937ea764ac5f79d13f07b31759f35975e1e134c22b"), looks := false }, kinds := [], alts := [], laidByText := true, laidKinds := [.data, .data, .data], laidTests := true, laidLooks := .later }
def AttrBackUptoCardSaid : Prop := Claim7.holds Tryd.pinned (.plain (OpenSpec.upto attrBackSpec)) attrBackUptoCard

/-- THE SECOND FORM's CARD OF 'comitialaw09.AttrSame'. -/
def attrSameUptoCard : Claim7 := { stood := { row := attrSameUptoRow, standIns := [], harness := (true, "5587a1cda0e3788e0f7e35937ea764ac5f79d13f07b31759f35975e1e134c22b"), looks := false }, kinds := [], alts := [], laidByText := true, laidKinds := [.data, .data, .data], laidTests := true, laidLooks := .later }
def AttrSameUptoCardSaid : Prop := Claim7.holds Tryd.pinned (.plain (OpenSpec.upto attrSameSpec)) attrSameUptoCard

/-- THE SECOND FORM's CARD OF 'comitialaw09.AttrBounds'. -/
def attrBoundsUptoCard : Claim7 := { stood := { row := attrBoundsUptoRow, standIns := [], harness := (true, "5587a1cda0e3788e0f7e35937ea764ac5f79d13f07b31759f35975e1e134c22b"), looks := false }, kinds := [], alts := [], laidByText := true, laidKinds := [.data, .data, .data], laidTests := true, laidLooks := .later }
def AttrBoundsUptoCardSaid : Prop := Claim7.holds Tryd.pinned (.plain (OpenSpec.upto attrBoundsSpec)) attrBoundsUptoCard
end Rows
end Go.Proofs.YtkemljpjfbmjgaaDoor
