/-
  DERIVED. GIVEN WITH THE SEED: THE CARDS: each row of YteklcfimafplbaaDoorRows.lean that lists a variable, with what it lists TIED to the program's text (the seventh form; the later family's looks); each row that meets fmt, with fmt's text TOLD by the authors' own Lean function (tested against real Go, not proved from fmt's source: count such statements apart). THE CARD IS WHAT COUNTS. Prove the row's statement (the work); the ties are given (YteklcfimafplbaaDoorTie.lean); close each card by the builder's one call (the guide's Derived/Test/ToyasCard.lean, 'card_holds'). Laid BY PROGRAM, IN A SANDBOX (cutbox-door.mjs). By AI agents, Wed Nov 11 2026. No macro, syntax, notation, axiom, sorry.
-/
import Derived.Test.YteklcfimafplbaaDoorRows
import GoSem.ClaimSeven
namespace Go.Proofs.YteklcfimafplbaaDoor
namespace Rows

/-- THE TIED CARD OF 'millstreamlaw06.TapeSorted'. -/
def tapeSortedCard : Claim7 := { stood := { row := tapeSortedRow, standIns := [], harness := (true, "dfcc558faaf62390275a400d026f8ee50a6dda8ec06ff9145784f43935f80aa5"), looks := true }, kinds := [], alts := [], laidByText := true, laidKinds := [.data, .pinned], laidTests := true, laidLooks := .later }
def TapeSortedCardSaid : Prop := Claim7.holds Tryd.pinned (.plain (OpenSpec.ofChange tapeSortedSpec)) tapeSortedCard

/-- THE TIED CARD OF 'millstreamlaw06.TapeOrder'. -/
def tapeOrderCard : Claim7 := { stood := { row := tapeOrderRow, standIns := [], harness := (true, "dfcc558faaf62390275a400d026f8ee50a6dda8ec06ff9145784f43935f80aa5"), looks := true }, kinds := [], alts := [], laidByText := true, laidKinds := [.data, .pinned], laidTests := true, laidLooks := .later }
def TapeOrderCardSaid : Prop := Claim7.holds Tryd.pinned (.plain (OpenSpec.ofChange tapeOrderSpec)) tapeOrderCard

/-- THE TIED CARD OF 'millstreamlaw06.TapeKnown'. -/
def tapeKnownCard : Claim7 := { stood := { row := tapeKnownRow, standIns := [], harness := (true, "dfcc558faaf62390275a400d026f8ee50a6dda8ec06ff9145784f43935f80aa5"), looks := true }, kinds := [], alts := [], laidByText := true, laidKinds := [.data, .pinned], laidTests := true, laidLooks := .later }
def TapeKnownCardSaid : Prop := Claim7.holds Tryd.pinned (.plain (OpenSpec.ofChange tapeKnownSpec)) tapeKnownCard

/-- THE TIED CARD OF 'millstreamlaw07.JreadMay'. -/
def jreadMayCard : Claim7 := { stood := { row := jreadMayRow, standIns := [], harness := (true, "dfcc558faaf62390275a400d026f8ee50a6dda8ec06ff9145784f43935f80aa5"), looks := true }, kinds := [], alts := [], laidByText := true, laidKinds := [.data, .data, .data, .data, .sentinel, .sentinel, .pinned], laidTests := true, laidLooks := .later }
def JreadMayCardSaid : Prop := Claim7.holds Tryd.pinned (.plain (OpenSpec.ofChange jreadMaySpec)) jreadMayCard

/-- THE TIED CARD OF 'millstreamlaw07.JreadLists'. -/
def jreadListsCard : Claim7 := { stood := { row := jreadListsRow, standIns := [], harness := (true, "dfcc558faaf62390275a400d026f8ee50a6dda8ec06ff9145784f43935f80aa5"), looks := true }, kinds := [], alts := [], laidByText := true, laidKinds := [.data, .data, .data, .data, .sentinel, .sentinel, .pinned], laidTests := true, laidLooks := .later }
def JreadListsCardSaid : Prop := Claim7.holds Tryd.pinned (.plain (OpenSpec.ofChange jreadListsSpec)) jreadListsCard

/-- THE TIED CARD OF 'millstreamlaw07.JreadNumbers'. -/
def jreadNumbersCard : Claim7 := { stood := { row := jreadNumbersRow, standIns := [], harness := (true, "dfcc558faaf62390275a400d026f8ee50a6dda8ec06ff9145784f43935f80aa5"), looks := true }, kinds := [], alts := [], laidByText := true, laidKinds := [.data, .data, .data, .data, .sentinel, .sentinel, .pinned], laidTests := true, laidLooks := .later }
def JreadNumbersCardSaid : Prop := Claim7.holds Tryd.pinned (.plain (OpenSpec.ofChange jreadNumbersSpec)) jreadNumbersCard

/-- THE SECOND FORM's CARD OF 'millstreamlaw06.TapeSorted'. -/
def tapeSortedUptoCard : Claim7 := { stood := { row := tapeSortedUptoRow, standIns := [], harness := (true, "dfcc558faaf62390275a400d026f8ee50a6dda8ec06ff9145784f43935f80aa5"), looks := true }, kinds := [], alts := [], laidByText := true, laidKinds := [.data, .pinned], laidTests := true, laidLooks := .later }
def TapeSortedUptoCardSaid : Prop := Claim7.holds Tryd.pinned (.plain (OpenSpec.upto tapeSortedSpec)) tapeSortedUptoCard

/-- THE SECOND FORM's CARD OF 'millstreamlaw06.TapeOrder'. -/
def tapeOrderUptoCard : Claim7 := { stood := { row := tapeOrderUptoRow, standIns := [], harness := (true, "dfcc558faaf62390275a400d026f8ee50a6dda8ec06ff9145784f43935f80aa5"), looks := true }, kinds := [], alts := [], laidByText := true, laidKinds := [.data, .pinned], laidTests := true, laidLooks := .later }
def TapeOrderUptoCardSaid : Prop := Claim7.holds Tryd.pinned (.plain (OpenSpec.upto tapeOrderSpec)) tapeOrderUptoCard

/-- THE SECOND FORM's CARD OF 'millstreamlaw06.TapeKnown'. -/
def tapeKnownUptoCard : Claim7 := { stood := { row := tapeKnownUptoRow, standIns := [], harness := (true, "dfcc558faaf62390275a400d026f8ee50a6dda8ec06ff9145784f43935f80aa5"), looks := true }, kinds := [], alts := [], laidByText := true, laidKinds := [.data, .pinned], laidTests := true, laidLooks := .later }
def TapeKnownUptoCardSaid : Prop := Claim7.holds Tryd.pinned (.plain (OpenSpec.upto tapeKnownSpec)) tapeKnownUptoCard

/-- THE SECOND FORM's CARD OF 'millstreamlaw07.JreadMay'. -/
def jreadMayUptoCard : Claim7 := { stood := { row := jreadMayUptoRow, standIns := [], harness := (true, "dfcc558faaf62390275a400d026f8ee50a6dda8ec06ff9145784f43935f80aa5"), looks := true }, kinds := [], alts := [], laidByText := true, laidKinds := [.data, .data, .data, .data, .sentinel, .sentinel, .pinned], laidTests := true, laidLooks := .later }
def JreadMayUptoCardSaid : Prop := Claim7.holds Tryd.pinned (.plain (OpenSpec.upto jreadMaySpec)) jreadMayUptoCard

/-- THE SECOND FORM's CARD OF 'millstreamlaw07.JreadLists'. -/
def jreadListsUptoCard : Claim7 := { stood := { row := jreadListsUptoRow, standIns := [], harness := (true, "dfcc558faaf62390275a400d026f8ee50a6dda8ec06ff9145784f43935f80aa5"), looks := true }, kinds := [], alts := [], laidByText := true, laidKinds := [.data, .data, .data, .data, .sentinel, .sentinel, .pinned], laidTests := true, laidLooks := .later }
def JreadListsUptoCardSaid : Prop := Claim7.holds Tryd.pinned (.plain (OpenSpec.upto jreadListsSpec)) jreadListsUptoCard

/-- THE SECOND FORM's CARD OF 'millstreamlaw07.JreadNumbers'. -/
def jreadNumbersUptoCard : Claim7 := { stood := { row := jreadNumbersUptoRow, standIns := [], harness := (true, "dfcc558faaf62390275a400d026f8ee50a6dda8ec06ff9145784f43935f80aa5"), looks := true }, kinds := [], alts := [], laidByText := true, laidKinds := [.data, .data, .data, .data, .sentinel, .sentinel, .pinned], laidTests := true, laidLooks := .later }
def JreadNumbersUptoCardSaid : Prop := Claim7.holds Tryd.pinned (.plain (OpenSpec.upto jreadNumbersSpec)) jreadNumbersUptoCard
end Rows
end Go.Proofs.YteklcfimafplbaaDoor
