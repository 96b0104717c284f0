/-
  DERIVED. GIVEN WITH THE SEED: THE CARDS: each row of YtgmdjofnkbaflaaGreatDoorRows.lean that lists a variable, with what it lists TIED to the program's text (the seventh form; the later family's looks); each row that meets fmt, with fmt's text TOLD by the authors' own Lean function (tested against real Go, not proved from fmt's source: count such statements apart). THE CARD IS WHAT COUNTS. Prove the row's statement (the work); the ties are given (YtgmdjofnkbaflaaGreatDoorTie.lean); close each card by the builder's one call (the guide's Derived/Test/ToyasCard.lean, 'card_holds'). Laid BY PROGRAM, IN A SANDBOX (cutbox-door.mjs). By AI agents, Wed Nov 11 2026. No macro, syntax, notation, axiom, sorry.
-/
import Derived.Test.YtgmdjofnkbaflaaGreatDoorRows
import GoSem.ClaimSeven
namespace Go.Proofs.YtgmdjofnkbaflaaGreatDoor
namespace Rows

/-- THE TIED CARD OF 'millstreamlaw07.JreadReads'. -/
def jreadReadsCard : Claim7 := { stood := { row := jreadReadsRow, standIns := [], harness := (true, "2db41781a37ebc501d33f194b8f9c371276bb604c8bd383ccdf1d693ab63b13f"), looks := true }, kinds := [], alts := [], laidByText := true, laidKinds := [.data, .data, .data, .data, .sentinel, .sentinel, .pinned], laidTests := true, laidLooks := .later }
def JreadReadsCardSaid : Prop := Claim7.holds Tryz.pinned (.plain (OpenSpec.ofChange jreadReadsSpec)) jreadReadsCard

/-- THE TIED CARD OF 'millstreamlaw07.JreadSays'. -/
def jreadSaysCard : Claim7 := { stood := { row := jreadSaysRow, standIns := [], harness := (true, "2db41781a37ebc501d33f194b8f9c371276bb604c8bd383ccdf1d693ab63b13f"), looks := true }, kinds := [], alts := [], laidByText := true, laidKinds := [.data, .data, .data, .data, .sentinel, .sentinel, .pinned], laidTests := true, laidLooks := .later }
def JreadSaysCardSaid : Prop := Claim7.holds Tryz.pinned (.plain (OpenSpec.ofChange jreadSaysSpec)) jreadSaysCard

/-- THE TIED CARD OF 'millstreamlaw07.JreadCuts'. -/
def jreadCutsCard : Claim7 := { stood := { row := jreadCutsRow, standIns := [], harness := (true, "2db41781a37ebc501d33f194b8f9c371276bb604c8bd383ccdf1d693ab63b13f"), looks := true }, kinds := [], alts := [], laidByText := true, laidKinds := [.data, .data, .data, .data, .sentinel, .sentinel, .pinned], laidTests := true, laidLooks := .later }
def JreadCutsCardSaid : Prop := Claim7.holds Tryz.pinned (.plain (OpenSpec.ofChange jreadCutsSpec)) jreadCutsCard

/-- THE TIED CARD OF 'millstreamlaw07.JreadBehind'. -/
def jreadBehindCard : Claim7 := { stood := { row := jreadBehindRow, standIns := [], harness := (true, "2db41781a37ebc501d33f194b8f9c371276bb604c8bd383ccdf1d693ab63b13f"), looks := true }, kinds := [], alts := [], laidByText := true, laidKinds := [.data, .data, .data, .data, .sentinel, .sentinel, .pinned], laidTests := true, laidLooks := .later }
def JreadBehindCardSaid : Prop := Claim7.holds Tryz.pinned (.plain (OpenSpec.ofChange jreadBehindSpec)) jreadBehindCard

/-- THE TIED CARD OF 'millstreamlaw07.JreadKnown'. -/
def jreadKnownCard : Claim7 := { stood := { row := jreadKnownRow, standIns := [], harness := (true, "2db41781a37ebc501d33f194b8f9c371276bb604c8bd383ccdf1d693ab63b13f"), looks := true }, kinds := [], alts := [], laidByText := true, laidKinds := [.data, .data, .data, .data, .sentinel, .sentinel, .pinned], laidTests := true, laidLooks := .later }
def JreadKnownCardSaid : Prop := Claim7.holds Tryz.pinned (.plain (OpenSpec.ofChange jreadKnownSpec)) jreadKnownCard

/-- THE TIED CARD OF 'millstreamlaw08.JshowBack'. -/
def jshowBackCard : Claim7 := { stood := { row := jshowBackRow, standIns := [], harness := (true, "2db41781a37ebc501d33f194b8f9c371276bb604c8bd383ccdf1d693ab63b13f"), looks := true }, kinds := [], alts := [], laidByText := true, laidKinds := [.data, .data, .data, .data, .sentinel, .sentinel, .pinned], laidTests := true, laidLooks := .later }
def JshowBackCardSaid : Prop := Claim7.holds Tryz.pinned (.plain (OpenSpec.ofChange jshowBackSpec)) jshowBackCard

/-- THE TIED CARD OF 'millstreamlaw08.JshowShort'. -/
def jshowShortCard : Claim7 := { stood := { row := jshowShortRow, standIns := [], harness := (true, "2db41781a37ebc501d33f194b8f9c371276bb604c8bd383ccdf1d693ab63b13f"), looks := true }, kinds := [], alts := [], laidByText := true, laidKinds := [.data, .data, .data, .data, .sentinel, .sentinel, .pinned], laidTests := true, laidLooks := .later }
def JshowShortCardSaid : Prop := Claim7.holds Tryz.pinned (.plain (OpenSpec.ofChange jshowShortSpec)) jshowShortCard

/-- THE TIED CARD OF 'millstreamlaw08.JshowSame'. -/
def jshowSameCard : Claim7 := { stood := { row := jshowSameRow, standIns := [], harness := (true, "2db41781a37ebc501d33f194b8f9c371276bb604c8bd383ccdf1d693ab63b13f"), looks := true }, kinds := [], alts := [], laidByText := true, laidKinds := [.data, .data, .data, .data, .sentinel, .sentinel, .pinned], laidTests := true, laidLooks := .later }
def JshowSameCardSaid : Prop := Claim7.holds Tryz.pinned (.plain (OpenSpec.ofChange jshowSameSpec)) jshowSameCard

/-- THE TIED CARD OF 'millstreamlaw08.JshowKnown'. -/
def jshowKnownCard : Claim7 := { stood := { row := jshowKnownRow, standIns := [], harness := (true, "2db41781a37ebc501d33f194b8f9c371276bb604c8bd383ccdf1d693ab63b13f"), looks := true }, kinds := [], alts := [], laidByText := true, laidKinds := [.data, .data, .data, .data, .pinned], laidTests := true, laidLooks := .later }
def JshowKnownCardSaid : Prop := Claim7.holds Tryz.pinned (.plain (OpenSpec.ofChange jshowKnownSpec)) jshowKnownCard

/-- THE SECOND FORM's CARD OF 'millstreamlaw07.JreadReads'. -/
def jreadReadsUptoCard : Claim7 := { stood := { row := jreadReadsUptoRow, standIns := [], harness := (true, "2db41781a37ebc501d33f194b8f9c371276bb604c8bd383ccdf1d693ab63b13f"), looks := true }, kinds := [], alts := [], laidByText := true, laidKinds := [.data, .data, .data, .data, .sentinel, .sentinel, .pinned], laidTests := true, laidLooks := .later }
def JreadReadsUptoCardSaid : Prop := Claim7.holds Tryz.pinned (.plain (OpenSpec.upto jreadReadsSpec)) jreadReadsUptoCard

/-- THE SECOND FORM's CARD OF 'millstreamlaw07.JreadSays'. -/
def jreadSaysUptoCard : Claim7 := { stood := { row := jreadSaysUptoRow, standIns := [], harness := (true, "2db41781a37ebc501d33f194b8f9c371276bb604c8bd383ccdf1d693ab63b13f"), looks := true }, kinds := [], alts := [], laidByText := true, laidKinds := [.data, .data, .data, .data, .sentinel, .sentinel, .pinned], laidTests := true, laidLooks := .later }
def JreadSaysUptoCardSaid : Prop := Claim7.holds Tryz.pinned (.plain (OpenSpec.upto jreadSaysSpec)) jreadSaysUptoCard

/-- THE SECOND FORM's CARD OF 'millstreamlaw07.JreadCuts'. -/
def jreadCutsUptoCard : Claim7 := { stood := { row := jreadCutsUptoRow, standIns := [], harness := (true, "2db41781a37ebc501d33f194b8f9c371276bb604c8bd383ccdf1d693ab63b13f"), looks := true }, kinds := [], alts := [], laidByText := true, laidKinds := [.data, .data, .data, .data, .sentinel, .sentinel, .pinned], laidTests := true, laidLooks := .later }
def JreadCutsUptoCardSaid : Prop := Claim7.holds Tryz.pinned (.plain (OpenSpec.upto jreadCutsSpec)) jreadCutsUptoCard

/-- THE SECOND FORM's CARD OF 'millstreamlaw07.JreadBehind'. -/
def jreadBehindUptoCard : Claim7 := { stood := { row := jreadBehindUptoRow, standIns := [], harness := (true, "2db41781a37ebc501d33f194b8f9c371276bb604c8bd383ccdf1d693ab63b13f"), looks := true }, kinds := [], alts := [], laidByText := true, laidKinds := [.data, .data, .data, .data, .sentinel, .sentinel, .pinned], laidTests := true, laidLooks := .later }
def JreadBehindUptoCardSaid : Prop := Claim7.holds Tryz.pinned (.plain (OpenSpec.upto jreadBehindSpec)) jreadBehindUptoCard

/-- THE SECOND FORM's CARD OF 'millstreamlaw07.JreadKnown'. -/
def jreadKnownUptoCard : Claim7 := { stood := { row := jreadKnownUptoRow, standIns := [], harness := (true, "2db41781a37ebc501d33f194b8f9c371276bb604c8bd383ccdf1d693ab63b13f"), looks := true }, kinds := [], alts := [], laidByText := true, laidKinds := [.data, .data, .data, .data, .sentinel, .sentinel, .pinned], laidTests := true, laidLooks := .later }
def JreadKnownUptoCardSaid : Prop := Claim7.holds Tryz.pinned (.plain (OpenSpec.upto jreadKnownSpec)) jreadKnownUptoCard

/-- THE SECOND FORM's CARD OF 'millstreamlaw08.JshowBack'. -/
def jshowBackUptoCard : Claim7 := { stood := { row := jshowBackUptoRow, standIns := [], harness := (true, "2db41781a37ebc501d33f194b8f9c371276bb604c8bd383ccdf1d693ab63b13f"), looks := true }, kinds := [], alts := [], laidByText := true, laidKinds := [.data, .data, .data, .data, .sentinel, .sentinel, .pinned], laidTests := true, laidLooks := .later }
def JshowBackUptoCardSaid : Prop := Claim7.holds Tryz.pinned (.plain (OpenSpec.upto jshowBackSpec)) jshowBackUptoCard

/-- THE SECOND FORM's CARD OF 'millstreamlaw08.JshowShort'. -/
def jshowShortUptoCard : Claim7 := { stood := { row := jshowShortUptoRow, standIns := [], harness := (true, "2db41781a37ebc501d33f194b8f9c371276bb604c8bd383ccdf1d693ab63b13f"), looks := true }, kinds := [], alts := [], laidByText := true, laidKinds := [.data, .data, .data, .data, .sentinel, .sentinel, .pinned], laidTests := true, laidLooks := .later }
def JshowShortUptoCardSaid : Prop := Claim7.holds Tryz.pinned (.plain (OpenSpec.upto jshowShortSpec)) jshowShortUptoCard

/-- THE SECOND FORM's CARD OF 'millstreamlaw08.JshowSame'. -/
def jshowSameUptoCard : Claim7 := { stood := { row := jshowSameUptoRow, standIns := [], harness := (true, "2db41781a37ebc501d33f194b8f9c371276bb604c8bd383ccdf1d693ab63b13f"), looks := true }, kinds := [], alts := [], laidByText := true, laidKinds := [.data, .data, .data, .data, .sentinel, .sentinel, .pinned], laidTests := true, laidLooks := .later }
def JshowSameUptoCardSaid : Prop := Claim7.holds Tryz.pinned (.plain (OpenSpec.upto jshowSameSpec)) jshowSameUptoCard

/-- THE SECOND FORM's CARD OF 'millstreamlaw08.JshowKnown'. -/
def jshowKnownUptoCard : Claim7 := { stood := { row := jshowKnownUptoRow, standIns := [], harness := (true, "2db41781a37ebc501d33f194b8f9c371276bb604c8bd383ccdf1d693ab63b13f"), looks := true }, kinds := [], alts := [], laidByText := true, laidKinds := [.data, .data, .data, .data, .pinned], laidTests := true, laidLooks := .later }
def JshowKnownUptoCardSaid : Prop := Claim7.holds Tryz.pinned (.plain (OpenSpec.upto jshowKnownSpec)) jshowKnownUptoCard
end Rows
end Go.Proofs.YtgmdjofnkbaflaaGreatDoor
