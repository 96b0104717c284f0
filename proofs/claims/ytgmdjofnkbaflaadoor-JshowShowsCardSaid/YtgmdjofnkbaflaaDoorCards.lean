/-
  DERIVED. GIVEN WITH THE SEED: THE CARDS: each row of YtgmdjofnkbaflaaDoorRows.lean that lists a variable, with what it lists TIED to the program's text (the seventh form; the later family's looks); each row that meets fmt, with fmt's text TOLD by the authors' own Lean function (tested against real Go, not proved from fmt's source: count such statements apart). THE CARD IS WHAT COUNTS. Prove the row's statement (the work); the ties are given (YtgmdjofnkbaflaaDoorTie.lean); close each card by the builder's one call (the guide's Derived/Test/ToyasCard.lean, 'card_holds'). Laid BY PROGRAM, IN A SANDBOX (cutbox-door.mjs). By AI agents, Wed Nov 11 2026. No macro, syntax, notation, axiom, sorry.
-/
import Derived.Test.YtgmdjofnkbaflaaDoorRows
import GoSem.ClaimSeven
namespace Go.Proofs.YtgmdjofnkbaflaaDoor
namespace Rows

/-- THE TIED CARD OF 'millstreamlaw07.JreadLists'. -/
def jreadListsCard : Claim7 := { stood := { row := jreadListsRow, standIns := [], harness := (true, "e8e3323b27f22e58ee973ede54f6b2094348d3293d3c38f080e50521306afda1"), looks := true }, kinds := [], alts := [], laidByText := true, laidKinds := [.data, .data, .data, .data, .sentinel, .sentinel, .pinned], laidTests := true, laidLooks := .later }
def JreadListsCardSaid : Prop := Claim7.holds Tryd.pinned (.plain (OpenSpec.ofChange jreadListsSpec)) jreadListsCard

/-- THE TIED CARD OF 'millstreamlaw08.JshowShows'. -/
def jshowShowsCard : Claim7 := { stood := { row := jshowShowsRow, standIns := [], harness := (true, "e8e3323b27f22e58ee973ede54f6b2094348d3293d3c38f080e50521306afda1"), looks := true }, kinds := [], alts := [], laidByText := true, laidKinds := [.data, .data, .data, .data, .pinned], laidTests := true, laidLooks := .later }
def JshowShowsCardSaid : Prop := Claim7.holds Tryd.pinned (.plain (OpenSpec.ofChange jshowShowsSpec)) jshowShowsCard

/-- THE TIED CARD OF 'millstreamlaw08.JshowParts'. -/
def jshowPartsCard : Claim7 := { stood := { row := jshowPartsRow, standIns := [], harness := (true, "e8e3323b27f22e58ee973ede54f6b2094348d3293d3c38f080e50521306afda1"), looks := true }, kinds := [], alts := [], laidByText := true, laidKinds := [.data, .data, .data, .data, .pinned], laidTests := true, laidLooks := .later }
def JshowPartsCardSaid : Prop := Claim7.holds Tryd.pinned (.plain (OpenSpec.ofChange jshowPartsSpec)) jshowPartsCard

/-- THE TIED CARD OF 'millstreamlaw08.JshowPlain'. -/
def jshowPlainCard : Claim7 := { stood := { row := jshowPlainRow, standIns := [], harness := (true, "e8e3323b27f22e58ee973ede54f6b2094348d3293d3c38f080e50521306afda1"), looks := true }, kinds := [], alts := [], laidByText := true, laidKinds := [.data, .data, .data, .data, .pinned], laidTests := true, laidLooks := .later }
def JshowPlainCardSaid : Prop := Claim7.holds Tryd.pinned (.plain (OpenSpec.ofChange jshowPlainSpec)) jshowPlainCard

/-- THE TIED CARD OF 'millstreamlaw08.JshowNumbers'. -/
def jshowNumbersCard : Claim7 := { stood := { row := jshowNumbersRow, standIns := [], harness := (true, "e8e3323b27f22e58ee973ede54f6b2094348d3293d3c38f080e50521306afda1"), looks := true }, kinds := [], alts := [], laidByText := true, laidKinds := [.data, .data, .data, .data, .pinned], laidTests := true, laidLooks := .later }
def JshowNumbersCardSaid : Prop := Claim7.holds Tryd.pinned (.plain (OpenSpec.ofChange jshowNumbersSpec)) jshowNumbersCard

/-- THE SECOND FORM's CARD OF 'millstreamlaw07.JreadLists'. -/
def jreadListsUptoCard : Claim7 := { stood := { row := jreadListsUptoRow, standIns := [], harness := (true, "e8e3323b27f22e58ee973ede54f6b2094348d3293d3c38f080e50521306afda1"), looks := true }, kinds := [], alts := [], laidByText := true, laidKinds := [.data, .data, .data, .data, .sentinel, .sentinel, .pinned], laidTests := true, laidLooks := .later }
def JreadListsUptoCardSaid : Prop := Claim7.holds Tryd.pinned (.plain (OpenSpec.upto jreadListsSpec)) jreadListsUptoCard

/-- THE SECOND FORM's CARD OF 'millstreamlaw08.JshowShows'. -/
def jshowShowsUptoCard : Claim7 := { stood := { row := jshowShowsUptoRow, standIns := [], harness := (true, "e8e3323b27f22e58ee973ede54f6b2094348d3293d3c38f080e50521306afda1"), looks := true }, kinds := [], alts := [], laidByText := true, laidKinds := [.data, .data, .data, .data, .pinned], laidTests := true, laidLooks := .later }
def JshowShowsUptoCardSaid : Prop := Claim7.holds Tryd.pinned (.plain (OpenSpec.upto jshowShowsSpec)) jshowShowsUptoCard

/-- THE SECOND FORM's CARD OF 'millstreamlaw08.JshowParts'. -/
def jshowPartsUptoCard : Claim7 := { stood := { row := jshowPartsUptoRow, standIns := [], harness := (true, "e8e3323b27f22e58ee973ede54f6b2094348d3293d3c38f080e50521306afda1"), looks := true }, kinds := [], alts := [], laidByText := true, laidKinds := [.data, .data, .data, .data, .pinned], laidTests := true, laidLooks := .later }
def JshowPartsUptoCardSaid : Prop := Claim7.holds Tryd.pinned (.plain (OpenSpec.upto jshowPartsSpec)) jshowPartsUptoCard

/-- THE SECOND FORM's CARD OF 'millstreamlaw08.JshowPlain'. -/
def jshowPlainUptoCard : Claim7 := { stood := { row := jshowPlainUptoRow, standIns := [], harness := (true, "e8e3323b27f22e58ee973ede54f6b2094348d3293d3c38f080e50521306afda1"), looks := true }, kinds := [], alts := [], laidByText := true, laidKinds := [.data, .data, .data, .data, .pinned], laidTests := true, laidLooks := .later }
def JshowPlainUptoCardSaid : Prop := Claim7.holds Tryd.pinned (.plain (OpenSpec.upto jshowPlainSpec)) jshowPlainUptoCard

/-- THE SECOND FORM's CARD OF 'millstreamlaw08.JshowNumbers'. -/
def jshowNumbersUptoCard : Claim7 := { stood := { row := jshowNumbersUptoRow, standIns := [], harness := (true, "e8e3323b27f22e58ee973ede54f6b2094348d3293d3c38f080e50521306afda1"), looks := true }, kinds := [], alts := [], laidByText := true, laidKinds := [.data, .data, .data, .data, .pinned], laidTests := true, laidLooks := .later }
def JshowNumbersUptoCardSaid : Prop := Claim7.holds Tryd.pinned (.plain (OpenSpec.upto jshowNumbersSpec)) jshowNumbersUptoCard
end Rows
end Go.Proofs.YtgmdjofnkbaflaaDoor
