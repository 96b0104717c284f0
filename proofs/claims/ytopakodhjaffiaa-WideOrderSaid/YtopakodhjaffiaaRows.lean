/-
  No cell of these rows narrows 'for every input' (looked for: loops, veiled, ifaces, maps, wideKeys, modest, calm, conditions, laid).
  DERIVED. THE GIVEN ROWS OF THIS SEAT. 9 by the template 'for every input the law returns true; each argument reads behind the call as it read before'; 0 by the template 'total and deterministic' (their statements: YtopakodhjaffiaaTotals.lean).
  GIVEN WITH THE SEED: the statements are not yours to turn. If you find one false, say at which input.
  Laid BY PROGRAM, IN A SANDBOX (cutbox-rows.mjs): the forced cells as the released guide's own fill.sh prints them over the translation 4fe29787e0f583f5… (all of the seat's roots in one cut). By AI agents, Wed Nov 11 2026. No macro, syntax, notation, axiom, sorry.
-/
import Derived.Test.YtopakodhjaffiaaChecked
import GoSem.Claim
import GoSem.ClaimJoined
import GoSem.ClaimMapViews
import Derived.JoinedTies
import Derived.KernelRfl
namespace Go.Proofs.Ytopakodhjaffiaa
/- THE CELL 'sum', in the pinned program and in every row, IS THE sha256 OF THE DUMP (.gsa) THAT YtopakodhjaffiaaProg.lean LOADS. Nothing in Lean hashes anything: it is a label: what it is worth is what the hold of that sum in a sandbox is worth. -/
noncomputable def Try.pinned : Pinned := { name := "ytopakodhjaffiaa", sum := "4fe29787e0f583f5ddb1fd05f842796a9536e8ac2db8e499b1b04cd48939ff4f", checked := Try.checked }
namespace Rows
def none {H : Type} : Left H := { results := [], args := [] }

/-- 'millstreamlaw05.WideDoes': WHATEVER THE INPUT: true; the input reads as it did. -/
def wideDoesSpec : ChangeSpec := { name := "wideDoes", fn := fun _ => fun
  | [d1, d2, d3] => { results := [.lit (.bool true)], args := [d1, d2, d3] }
  | _ => none }
def wideDoesRow : OpenClaim := { program := "ytopakodhjaffiaa", sum := "4fe29787e0f583f5ddb1fd05f842796a9536e8ac2db8e499b1b04cd48939ff4f", func := "millstream/millstreamlaw05.WideDoes", spec := "wideDoes", inPlace := ["math/bits.Add64"], apart := false }
def WideDoesSaid : Prop := wideDoesRow.holds Try.pinned (OpenSpec.ofChange wideDoesSpec)

/-- ITS FALSE NEIGHBOUR: 'it returns false'. Refute it at one input. -/
def wideDoesWrong : ChangeSpec := { name := "wideDoes", fn := fun _ => fun
  | [d1, d2, d3] => { results := [.lit (.bool false)], args := [d1, d2, d3] }
  | _ => none }
def WideDoesWrongFalsely : Prop := wideDoesRow.holds Try.pinned (OpenSpec.ofChange wideDoesWrong)

/-- 'millstreamlaw05.WideChecks': WHATEVER THE INPUT: true; the input reads as it did. -/
def wideChecksSpec : ChangeSpec := { name := "wideChecks", fn := fun _ => fun
  | [d1, d2] => { results := [.lit (.bool true)], args := [d1, d2] }
  | _ => none }
def wideChecksRow : OpenClaim := { program := "ytopakodhjaffiaa", sum := "4fe29787e0f583f5ddb1fd05f842796a9536e8ac2db8e499b1b04cd48939ff4f", func := "millstream/millstreamlaw05.WideChecks", spec := "wideChecks", inPlace := ["math/bits.Add64"], apart := false }
def WideChecksSaid : Prop := wideChecksRow.holds Try.pinned (OpenSpec.ofChange wideChecksSpec)

/-- ITS FALSE NEIGHBOUR: 'it returns false'. Refute it at one input. -/
def wideChecksWrong : ChangeSpec := { name := "wideChecks", fn := fun _ => fun
  | [d1, d2] => { results := [.lit (.bool false)], args := [d1, d2] }
  | _ => none }
def WideChecksWrongFalsely : Prop := wideChecksRow.holds Try.pinned (OpenSpec.ofChange wideChecksWrong)

/-- 'millstreamlaw05.WideDots': WHATEVER THE INPUT: true; the input reads as it did. -/
def wideDotsSpec : ChangeSpec := { name := "wideDots", fn := fun _ => fun
  | [d] => { results := [.lit (.bool true)], args := [d] }
  | _ => none }
def wideDotsRow : OpenClaim := { program := "ytopakodhjaffiaa", sum := "4fe29787e0f583f5ddb1fd05f842796a9536e8ac2db8e499b1b04cd48939ff4f", func := "millstream/millstreamlaw05.WideDots", spec := "wideDots", inPlace := ["math/bits.Add64"], apart := false }
def WideDotsSaid : Prop := wideDotsRow.holds Try.pinned (OpenSpec.ofChange wideDotsSpec)

/-- ITS FALSE NEIGHBOUR: 'it returns false'. Refute it at one input. -/
def wideDotsWrong : ChangeSpec := { name := "wideDots", fn := fun _ => fun
  | [d] => { results := [.lit (.bool false)], args := [d] }
  | _ => none }
def WideDotsWrongFalsely : Prop := wideDotsRow.holds Try.pinned (OpenSpec.ofChange wideDotsWrong)

/-- 'millstreamlaw05.WideGroup': WHATEVER THE INPUT: true; the input reads as it did. -/
def wideGroupSpec : ChangeSpec := { name := "wideGroup", fn := fun _ => fun
  | [d1, d2, d3] => { results := [.lit (.bool true)], args := [d1, d2, d3] }
  | _ => none }
def wideGroupRow : OpenClaim := { program := "ytopakodhjaffiaa", sum := "4fe29787e0f583f5ddb1fd05f842796a9536e8ac2db8e499b1b04cd48939ff4f", func := "millstream/millstreamlaw05.WideGroup", spec := "wideGroup", inPlace := ["math/bits.Add64"], apart := false }
def WideGroupSaid : Prop := wideGroupRow.holds Try.pinned (OpenSpec.ofChange wideGroupSpec)

/-- ITS FALSE NEIGHBOUR: 'it returns false'. Refute it at one input. -/
def wideGroupWrong : ChangeSpec := { name := "wideGroup", fn := fun _ => fun
  | [d1, d2, d3] => { results := [.lit (.bool false)], args := [d1, d2, d3] }
  | _ => none }
def WideGroupWrongFalsely : Prop := wideGroupRow.holds Try.pinned (OpenSpec.ofChange wideGroupWrong)

/-- 'millstreamlaw05.WideRing': WHATEVER THE INPUT: true; the input reads as it did. -/
def wideRingSpec : ChangeSpec := { name := "wideRing", fn := fun _ => fun
  | [d1, d2, d3] => { results := [.lit (.bool true)], args := [d1, d2, d3] }
  | _ => none }
def wideRingRow : OpenClaim := { program := "ytopakodhjaffiaa", sum := "4fe29787e0f583f5ddb1fd05f842796a9536e8ac2db8e499b1b04cd48939ff4f", func := "millstream/millstreamlaw05.WideRing", spec := "wideRing", inPlace := ["math/bits.Add64"], apart := false }
def WideRingSaid : Prop := wideRingRow.holds Try.pinned (OpenSpec.ofChange wideRingSpec)

/-- ITS FALSE NEIGHBOUR: 'it returns false'. Refute it at one input. -/
def wideRingWrong : ChangeSpec := { name := "wideRing", fn := fun _ => fun
  | [d1, d2, d3] => { results := [.lit (.bool false)], args := [d1, d2, d3] }
  | _ => none }
def WideRingWrongFalsely : Prop := wideRingRow.holds Try.pinned (OpenSpec.ofChange wideRingWrong)

/-- 'millstreamlaw05.WideFits': WHATEVER THE INPUT: true; the input reads as it did. -/
def wideFitsSpec : ChangeSpec := { name := "wideFits", fn := fun _ => fun
  | [d1, d2] => { results := [.lit (.bool true)], args := [d1, d2] }
  | _ => none }
def wideFitsRow : OpenClaim := { program := "ytopakodhjaffiaa", sum := "4fe29787e0f583f5ddb1fd05f842796a9536e8ac2db8e499b1b04cd48939ff4f", func := "millstream/millstreamlaw05.WideFits", spec := "wideFits", inPlace := ["math/bits.Add64"], apart := false }
def WideFitsSaid : Prop := wideFitsRow.holds Try.pinned (OpenSpec.ofChange wideFitsSpec)

/-- ITS FALSE NEIGHBOUR: 'it returns false'. Refute it at one input. -/
def wideFitsWrong : ChangeSpec := { name := "wideFits", fn := fun _ => fun
  | [d1, d2] => { results := [.lit (.bool false)], args := [d1, d2] }
  | _ => none }
def WideFitsWrongFalsely : Prop := wideFitsRow.holds Try.pinned (OpenSpec.ofChange wideFitsWrong)

/-- 'millstreamlaw05.WideOrder': WHATEVER THE INPUT: true; the input reads as it did. -/
def wideOrderSpec : ChangeSpec := { name := "wideOrder", fn := fun _ => fun
  | [d1, d2, d3] => { results := [.lit (.bool true)], args := [d1, d2, d3] }
  | _ => none }
def wideOrderRow : OpenClaim := { program := "ytopakodhjaffiaa", sum := "4fe29787e0f583f5ddb1fd05f842796a9536e8ac2db8e499b1b04cd48939ff4f", func := "millstream/millstreamlaw05.WideOrder", spec := "wideOrder", inPlace := ["math/bits.Add64"], apart := false }
def WideOrderSaid : Prop := wideOrderRow.holds Try.pinned (OpenSpec.ofChange wideOrderSpec)

/-- ITS FALSE NEIGHBOUR: 'it returns false'. Refute it at one input. -/
def wideOrderWrong : ChangeSpec := { name := "wideOrder", fn := fun _ => fun
  | [d1, d2, d3] => { results := [.lit (.bool false)], args := [d1, d2, d3] }
  | _ => none }
def WideOrderWrongFalsely : Prop := wideOrderRow.holds Try.pinned (OpenSpec.ofChange wideOrderWrong)

/-- 'millstreamlaw05.WideJoined': WHATEVER THE INPUT: true; the input reads as it did. -/
def wideJoinedSpec : ChangeSpec := { name := "wideJoined", fn := fun _ => fun
  | [d1, d2, d3] => { results := [.lit (.bool true)], args := [d1, d2, d3] }
  | _ => none }
def wideJoinedRow : OpenClaim := { program := "ytopakodhjaffiaa", sum := "4fe29787e0f583f5ddb1fd05f842796a9536e8ac2db8e499b1b04cd48939ff4f", func := "millstream/millstreamlaw05.WideJoined", spec := "wideJoined", inPlace := ["math/bits.Add64"], apart := false }
def WideJoinedSaid : Prop := wideJoinedRow.holds Try.pinned (OpenSpec.ofChange wideJoinedSpec)

/-- ITS FALSE NEIGHBOUR: 'it returns false'. Refute it at one input. -/
def wideJoinedWrong : ChangeSpec := { name := "wideJoined", fn := fun _ => fun
  | [d1, d2, d3] => { results := [.lit (.bool false)], args := [d1, d2, d3] }
  | _ => none }
def WideJoinedWrongFalsely : Prop := wideJoinedRow.holds Try.pinned (OpenSpec.ofChange wideJoinedWrong)

/-- 'millstreamlaw05.WideKnown': WHATEVER THE INPUT: true; the input reads as it did. -/
def wideKnownSpec : ChangeSpec := { name := "wideKnown", fn := fun _ => fun
  | [] => { results := [.lit (.bool true)], args := [] }
  | _ => none }
def wideKnownRow : OpenClaim := { program := "ytopakodhjaffiaa", sum := "4fe29787e0f583f5ddb1fd05f842796a9536e8ac2db8e499b1b04cd48939ff4f", func := "millstream/millstreamlaw05.WideKnown", spec := "wideKnown", inPlace := ["math/bits.Add64"], apart := false }
def WideKnownSaid : Prop := wideKnownRow.holds Try.pinned (OpenSpec.ofChange wideKnownSpec)

/-- ITS FALSE NEIGHBOUR: 'it returns false'. Refute it at one input. -/
def wideKnownWrong : ChangeSpec := { name := "wideKnown", fn := fun _ => fun
  | [] => { results := [.lit (.bool false)], args := [] }
  | _ => none }
def WideKnownWrongFalsely : Prop := wideKnownRow.holds Try.pinned (OpenSpec.ofChange wideKnownWrong)

/- THE SECOND FORM. 'bulk': how many values and letters a reading holds, each counted each time it is reached (what is shared counts as often as it is met; a slice's spare places count too). A statement '..UptoSaid' is the law's where the arguments, and the package variables that the reading takes, are together of bulk at most 1048576: NARROWER than '..Said'. Prove '..Said' where nothing that the law and all that it calls make is longer than what came in: it says more and counts as full. Else prove '..UptoSaid'. A law counts once. -/
mutual
def uptoBulk {H : Type} : DataW H → Nat
  | .lit (.string bytes) => bytes.length + 1
  | .lit _ => 1
  | .nil => 1
  | .ptr d => uptoBulk d + 1
  | .slice elems spare => uptoBulkAll elems + uptoBulkAll spare + 1
  | .agg parts => uptoBulkAll parts + 1
  | .iface _ d => uptoBulk d + 1
  | .map entries => uptoBulkEntries entries + 1
  | .held _ => 1
def uptoBulkAll {H : Type} : List (DataW H) → Nat
  | [] => 0
  | d :: r => uptoBulk d + uptoBulkAll r
def uptoBulkEntries {H : Type} : List (Lit × DataW H) → Nat
  | [] => 0
  | x :: r => uptoBulkEntry x + uptoBulkEntries r
def uptoBulkEntry {H : Type} : Lit × DataW H → Nat
  | (.string bytes, d) => bytes.length + uptoBulk d + 1
  | (_, d) => uptoBulk d + 1
 end
def uptoSmall : (H : Type) → List (DataW H) → Bool := fun _ ds => decide (uptoBulkAll ds ≤ 1048576)
def OpenSpec.upto (s : _root_.Go.ChangeSpec) : _root_.Go.OpenSpec := { _root_.Go.OpenSpec.ofChange s with cond := some uptoSmall }

/-- 'millstreamlaw05.WideDoes', WHERE WHAT IT READS IS OF BULK AT MOST 1048576: true; the input reads as it did. -/
def wideDoesUptoRow : OpenClaim := { program := "ytopakodhjaffiaa", sum := "4fe29787e0f583f5ddb1fd05f842796a9536e8ac2db8e499b1b04cd48939ff4f", func := "millstream/millstreamlaw05.WideDoes", spec := "wideDoes", inPlace := ["math/bits.Add64"], apart := false, narrowed := true }
def WideDoesUptoSaid : Prop := wideDoesUptoRow.holds Try.pinned (OpenSpec.upto wideDoesSpec)

/-- 'millstreamlaw05.WideChecks', WHERE WHAT IT READS IS OF BULK AT MOST 1048576: true; the input reads as it did. -/
def wideChecksUptoRow : OpenClaim := { program := "ytopakodhjaffiaa", sum := "4fe29787e0f583f5ddb1fd05f842796a9536e8ac2db8e499b1b04cd48939ff4f", func := "millstream/millstreamlaw05.WideChecks", spec := "wideChecks", inPlace := ["math/bits.Add64"], apart := false, narrowed := true }
def WideChecksUptoSaid : Prop := wideChecksUptoRow.holds Try.pinned (OpenSpec.upto wideChecksSpec)

/-- 'millstreamlaw05.WideDots', WHERE WHAT IT READS IS OF BULK AT MOST 1048576: true; the input reads as it did. -/
def wideDotsUptoRow : OpenClaim := { program := "ytopakodhjaffiaa", sum := "4fe29787e0f583f5ddb1fd05f842796a9536e8ac2db8e499b1b04cd48939ff4f", func := "millstream/millstreamlaw05.WideDots", spec := "wideDots", inPlace := ["math/bits.Add64"], apart := false, narrowed := true }
def WideDotsUptoSaid : Prop := wideDotsUptoRow.holds Try.pinned (OpenSpec.upto wideDotsSpec)

/-- 'millstreamlaw05.WideGroup', WHERE WHAT IT READS IS OF BULK AT MOST 1048576: true; the input reads as it did. -/
def wideGroupUptoRow : OpenClaim := { program := "ytopakodhjaffiaa", sum := "4fe29787e0f583f5ddb1fd05f842796a9536e8ac2db8e499b1b04cd48939ff4f", func := "millstream/millstreamlaw05.WideGroup", spec := "wideGroup", inPlace := ["math/bits.Add64"], apart := false, narrowed := true }
def WideGroupUptoSaid : Prop := wideGroupUptoRow.holds Try.pinned (OpenSpec.upto wideGroupSpec)

/-- 'millstreamlaw05.WideRing', WHERE WHAT IT READS IS OF BULK AT MOST 1048576: true; the input reads as it did. -/
def wideRingUptoRow : OpenClaim := { program := "ytopakodhjaffiaa", sum := "4fe29787e0f583f5ddb1fd05f842796a9536e8ac2db8e499b1b04cd48939ff4f", func := "millstream/millstreamlaw05.WideRing", spec := "wideRing", inPlace := ["math/bits.Add64"], apart := false, narrowed := true }
def WideRingUptoSaid : Prop := wideRingUptoRow.holds Try.pinned (OpenSpec.upto wideRingSpec)

/-- 'millstreamlaw05.WideFits', WHERE WHAT IT READS IS OF BULK AT MOST 1048576: true; the input reads as it did. -/
def wideFitsUptoRow : OpenClaim := { program := "ytopakodhjaffiaa", sum := "4fe29787e0f583f5ddb1fd05f842796a9536e8ac2db8e499b1b04cd48939ff4f", func := "millstream/millstreamlaw05.WideFits", spec := "wideFits", inPlace := ["math/bits.Add64"], apart := false, narrowed := true }
def WideFitsUptoSaid : Prop := wideFitsUptoRow.holds Try.pinned (OpenSpec.upto wideFitsSpec)

/-- 'millstreamlaw05.WideOrder', WHERE WHAT IT READS IS OF BULK AT MOST 1048576: true; the input reads as it did. -/
def wideOrderUptoRow : OpenClaim := { program := "ytopakodhjaffiaa", sum := "4fe29787e0f583f5ddb1fd05f842796a9536e8ac2db8e499b1b04cd48939ff4f", func := "millstream/millstreamlaw05.WideOrder", spec := "wideOrder", inPlace := ["math/bits.Add64"], apart := false, narrowed := true }
def WideOrderUptoSaid : Prop := wideOrderUptoRow.holds Try.pinned (OpenSpec.upto wideOrderSpec)

/-- 'millstreamlaw05.WideJoined', WHERE WHAT IT READS IS OF BULK AT MOST 1048576: true; the input reads as it did. -/
def wideJoinedUptoRow : OpenClaim := { program := "ytopakodhjaffiaa", sum := "4fe29787e0f583f5ddb1fd05f842796a9536e8ac2db8e499b1b04cd48939ff4f", func := "millstream/millstreamlaw05.WideJoined", spec := "wideJoined", inPlace := ["math/bits.Add64"], apart := false, narrowed := true }
def WideJoinedUptoSaid : Prop := wideJoinedUptoRow.holds Try.pinned (OpenSpec.upto wideJoinedSpec)

/-- 'millstreamlaw05.WideKnown', WHERE WHAT IT READS IS OF BULK AT MOST 1048576: true; the input reads as it did. -/
def wideKnownUptoRow : OpenClaim := { program := "ytopakodhjaffiaa", sum := "4fe29787e0f583f5ddb1fd05f842796a9536e8ac2db8e499b1b04cd48939ff4f", func := "millstream/millstreamlaw05.WideKnown", spec := "wideKnown", inPlace := ["math/bits.Add64"], apart := false, narrowed := true }
def WideKnownUptoSaid : Prop := wideKnownUptoRow.holds Try.pinned (OpenSpec.upto wideKnownSpec)

end Rows
end Go.Proofs.Ytopakodhjaffiaa
