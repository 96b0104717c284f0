/-
  NARROWER THAN 'FOR EVERY INPUT', by the rows' own cells (each row's printed sentence says how): CrcSums: laid · CrcJoins: laid · CrcGoesOn: laid · CrcJoined: laid · CrcFar: laid · CrcLinear: laid · CrcBurst: laid · CrcKnown: laid.
  DERIVED. THE GIVEN ROWS OF THIS SEAT. 8 by the template 'for every input the law returns true; each argument reads behind the call as it read before'; 0 by the template 'total and deterministic' (their statements: YtdhlkomfponalaaDoorTotals.lean).
  GIVEN WITH THE SEED: the statements are not yours to turn. If you find one false, say at which input.
  Laid BY PROGRAM, IN A SANDBOX (cutbox-rows.mjs): the forced cells as the released guide's own fill.sh prints them over the translation c503c3e545d2f900… (all of the seat's roots in one cut). By AI agents, Wed Nov 11 2026. No macro, syntax, notation, axiom, sorry.
-/
import Derived.Test.YtdhlkomfponalaaDoorChecked
import GoSem.Claim
import GoSem.ClaimJoined
import GoSem.ClaimMapViews
import Derived.JoinedTies
import Derived.KernelRfl
namespace Go.Proofs.YtdhlkomfponalaaDoor
/- THE CELL 'sum', in the pinned program and in every row, IS THE sha256 OF THE DUMP (.gsa) THAT YtdhlkomfponalaaDoorProg.lean LOADS. Nothing in Lean hashes anything: it is a label: what it is worth is what the hold of that sum in a sandbox is worth. -/
noncomputable def Tryd.pinned : Pinned := { name := "ytdhlkomfponalaadoor", sum := "c503c3e545d2f9005e3220a64e592b0e8b4d3228f4207f290cfd644238881730", checked := Tryd.checked }
namespace Rows
def none {H : Type} : Left H := { results := [], args := [] }

/- WHAT THE LISTED PACKAGE-LEVEL VARIABLES READ AS WHEN THE CALL BEGINS. Each datum BY PROGRAM (the guide's laid-datum.mjs) off the statement by which the dump's own 'gosem.cut.vars' lays the variable. In a bare row this is a premise. The card (YtdhlkomfponalaaDoorCards.lean) ties it to the program's text. -/
def laid_millstream_crc_halfSteps {H : Type} : DataW H := .agg [.lit (.int .u32 0), .lit (.int .u32 274646895), .lit (.int .u32 549293790), .lit (.int .u32 820201905), .lit (.int .u32 1098587580), .lit (.int .u32 1361435347), .lit (.int .u32 1640403810), .lit (.int .u32 1905808397), .lit (.int .u32 2197175160), .lit (.int .u32 2460548119), .lit (.int .u32 2722870694), .lit (.int .u32 2987750089), .lit (.int .u32 3280807620), .lit (.int .u32 3553878443), .lit (.int .u32 3811616794), .lit (.int .u32 4084100981)]

/-- 'millstreamlaw02.CrcSums': WHATEVER THE INPUT: true; the input reads as it did. -/
def crcSumsSpec : ChangeSpec := { name := "crcSums", fn := fun _ => fun
  | [d1, d2] => { results := [.lit (.bool true)], args := [d1, d2] }
  | _ => none }
def crcSumsRow : OpenClaim := { program := "ytdhlkomfponalaadoor", sum := "c503c3e545d2f9005e3220a64e592b0e8b4d3228f4207f290cfd644238881730", func := "millstream/millstreamlaw02.CrcSums", spec := "crcSums", named := ["millstream/crc.halfSteps"], apart := false, laid := [("millstream/crc.halfSteps", laid_millstream_crc_halfSteps)] }
def CrcSumsSaid : Prop := crcSumsRow.holds Tryd.pinned (OpenSpec.ofChange crcSumsSpec)

/-- ITS FALSE NEIGHBOUR: 'it returns false'. Refute it at one input. -/
def crcSumsWrong : ChangeSpec := { name := "crcSums", fn := fun _ => fun
  | [d1, d2] => { results := [.lit (.bool false)], args := [d1, d2] }
  | _ => none }
def CrcSumsWrongFalsely : Prop := crcSumsRow.holds Tryd.pinned (OpenSpec.ofChange crcSumsWrong)

/-- 'millstreamlaw02.CrcJoins': WHATEVER THE INPUT: true; the input reads as it did. -/
def crcJoinsSpec : ChangeSpec := { name := "crcJoins", fn := fun _ => fun
  | [d1, d2, d3] => { results := [.lit (.bool true)], args := [d1, d2, d3] }
  | _ => none }
def crcJoinsRow : OpenClaim := { program := "ytdhlkomfponalaadoor", sum := "c503c3e545d2f9005e3220a64e592b0e8b4d3228f4207f290cfd644238881730", func := "millstream/millstreamlaw02.CrcJoins", spec := "crcJoins", named := ["millstream/crc.halfSteps"], apart := false, laid := [("millstream/crc.halfSteps", laid_millstream_crc_halfSteps)] }
def CrcJoinsSaid : Prop := crcJoinsRow.holds Tryd.pinned (OpenSpec.ofChange crcJoinsSpec)

/-- ITS FALSE NEIGHBOUR: 'it returns false'. Refute it at one input. -/
def crcJoinsWrong : ChangeSpec := { name := "crcJoins", fn := fun _ => fun
  | [d1, d2, d3] => { results := [.lit (.bool false)], args := [d1, d2, d3] }
  | _ => none }
def CrcJoinsWrongFalsely : Prop := crcJoinsRow.holds Tryd.pinned (OpenSpec.ofChange crcJoinsWrong)

/-- 'millstreamlaw02.CrcGoesOn': WHATEVER THE INPUT: true; the input reads as it did. -/
def crcGoesOnSpec : ChangeSpec := { name := "crcGoesOn", fn := fun _ => fun
  | [d1, d2, d3] => { results := [.lit (.bool true)], args := [d1, d2, d3] }
  | _ => none }
def crcGoesOnRow : OpenClaim := { program := "ytdhlkomfponalaadoor", sum := "c503c3e545d2f9005e3220a64e592b0e8b4d3228f4207f290cfd644238881730", func := "millstream/millstreamlaw02.CrcGoesOn", spec := "crcGoesOn", named := ["millstream/crc.halfSteps"], apart := false, laid := [("millstream/crc.halfSteps", laid_millstream_crc_halfSteps)] }
def CrcGoesOnSaid : Prop := crcGoesOnRow.holds Tryd.pinned (OpenSpec.ofChange crcGoesOnSpec)

/-- ITS FALSE NEIGHBOUR: 'it returns false'. Refute it at one input. -/
def crcGoesOnWrong : ChangeSpec := { name := "crcGoesOn", fn := fun _ => fun
  | [d1, d2, d3] => { results := [.lit (.bool false)], args := [d1, d2, d3] }
  | _ => none }
def CrcGoesOnWrongFalsely : Prop := crcGoesOnRow.holds Tryd.pinned (OpenSpec.ofChange crcGoesOnWrong)

/-- 'millstreamlaw02.CrcJoined': WHATEVER THE INPUT: true; the input reads as it did. -/
def crcJoinedSpec : ChangeSpec := { name := "crcJoined", fn := fun _ => fun
  | [d1, d2] => { results := [.lit (.bool true)], args := [d1, d2] }
  | _ => none }
def crcJoinedRow : OpenClaim := { program := "ytdhlkomfponalaadoor", sum := "c503c3e545d2f9005e3220a64e592b0e8b4d3228f4207f290cfd644238881730", func := "millstream/millstreamlaw02.CrcJoined", spec := "crcJoined", named := ["millstream/crc.halfSteps"], apart := false, laid := [("millstream/crc.halfSteps", laid_millstream_crc_halfSteps)] }
def CrcJoinedSaid : Prop := crcJoinedRow.holds Tryd.pinned (OpenSpec.ofChange crcJoinedSpec)

/-- ITS FALSE NEIGHBOUR: 'it returns false'. Refute it at one input. -/
def crcJoinedWrong : ChangeSpec := { name := "crcJoined", fn := fun _ => fun
  | [d1, d2] => { results := [.lit (.bool false)], args := [d1, d2] }
  | _ => none }
def CrcJoinedWrongFalsely : Prop := crcJoinedRow.holds Tryd.pinned (OpenSpec.ofChange crcJoinedWrong)

/-- 'millstreamlaw02.CrcFar': WHATEVER THE INPUT: true; the input reads as it did. -/
def crcFarSpec : ChangeSpec := { name := "crcFar", fn := fun _ => fun
  | [d1, d2, d3] => { results := [.lit (.bool true)], args := [d1, d2, d3] }
  | _ => none }
def crcFarRow : OpenClaim := { program := "ytdhlkomfponalaadoor", sum := "c503c3e545d2f9005e3220a64e592b0e8b4d3228f4207f290cfd644238881730", func := "millstream/millstreamlaw02.CrcFar", spec := "crcFar", named := ["millstream/crc.halfSteps"], apart := false, laid := [("millstream/crc.halfSteps", laid_millstream_crc_halfSteps)] }
def CrcFarSaid : Prop := crcFarRow.holds Tryd.pinned (OpenSpec.ofChange crcFarSpec)

/-- ITS FALSE NEIGHBOUR: 'it returns false'. Refute it at one input. -/
def crcFarWrong : ChangeSpec := { name := "crcFar", fn := fun _ => fun
  | [d1, d2, d3] => { results := [.lit (.bool false)], args := [d1, d2, d3] }
  | _ => none }
def CrcFarWrongFalsely : Prop := crcFarRow.holds Tryd.pinned (OpenSpec.ofChange crcFarWrong)

/-- 'millstreamlaw02.CrcLinear': WHATEVER THE INPUT: true; the input reads as it did. -/
def crcLinearSpec : ChangeSpec := { name := "crcLinear", fn := fun _ => fun
  | [d1, d2, d3] => { results := [.lit (.bool true)], args := [d1, d2, d3] }
  | _ => none }
def crcLinearRow : OpenClaim := { program := "ytdhlkomfponalaadoor", sum := "c503c3e545d2f9005e3220a64e592b0e8b4d3228f4207f290cfd644238881730", func := "millstream/millstreamlaw02.CrcLinear", spec := "crcLinear", named := ["millstream/crc.halfSteps"], apart := false, laid := [("millstream/crc.halfSteps", laid_millstream_crc_halfSteps)] }
def CrcLinearSaid : Prop := crcLinearRow.holds Tryd.pinned (OpenSpec.ofChange crcLinearSpec)

/-- ITS FALSE NEIGHBOUR: 'it returns false'. Refute it at one input. -/
def crcLinearWrong : ChangeSpec := { name := "crcLinear", fn := fun _ => fun
  | [d1, d2, d3] => { results := [.lit (.bool false)], args := [d1, d2, d3] }
  | _ => none }
def CrcLinearWrongFalsely : Prop := crcLinearRow.holds Tryd.pinned (OpenSpec.ofChange crcLinearWrong)

/-- 'millstreamlaw02.CrcBurst': WHATEVER THE INPUT: true; the input reads as it did. -/
def crcBurstSpec : ChangeSpec := { name := "crcBurst", fn := fun _ => fun
  | [d1, d2, d3] => { results := [.lit (.bool true)], args := [d1, d2, d3] }
  | _ => none }
def crcBurstRow : OpenClaim := { program := "ytdhlkomfponalaadoor", sum := "c503c3e545d2f9005e3220a64e592b0e8b4d3228f4207f290cfd644238881730", func := "millstream/millstreamlaw02.CrcBurst", spec := "crcBurst", named := ["millstream/crc.halfSteps"], apart := false, laid := [("millstream/crc.halfSteps", laid_millstream_crc_halfSteps)] }
def CrcBurstSaid : Prop := crcBurstRow.holds Tryd.pinned (OpenSpec.ofChange crcBurstSpec)

/-- ITS FALSE NEIGHBOUR: 'it returns false'. Refute it at one input. -/
def crcBurstWrong : ChangeSpec := { name := "crcBurst", fn := fun _ => fun
  | [d1, d2, d3] => { results := [.lit (.bool false)], args := [d1, d2, d3] }
  | _ => none }
def CrcBurstWrongFalsely : Prop := crcBurstRow.holds Tryd.pinned (OpenSpec.ofChange crcBurstWrong)

/-- 'millstreamlaw02.CrcKnown': WHATEVER THE INPUT: true; the input reads as it did. -/
def crcKnownSpec : ChangeSpec := { name := "crcKnown", fn := fun _ => fun
  | [] => { results := [.lit (.bool true)], args := [] }
  | _ => none }
def crcKnownRow : OpenClaim := { program := "ytdhlkomfponalaadoor", sum := "c503c3e545d2f9005e3220a64e592b0e8b4d3228f4207f290cfd644238881730", func := "millstream/millstreamlaw02.CrcKnown", spec := "crcKnown", named := ["millstream/crc.halfSteps"], apart := false, laid := [("millstream/crc.halfSteps", laid_millstream_crc_halfSteps)] }
def CrcKnownSaid : Prop := crcKnownRow.holds Tryd.pinned (OpenSpec.ofChange crcKnownSpec)

/-- ITS FALSE NEIGHBOUR: 'it returns false'. Refute it at one input. -/
def crcKnownWrong : ChangeSpec := { name := "crcKnown", fn := fun _ => fun
  | [] => { results := [.lit (.bool false)], args := [] }
  | _ => none }
def CrcKnownWrongFalsely : Prop := crcKnownRow.holds Tryd.pinned (OpenSpec.ofChange crcKnownWrong)

/- THE SECOND FORM. 'bulk': how many values and letters a reading holds, each counted each time it is reached (what is shared counts as often as it is met; a slice's spare places count too). A statement '..UptoSaid' is the law's where the arguments, and the package variables that the reading takes, are together of bulk at most 1048576: NARROWER than '..Said'. Prove '..Said' where nothing that the law and all that it calls make is longer than what came in: it says more and counts as full. Else prove '..UptoSaid'. A law counts once. -/
mutual
def uptoBulk {H : Type} : DataW H → Nat
  | .lit (.string bytes) => bytes.length + 1
  | .lit _ => 1
  | .nil => 1
  | .ptr d => uptoBulk d + 1
  | .slice elems spare => uptoBulkAll elems + uptoBulkAll spare + 1
  | .agg parts => uptoBulkAll parts + 1
  | .iface _ d => uptoBulk d + 1
  | .map entries => uptoBulkEntries entries + 1
  | .held _ => 1
def uptoBulkAll {H : Type} : List (DataW H) → Nat
  | [] => 0
  | d :: r => uptoBulk d + uptoBulkAll r
def uptoBulkEntries {H : Type} : List (Lit × DataW H) → Nat
  | [] => 0
  | x :: r => uptoBulkEntry x + uptoBulkEntries r
def uptoBulkEntry {H : Type} : Lit × DataW H → Nat
  | (.string bytes, d) => bytes.length + uptoBulk d + 1
  | (_, d) => uptoBulk d + 1
 end
def uptoSmall : (H : Type) → List (DataW H) → Bool := fun _ ds => decide (uptoBulkAll ds ≤ 1048576)
def OpenSpec.upto (s : _root_.Go.ChangeSpec) : _root_.Go.OpenSpec := { _root_.Go.OpenSpec.ofChange s with cond := some uptoSmall }

/-- 'millstreamlaw02.CrcSums', WHERE WHAT IT READS IS OF BULK AT MOST 1048576: true; the input reads as it did. -/
def crcSumsUptoRow : OpenClaim := { program := "ytdhlkomfponalaadoor", sum := "c503c3e545d2f9005e3220a64e592b0e8b4d3228f4207f290cfd644238881730", func := "millstream/millstreamlaw02.CrcSums", spec := "crcSums", named := ["millstream/crc.halfSteps"], apart := false, laid := [("millstream/crc.halfSteps", laid_millstream_crc_halfSteps)], narrowed := true }
def CrcSumsUptoSaid : Prop := crcSumsUptoRow.holds Tryd.pinned (OpenSpec.upto crcSumsSpec)

/-- 'millstreamlaw02.CrcJoins', WHERE WHAT IT READS IS OF BULK AT MOST 1048576: true; the input reads as it did. -/
def crcJoinsUptoRow : OpenClaim := { program := "ytdhlkomfponalaadoor", sum := "c503c3e545d2f9005e3220a64e592b0e8b4d3228f4207f290cfd644238881730", func := "millstream/millstreamlaw02.CrcJoins", spec := "crcJoins", named := ["millstream/crc.halfSteps"], apart := false, laid := [("millstream/crc.halfSteps", laid_millstream_crc_halfSteps)], narrowed := true }
def CrcJoinsUptoSaid : Prop := crcJoinsUptoRow.holds Tryd.pinned (OpenSpec.upto crcJoinsSpec)

/-- 'millstreamlaw02.CrcGoesOn', WHERE WHAT IT READS IS OF BULK AT MOST 1048576: true; the input reads as it did. -/
def crcGoesOnUptoRow : OpenClaim := { program := "ytdhlkomfponalaadoor", sum := "c503c3e545d2f9005e3220a64e592b0e8b4d3228f4207f290cfd644238881730", func := "millstream/millstreamlaw02.CrcGoesOn", spec := "crcGoesOn", named := ["millstream/crc.halfSteps"], apart := false, laid := [("millstream/crc.halfSteps", laid_millstream_crc_halfSteps)], narrowed := true }
def CrcGoesOnUptoSaid : Prop := crcGoesOnUptoRow.holds Tryd.pinned (OpenSpec.upto crcGoesOnSpec)

/-- 'millstreamlaw02.CrcJoined', WHERE WHAT IT READS IS OF BULK AT MOST 1048576: true; the input reads as it did. -/
def crcJoinedUptoRow : OpenClaim := { program := "ytdhlkomfponalaadoor", sum := "c503c3e545d2f9005e3220a64e592b0e8b4d3228f4207f290cfd644238881730", func := "millstream/millstreamlaw02.CrcJoined", spec := "crcJoined", named := ["millstream/crc.halfSteps"], apart := false, laid := [("millstream/crc.halfSteps", laid_millstream_crc_halfSteps)], narrowed := true }
def CrcJoinedUptoSaid : Prop := crcJoinedUptoRow.holds Tryd.pinned (OpenSpec.upto crcJoinedSpec)

/-- 'millstreamlaw02.CrcFar', WHERE WHAT IT READS IS OF BULK AT MOST 1048576: true; the input reads as it did. -/
def crcFarUptoRow : OpenClaim := { program := "ytdhlkomfponalaadoor", sum := "c503c3e545d2f9005e3220a64e592b0e8b4d3228f4207f290cfd644238881730", func := "millstream/millstreamlaw02.CrcFar", spec := "crcFar", named := ["millstream/crc.halfSteps"], apart := false, laid := [("millstream/crc.halfSteps", laid_millstream_crc_halfSteps)], narrowed := true }
def CrcFarUptoSaid : Prop := crcFarUptoRow.holds Tryd.pinned (OpenSpec.upto crcFarSpec)

/-- 'millstreamlaw02.CrcLinear', WHERE WHAT IT READS IS OF BULK AT MOST 1048576: true; the input reads as it did. -/
def crcLinearUptoRow : OpenClaim := { program := "ytdhlkomfponalaadoor", sum := "c503c3e545d2f9005e3220a64e592b0e8b4d3228f4207f290cfd644238881730", func := "millstream/millstreamlaw02.CrcLinear", spec := "crcLinear", named := ["millstream/crc.halfSteps"], apart := false, laid := [("millstream/crc.halfSteps", laid_millstream_crc_halfSteps)], narrowed := true }
def CrcLinearUptoSaid : Prop := crcLinearUptoRow.holds Tryd.pinned (OpenSpec.upto crcLinearSpec)

/-- 'millstreamlaw02.CrcBurst', WHERE WHAT IT READS IS OF BULK AT MOST 1048576: true; the input reads as it did. -/
def crcBurstUptoRow : OpenClaim := { program := "ytdhlkomfponalaadoor", sum := "c503c3e545d2f9005e3220a64e592b0e8b4d3228f4207f290cfd644238881730", func := "millstream/millstreamlaw02.CrcBurst", spec := "crcBurst", named := ["millstream/crc.halfSteps"], apart := false, laid := [("millstream/crc.halfSteps", laid_millstream_crc_halfSteps)], narrowed := true }
def CrcBurstUptoSaid : Prop := crcBurstUptoRow.holds Tryd.pinned (OpenSpec.upto crcBurstSpec)

/-- 'millstreamlaw02.CrcKnown', WHERE WHAT IT READS IS OF BULK AT MOST 1048576: true; the input reads as it did. -/
def crcKnownUptoRow : OpenClaim := { program := "ytdhlkomfponalaadoor", sum := "c503c3e545d2f9005e3220a64e592b0e8b4d3228f4207f290cfd644238881730", func := "millstream/millstreamlaw02.CrcKnown", spec := "crcKnown", named := ["millstream/crc.halfSteps"], apart := false, laid := [("millstream/crc.halfSteps", laid_millstream_crc_halfSteps)], narrowed := true }
def CrcKnownUptoSaid : Prop := crcKnownUptoRow.holds Tryd.pinned (OpenSpec.upto crcKnownSpec)

end Rows
end Go.Proofs.YtdhlkomfponalaaDoor
