/- RowKnown of package millstreamlaw10 holds at every input: the call returns true, and each argument reads afterwards as it read before. Conditions: the tables of unicode/utf8, math/bits and internal/strconv and strconv's two errors lie as the library's text lays them (tied; one table pinned). -/
import Derived.Test.YtfplogjdcndohaaGreatDoorRb
import Derived.Test.YtfplogjdcndohaaGreatDoorRd
import Derived.Test.YtfplogjdcndohaaGreatDoorTie
import Derived.Test.YtfplogjdcndohaaGreatDoorCards
import Derived.SevenTiedAt
import Derived.ChangeMaps5
namespace Go.Proofs.YtfplogjdcndohaaGreatDoor.rowKnown
open Go.ChangeShapes Go.WideShapes Go.ChangeAt Go.RowKit
set_option linter.unusedVariables false

set_option maxRecDepth 100000 in
theorem lifted (os : Os) (started : os.Started) (H : Type) (enc : TypeId × Value → H) :
    ReturnsInHanded {} Tryz.checked os 11 .any (fun w args => (Rows.rowKnownSpec.pre enc Tryz.prog Tryz.f11 [] false w args ∧ laidMetH Tryz.prog laidList w) ∧ sizedMet enc Tryz.prog Tryz.f11 (OpenSpec.ofChange Rows.rowKnownSpec) false w args)
      (Rows.rowKnownSpec.post enc Tryz.prog Tryz.f11 false true false false) := by
  refine handed_shaped (C := Tryz.checked) (X := fun w _ => laidMetH Tryz.prog laidList w) (fun _ _ _ hh h => h.of_heap hh) own started (by kernel_rfl) Tryz.func11
    (ChangeSpec.witness_shaped (enc := enc) (C := Tryz.checked) (os := os) (X := fun w _ => laidMetH Tryz.prog laidList w) false (World.laidAll Tryz.prog os laidList) #[] 8 (World.laidAll_os _ _ _) (World.shaped_of_ZipB (by kernel_rfl) (by kernel_rfl)) (by kernel_rfl) (by kernel_rfl) (by kernel_rfl) (door_met os _)) ?_
  intro W base args ds gs before hval0 hW _ _ hL hS _
  have T := ta_of hL hS
  have hW' := hW
  obtain ⟨p, q, hA0, hV, rfl, _, _⟩ := hW
  have hA : DataW.TrodAll enc Tryz.prog W 0 (fun _ => true) true Tryz.f11.params.toList args.toList ds p := hA0
  rw [Tryz.params11] at hA
  obtain ⟨rfl, rfl, rfl⟩ := trodAll_none hA
  obtain ⟨rfl, rfl⟩ := trodVars_none hV
  refine (rowKnown  W  T).mono fun e W' ⟨he, bel⟩ => ?_
  subst he
  exact ⟨_, rfl, _, _, _, [], _, [], hW', trodAll_mk1 (shut_bool Tryz.underlying4 _), trodAll_mk0, rfl, bel.frame _, fun h => by cases h⟩

set_option maxHeartbeats 8000000 in
theorem closed : joinedFacts Tryz.prog 11 Tryz.f11 Rows.rowKnownSpec Rows.rowKnownRow = true := by
  unfold joinedFacts
  simp only [Bool.and_eq_true]
  repeat' apply And.intro
  all_goals decide +kernel
theorem noWrap : Tryz.f11.isWrapper Tryz.prog Rows.rowKnownRow.wrapper Rows.rowKnownRow.mainSum := by unfold Func.isWrapper; first | (rw [if_pos (by decide +kernel)]; kernel_rfl) | (rw [if_neg (by decide +kernel)]; exact ⟨rfl, rfl⟩)
theorem fnamed : Tryz.prog.funcNamed "millstream/millstreamlaw10.RowKnown" = some 11 := by kernel_rfl
theorem instanceOk : Tryz.f11.isInstance Tryz.prog Rows.rowKnownRow.origin Rows.rowKnownRow.targs := of_decide_eq_true (by kernel_rfl)
theorem holds : Rows.RowKnownSaid :=
  OpenClaim.holds_of_wide 11 Tryz.f11 rfl rfl rfl rfl rfl rfl rfl ⟨rfl, rfl, rfl, rfl, rfl⟩ rfl rfl rfl rfl rfl fnamed Tryz.func11 closed instanceOk noWrap
    (fun os started H enc _ => lifted os started H enc)

theorem goes : false = Rows.rowKnownRow.goesBy Tryz.prog := by kernel_rfl
theorem looks : true = Tryz.prog.looks [] := by kernel_rfl
theorem mainIs : Tryz.prog.mainIs = some (((true, "38ff21f5adef544280b414de0b4b72f0e75e9ba652cb50b4a8a79d338b6bce95") : Bool × String).1, ((true, "38ff21f5adef544280b414de0b4b72f0e75e9ba652cb50b4a8a79d338b6bce95") : Bool × String).2.toList) := by kernel_rfl
theorem wf : Rows.rowKnownRow.wfByText (OpenSpec.ofChange Rows.rowKnownSpec) = true := by kernel_rfl
theorem card_holds : Rows.RowKnownCardSaid :=
  Claim7.holds_tied_plain_at .later [] [.data, .data, .data, .data, .sentinel, .sentinel, .pinned] true (true, "38ff21f5adef544280b414de0b4b72f0e75e9ba652cb50b4a8a79d338b6bce95") true
    holds (fun _ h => by cases h) wf (fun _ h => by cases h) rowKnown_row_tie rfl ⟨rfl, rfl⟩ mainIs rfl
    (fun f fn hf hfn => by
      obtain rfl : f = 11 := Option.some.inj ((show Tryz.prog.funcNamed "millstream/millstreamlaw10.RowKnown" = some 11 from fnamed).symm.trans hf) |>.symm
      obtain rfl : fn = Tryz.f11 := (Option.some.inj (Tryz.func11.symm.trans hfn)).symm
      exact ⟨looks, fun j t ht => by
        rw [Tryz.params11] at ht
        simp at ht⟩)
    goes
end Go.Proofs.YtfplogjdcndohaaGreatDoor.rowKnown
