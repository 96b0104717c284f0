/- EvolveKnown of package millstreamlaw12 holds at every input: the call returns true, and each argument reads afterwards as it read before. Conditions: the tables of unicode/utf8, math/bits and internal/strconv and strconv's two errors lie as the library's text lays them (tied; one table pinned). -/
import Derived.Test.YtenfjmdajlhfoabGreatDoorKFr
import Derived.Test.YtenfjmdajlhfoabGreatDoorKKn
import Derived.Test.YtenfjmdajlhfoabGreatDoorTie
import Derived.Test.YtenfjmdajlhfoabGreatDoorCards
import Derived.SevenTiedAt
import Derived.ChangeMaps5
namespace Go.Proofs.YtenfjmdajlhfoabGreatDoor.evolveKnown
open Go.ChangeShapes Go.WideShapes Go.ChangeAt Go.RowKit
set_option linter.unusedVariables false

set_option maxRecDepth 100000 in
theorem lifted (os : Os) (started : os.Started) (H : Type) (enc : TypeId × Value → H) :
    ReturnsInHanded {} Tryz.checked os 10 .any (fun w args => (Rows.evolveKnownSpec.pre enc Tryz.prog Tryz.f10 [] false w args ∧ laidMetH Tryz.prog laidList w) ∧ sizedMet enc Tryz.prog Tryz.f10 (OpenSpec.ofChange Rows.evolveKnownSpec) false w args)
      (Rows.evolveKnownSpec.post enc Tryz.prog Tryz.f10 false true false false) := by
  refine handed_shaped (C := Tryz.checked) (X := fun w _ => laidMetH Tryz.prog laidList w) (fun _ _ _ hh h => h.of_heap hh) own started (by kernel_rfl) Tryz.func10
    (ChangeSpec.witness_shaped (enc := enc) (C := Tryz.checked) (os := os) (X := fun w _ => laidMetH Tryz.prog laidList w) false (World.laidAll Tryz.prog os laidList) #[] 8 (World.laidAll_os _ _ _) (World.shaped_of_ZipB (by kernel_rfl) (by kernel_rfl)) (by kernel_rfl) (by kernel_rfl) (by kernel_rfl) (door_met os _)) ?_
  intro W base args ds gs before hval0 hW _ _ hL hS _
  have T := ta_of hL hS
  have hW' := hW
  obtain ⟨p, q, hA0, hV, rfl, _, _⟩ := hW
  have hA : DataW.TrodAll enc Tryz.prog W 0 (fun _ => true) true Tryz.f10.params.toList args.toList ds p := hA0
  rw [Tryz.params10] at hA
  obtain ⟨rfl, rfl, rfl⟩ := trodAll_none hA
  obtain ⟨rfl, rfl⟩ := trodVars_none hV
  refine (evolveKnown  W  T).mono fun e W' ⟨he, bel⟩ => ?_
  subst he
  exact ⟨_, rfl, _, _, _, [], _, [], hW', trodAll_mk1 (shut_bool Tryz.underlying4 _), trodAll_mk0, rfl, bel.frame _, fun h => by cases h⟩

set_option maxHeartbeats 8000000 in
theorem closed : joinedFacts Tryz.prog 10 Tryz.f10 Rows.evolveKnownSpec Rows.evolveKnownRow = true := by
  unfold joinedFacts
  simp only [Bool.and_eq_true]
  repeat' apply And.intro
  all_goals decide +kernel
theorem noWrap : Tryz.f10.isWrapper Tryz.prog Rows.evolveKnownRow.wrapper Rows.evolveKnownRow.mainSum := by unfold Func.isWrapper; first | (rw [if_pos (by decide +kernel)]; kernel_rfl) | (rw [if_neg (by decide +kernel)]; exact ⟨rfl, rfl⟩)
theorem fnamed : Tryz.prog.funcNamed "millstream/millstreamlaw12.EvolveKnown" = some 10 := by kernel_rfl
theorem instanceOk : Tryz.f10.isInstance Tryz.prog Rows.evolveKnownRow.origin Rows.evolveKnownRow.targs := of_decide_eq_true (by kernel_rfl)
theorem holds : Rows.EvolveKnownSaid :=
  OpenClaim.holds_of_wide 10 Tryz.f10 rfl rfl rfl rfl rfl rfl rfl ⟨rfl, rfl, rfl, rfl, rfl⟩ rfl rfl rfl rfl rfl fnamed Tryz.func10 closed instanceOk noWrap
    (fun os started H enc _ => lifted os started H enc)

theorem goes : false = Rows.evolveKnownRow.goesBy Tryz.prog := by kernel_rfl
theorem looks : true = Tryz.prog.looks [] := by kernel_rfl
theorem mainIs : Tryz.prog.mainIs = some (((true, "a9440c8ae078af2ad994574a1954011a4bdc44c7f92299c75001ce36e669d94c") : Bool × String).1, ((true, "a9440c8ae078af2ad994574a1954011a4bdc44c7f92299c75001ce36e669d94c") : Bool × String).2.toList) := by kernel_rfl
theorem wf : Rows.evolveKnownRow.wfByText (OpenSpec.ofChange Rows.evolveKnownSpec) = true := by kernel_rfl
theorem card_holds : Rows.EvolveKnownCardSaid :=
  Claim7.holds_tied_plain_at .later [] [.data, .data, .data, .data, .sentinel, .sentinel, .pinned] true (true, "a9440c8ae078af2ad994574a1954011a4bdc44c7f92299c75001ce36e669d94c") true
    holds (fun _ h => by cases h) wf (fun _ h => by cases h) evolveKnown_row_tie rfl ⟨rfl, rfl⟩ mainIs rfl
    (fun f fn hf hfn => by
      obtain rfl : f = 10 := Option.some.inj ((show Tryz.prog.funcNamed "millstream/millstreamlaw12.EvolveKnown" = some 10 from fnamed).symm.trans hf) |>.symm
      obtain rfl : fn = Tryz.f10 := (Option.some.inj (Tryz.func10.symm.trans hfn)).symm
      exact ⟨looks, fun j t ht => by
        rw [Tryz.params10] at ht
        simp at ht⟩)
    goes
end Go.Proofs.YtenfjmdajlhfoabGreatDoor.evolveKnown
