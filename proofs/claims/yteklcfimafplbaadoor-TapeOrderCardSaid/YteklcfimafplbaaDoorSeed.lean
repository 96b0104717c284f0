/- A seed's numbers: next, word. -/
import Derived.Test.YteklcfimafplbaaDoorEq
import Derived.Test.YteklcfimafplbaaDoorSlic
import Derived.Test.YteklcfimafplbaaDoorPutS
namespace Go.Proofs.YteklcfimafplbaaDoor
open Go.RowKit
set_option linter.unusedVariables false
set_option maxRecDepth 100000

theorem bring_eq (x n : Int) (hn : 0 < n) (hn' : n ≤ 1152921504606846976) : (x.tmod n < 0 → wrap64 (x.tmod n + n) = x % n) ∧ (0 ≤ x.tmod n → x.tmod n = x % n) := by
  unfold wrap64
  have h := Int.tmod_eq_emod (a := x) (b := n)
  have h2 := Int.emod_nonneg x (b := n) (by omega)
  have h3 := Int.emod_lt_of_pos x hn
  split at h <;> constructor <;> intro h5 <;> omega
set_option maxHeartbeats 400000 in
theorem bring (x n : Int) (w : World) (h0 : -9223372036854775808 ≤ x) (h1 : x ≤ 9223372036854775807) (hn : 0 < n) (hn' : n ≤ 1152921504606846976) :
    Calls Tryd.prog 18 #[.int .i64 x, .int .i64 n] w fun e w' => e = .returned (.int .i64 (x % n)) ∧ w = w' := by
  have he := Lib.hid (bring_eq x n hn hn')
  go_enter Tryd.func18, Tryd.ntmps18
  go_wp2
  · go_ret
    exact ⟨congrArg Ending.returned (congrArg (Value.int IntKind.i64) (he.out.1 (by assumption))), rfl⟩
  · go_ret
    exact ⟨congrArg Ending.returned (congrArg (Value.int IntKind.i64) (he.out.2 (by assumption))), rfl⟩
/-- A seed: a variable that holds numbers; these lie below B. -/
structure SV (w : World) (B g : Nat) (ns : List Int) : Prop where
  at_ : ∃ v, Blk w g 24 [v] ∧ RdI w B v ns
  lo : B ≤ g
  ok : ∀ x ∈ ns, -9223372036854775808 ≤ x ∧ x ≤ 9223372036854775807
theorem SV.lt {w : World} {B g : Nat} {ns : List Int} (h : SV w B g ns) : g < w.heap.size := by obtain ⟨v, hb, _⟩ := h.at_; exact hb.lt
theorem SV.later {w w' : World} {B g : Nat} {ns : List Int} (h : SV w B g ns) (hb : Below w.heap.size w w') : SV w' B g ns := by
  obtain ⟨v, h1, h2⟩ := h.at_
  exact ⟨⟨v, h1.later hb, Gn.Rd.below h2 hb (by have := h.lt; have := h.lo; omega)⟩, h.lo, h.ok⟩
/-- What touches a seed's variable alone leaves rows that are newer, or typed otherwise. -/
theorem own_touch {α : Type} {enc : α → List Value} {k : Nat} {T : TypeId} {S : Nat → Prop} {w w' : World} {base : Nat} {v : Value} {l : List α} (h : Gn.Own enc k T w base v l) (ht : Touch S w w') (hn : ∀ g, base ≤ g → ¬ S g) : Gn.Own enc k T w' base v l := by
  obtain ⟨h0, h1⟩ := h
  refine ⟨h0, ?_⟩
  rcases h1 with h1 | ⟨g, cap, cur, rfl, hg, hh, r⟩
  · exact .inl h1
  · have hlt : g < w.heap.size := by
      rcases Nat.lt_or_ge g w.heap.size with hlt | hge
      · exact hlt
      · rw [Array.getElem?_eq_none hge] at hh; cases hh
    exact .inr ⟨g, cap, cur, rfl, hg, (ht.block g hlt (hn g hg)).trans hh, r⟩
def NPost (w : World) (B g : Nat) (n : Int) (ns : List Int) (e : Ending) (w' : World) : Prop := ∃ k : Nat, e = .returned (.int .i64 (k : Nat)) ∧ (k : Int) < n ∧ Touch (fun i => i = g) w w' ∧ SV w' B g ns.tail

set_option maxHeartbeats 2000000 in
theorem snext (n : Int) (B g : Nat) (ns : List Int) (w : World) (hn : 1 ≤ n ∧ n ≤ 100) (hV : SV w B g ns) :
    Calls Tryd.prog 81 #[.pointer (some ⟨g, 0, none⟩), .int .i64 n] w fun e w' => NPost w B g n ns e w' := by
  obtain ⟨v, hb, hr⟩ := hV.at_
  have HV := Lib.hid hV
  have HBK := Lib.hid hb
  have HR := Lib.hid hr
  have c0 := hb.cell 0
  simp only [List.getElem?_cons_zero] at c0
  have f0 := hb.frozen 0
  obtain ⟨va, vc, rfl, hvc, hvm, _⟩ := Gn.Rd.form hr
  cases ns with
  | nil =>
    clear hV hb hr
    go_enter Tryd.func81, Tryd.ntmps81
    go_wp2_with fail
    go_ret
    exact ⟨0, by rfl, by omega, Touch.refl _ _, HV.out⟩
  | cons x ns =>
    obtain ⟨b, off, rfl, x0⟩ := rdI_cell hr (show Below B w w from Below.refl _ _) (i := 0) rfl
    obtain ⟨L, hL⟩ : ∃ L, (x :: ns).length = L := ⟨_, rfl⟩
    have hL1 : (0 : Int) < (L : Nat) := by rw [← hL]; simp
    have hL0 : ((L : Int) == 0) = false := by simp; omega
    have hLm : (L : Int) ≤ 9223372036854775807 := by have := hr.len'; rw [hL] at this; omega
    have CB := Lib.hid (bring x n w (hV.ok x (List.mem_cons_self ..)).1 (hV.ok x (List.mem_cons_self ..)).2 (by omega) (by omega))
    obtain ⟨u, hu, hur⟩ := Gn.cut_from plY w B (some ⟨b, off, none⟩) (x :: ns) L vc 1 (by rw [← hL]; exact hr) hL (by simp)
    replace hu : ∀ w', (Instr.slice 22 (.slice (some ⟨b, off, none⟩) L vc) (some (.int .i64 1)) none none).run Tryd.prog w' = .ok u w' := hu
    obtain ⟨ua, uc, rfl, _⟩ := Gn.Rd.form hur
    obtain ⟨L2, hL2⟩ : ∃ L2, (List.drop 1 (x :: ns)).length = L2 := ⟨_, rfl⟩
    rw [hL2] at hu hur
    have HUR := Lib.hid hur
    have HMOD := Lib.hid (And.intro (Int.emod_nonneg x (show n ≠ 0 by omega)) (Int.emod_lt_of_pos x (show 0 < n by omega)))
    rw [hL] at HBK c0
    simp only [Nat.add_zero] at x0
    clear hV hb hr hur hL hL2
    go_enter Tryd.func81, Tryd.ntmps81
    go_wp2_with fail
    ((with_reducible refine (CB.out).mono ?_); rintro e w2 ⟨rfl, rfl⟩)
    go_wp2_with fail
    go_ret
    refine ⟨(x % n).toNat, ?_, ?_, Touch.setCell (S := fun i => i = g) (p := ⟨g, 0, none⟩) (Touch.refl _ _) rfl _, ⟨⟨_, HBK.out.put 0 _, ?_⟩, HV.out.lo, fun y hy => HV.out.ok y (List.mem_cons_of_mem _ hy)⟩⟩
    · exact congrArg (fun z => Ending.returned (Value.int IntKind.i64 z)) (Int.toNat_of_nonneg HMOD.out.1).symm
    · rw [Int.toNat_of_nonneg HMOD.out.1]; exact HMOD.out.2
    · exact Gn.Rd.below HUR.out ((Below.refl _ _).setCell (p := ⟨g, 0, none⟩) HV.out.lo _) (Nat.le_refl _)

def wordsL : List ByteArray := [⟨#[]⟩, ⟨#[97]⟩, ⟨#[98]⟩, ⟨#[97, 98]⟩, ⟨#[0]⟩, ⟨#[195, 164]⟩, ⟨#[34]⟩, ⟨#[122]⟩, ⟨#[240, 159, 152, 128]⟩, ⟨#[66]⟩]
def WPost (w : World) (B g : Nat) (ns : List Int) (e : Ending) (w' : World) : Prop := ∃ s, e = .returned (.string s) ∧ s ∈ wordsL ∧ Touch (fun i => i = g) w w' ∧ SV w' B g ns.tail
set_option maxHeartbeats 2000000 in
theorem sword (B g : Nat) (ns : List Int) (w : World) (hV : SV w B g ns) :
    Calls Tryd.prog 82 #[.pointer (some ⟨g, 0, none⟩)] w fun e w' => WPost w B g ns e w' := by
  obtain ⟨wa, hwa⟩ : ∃ wa, wa = w.alloc (.cells (wordsL.map Value.string).toArray 9) := ⟨_, rfl⟩
  have HU : Hid (Below w.heap.size w wa) := Lib.hid (by rw [hwa]; exact up_new w _)
  have HBK : Hid (Blk wa w.heap.size 9 (wordsL.map Value.string)) := Lib.hid (by rw [hwa]; exact Blk.new w _ _)
  have CN := Lib.hid (snext 10 B g ns wa (by omega) (hV.later HU.out))
  have hlt := hV.lt
  have HG := Lib.hid hV
  simp only [wordsL, List.map_cons, List.map_nil] at hwa
  rw [hwa] at CN
  clear hV
  go_enter Tryd.func82, Tryd.ntmps82
  go_wp2_with fail
  ((with_reducible refine (CN.out).mono ?_); rintro e w2 ⟨k, rfl, hk, ht, hs⟩)
  rw [← hwa] at ht
  have HT := Lib.hid (Touch.trans (Touch.of_below (S := fun i => i = g) HU.out) ht (fun i hi => .inl hi))
  have HS := Lib.hid hs
  have HB2 := HBK.out.touch ht (by omega)
  have hk10 : k < 10 := by omega
  have hc := HB2.cell k
  obtain ⟨s, hsk⟩ : ∃ s, wordsL[k]? = some s := ⟨_, List.getElem?_eq_getElem (by simpa [wordsL] using hk10)⟩
  have HM : Hid (s ∈ wordsL) := Lib.hid (List.mem_of_getElem? hsk)
  rw [List.getElem?_map, hsk] at hc
  simp only [Option.map_some] at hc
  clear ht hs HB2 hsk hwa
  go_wp2_with fail
  go_ret
  exact ⟨s, rfl, HM.out, HT.out, HS.out⟩
end Go.Proofs.YteklcfimafplbaaDoor
