/- Several texts in one: Cmp, ExP, Fmt, Iter, NumsP, Ord, PlainP, Plc, PutS, QuoteB, Says, ShortP, Show, Show2, Shown, Sort, Sorted, Works8, Wr. -/
import Derived.Test.YtgmdjofnkbaflaaGreatDoorTree
import Derived.Test.YtgmdjofnkbaflaaGreatDoorZk
import Derived.Test.YtgmdjofnkbaflaaGreatDoorShelfS
import Derived.Shelf.SlSortCmp.NoneTotal
import Derived.Deep.RegionLaw
import Derived.Deep.DeepCutAuto
import Derived.Laws.EntriesVeiled
import Derived.Laws.MakeOwn
import Derived.Test.YtgmdjofnkbaflaaGreatDoorZj
import Derived.Test.YtgmdjofnkbaflaaGreatDoorTidy
import Derived.Lib.ItoaNum
import Derived.Test.YtgmdjofnkbaflaaGreatDoorBuild
import Derived.Test.YtgmdjofnkbaflaaGreatDoorQuote
import Derived.Test.YtgmdjofnkbaflaaGreatDoorStr
import Derived.Lib.AppendIntMem
import Derived.Lib.ItoaLen
import Derived.Test.YtgmdjofnkbaflaaGreatDoorRval
import Derived.RangeFuncNested
import Derived.RangeFuncBound
import Derived.RangeFuncCalls
import Derived.RangeFuncLeaves
import Derived.Shelf.Abstract
import Derived.Shelf.RegionOpen
import Derived.OwnWalkIn
import Derived.TacticsInMore
import Derived.LoopNIn
import Derived.LoopIn
import Derived.Test.YtgmdjofnkbaflaaGreatDoorCheck
import Derived.Test.YtgmdjofnkbaflaaGreatDoorMake
/- Trees in the order of their keys, plainly; no program. -/
namespace Go.Proofs.YtgmdjofnkbaflaaGreatDoor.Tp
open Go.Lib
set_option linter.unusedVariables false

/-- The order of bytes, of numbers. -/
def less : List Nat → List Nat → Bool
  | [], [] => false
  | [], _ :: _ => true
  | _ :: _, [] => false
  | a :: s, b :: t => decide (a < b) || (decide (a = b) && less s t)
theorem less_map : ∀ (a b : List UInt8), Op.bytesLess a b = less (a.map UInt8.toNat) (b.map UInt8.toNat)
  | [], [] => by simp [Op.bytesLess, less]
  | [], _ :: _ => by simp [Op.bytesLess, less]
  | _ :: _, [] => by simp [Op.bytesLess, less]
  | x :: s, y :: t => by
    simp only [Op.bytesLess, List.map_cons, less]
    rw [less_map s t]
    have e1 : decide (x < y) = decide (x.toNat < y.toNat) := by simp [UInt8.lt_iff_toNat_lt]
    have e2 : (x == y) = decide (x.toNat = y.toNat) := by rw [Bool.eq_iff_iff]; simp [UInt8.toNat_inj]
    rw [e1, e2]
theorem less_bl (s t : ByteArray) : Op.bytesLess s.toList t.toList = less (bl s) (bl t) := by
  rw [Lib.toList_data, Lib.toList_data, less_map]; rfl
theorem less_irrefl : ∀ a, less a a = false
  | [] => rfl
  | a :: s => by simp [less, less_irrefl s]
theorem less_trans : ∀ {a b c : List Nat}, less a b = true → less b c = true → less a c = true
  | [], [], _, h, _ => by simp [less] at h
  | [], _ :: _, [], _, h => by simp [less] at h
  | [], _ :: _, _ :: _, _, _ => by simp [less]
  | _ :: _, [], _, h, _ => by simp [less] at h
  | _ :: _, _ :: _, [], _, h => by simp [less] at h
  | a :: s, b :: t, c :: u, h1, h2 => by
    simp only [less, Bool.or_eq_true, Bool.and_eq_true, decide_eq_true_eq] at h1 h2 ⊢
    rcases h1 with h1 | ⟨rfl, h1⟩ <;> rcases h2 with h2 | ⟨rfl, h2⟩
    · exact .inl (by omega)
    · exact .inl h1
    · exact .inl h2
    · exact .inr ⟨rfl, less_trans h1 h2⟩
theorem less_tri : ∀ {a b : List Nat}, less a b = false → less b a = false → a = b
  | [], [], _, _ => rfl
  | [], _ :: _, h, _ => by simp [less] at h
  | _ :: _, [], _, h => by simp [less] at h
  | a :: s, b :: t, h1, h2 => by
    simp only [less, Bool.or_eq_false_iff, Bool.and_eq_false_iff, decide_eq_false_iff_not] at h1 h2
    have e : a = b := by omega
    subst e
    have h3 : less s t = false := by simpa using h1.2
    have h4 : less t s = false := by simpa using h2.2
    rw [less_tri h3 h4]
/-- One key is less than another. -/
def ly (x y : ByteArray) : Bool := less (bl x) (bl y)
theorem ly_irrefl (x : ByteArray) : ly x x = false := less_irrefl _
theorem ly_trans {x y z : ByteArray} (h1 : ly x y = true) (h2 : ly y z = true) : ly x z = true := less_trans h1 h2
theorem ly_tri {x y : ByteArray} (h1 : ly x y = false) (h2 : ly y x = false) : x = y := bl_inj (less_tri h1 h2)
theorem ly_asymm {x y : ByteArray} (h : ly x y = true) : ly y x = false := by
  cases h2 : ly y x with
  | false => rfl
  | true => have := ly_trans h h2; rw [ly_irrefl] at this; cases this
theorem ly_ntrans {x y z : ByteArray} (h1 : ly x y = false) (h2 : ly y z = false) : ly x z = false := by
  cases h3 : ly x z with
  | false => rfl
  | true =>
    by_cases h4 : ly y x = true
    · have := ly_trans h4 h3; rw [h2] at this; cases this
    · have := ly_tri h1 (by simpa using h4)
      subst this
      rw [h2] at h3; cases h3

/-- The trees of a forest, each by itself; and back. -/
def trs : Fo → List Fo
  | .nil => []
  | .node k y n s c r => .node k y n s c .nil :: trs r
def cat : List Fo → Fo
  | [] => .nil
  | T :: ts => app T (cat ts)
theorem cat_trs : ∀ F, cat (trs F) = F
  | .nil => rfl
  | .node k y n s c r => by rw [trs, cat, cat_trs r]; rfl
theorem trs_app : ∀ F G, trs (app F G) = trs F ++ trs G
  | .nil, _ => rfl
  | .node k y n s c r, G => by rw [app, trs, trs, trs_app r G, List.cons_append]
theorem cat_append : ∀ a b, cat (a ++ b) = app (cat a) (cat b)
  | [], _ => rfl
  | T :: a, b => by rw [List.cons_append, cat, cat, cat_append a b, app_assoc]
/-- A tree by itself. -/
def Single (T : Fo) : Prop := ∃ k y n s c, T = .node k y n s c .nil
theorem trs_single : ∀ F, ∀ T ∈ trs F, Single T
  | .nil, T, h => by simp [trs] at h
  | .node k y n s c r, T, h => by
    rcases List.mem_cons.1 h with rfl | h
    · exact ⟨_, _, _, _, _, rfl⟩
    · exact trs_single r T h
theorem trs_cat : ∀ ts, (∀ T ∈ ts, Single T) → trs (cat ts) = ts
  | [], _ => rfl
  | T :: ts, h => by
    obtain ⟨k, y, n, s, c, rfl⟩ := h T (List.mem_cons_self ..)
    rw [cat, trs_app, trs_cat ts (fun S hS => h S (List.mem_cons_of_mem _ hS))]
    rfl
/-- A tree's key. -/
def kyo : Fo → ByteArray
  | .nil => ⟨#[]⟩
  | .node _ y _ _ _ _ => y
theorem keys_trs : ∀ F, keys F = (trs F).map kyo
  | .nil => rfl
  | .node k y n s c r => by rw [keys, trs, List.map_cons, keys_trs r]; rfl
theorem sz_cat_perm {a b : List Fo} (h : a.Perm b) : sz (cat a) = sz (cat b) := by
  induction h with
  | nil => rfl
  | cons x _ ih => rw [cat, cat, sz_app, sz_app, ih]
  | swap x y l => simp only [cat, sz_app]; omega
  | trans _ _ h1 h2 => rw [h1, h2]
theorem dep_cat_perm {a b : List Fo} (h : a.Perm b) : dep (cat a) = dep (cat b) := by
  induction h with
  | nil => rfl
  | cons x _ ih => rw [cat, cat, dep_app, dep_app, ih]
  | swap x y l => simp only [cat, dep_app]; omega
  | trans _ _ h1 h2 => rw [h1, h2]
theorem good_cat : ∀ ts, good (cat ts) ↔ ∀ T ∈ ts, good T
  | [] => by simp [cat, good]
  | T :: ts => by rw [cat, good_app, good_cat ts]; simp
/-- A tree is put in, ahead of the first one whose key is not less. -/
def insL (T : Fo) : List Fo → List Fo
  | [] => [T]
  | S :: ts => if ly (kyo S) (kyo T) = true then S :: insL T ts else T :: S :: ts
def srtL (ts : List Fo) : List Fo := ts.foldl (fun acc T => insL T acc) []
theorem insL_perm (T : Fo) : ∀ ts, (insL T ts).Perm (T :: ts)
  | [] => List.Perm.refl _
  | S :: ts => by
    unfold insL
    split
    · exact ((insL_perm T ts).cons S).trans (List.Perm.swap ..)
    · exact List.Perm.refl _
theorem foldl_perm : ∀ (ts acc : List Fo), (ts.foldl (fun acc T => insL T acc) acc).Perm (acc ++ ts)
  | [], acc => by simp
  | T :: ts, acc => by
    rw [List.foldl_cons]
    refine (foldl_perm ts (insL T acc)).trans ?_
    refine ((insL_perm T acc).append_right ts).trans ?_
    rw [List.cons_append]
    exact List.perm_middle.symm
theorem srtL_perm (ts : List Fo) : (srtL ts).Perm ts := by have := foldl_perm ts []; simpa [srtL] using this
/-- Rising keys. -/
def Rise (ts : List Fo) : Prop := ts.Pairwise fun a b => ly (kyo a) (kyo b) = true
theorem insL_rise (T : Fo) : ∀ ts, Rise ts → (∀ S ∈ ts, kyo S ≠ kyo T) → Rise (insL T ts)
  | [], _, _ => by simp [insL, Rise]
  | S :: ts, h, hne => by
    unfold Rise at h ⊢
    rw [List.pairwise_cons] at h
    unfold insL
    split
    · rename_i hl
      rw [List.pairwise_cons]
      refine ⟨fun U hU => ?_, insL_rise T ts h.2 (fun U hU => hne U (List.mem_cons_of_mem _ hU))⟩
      rcases List.mem_cons.1 ((insL_perm T ts).mem_iff.1 hU) with rfl | hU
      · exact hl
      · exact h.1 U hU
    · rename_i hl
      have hlt : ly (kyo T) (kyo S) = true := by
        cases h2 : ly (kyo T) (kyo S) with
        | true => rfl
        | false => exact absurd (ly_tri (by simpa using hl) h2) (hne S (List.mem_cons_self ..))
      rw [List.pairwise_cons, List.pairwise_cons]
      refine ⟨fun U hU => ?_, h.1, h.2⟩
      rcases List.mem_cons.1 hU with rfl | hU
      · exact hlt
      · exact ly_trans hlt (h.1 U hU)
theorem foldl_rise : ∀ (ts acc : List Fo), Rise acc → ((acc ++ ts).map kyo).Nodup → Rise (ts.foldl (fun acc T => insL T acc) acc)
  | [], acc, h, _ => h
  | T :: ts, acc, h, hn => by
    rw [List.foldl_cons]
    have hn' : ((T :: (acc ++ ts)).map kyo).Nodup := ((List.perm_middle (a := T) (l₁ := acc) (l₂ := ts)).map kyo).nodup_iff.1 hn
    refine foldl_rise ts _ (insL_rise T acc h fun S hS e => ?_) ?_
    · rw [List.map_cons, List.nodup_cons] at hn'
      exact hn'.1 (List.mem_map.2 ⟨S, List.mem_append_left _ hS, e⟩)
    · refine ((((insL_perm T acc).append_right ts).map kyo).nodup_iff).2 ?_
      exact hn'
theorem srtL_rise (ts : List Fo) (h : (ts.map kyo).Nodup) : Rise (srtL ts) := foldl_rise ts [] (by simp [Rise]) (by simpa using h)
/-- One order alone rises. -/
theorem rise_one : ∀ {a b : List Fo}, Rise a → Rise b → a.Perm b → a = b
  | [], b, _, _, h => (List.Perm.nil_eq h)
  | T :: ts, [], _, _, h => by have := h.length_eq; simp at this
  | T :: ts, S :: us, ha, hb, h => by
    unfold Rise at ha hb
    rw [List.pairwise_cons] at ha hb
    have e : T = S := by
      rcases List.mem_cons.1 (h.mem_iff.1 (List.mem_cons_self ..)) with e | h1
      · exact e
      · rcases List.mem_cons.1 (h.mem_iff.2 (List.mem_cons_self ..)) with e | h2
        · exact e.symm
        · have q1 := ha.1 S h2
          have q2 := hb.1 T h1
          rw [ly_asymm q1] at q2
          cases q2
    subst e
    rw [rise_one ha.2 hb.2 ((List.perm_cons _).1 h)]
theorem srtL_eq {ts us : List Fo} (h : (ts.map kyo).Nodup) (hp : us.Perm ts) (hr : Rise us) : us = srtL ts := rise_one hr (srtL_rise ts h) (hp.trans (srtL_perm ts).symm)

/-- All members by rising keys, below the top. -/
def sT : Fo → Fo
  | .nil => .nil
  | .node k y n s c r => .node k y n s (if k = 7 then cat (srtL (trs (sT c))) else sT c) (sT r)
theorem sT_app : ∀ F G, sT (app F G) = app (sT F) (sT G)
  | .nil, _ => rfl
  | .node k y n s c r, G => by rw [app, sT, sT, app, sT_app r G]
theorem sT_keys : ∀ F, keys (sT F) = keys F
  | .nil => rfl
  | .node k y n s c r => by rw [sT, keys, keys, sT_keys r]
theorem cat_srt_sz (F : Fo) : sz (cat (srtL (trs F))) = sz F := by rw [sz_cat_perm (srtL_perm _), cat_trs]
theorem sT_sz : ∀ F, sz (sT F) = sz F
  | .nil => rfl
  | .node k y n s c r => by
    rw [sT, sz_node, sz_node, sT_sz r]
    split
    · rw [cat_srt_sz, sT_sz c]
    · rw [sT_sz c]
theorem sT_dep : ∀ F, dep (sT F) = dep F
  | .nil => rfl
  | .node k y n s c r => by
    rw [sT]
    simp only [dep]
    rw [sT_dep r]
    split
    · rw [dep_cat_perm (srtL_perm _), cat_trs, sT_dep c]
    · rw [sT_dep c]
theorem keys_cat_perm {a b : List Fo} (h : a.Perm b) (hs : ∀ T ∈ a, Single T) (hs' : ∀ T ∈ b, Single T) : (keys (cat a)).Perm (keys (cat b)) := by
  rw [keys_trs, keys_trs, trs_cat a hs, trs_cat b hs']
  exact h.map kyo
theorem ko_perm {k : Int} {a b : List ByteArray} (h : a.Perm b) : ko k a ↔ ko k b := by
  unfold ko
  split
  · rw [h.nodup_iff]
    constructor
    · rintro ⟨h1, h2⟩; exact ⟨fun y hy => h1 y (h.mem_iff.2 hy), h2⟩
    · rintro ⟨h1, h2⟩; exact ⟨fun y hy => h1 y (h.mem_iff.1 hy), h2⟩
  · exact ⟨fun h1 y hy => h1 y (h.mem_iff.2 hy), fun h1 y hy => h1 y (h.mem_iff.1 hy)⟩
theorem srt_single (F : Fo) : ∀ T ∈ srtL (trs F), Single T := fun T hT => trs_single F T ((srtL_perm _).mem_iff.1 hT)
theorem keys_srt (F : Fo) : (keys (cat (srtL (trs F)))).Perm (keys F) := by
  have := keys_cat_perm (srtL_perm (trs F)) (srt_single F) (trs_single F)
  rwa [cat_trs] at this
theorem good_srt (F : Fo) (h : good F) : good (cat (srtL (trs F))) := by
  rw [good_cat]
  have h2 : good (cat (trs F)) := by rw [cat_trs]; exact h
  rw [good_cat] at h2
  exact fun T hT => h2 T ((srtL_perm _).mem_iff.1 hT)
theorem sT_good : ∀ F, good F → good (sT F)
  | .nil, _ => trivial
  | .node k y n s c r, ⟨g1, g2, g3, g4, g5⟩ => by
    rw [sT]
    refine ⟨g1, fun h => ?_, ?_, ?_, sT_good r g5⟩
    · have := g2 h
      subst this
      split <;> rfl
    · split
      · exact (ko_perm ((keys_srt _).trans (List.Perm.of_eq (sT_keys c)))).2 g3
      · rw [sT_keys]; exact g3
    · split
      · exact good_srt _ (sT_good c g4)
      · exact sT_good c g4
end Go.Proofs.YtgmdjofnkbaflaaGreatDoor.Tp

/- The chapter's example, plainly. -/
namespace Go.Proofs.YtgmdjofnkbaflaaGreatDoor
open Go.RowKit
set_option linter.unusedVariables false
set_option maxRecDepth 100000

def ky (x : UInt8) : ByteArray := ⟨#[x]⟩
def exC : Fo := .node 6 ⟨#[98]⟩ 0 ⟨#[]⟩ (.node 4 ⟨#[]⟩ 1 ⟨#[]⟩ .nil (.node 1 ⟨#[]⟩ 0 ⟨#[]⟩ .nil .nil)) (.node 3 ⟨#[97]⟩ 0 ⟨#[]⟩ .nil .nil)
def exF : Fo := .node 7 ⟨#[]⟩ 0 ⟨#[]⟩ exC .nil
def exL : List Nd := [⟨7, ⟨#[]⟩, 0, ⟨#[]⟩, 5⟩, ⟨6, ⟨#[98]⟩, 0, ⟨#[]⟩, 3⟩, ⟨4, ⟨#[]⟩, 1, ⟨#[]⟩, 1⟩, ⟨1, ⟨#[]⟩, 0, ⟨#[]⟩, 1⟩, ⟨3, ⟨#[97]⟩, 0, ⟨#[]⟩, 1⟩]
def exT : List Nd := [⟨7, ⟨#[]⟩, 0, ⟨#[]⟩, 5⟩, ⟨6, ⟨#[98]⟩, 0, ⟨#[]⟩, 3⟩, ⟨4, ⟨#[]⟩, 1, ⟨#[]⟩, 1⟩, ⟨1, ⟨#[]⟩, 0, ⟨#[]⟩, 1⟩, ⟨3, ⟨#[98]⟩, 0, ⟨#[]⟩, 1⟩]
def exP : List Nd := [⟨6, ⟨#[]⟩, 0, ⟨#[]⟩, 3⟩, ⟨4, ⟨#[]⟩, 1, ⟨#[]⟩, 1⟩, ⟨1, ⟨#[]⟩, 0, ⟨#[]⟩, 1⟩]
def exS : List Nd := [⟨7, ⟨#[]⟩, 0, ⟨#[]⟩, 5⟩, ⟨3, ⟨#[97]⟩, 0, ⟨#[]⟩, 1⟩, ⟨6, ⟨#[98]⟩, 0, ⟨#[]⟩, 3⟩, ⟨4, ⟨#[]⟩, 1, ⟨#[]⟩, 1⟩, ⟨1, ⟨#[]⟩, 0, ⟨#[]⟩, 1⟩]
theorem ex_ok : ∀ x ∈ exL, Nok x := by
  intro x hx
  simp only [exL, List.mem_cons, List.not_mem_nil, or_false] at hx
  rcases hx with rfl | rfl | rfl | rfl | rfl <;> (unfold Nok maxLen; refine ⟨⟨?_, ?_⟩, ?_, ⟨?_, ?_⟩, ?_, ⟨?_, ?_⟩⟩ <;> first | decide | simp)
theorem ext_ok : ∀ x ∈ exT, Nok x := by
  intro x hx
  simp only [exT, List.mem_cons, List.not_mem_nil, or_false] at hx
  rcases hx with rfl | rfl | rfl | rfl | rfl <;> (unfold Nok maxLen; refine ⟨⟨?_, ?_⟩, ?_, ⟨?_, ?_⟩, ?_, ⟨?_, ?_⟩⟩ <;> first | decide | simp)
theorem vld_a : Utf.vld (bl ⟨#[97]⟩) = true := by kernel_rfl
theorem vld_b : Utf.vld (bl ⟨#[98]⟩) = true := by kernel_rfl
theorem ab_ne : (⟨#[98]⟩ : ByteArray) ≠ ⟨#[97]⟩ := by decide
theorem ex_flat : Tp.flat exF = exL := rfl
theorem ex_good : Tp.good exF := by
  simp [exF, exC, Tp.good, Tp.hf, Tp.ko, Tp.keys, vld_a, vld_b]
  rfl
theorem ex_may : May exL exF := ⟨by decide, ⟨⟨7, ⟨#[]⟩, 0, ⟨#[]⟩, exC, rfl, rfl⟩, ex_good, ex_flat⟩, by decide⟩
theorem ex_chk : chk exL = 0 ∧ dpt exL = 3 := may_chk ex_may
theorem ex_cut : chk (exL.take 4) = 60 := by
  refine (chk_eq (d := 0) (.inr (.inl ⟨by decide, ?_, rfl, rfl⟩))).1
  rintro F ⟨⟨k, y, n, s, c, rfl, _⟩, _, hf⟩
  rw [Tp.flat_node] at hf
  have h1 := congrArg List.length hf
  have h2 := congrArg (fun l => l.head?.map Tp.Nd.size) hf
  simp [exL] at h1 h2
  have : (Tp.flat c).length = Tp.sz c := rfl
  omega
theorem nil_chk : chk [] = 60 := by
  refine (chk_eq (d := 0) (.inr (.inl ⟨by decide, ?_, rfl, rfl⟩))).1
  rintro F ⟨⟨k, y, n, s, c, rfl, _⟩, _, hf⟩
  rw [Tp.flat_node] at hf
  cases hf
theorem ext_chk : chk exT = 60 := by
  refine (chk_eq (d := 0) (.inr (.inl ⟨by decide, ?_, rfl, rfl⟩))).1
  rintro F ⟨_, hg, hf⟩
  have e : F = .node 7 ⟨#[]⟩ 0 ⟨#[]⟩ (.node 6 ⟨#[98]⟩ 0 ⟨#[]⟩ (.node 4 ⟨#[]⟩ 1 ⟨#[]⟩ .nil (.node 1 ⟨#[]⟩ 0 ⟨#[]⟩ .nil .nil)) (.node 3 ⟨#[98]⟩ 0 ⟨#[]⟩ .nil .nil)) .nil := Tp.flat_inj (hf.trans rfl)
  subst e
  simp [Tp.good, Tp.hf, Tp.ko, Tp.keys] at hg
theorem ex_kids : KidsIs exL [1, 4] := .inl ⟨7, ⟨#[]⟩, 0, ⟨#[]⟩, exC, ex_may, rfl⟩
theorem ex_part : PartIs exL 1 exP := .inl ⟨1, 6, ⟨#[98]⟩, 0, ⟨#[]⟩, .node 4 ⟨#[]⟩ 1 ⟨#[]⟩ .nil (.node 1 ⟨#[]⟩ 0 ⟨#[]⟩ .nil .nil), rfl, ex_chk.1, by decide, ⟨[⟨3, ⟨#[97]⟩, 0, ⟨#[]⟩, 1⟩], rfl⟩, rfl⟩
theorem ex_get : GetIs exL ⟨#[97]⟩ [nd1 3 0 ⟨#[]⟩] true :=
  .inl ⟨⟨#[]⟩, 0, ⟨#[]⟩, exC, .node 6 ⟨#[98]⟩ 0 ⟨#[]⟩ (.node 4 ⟨#[]⟩ 1 ⟨#[]⟩ .nil (.node 1 ⟨#[]⟩ 0 ⟨#[]⟩ .nil .nil)) .nil, 3, 0, ⟨#[]⟩, .nil, .nil, ex_may, rfl, by simp [Tp.keys], rfl, rfl⟩
theorem ex_none : GetIs exL ⟨#[99]⟩ [] false := .inr ⟨rfl, rfl, .inr ⟨7, ⟨#[]⟩, 0, ⟨#[]⟩, exC, ex_may, .inr (by simp [Tp.keys, exC])⟩⟩
theorem leaf_may (k n : Int) (s : ByteArray) (h : Tp.hf k n s) : May [nd1 k n s] (.node k ⟨#[]⟩ n s .nil .nil) :=
  ⟨by simp, ⟨⟨k, ⟨#[]⟩, n, s, .nil, rfl, rfl⟩, ⟨h, fun _ => rfl, Tp.ko_nil k, trivial, trivial⟩, rfl⟩, by simp [Tp.dep]⟩
theorem leaf_chk (k n : Int) (s : ByteArray) (h : Tp.hf k n s) : chk [nd1 k n s] = 0 ∧ dpt [nd1 k n s] = 1 := may_chk (leaf_may k n s h)
theorem null_hf : Tp.hf 1 0 ⟨#[]⟩ := .inl ⟨.inl rfl, rfl, rfl⟩
theorem bool_hf (b : Bool) : Tp.hf (if b = true then 3 else 2) 0 ⟨#[]⟩ := by cases b <;> exact .inl ⟨by simp, rfl, rfl⟩
theorem num_hf (n : Int) : Tp.hf 4 n ⟨#[]⟩ := .inr (.inl ⟨rfl, rfl⟩)
theorem part_may : May exP (.node 6 ⟨#[]⟩ 0 ⟨#[]⟩ (.node 4 ⟨#[]⟩ 1 ⟨#[]⟩ .nil (.node 1 ⟨#[]⟩ 0 ⟨#[]⟩ .nil .nil)) .nil) :=
  ⟨by decide, ⟨⟨6, ⟨#[]⟩, 0, ⟨#[]⟩, _, rfl, rfl⟩, by simp [Tp.good, Tp.hf, Tp.ko, Tp.keys]; rfl, rfl⟩, by decide⟩
theorem part_chk : chk exP = 0 ∧ dpt exP = 2 := may_chk part_may
theorem ex_twice : JoinIs 7 [⟨#[97]⟩, ⟨#[97]⟩] [[nd1 1 0 ⟨#[]⟩], [nd1 1 0 ⟨#[]⟩]] [] 71 := by
  have h : jerr 7 [⟨#[97]⟩, ⟨#[97]⟩] [[nd1 1 0 ⟨#[]⟩], [nd1 1 0 ⟨#[]⟩]] 2 = 71 := by
    simp [jerr, ke, okey, vld_a, (leaf_chk 1 0 ⟨#[]⟩ null_hf).1]
  exact ⟨.inl ⟨by rw [show ([[nd1 1 0 ⟨#[]⟩], [nd1 1 0 ⟨#[]⟩]] : List (List Nd)).length = 2 from rfl, h]; decide, h.symm, rfl⟩⟩
theorem ex_list : JoinIs 6 [⟨#[]⟩, ⟨#[]⟩] [[nd1 4 1 ⟨#[]⟩], [nd1 1 0 ⟨#[]⟩]] exP 0 := by
  have h : jerr 6 [⟨#[]⟩, ⟨#[]⟩] [[nd1 4 1 ⟨#[]⟩], [nd1 1 0 ⟨#[]⟩]] 2 = 0 := by
    simp [jerr, ke, lkey, (leaf_chk 1 0 ⟨#[]⟩ null_hf).1, (leaf_chk 4 1 ⟨#[]⟩ (num_hf 1)).1]
    exact fun h => absurd rfl h
  have h2 : jdp [[nd1 4 1 ⟨#[]⟩], [nd1 1 0 ⟨#[]⟩]] 2 = 2 := by
    simp [jdp, (leaf_chk 1 0 ⟨#[]⟩ null_hf).2, (leaf_chk 4 1 ⟨#[]⟩ (num_hf 1)).2]
  exact ⟨.inr ⟨h, .inr (.inr ⟨by decide, by show jdp _ 2 ≤ 64; rw [h2]; decide, rfl, rfl⟩)⟩⟩
theorem ex_obj : JoinIs 7 [⟨#[98]⟩, ⟨#[97]⟩] [exP, [nd1 3 0 ⟨#[]⟩]] exL 0 := by
  have ht := leaf_chk 3 0 ⟨#[]⟩ (bool_hf true)
  have h : jerr 7 [⟨#[98]⟩, ⟨#[97]⟩] [exP, [nd1 3 0 ⟨#[]⟩]] 2 = 0 := by
    simp [jerr, ke, okey, vld_a, vld_b, part_chk.1, ht.1]
  have h2 : jdp [exP, [nd1 3 0 ⟨#[]⟩]] 2 = 3 := by
    simp [jdp, part_chk.2, ht.2]
  exact ⟨.inr ⟨h, .inr (.inr ⟨by decide, by show jdp _ 2 ≤ 64; rw [h2]; decide, rfl, rfl⟩)⟩⟩
theorem ex_sort : (∃ F, May exL F ∧ exS = Tp.flat (Tp.sT F)) ∨ (chk exL ≠ 0 ∧ exS = []) := .inl ⟨exF, ex_may, by kernel_rfl⟩
theorem str_no : strL ⟨#[255]⟩ = [] := by unfold strL; rw [if_neg (by rw [show Utf.vld (bl ⟨#[255]⟩) = false by kernel_rfl]; simp)]
theorem str_yes : strL ⟨#[120]⟩ = [nd1 5 0 ⟨#[120]⟩] := by unfold strL; rw [if_pos (by kernel_rfl)]
end Go.Proofs.YtgmdjofnkbaflaaGreatDoor

/- Keys that are compared; the closure that the sort asks. -/
namespace Go.Proofs.YtgmdjofnkbaflaaGreatDoor
open Go.RowKit
set_option linter.unusedVariables false
set_option maxRecDepth 100000

def cmpB (x y : ByteArray) : Int := if Tp.ly x y = true then -1 else if Tp.ly y x = true then 1 else 0
theorem cmpB_lt (x y : ByteArray) : decide (cmpB x y < 0) = Tp.ly x y := by
  unfold cmpB
  cases h1 : Tp.ly x y <;> cases h2 : Tp.ly y x <;> simp
set_option maxHeartbeats 1000000 in
theorem isNaN (x : ByteArray) (w : World) : Calls Tryz.prog 107 #[.string x] w fun e w' => e = .returned (.bool false) ∧ w = w' := by
  have hq : (x.toList == x.toList) = true := by simp
  go_enter Tryz.func107, Tryz.ntmps107
  go_wp2_with fail
  go_ret
  exact ⟨by simp, rfl⟩
set_option maxHeartbeats 1000000 in
theorem cmpS (x y : ByteArray) (w : World) : Calls Tryz.prog 62 #[.string x, .string y] w fun e w' => e = .returned (.int .i64 (cmpB x y)) ∧ w = w' := by
  have C := fun x w => isNaN x w
  obtain ⟨r, hr⟩ : ∃ r, cmpB x y = r := ⟨_, rfl⟩
  rw [hr]
  unfold cmpB at hr
  have h1 := Tp.less_bl x y
  have h2 := Tp.less_bl y x
  unfold Tp.ly at hr
  have h3 : Tp.less (bl x) (bl y) = false → Tp.less (bl y) (bl x) = false → (x.toList == y.toList) = true := fun a b => by rw [bl_eq, Tp.less_tri a b]; simp
  have h4 : Tp.less (bl y) (bl x) = true → (x.toList == y.toList) = false := fun a => by
    rw [bl_eq]
    refine decide_eq_false fun e => ?_
    rw [e, Tp.less_irrefl] at a
    cases a
  generalize Tp.less (bl x) (bl y) = p at *
  generalize Tp.less (bl y) (bl x) = q at *
  have HC := Lib.hid C
  clear C
  cases p
  · cases q
    · obtain rfl : r = 0 := by simpa using hr.symm
      have h5 := h3 rfl rfl
      clear hr h3 h4
      go_enter Tryz.func62, Tryz.ntmps62
      go_wp2_with fail
      ((with_reducible refine (HC.out x _).mono ?_); rintro e w2 ⟨rfl, rfl⟩)
      go_wp2_with fail
      ((with_reducible refine (HC.out y _).mono ?_); rintro e w2 ⟨rfl, rfl⟩)
      go_wp2_with fail
      go_ret
      exact ⟨rfl, rfl⟩
    · obtain rfl : r = 1 := by simpa using hr.symm
      have h5 := h4 rfl
      clear hr h3 h4
      go_enter Tryz.func62, Tryz.ntmps62
      go_wp2_with fail
      ((with_reducible refine (HC.out x _).mono ?_); rintro e w2 ⟨rfl, rfl⟩)
      go_wp2_with fail
      ((with_reducible refine (HC.out y _).mono ?_); rintro e w2 ⟨rfl, rfl⟩)
      go_wp2_with fail
      go_ret
      exact ⟨rfl, rfl⟩
  · obtain rfl : r = -1 := by simpa using hr.symm
    clear hr h3 h4
    go_enter Tryz.func62, Tryz.ntmps62
    go_wp2_with fail
    ((with_reducible refine (HC.out x _).mono ?_); rintro e w2 ⟨rfl, rfl⟩)
    go_wp2_with fail
    ((with_reducible refine (HC.out y _).mono ?_); rintro e w2 ⟨rfl, rfl⟩)
    go_wp2_with fail
    go_ret
    exact ⟨rfl, rfl⟩
set_option maxHeartbeats 4000000 in
/-- The closure: two places are compared by their keys. -/
theorem cmpAt (l : List Nd) (v : Value) (tb : Nat) (w : World) (B : Nat) (h : RdN w B v l) (ht : w.cell? ⟨tb, 0, none⟩ = some v) (p q : Nat) (x y : Nd) (hx : l[p]? = some x) (hy : l[q]? = some y) :
    Calls Tryz.prog 61 #[.int .i64 p, .int .i64 q, .pointer (some ⟨tb, 0, none⟩)] w fun e w' => e = .returned (.int .i64 (cmpB x.key y.key)) ∧ ∃ n, w' = w.drewN n := by
  obtain ⟨ad, c, rfl, _⟩ := Gn.Rd.form h
  obtain ⟨b0, off, rfl, _, x1, _⟩ := rdN_cells h (Below.refl _ _) hx
  obtain ⟨b', off', e, _, y1, _⟩ := rdN_cells h (Below.refl _ _) hy
  obtain ⟨rfl, rfl⟩ : b0 = b' ∧ off = off' := by injection e with e; injection e with e1 e2; exact ⟨e1, e2⟩
  have f0 : ∀ n, (w.drewN n).cell? ⟨tb, 0, none⟩ = some (.slice (some ⟨b0, off, none⟩) l.length c) := fun n => ht
  have f1 : ∀ n, (w.drewN n).cell? ⟨b0, off + p * 5 + 1, none⟩ = some (.string x.key) := fun n => x1
  have f2 : ∀ n, (w.drewN n).cell? ⟨b0, off + q * 5 + 1, none⟩ = some (.string y.key) := fun n => y1
  have hp : (p : Int) < l.length := by have := (List.getElem?_eq_some_iff.1 hx).1; omega
  have hq : (q : Int) < l.length := by have := (List.getElem?_eq_some_iff.1 hy).1; omega
  have C := Lib.hid (fun w => cmpS x.key y.key w)
  clear h ht x1 y1 e hx hy
  go_enter Tryz.func61, Tryz.ntmps61
  go_wp2_with fail
  go_quiet ((go_at_call 62; exact Calls.quiet_of_same ((C.out _).mono (fun _ _ h => ⟨h.1, h.2.symm⟩))))
  go_wp2_with fail
  go_ret
  exact ⟨rfl, _, rfl⟩
end Go.Proofs.YtgmdjofnkbaflaaGreatDoor

/- The library's sort, at places that are compared by their keys. -/
namespace Go.Proofs.YtgmdjofnkbaflaaGreatDoor
open Go.RowKit Go.Shelf Go.Lib Go.Sort
set_option linter.unusedVariables false
set_option maxRecDepth 100000

/-- Places that there are. -/
def Pl (n : Nat) : Type := {i : Nat // i < n}
def encP {n : Nat} (x : Pl n) : Value := .int .i64 ((x.1 : Nat) : Int)
def keyAt (l : List Nd) (p : Nat) : ByteArray := match l[p]? with | some x => x.key | none => ⟨#[]⟩
theorem keyAt_is {l : List Nd} {p : Nat} {x : Nd} (h : l[p]? = some x) : keyAt l p = x.key := by unfold keyAt; rw [h]
def cfP (l : List Nd) (x y : Pl l.length) : Int := cmpB (keyAt l x.1) (keyAt l y.1)
theorem ltP (l : List Nd) (x y : Pl l.length) : ltOf (cfP l) x y = Tp.ly (keyAt l x.1) (keyAt l y.1) := cmpB_lt _ _
theorem swoP (l : List Nd) : SWO (ltOf (cfP l)) where
  irrefl x := by rw [ltP]; exact Tp.ly_irrefl _
  trans x y z h1 h2 := by rw [ltP] at *; exact Tp.ly_trans h1 h2
  ntrans x y z h1 h2 := by rw [ltP] at *; exact Tp.ly_ntrans h1 h2
section
variable {m : Nat} [Inhabited (Pl m)]
theorem sw_heap {w : World} {g n : Nat} {os : Array Obj} {cur : Array Value} {e : TypeId} {fr : Nat × Nat} (d : Array (Pl m)) (hb : w.heap[g]? = some (.cells cur e fr)) :
    (sortWorld encP w g 0 n d os).heap[g]? = some (.cells (putCells encP 0 d cur) e fr) := by
  have hg : g < w.heap.size := (Array.getElem?_eq_some_iff.1 hb).1
  unfold sortWorld
  rw [heap_grow_old _ _ (by simpa using hg)]
  simp [putRow, mapBlock, Sort.ahead, Array.getElem?_modify, hb, onCells]
theorem sw_touch {w : World} {g n : Nat} {os : Array Obj} (d : Array (Pl m)) : Touch (fun i => i = g) w (sortWorld encP w g 0 n d os) := by
  refine ⟨rfl, rfl, rfl, by simp [sortWorld], fun k hk hne => ?_⟩
  unfold sortWorld
  rw [heap_grow_old _ _ (by simpa using hk)]
  have : g ≠ k := fun e => hne e.symm
  simp [putRow, mapBlock, Sort.ahead, Array.getElem?_modify, this]
theorem take_put (cur : Array Value) (ts : List (Pl m)) (h : ts.length ≤ cur.size) : (putCells encP 0 ts.toArray cur).toList.take ts.length = ts.map encP := by
  apply List.ext_getElem?
  intro j
  by_cases hj : j < ts.length
  · rw [List.getElem?_take_of_lt hj, Array.getElem?_toList]
    simp [putCells, hj, show j < cur.size by omega]
  · rw [List.getElem?_take_eq_none (by omega), List.getElem?_eq_none (by simp; omega)]
end
theorem cells_plc {m : Nat} (d : List (Pl m)) : Gn.cells inc (d.map fun x => ((x.1 : Nat) : Int)) = d.map encP := by
  induction d with
  | nil => rfl
  | cons x d ih => rw [List.map_cons, Gn.cells_cons, ih]; rfl
set_option maxHeartbeats 4000000 in
theorem sortPl (l : List Nd) (v : Value) (tb : Nat) (w : World) (B : Nat) (hR : RdN w B v l) (hB : B ≤ w.heap.size) (ht : Blk w tb 22 [v]) (g cap base : Nat) (ps : List (Pl l.length)) (h0 : 0 < l.length) (hl : l.length ≤ 4000)
    (hown : OwnI w base (.slice (some ⟨g, 0, none⟩) ps.length cap) (ps.map fun x => ((x.1 : Nat) : Int))) (hg : B ≤ g) (htg : tb ≠ g) (hps : ps.length ≤ 4000) :
    Calls Tryz.prog 60 #[.slice (some ⟨g, 0, none⟩) ps.length cap, .func (.func 61) #[] #[.pointer (some ⟨tb, 0, none⟩)]] w fun e w' =>
      e = .returned (.tuple #[]) ∧ ∃ qs : List (Pl l.length), qs.Perm ps ∧ qs.Pairwise (fun a b => Tp.ly (keyAt l b.1) (keyAt l a.1) = false) ∧ OwnI w' base (.slice (some ⟨g, 0, none⟩) ps.length cap) (qs.map fun x => ((x.1 : Nat) : Int)) ∧ Touch (fun i => i = g) w w' := by
  letI : Inhabited (Pl l.length) := ⟨⟨0, h0⟩⟩
  have hrow : w.ownsRow base 3 1 (.slice (some ⟨g, 0, none⟩) (ps.map fun x => ((x.1 : Nat) : Int)).length cap) (ps.map fun x => ((x.1 : Nat) : Int)).length (Gn.cells inc (ps.map fun x => ((x.1 : Nat) : Int))) := by
    have := hown
    unfold OwnI Gn.Own at this
    rw [List.length_map] at this ⊢
    exact this
  rw [cells_plc, List.length_map] at hrow
  have hgl : g < w.heap.size := (World.ownsRow.lt hrow g rfl).2
  have hH : Holds encP w g 0 ps.toArray := fun j hj => by
    have hj' : j < ps.length := by simpa using hj
    refine ⟨?_, hrow.frozenAt _⟩
    rw [Nat.zero_add, hrow.cellAt j (by omega), List.getElem?_map, List.getElem?_eq_getElem hj']
    simp [hj']
  have hcmp : CmpLays1 Tryz.prog 61 #[.pointer (some ⟨tb, 0, none⟩)] encP (cfP l) g 0 ps.toArray.size w := fun m os dk _ x y => by
    have htch := sw_touch (w := w) (g := g) (n := m) (os := os) dk
    have hR2 : RdN (sortWorld encP w g 0 m dk os) B v l := Gn.Rd.below hR (htch.below hB (fun i e => by rw [e]; exact hg)) (Nat.le_refl _)
    have ht2 := (ht.touch htch htg).cell 0
    obtain ⟨xx, hxx⟩ : ∃ xx, l[x.1]? = some xx := ⟨_, List.getElem?_eq_getElem x.2⟩
    obtain ⟨yy, hyy⟩ : ∃ yy, l[y.1]? = some yy := ⟨_, List.getElem?_eq_getElem y.2⟩
    refine (cmpAt l v tb _ B hR2 ht2 x.1 y.1 xx yy hxx hyy).mono fun e w' ⟨he, n, hn⟩ => ⟨?_, n, #[], ?_⟩
    · rw [he, cfP, keyAt_is hxx, keyAt_is hyy]
    · rw [hn, grow_empty]
  have eg : ∀ args w, (callFunc 61 args).run Tryz.prog w = .ok (.enter 61 args) w := enters_of Tryz.func61 (by kernel_rfl) rfl
  have hcon := Tryz.slices_SortFunc encP (fun _ => rfl) (cfP l) (swoP l) 61 #[.pointer (some ⟨tb, 0, none⟩)] g 0 cap ps.toArray w eg hcmp hH hgl (by simp; omega)
  rw [show ps.toArray.size = ps.length by simp] at hcon
  refine hcon.mono fun e w' ⟨he, d', n, os, hp, hs, hw⟩ => ⟨he, d'.toList, ?_, ?_, ?_, ?_⟩
  · have h2 := hp.2.2
    have e1 : d'.size = ps.length := by have := hp.1; simpa using this
    rw [show d'.extract 0 ps.length = d' by rw [← e1]; simp, show ps.toArray.extract 0 ps.length = ps.toArray by simp] at h2
    exact h2
  · have e1 : d'.size = ps.length := by have := hp.1; simpa using this
    rw [List.pairwise_iff_getElem]
    intro i j hi hj hij
    have hi' : i < d'.size := by simpa using hi
    have hj' : j < d'.size := by simpa using hj
    have := hs i j (Nat.zero_le _) hij (by omega)
    rw [getElem!_pos d' j hj', getElem!_pos d' i hi', ltP] at this
    simpa using this
  · have e1 : d'.size = ps.length := by have := hp.1; simpa using this
    rw [hw]
    rcases hrow.2 with ⟨h, _⟩ | ⟨g', cap', cur, e2, hbase, hb, h1, h2, h3, h4⟩
    · cases h
    · injection e2 with e2 _ e3
      injection e2 with e2
      injection e2 with e2
      subst e2 e3
      unfold OwnI Gn.Own
      rw [cells_plc, List.length_map]
      have hll : d'.toList.length = ps.length := by simpa using e1
      rw [hll]
      refine ⟨by simp [e1], .inr ⟨g, cap, _, rfl, hbase, sw_heap d' hb, h1, h2, by simp [putCells, h3], ?_⟩⟩
      rw [Nat.mul_one, ← hll]
      have := take_put cur d'.toList (by rw [hll]; omega)
      simpa using this
  · rw [hw]; exact sw_touch _
theorem sortNone (p : Option Addr) (cap : Nat) (fv : Value) (w : World) : Calls Tryz.prog 60 #[.slice p 0 cap, fv] w fun e w' => e = .returned (.tuple #[]) ∧ w = w' :=
  (AnyF.slices_SortFunc_none { Tryz.laysSlF6_f60 with } p cap fv w).mono fun _ _ h => ⟨h.1, h.2.symm⟩
end Go.Proofs.YtgmdjofnkbaflaaGreatDoor

/- The trees that stand at places, plainly. -/
namespace Go.Proofs.YtgmdjofnkbaflaaGreatDoor
open Go.RowKit
set_option linter.unusedVariables false
set_option maxRecDepth 100000

theorem trs_sT : ∀ F : Fo, Tp.trs (Tp.sT F) = (Tp.trs F).map Tp.sT
  | .nil => rfl
  | .node k y n s c r => by rw [Tp.sT, Tp.trs, Tp.trs, List.map_cons, trs_sT r]; rfl
/-- Places, as numbers of nodes. -/
def plN : Nat → Fo → List Nat
  | _, .nil => []
  | o, .node k y n s c r => o :: plN (o + 1 + Tp.sz c) r
theorem plcs_plN : ∀ (o : Nat) (F : Fo), plcs o F = (plN o F).map fun (x : Nat) => (x : Int)
  | _, .nil => rfl
  | o, .node k y n s c r => by rw [plcs, plN, List.map_cons, plcs_plN]
/-- The tree at a place. -/
noncomputable def treeAt (l : List Nd) (p : Nat) : Fo := open Classical in if h : ∃ F, Tp.Val l p (l.length - p) F then h.choose else .nil
theorem treeAt_is {l : List Nd} {p : Nat} {F : Fo} {m : Nat} (h : Tp.Val l p m F) : treeAt l p = F := by
  have h' : ∃ F, Tp.Val l p (l.length - p) F := ⟨F, h.1, h.2.1, h.2.2.1, Tp.At.len h.2.1⟩
  unfold treeAt
  rw [dif_pos h']
  exact Tp.val_one h'.choose_spec h
theorem plN_lt {l : List Nd} : ∀ (o : Nat) (F : Fo), Tp.At l o F → ∀ p ∈ plN o F, p < l.length
  | _, .nil, _, p, hp => by simp [plN] at hp
  | o, .node k y n s c r, h, p, hp => by
    obtain ⟨h0, h1, h2⟩ := Tp.at_node.1 h
    rcases List.mem_cons.1 hp with rfl | hp
    · exact (List.getElem?_eq_some_iff.1 h0).1
    · exact plN_lt _ r h2 p hp
theorem plN_trees {l : List Nd} : ∀ (o : Nat) (F : Fo), Tp.At l o F → Tp.good F → (plN o F).map (treeAt l) = Tp.trs F
  | _, .nil, _, _ => rfl
  | o, .node k y n s c r, h, ⟨g1, g2, g3, g4, g5⟩ => by
    obtain ⟨h0, h1, h2⟩ := Tp.at_node.1 h
    rw [plN, List.map_cons, Tp.trs, plN_trees _ r h2 g5]
    rw [treeAt_is (F := .node k y n s c .nil) (m := l.length) ⟨⟨_, _, _, _, _, rfl⟩, Tp.at_node.2 ⟨h0, h1, Tp.At.nil _ _⟩, ⟨g1, g2, g3, g4, trivial⟩, by have := Tp.At.len (Tp.at_node.2 ⟨h0, h1, Tp.At.nil l (o + 1 + Tp.sz c)⟩); omega⟩]
theorem plN_keys {l : List Nd} : ∀ (o : Nat) (F : Fo), Tp.At l o F → Tp.good F → ∀ p ∈ plN o F, keyAt l p = Tp.kyo (treeAt l p) ∧ ∃ k y n s c, treeAt l p = .node k y n s c .nil ∧ Tp.At l p (.node k y n s c .nil) ∧ Tp.good (.node k y n s c .nil) ∧ Tp.sz (.node k y n s c .nil) ≤ Tp.sz F
  | _, .nil, _, _, p, hp => by simp [plN] at hp
  | o, .node k y n s c r, h, ⟨g1, g2, g3, g4, g5⟩, p, hp => by
    obtain ⟨h0, h1, h2⟩ := Tp.at_node.1 h
    rcases List.mem_cons.1 hp with rfl | hp
    · have hA : Tp.At l p (.node k y n s c .nil) := Tp.at_node.2 ⟨h0, h1, Tp.At.nil _ _⟩
      have hg : Tp.good (.node k y n s c .nil) := ⟨g1, g2, g3, g4, trivial⟩
      have e := treeAt_is (F := .node k y n s c .nil) (m := l.length) ⟨⟨_, _, _, _, _, rfl⟩, hA, hg, by have := Tp.At.len hA; omega⟩
      refine ⟨by rw [e, keyAt_is h0]; rfl, k, y, n, s, c, e, hA, hg, ?_⟩
      rw [Tp.sz_node, Tp.sz_node]; simp
    · obtain ⟨q1, k', y', n', s', c', q2, q3, q4, q5⟩ := plN_keys _ r h2 g5 p hp
      exact ⟨q1, k', y', n', s', c', q2, q3, q4, by rw [Tp.sz_node k y n s c r]; omega⟩
/-- What stands behind the parts that were put, in whatever order. -/
noncomputable def putF (l : List Nd) (ps : List Nat) : Fo := Tp.cat (ps.map fun p => Tp.sT (treeAt l p))
theorem putF_list {l : List Nd} {o : Nat} {c : Fo} (h : Tp.At l o c) (hg : Tp.good c) : putF l (plN o c) = Tp.sT c := by
  unfold putF
  have : (plN o c).map (fun p => Tp.sT (treeAt l p)) = (Tp.trs c).map Tp.sT := by rw [← plN_trees o c h hg, List.map_map]; rfl
  rw [this, ← trs_sT, Tp.cat_trs]
theorem putF_obj {l : List Nd} {o : Nat} {c : Fo} (h : Tp.At l o c) (hg : Tp.good c) (hk : Tp.ko 7 (Tp.keys c)) (qs : List Nat) (hp : qs.Perm (plN o c)) (hs : qs.Pairwise fun a b => Tp.ly (keyAt l b) (keyAt l a) = false) : putF l qs = Tp.cat (Tp.srtL (Tp.trs (Tp.sT c))) := by
  unfold putF
  have hmap : (plN o c).map (fun p => Tp.sT (treeAt l p)) = Tp.trs (Tp.sT c) := by rw [trs_sT, ← plN_trees o c h hg, List.map_map]; rfl
  have hnd : ((Tp.trs (Tp.sT c)).map Tp.kyo).Nodup := by
    rw [← Tp.keys_trs, Tp.sT_keys]
    unfold Tp.ko at hk
    rw [if_pos rfl] at hk
    exact hk.2
  have hperm : (qs.map fun p => Tp.sT (treeAt l p)).Perm (Tp.trs (Tp.sT c)) := hmap ▸ hp.map _
  have hkey : ∀ p ∈ qs, Tp.kyo (Tp.sT (treeAt l p)) = keyAt l p := fun p hpq => by
    obtain ⟨q1, k, y, n, s, c', q2, _⟩ := plN_keys o c h hg p (hp.mem_iff.1 hpq)
    rw [q1, q2]; rfl
  rw [Tp.srtL_eq hnd hperm ?_]
  unfold Tp.Rise
  have hnd2 : (qs.map fun p => keyAt l p).Nodup := by
    have e : (qs.map fun p => keyAt l p) = (qs.map fun p => Tp.sT (treeAt l p)).map Tp.kyo := by
      rw [List.map_map]
      exact List.map_congr_left fun p hp => (hkey p hp).symm
    rw [e]
    exact ((hperm.map Tp.kyo).nodup_iff).2 hnd
  rw [List.pairwise_map]
  unfold List.Nodup at hnd2
  rw [List.pairwise_map] at hnd2
  refine (List.Pairwise.and_mem.1 (hs.and hnd2)).imp fun {a b} hab => ?_
  obtain ⟨ha, hb, h1, h2⟩ := hab
  rw [hkey a ha, hkey b hb]
  cases h3 : Tp.ly (keyAt l a) (keyAt l b) with
  | true => rfl
  | false => exact absurd (Tp.ly_tri h3 h1) h2
end Go.Proofs.YtgmdjofnkbaflaaGreatDoor

/- The closure that puts a value, and its parts in their order, behind what was put. -/
namespace Go.Proofs.YtgmdjofnkbaflaaGreatDoor
open Go.RowKit
set_option linter.unusedVariables false
set_option maxRecDepth 100000

def pfn (sb tb pb : Nat) : Value := .func (.func 58) #[] #[.pointer (some ⟨sb, 0, none⟩), .pointer (some ⟨tb, 0, none⟩), .pointer (some ⟨pb, 0, none⟩)]
/-- The closure's variables: what was put, the nodes, itself. -/
structure PSt (w : World) (B base : Nat) (v : Value) (l : List Nd) (sb tb pb : Nat) (sv : Value) (acc : List Nd) : Prop where
  rd : RdN w B v l
  t : Blk w tb 22 [v]
  f : Blk w pb 79 [pfn sb tb pb]
  s : Blk w sb 22 [sv]
  own : OwnN w base sv acc
  nb : ∀ g, sv.ownBlock = some g → g ≠ sb ∧ g ≠ tb ∧ g ≠ pb ∧ B ≤ g
  bs : B ≤ sb
  bt : B ≤ tb
  bp : B ≤ pb
  st : sb ≠ tb
  sp : sb ≠ pb
  lo : B ≤ w.heap.size
  bb : base ≤ w.heap.size
theorem PSt.later {w w' : World} {B base : Nat} {v : Value} {l : List Nd} {sb tb pb : Nat} {sv : Value} {acc : List Nd} (h : PSt w B base v l sb tb pb sv acc) (hb : Below w.heap.size w w') : PSt w' B base v l sb tb pb sv acc :=
  ⟨Gn.Rd.below h.rd hb h.lo, h.t.later hb, h.f.later hb, h.s.later hb, Gn.Own.later h.own hb, h.nb, h.bs, h.bt, h.bp, h.st, h.sp, Nat.le_trans h.lo hb.size, Nat.le_trans h.bb hb.size⟩
/-- What may have been touched: the variable, and what it owned. -/
structure PR (sb : Nat) (w : World) (sv : Value) (w' : World) (sv' : Value) : Prop where
  touch : Touch (fun i => i = sb ∨ sv.ownBlock = some i) w w'
  own : ∀ g, sv'.ownBlock = some g → sv.ownBlock = some g ∨ w.heap.size ≤ g
theorem PR.refl (sb : Nat) (w : World) (sv : Value) : PR sb w sv w sv := ⟨Touch.refl _ _, fun g h => .inl h⟩
theorem PR.trans {sb : Nat} {w w1 w2 : World} {sv sv1 sv2 : Value} (h : PR sb w sv w1 sv1) (k : PR sb w1 sv1 w2 sv2) : PR sb w sv w2 sv2 :=
  ⟨h.touch.trans k.touch (fun i hi => hi.elim (fun e => .inl (.inl e)) (fun e => (h.own i e).elim (fun e => .inl (.inr e)) .inr)), fun g hg => (k.own g hg).elim (fun e => h.own g e) (fun e => .inr (Nat.le_trans h.touch.size e))⟩
theorem PR.below {sb : Nat} {w w' : World} {sv : Value} (h : Below w.heap.size w w') : PR sb w sv w' sv := ⟨Touch.of_below h, fun g hg => .inl hg⟩
/-- One more was appended, and the variable was written. -/
theorem PSt.put {w w1 : World} {B base : Nat} {v : Value} {l : List Nd} {sb tb pb : Nat} {sv v1 : Value} {acc acc1 : List Nd} (h : PSt w B base v l sb tb pb sv acc) (ho : OwnN w1 base v1 acc1) (hg : w.grownBy w1 sv.ownBlock) (hl : v1.ownBlock = sv.ownBlock ∨ v1.ownBlock = some w.heap.size) :
    PSt (w1.setCell ⟨sb, 0, none⟩ v1) B base v l sb tb pb v1 acc1 ∧ PR sb w sv (w1.setCell ⟨sb, 0, none⟩ v1) v1 ∧ w1.cell? ⟨sb, 0, none⟩ = some sv ∧ w1.frozen? ⟨sb, 0, none⟩ = false := by
  have hbel : Below B w w1 := (Below.refl _ _).grown hg h.lo (fun g hgg => (h.nb g hgg).2.2.2)
  have keep : ∀ k, k < w.heap.size → sv.ownBlock ≠ some k → w1.heap[k]? = w.heap[k]? := fun k hk hne => hg.block k hk (fun e => hne e.symm)
  have hs1 : Blk w1 sb 22 [sv] := (keep sb h.s.lt (fun e => (h.nb sb e).1 rfl)).trans h.s
  have ht1 : Blk w1 tb 22 [v] := (keep tb h.t.lt (fun e => (h.nb tb e).2.1 rfl)).trans h.t
  have hf1 : Blk w1 pb 79 [pfn sb tb pb] := (keep pb h.f.lt (fun e => (h.nb pb e).2.2.1 rfl)).trans h.f
  have hnb1 : ∀ g, v1.ownBlock = some g → g ≠ sb ∧ g ≠ tb ∧ g ≠ pb ∧ B ≤ g := fun g hgg => by
    rcases hl with hl | hl
    · exact h.nb g (hl ▸ hgg)
    · rw [hl] at hgg
      injection hgg with e
      have := h.s.lt
      have := h.t.lt
      have := h.f.lt
      have := h.lo
      omega
  have htch : Touch (fun i => i = sb) w1 (w1.setCell ⟨sb, 0, none⟩ v1) := Touch.setCell (S := fun i => i = sb) (p := ⟨sb, 0, none⟩) (Touch.refl _ _) rfl v1
  have hown2 : OwnN (w1.setCell ⟨sb, 0, none⟩ v1) base v1 acc1 := by
    obtain ⟨h0, h1⟩ := ho
    refine ⟨h0, ?_⟩
    rcases h1 with h1 | ⟨g, cap, cur, rfl, hg', hh, r⟩
    · exact .inl h1
    · have hgl : g < w1.heap.size := by
        rcases Nat.lt_or_ge g w1.heap.size with hlt | hge
        · exact hlt
        · rw [Array.getElem?_eq_none hge] at hh; cases hh
      exact .inr ⟨g, cap, cur, rfl, hg', (htch.block g hgl (fun e => (hnb1 g rfl).1 e)).trans hh, r⟩
  have hB1 : B ≤ w1.heap.size := Nat.le_trans h.lo hg.size
  refine ⟨⟨Gn.Rd.below h.rd (hbel.setCell (p := ⟨sb, 0, none⟩) h.bs v1) (Nat.le_refl _), ht1.touch htch (fun e => h.st e.symm), hf1.touch htch (fun e => h.sp e.symm), hs1.put 0 v1, hown2, hnb1, h.bs, h.bt, h.bp, h.st, h.sp, Nat.le_trans hB1 htch.size, Nat.le_trans h.bb (Nat.le_trans hg.size htch.size)⟩, ⟨Touch.setCell (p := ⟨sb, 0, none⟩) ⟨hg.os, hg.tape, hg.output, hg.size, fun k hk hne => keep k hk (fun e => hne (.inr e))⟩ (.inl rfl) v1, fun g hgg => hl.elim (fun e => .inl (e ▸ hgg)) (fun e => .inr (by rw [e] at hgg; injection hgg with e2; omega))⟩, hs1.cell 0, hs1.frozen 0⟩
theorem own_slice {w : World} {base : Nat} {v : Value} {l : List Nd} (h : OwnN w base v l) : ∃ a n c, v = .slice a n c := by
  rcases h.2 with ⟨rfl, _⟩ | ⟨g, cap, cur, rfl, _⟩
  · exact ⟨_, _, _, rfl⟩
  · exact ⟨_, _, _, rfl⟩
theorem pl_lift : ∀ (ps : List Nat) (n : Nat), (∀ p ∈ ps, p < n) → ∃ qs : List (Pl n), qs.map (·.1) = ps
  | [], _, _ => ⟨[], rfl⟩
  | p :: ps, n, h => by
    obtain ⟨qs, hq⟩ := pl_lift ps n (fun q hq => h q (List.mem_cons_of_mem _ hq))
    exact ⟨⟨p, h p (List.mem_cons_self ..)⟩ :: qs, congrArg (p :: ·) hq⟩
/-- The order in which parts are put. -/
structure QSt (l : List Nd) (a : Nat) (k : Int) (c : Fo) (w1 w : World) (pv : Value) (qs : List Nat) : Prop where
  perm : qs.Perm (plN (a + 1) c)
  is : putF l qs = (if k = 7 then Tp.cat (Tp.srtL (Tp.trs (Tp.sT c))) else Tp.sT c)
  own : OwnI w w1.heap.size pv (qs.map fun (x : Nat) => (x : Int))
  bel : Below w1.heap.size w1 w
theorem ownI_touch {S : Nat → Prop} {w w' : World} {base : Nat} {v : Value} {l : List Int} (h : OwnI w base v l) (ht : Touch S w w') (hn : ∀ g, v.ownBlock = some g → ¬ S g) : OwnI w' base v l := by
  obtain ⟨h0, h1⟩ := h
  refine ⟨h0, ?_⟩
  rcases h1 with h1 | ⟨g, cap, cur, rfl, hg, hh, r⟩
  · exact .inl h1
  · have hlt : g < w.heap.size := by
      rcases Nat.lt_or_ge g w.heap.size with hlt | hge
      · exact hlt
      · rw [Array.getElem?_eq_none hge] at hh; cases hh
    exact .inr ⟨g, cap, cur, rfl, hg, (ht.block g hlt (hn g rfl)).trans hh, r⟩
theorem putF_succ (l : List Nd) (qs : List Nat) (j : Nat) (p : Nat) (h : qs[j]? = some p) : putF l (qs.take (j + 1)) = Tp.app (putF l (qs.take j)) (Tp.sT (treeAt l p)) := by
  have hj := (List.getElem?_eq_some_iff.1 h).1
  unfold putF
  rw [List.take_succ_eq_append_getElem hj, List.map_append, Tp.cat_append, (List.getElem?_eq_some_iff.1 h).2]
  simp [Tp.cat, Tp.app_nil]
theorem putF_le (l : List Nd) (qs : List Nat) (j : Nat) : Tp.sz (putF l (qs.take j)) ≤ Tp.sz (putF l qs) := by
  conv => rhs; rw [← List.take_append_drop j qs]
  unfold putF
  rw [List.map_append, Tp.cat_append, Tp.sz_app]
  omega
theorem QSt.sz {l : List Nd} {a : Nat} {k : Int} {c : Fo} {w1 w : World} {pv : Value} {qs : List Nat} (h : QSt l a k c w1 w pv qs) : Tp.sz (putF l qs) = Tp.sz c := by
  rw [h.is]
  split
  · rw [Tp.cat_srt_sz, Tp.sT_sz]
  · rw [Tp.sT_sz]
/-- The claim. -/
def PClaim (B base : Nat) (v : Value) (l : List Nd) (sb tb pb n : Nat) : Prop :=
  ∀ (a : Nat) (A : Int) (k : Int) (y : ByteArray) (nn : Int) (s : ByteArray) (c : Fo) (w : World) (sv : Value) (acc : List Nd), Tp.sz c < n → A = (a : Nat) → Tp.At l a (.node k y nn s c .nil) → Tp.good (.node k y nn s c .nil) → acc.length + Tp.sz c ≤ 8000 → PSt w B base v l sb tb pb sv acc →
    Calls Tryz.prog 58 #[.int .i64 A, .pointer (some ⟨sb, 0, none⟩), .pointer (some ⟨tb, 0, none⟩), .pointer (some ⟨pb, 0, none⟩)] w fun e w' => e = .returned (.tuple #[]) ∧ ∃ sv', PSt w' B base v l sb tb pb sv' (acc ++ Tp.flat (Tp.sT (.node k y nn s c .nil))) ∧ PR sb w sv w' sv'

set_option maxHeartbeats 8000000 in
theorem put_step (B base : Nat) (v : Value) (l : List Nd) (hl : l.length ≤ 4000) (sb tb pb n : Nat) (IH : PClaim B base v l sb tb pb n) : PClaim B base v l sb tb pb (n + 1) := by
  intro a A k y nn s c w sv acc hn hA hAt hg hacc hP
  have h0 := (Tp.at_node.1 hAt).1
  have hlt : (a : Int) < l.length := by have := (List.getElem?_eq_some_iff.1 h0).1; omega
  have HP := Lib.hid hP
  have HAt := Lib.hid hAt
  have HG := Lib.hid hg
  obtain ⟨ad, cp, rfl, _⟩ := Gn.Rd.form hP.rd
  obtain ⟨b0, off, rfl, x0, x1, x2, x3, x4⟩ := rdN_cells hP.rd (Below.refl _ _) h0
  simp only at x0 x1 x2 x3 x4
  have cs := hP.s.cell 0
  have ct := hP.t.cell 0
  simp only [List.getElem?_cons_zero] at cs ct
  have d0 : w.drew.cell? ⟨b0, off + a * 5, none⟩ = some (.int .i64 k) := x0
  have d1 : w.drew.cell? ⟨b0, off + a * 5 + 1, none⟩ = some (.string y) := x1
  have d2 : w.drew.cell? ⟨b0, off + a * 5 + 2, none⟩ = some (.int .i64 nn) := x2
  have d3 : w.drew.cell? ⟨b0, off + a * 5 + 3, none⟩ = some (.string s) := x3
  have d4 : w.drew.cell? ⟨b0, off + a * 5 + 4, none⟩ = some (.int .i64 (1 + (Tp.sz c : Nat))) := x4
  have ds : w.drew.cell? ⟨sb, 0, none⟩ = some sv := cs
  have dt : w.drew.cell? ⟨tb, 0, none⟩ = some (.slice (some ⟨b0, off, none⟩) l.length cp) := ct
  have es : (w.alloc (.cells #[.int .i64 k, .string y, .int .i64 nn, .string s, .int .i64 (1 + (Tp.sz c : Nat))] 28)).cell? ⟨sb, 0, none⟩ = some sv := (hP.s.later (up_new w _)).cell 0
  obtain rfl := hA
  have hB2 : Below w.heap.size w (w.drew.alloc (.cells #[.int .i64 k, .string y, .int .i64 nn, .string s, .int .i64 (1 + (Tp.sz c : Nat))] 28)) := (Below.refl _ _).drew.alloc (Nat.le_refl _) _
  have HP2 := Lib.hid (hP.later hB2)
  have HR1 := Lib.hid (rd_one 28 ndL w.drew (⟨k, y, nn, s, 1 + (Tp.sz c : Nat)⟩ : Nd) #[.int .i64 k, .string y, .int .i64 nn, .string s, .int .i64 (1 + (Tp.sz c : Nat))] rfl)
  have HB2 := Lib.hid hB2
  clear hP hAt hg h0 x0 x1 x2 x3 x4 cs ct hB2
  go_enter Tryz.func58, Tryz.ntmps58
  go_wp2_with fail
  go_cut [] from 8 to 14 (fun wx => ∃ sv1, Hid (PSt wx B base (.slice (some ⟨b0, off, none⟩) l.length cp) l sb tb pb sv1 (acc ++ [⟨k, y, nn, s, 1 + (Tp.sz c : Nat)⟩]) ∧ PR sb w sv wx sv1))
  case first =>
    go_region_law (refine Gn.step_app ndL ndY rfl (.tmp 8) (.tmp 13) rfl base sv acc rfl HP2.out.own _ _ rfl HR1.out (by simp; omega) HP2.out.bb ?_; intro v1 w1 ho1 hg1 hl1; obtain ⟨a1, n1, c1, rfl⟩ := own_slice ho1; have hq1 := (HP2.out.put ho1 hg1 hl1).2.2.1; have hq2 := (HP2.out.put ho1 hg1 hl1).2.2.2)
    all_goals
      go_wp2_with fail
      go_meet
      exact ⟨_, Lib.hid ⟨(HP2.out.put ho1 hg1 hl1).1, (PR.below HB2.out).trans (HP2.out.put ho1 hg1 hl1).2.1⟩⟩
  case rest =>
    obtain ⟨sv1, HC⟩ := hcut
    obtain ⟨w1, rfl⟩ : ∃ w1, w1 = wc := ⟨wc, rfl⟩
    have HP1 := Lib.hid HC.out.1
    have HPR := Lib.hid HC.out.2
    have ct1 := HP1.out.t.cell 0
    simp only [List.getElem?_cons_zero] at ct1
    have CP := Lib.hid (partsOf w1 _ l a a w1 (Gn.Rd.more HP1.out.rd HP1.out.lo) hl (Below.refl _ _) rfl k nn y s c HAt.out)
    clear d0 d1 d2 d3 d4 ds dt es HP2 HR1 HB2 HC
    go_wp2_with fail
    ((with_reducible refine (CP.out).mono ?_); rintro e w2 ⟨pv, rfl, ho, b2⟩)
    have HP2 := Lib.hid (HP1.out.later b2)
    have HB2 := Lib.hid b2
    have ct2 := HP2.out.t.cell 0
    simp only [List.getElem?_cons_zero] at ct2
    obtain ⟨b', off', e, x0, _, _, _, _⟩ := rdN_cells HP2.out.rd (Below.refl _ _) (Tp.at_node.1 HAt.out).1
    obtain ⟨rfl, rfl⟩ : b0 = b' ∧ off = off' := by injection e with e; injection e with e1 e2; exact ⟨e1, e2⟩
    simp only at x0
    have HO := Lib.hid ho
    rw [plcs_plN] at HO
    clear b2 e ct1 ho
    by_cases h7 : k = 7
    · have h7q : ((k : Int) == 7) = true := by simpa using h7
      obtain ⟨ps, hps⟩ := pl_lift (plN (a + 1) c) l.length (plN_lt (a + 1) c (Tp.at_node.1 HAt.out).2.1)
      have HG5 := Lib.hid HG.out.2.2.2.1
      have HG3 : Hid (Tp.ko 7 (Tp.keys c)) := Lib.hid (h7 ▸ HG.out.2.2.1)
      have hmap : (plN (a + 1) c).map (fun (x : Nat) => (x : Int)) = ps.map fun x => ((x.1 : Nat) : Int) := by rw [← hps, List.map_map]; rfl
      have hplen : ps.length ≤ 4000 := by
        have h1 := plcs_len (a + 1) c
        rw [plcs_plN, List.length_map, ← hps, List.length_map] at h1
        have h2 := Tp.At.len HAt.out
        rw [Tp.sz_node, Tp.sz_nil] at h2
        omega
      have HPL : Hid ((plN (a + 1) c).length = ps.length) := Lib.hid (by rw [← hps, List.length_map])
      by_cases hz : ps.length = 0
      · have hn0 : plN (a + 1) c = [] := by rw [← hps, List.eq_nil_of_length_eq_zero hz]; rfl
        obtain ⟨pa, pc, hpv⟩ : ∃ pa pc, pv = .slice pa 0 pc := by
          obtain ⟨pa, pc, e, _⟩ := Gn.Rd.form (Gn.Own.rd inL HO.out)
          rw [hmap, List.length_map, hz] at e
          exact ⟨pa, pc, e⟩
        subst hpv
        have hn1 := hn0
        have HQ : Hid ([].Perm (plN (a + 1) c) ∧ putF l [] = (if k = 7 then Tp.cat (Tp.srtL (Tp.trs (Tp.sT c))) else Tp.sT c)) := Lib.hid ⟨by rw [hn0], by
          rw [if_pos h7]; exact putF_obj (Tp.at_node.1 HAt.out).2.1 HG5.out HG3.out [] (by rw [hn0]) List.Pairwise.nil⟩
        have HO' := HO
        rw [hn0] at HO'
        have CS := Lib.hid (fun fv => sortNone pa pc fv w2)
        clear hmap hps hn0 h7
        go_wp2_with fail
        ((with_reducible refine (CS.out _).mono ?_); rintro e w3 ⟨rfl, rfl⟩)
        obtain ⟨wx, rfl⟩ : ∃ wx, wx = w2 := ⟨w2, rfl⟩
        obtain ⟨qs, HC2⟩ : ∃ qs : List Nat, Hid (QSt l a k c w1 wx (.slice pa 0 pc) qs) := ⟨[], Lib.hid ⟨HQ.out.1, HQ.out.2, HO'.out, HB2.out⟩⟩
        have hN : qs.length = 0 := by
          have h1 := HC2.out.perm.length_eq
          rw [hn1] at h1; simpa using h1
        clear HQ HO' HO CS HB2 HP2 ct2 x0
        go_wp2_with fail
        go_loopw [29] (fun i wr => ∃ (j : Nat) (svj : Value), i = .int .i64 (j : Nat) ∧ j ≤ qs.length ∧ Hid (PSt wr B base (.slice (some ⟨b0, off, none⟩) l.length cp) l sb tb pb svj (acc ++ [⟨k, y, nn, s, 1 + (Tp.sz c : Nat)⟩] ++ Tp.flat (putF l (qs.take j))) ∧ PR sb wx sv1 wr svj)) (fun i _ => qs.length - (intOf i).toNat)
        case atStart => exact ⟨0, sv1, by rfl, by omega, Lib.hid ⟨by simpa [putF, Tp.cat] using HP1.out.later HC2.out.bel, PR.refl _ _ _⟩⟩
        case round =>
          obtain ⟨j, svj, rfl, hj, HJ⟩ := hrel
          have hNN := hN
          by_cases hjl : j < qs.length
          · exfalso; omega
          · have HF : Hid (acc ++ [(⟨k, y, nn, s, 1 + (Tp.sz c : Nat)⟩ : Nd)] ++ Tp.flat (putF l (qs.take j)) = acc ++ Tp.flat (Tp.sT (.node k y nn s c .nil))) := Lib.hid (by
              rw [List.take_of_length_le (by omega), Tp.sT, Tp.flat_node, ← HC2.out.is, HC2.out.sz]
              simp [Tp.sT])
            have hjN : ¬ (j : Int) < qs.length := by omega
            rw [hN] at hjN
            clear hNN
            go_wp2_with fail
            go_end0
            exact ⟨rfl, svj, by rw [← HF.out]; exact HJ.out.1, HPR.out.trans ((PR.below HC2.out.bel).trans HJ.out.2)⟩
      · have HO' := HO
        rw [hmap] at HO'
        obtain ⟨g, cap, hpv, hgb⟩ : ∃ g cap, pv = .slice (some ⟨g, 0, none⟩) ps.length cap ∧ w1.heap.size ≤ g := by
          rcases HO'.out.2 with ⟨_, h⟩ | ⟨g, cap, cur, e, hb, _⟩
          · rw [List.length_map] at h; exact absurd h hz
          · rw [List.length_map] at e; exact ⟨g, cap, e, hb⟩
        subst hpv
        have CS := Lib.hid (sortPl l _ tb w2 B HP2.out.rd HP2.out.lo HP2.out.t g cap w1.heap.size ps (by omega) hl HO'.out (by have := HP1.out.lo; omega) (by have := HP1.out.t.lt; omega) hplen)
        have HQ : Hid (∀ qs : List (Pl l.length), qs.Perm ps → qs.Pairwise (fun a b => Tp.ly (keyAt l b.1) (keyAt l a.1) = false) → (qs.map (·.1)).Perm (plN (a + 1) c) ∧ putF l (qs.map (·.1)) = (if k = 7 then Tp.cat (Tp.srtL (Tp.trs (Tp.sT c))) else Tp.sT c)) := Lib.hid (fun qs h1 h2 => by
          have h3 : (qs.map (·.1)).Perm (plN (a + 1) c) := by rw [← hps]; exact h1.map _
          exact ⟨h3, by rw [if_pos h7]; exact putF_obj (Tp.at_node.1 HAt.out).2.1 HG5.out HG3.out _ h3 (by rw [List.pairwise_map]; exact h2)⟩)
        clear hmap hps hz h7
        go_wp2_with fail
        ((with_reducible refine (CS.out).mono ?_); rintro e w3 ⟨rfl, qs, h1, h2, h3, h4⟩)
        have HQ2 := Lib.hid (HQ.out qs h1 h2)
        have HO3 := Lib.hid h3
        have HB3 := Lib.hid (HB2.out.trans (h4.below HB2.out.size (fun i e => by rw [e]; exact hgb)))
        clear h1 h2 h3 h4
        obtain ⟨wx, rfl⟩ : ∃ wx, wx = w3 := ⟨w3, rfl⟩
        obtain ⟨qs, HC2⟩ : ∃ qs : List Nat, Hid (QSt l a k c w1 wx (.slice (some ⟨g, 0, none⟩) ps.length cap) qs) := ⟨qs.map (·.1), Lib.hid ⟨HQ2.out.1, HQ2.out.2, by rw [List.map_map]; exact HO3.out, HB3.out⟩⟩
        have hN : qs.length = ps.length := by
          have h1 := HC2.out.perm.length_eq
          have h2 := HPL.out
          omega
        clear HQ HQ2 HO' HO HO3 CS HB2 HB3 HP2 ct2 x0
        go_wp2_with fail
        go_loopw [29] (fun i wr => ∃ (j : Nat) (svj : Value), i = .int .i64 (j : Nat) ∧ j ≤ qs.length ∧ Hid (PSt wr B base (.slice (some ⟨b0, off, none⟩) l.length cp) l sb tb pb svj (acc ++ [⟨k, y, nn, s, 1 + (Tp.sz c : Nat)⟩] ++ Tp.flat (putF l (qs.take j))) ∧ PR sb wx sv1 wr svj)) (fun i _ => qs.length - (intOf i).toNat)
        case atStart => exact ⟨0, sv1, by rfl, by omega, Lib.hid ⟨by simpa [putF, Tp.cat] using HP1.out.later HC2.out.bel, PR.refl _ _ _⟩⟩
        case round =>
          obtain ⟨j, svj, rfl, hj, HJ⟩ := hrel
          have hNN := hN
          by_cases hjl : j < qs.length
          · obtain ⟨p, hp⟩ : ∃ p, qs[j]? = some p := ⟨_, List.getElem?_eq_getElem hjl⟩
            obtain ⟨hkey, k', y', n', s', c', q2, q3, q4, q5⟩ := plN_keys (a + 1) c (Tp.at_node.1 HAt.out).2.1 HG.out.2.2.2.1 p (HC2.out.perm.mem_iff.1 (List.mem_of_getElem? hp))
            have hsz1 := putF_le l qs (j + 1)
            rw [HC2.out.sz, putF_succ l qs j p hp, q2, Tp.sz_app, Tp.sT_sz, Tp.sz_node, Tp.sz_nil] at hsz1
            have hsc := Tp.At.len HAt.out
            rw [Tp.sz_node, Tp.sz_nil] at hsc
            have CI := Lib.hid (IH p p k' y' n' s' c' wr svj _ (by omega) rfl q3 q4 (by simp only [List.length_append, List.length_singleton]; have e : (Tp.flat (putF l (qs.take j))).length = Tp.sz (putF l (qs.take j)) := rfl; omega) HJ.out.1)
            have HO1 := Lib.hid (ownI_touch HC2.out.own HJ.out.2.touch (fun g hgg hor => by
              have h1 := (Gn.Own.lt HC2.out.own g hgg).1
              have h2 := HP1.out.s.lt
              rcases hor with e | e
              · omega
              · have := (Gn.Own.lt HP1.out.own g e).2; omega))
            obtain ⟨pb', po', epb, pc'⟩ := rdI_cell (Gn.Own.rd inL HO1.out) (Below.refl _ _) (show (qs.map fun (x : Nat) => (x : Int))[j]? = some (p : Int) by rw [List.getElem?_map, hp]; rfl)
            first | subst epb | (injection epb with e1; injection e1 with e2 e3; subst e2 e3)
            simp only [Nat.zero_add] at pc'
            have cf := HJ.out.1.f.cell 0
            simp only [List.getElem?_cons_zero, pfn] at cf
            have hq40 : (qs.length : Int) ≤ 4000 := by
              have h1 := HC2.out.perm.length_eq
              have h2 := plcs_len (a + 1) c
              rw [plcs_plN, List.length_map] at h2
              omega
            have HS : Hid (acc ++ [(⟨k, y, nn, s, 1 + (Tp.sz c : Nat)⟩ : Nd)] ++ Tp.flat (putF l (qs.take (j + 1))) = acc ++ [(⟨k, y, nn, s, 1 + (Tp.sz c : Nat)⟩ : Nd)] ++ Tp.flat (putF l (qs.take j)) ++ Tp.flat (Tp.sT (.node k' y' n' s' c' .nil))) := Lib.hid (by rw [putF_succ l qs j p hp, q2, Tp.flat_app, List.append_assoc, List.append_assoc, List.append_assoc])
            have hjN : (j : Int) < qs.length := by omega
            rw [hN] at hjN
            clear hp hkey q2 q3 q4 q5 hsz1 hsc hNN
            go_wp2_with fail
            ((with_reducible refine (CI.out).mono ?_); rintro e w5 ⟨rfl, sv5, hp5, hr5⟩)
            have HJ5 := Lib.hid (And.intro hp5 (HJ.out.2.trans hr5))
            clear hp5 hr5 CI HO1 pc' cf
            go_wp2_with fail
            go_roundw
            case rel => exact ⟨j + 1, sv5, by go_num, by omega, Lib.hid ⟨by rw [HS.out]; exact HJ5.out.1, HJ5.out.2⟩⟩
            case measure => simp [intOf] <;> omega
          · have HF : Hid (acc ++ [(⟨k, y, nn, s, 1 + (Tp.sz c : Nat)⟩ : Nd)] ++ Tp.flat (putF l (qs.take j)) = acc ++ Tp.flat (Tp.sT (.node k y nn s c .nil))) := Lib.hid (by
              rw [List.take_of_length_le (by omega), Tp.sT, Tp.flat_node, ← HC2.out.is, HC2.out.sz]
              simp [Tp.sT])
            have hjN : ¬ (j : Int) < qs.length := by omega
            rw [hN] at hjN
            clear hNN
            go_wp2_with fail
            go_end0
            exact ⟨rfl, svj, by rw [← HF.out]; exact HJ.out.1, HPR.out.trans ((PR.below HC2.out.bel).trans HJ.out.2)⟩
    · have HQ : Hid (putF l (plN (a + 1) c) = (if k = 7 then Tp.cat (Tp.srtL (Tp.trs (Tp.sT c))) else Tp.sT c)) := Lib.hid (by rw [if_neg h7]; exact putF_list (Tp.at_node.1 HAt.out).2.1 HG.out.2.2.2.1)
      have h7' : ((k : Int) == 7) = false := by simpa using h7
      obtain ⟨wx, rfl⟩ : ∃ wx, wx = w2 := ⟨w2, rfl⟩
      obtain ⟨qs, HC2⟩ : ∃ qs : List Nat, Hid (QSt l a k c w1 wx pv qs) := ⟨_, Lib.hid ⟨List.Perm.refl _, HQ.out, HO.out, HB2.out⟩⟩
      obtain ⟨pa, pc, hpv, _⟩ := Gn.Rd.form (Gn.Own.rd inL HC2.out.own)
      obtain ⟨N, hN⟩ : ∃ N, qs.length = N := ⟨_, rfl⟩
      rw [List.length_map, hN] at hpv
      subst hpv
      clear HQ HO HB2 HP2
      go_wp2_with fail
      go_loopw [29] (fun i wr => ∃ (j : Nat) (svj : Value), i = .int .i64 (j : Nat) ∧ j ≤ qs.length ∧ Hid (PSt wr B base (.slice (some ⟨b0, off, none⟩) l.length cp) l sb tb pb svj (acc ++ [⟨k, y, nn, s, 1 + (Tp.sz c : Nat)⟩] ++ Tp.flat (putF l (qs.take j))) ∧ PR sb wx sv1 wr svj)) (fun i _ => qs.length - (intOf i).toNat)
      case atStart => exact ⟨0, sv1, by rfl, by omega, Lib.hid ⟨by simpa [putF, Tp.cat] using HP1.out.later HC2.out.bel, PR.refl _ _ _⟩⟩
      case round =>
        obtain ⟨j, svj, rfl, hj, HJ⟩ := hrel
        have hNN := hN
        by_cases hjl : j < qs.length
        · obtain ⟨p, hp⟩ : ∃ p, qs[j]? = some p := ⟨_, List.getElem?_eq_getElem hjl⟩
          obtain ⟨hkey, k', y', n', s', c', q2, q3, q4, q5⟩ := plN_keys (a + 1) c (Tp.at_node.1 HAt.out).2.1 HG.out.2.2.2.1 p (HC2.out.perm.mem_iff.1 (List.mem_of_getElem? hp))
          have hsz1 := putF_le l qs (j + 1)
          rw [HC2.out.sz, putF_succ l qs j p hp, q2, Tp.sz_app, Tp.sT_sz, Tp.sz_node, Tp.sz_nil] at hsz1
          have hsc := Tp.At.len HAt.out
          rw [Tp.sz_node, Tp.sz_nil] at hsc
          have CI := Lib.hid (IH p p k' y' n' s' c' wr svj _ (by omega) rfl q3 q4 (by simp only [List.length_append, List.length_singleton]; have e : (Tp.flat (putF l (qs.take j))).length = Tp.sz (putF l (qs.take j)) := rfl; omega) HJ.out.1)
          have HO1 := Lib.hid (ownI_touch HC2.out.own HJ.out.2.touch (fun g hgg hor => by
            have h1 := (Gn.Own.lt HC2.out.own g hgg).1
            have h2 := HP1.out.s.lt
            rcases hor with e | e
            · omega
            · have := (Gn.Own.lt HP1.out.own g e).2; omega))
          obtain ⟨pb', po', epb, pc'⟩ := rdI_cell (Gn.Own.rd inL HO1.out) (Below.refl _ _) (show (qs.map fun (x : Nat) => (x : Int))[j]? = some (p : Int) by rw [List.getElem?_map, hp]; rfl)
          first | subst epb | (injection epb with e1; injection e1 with e2 e3; subst e2 e3)
          have cf := HJ.out.1.f.cell 0
          simp only [List.getElem?_cons_zero, pfn] at cf
          have hq40 : (qs.length : Int) ≤ 4000 := by
            have h1 := HC2.out.perm.length_eq
            have h2 := plcs_len (a + 1) c
            rw [plcs_plN, List.length_map] at h2
            omega
          have HS : Hid (acc ++ [(⟨k, y, nn, s, 1 + (Tp.sz c : Nat)⟩ : Nd)] ++ Tp.flat (putF l (qs.take (j + 1))) = acc ++ [(⟨k, y, nn, s, 1 + (Tp.sz c : Nat)⟩ : Nd)] ++ Tp.flat (putF l (qs.take j)) ++ Tp.flat (Tp.sT (.node k' y' n' s' c' .nil))) := Lib.hid (by rw [putF_succ l qs j p hp, q2, Tp.flat_app, List.append_assoc, List.append_assoc, List.append_assoc])
          have hjN : (j : Int) < qs.length := by omega
          rw [hN] at hjN
          clear hp hkey q2 q3 q4 q5 hsz1 hsc hNN
          go_wp2_with fail
          ((with_reducible refine (CI.out).mono ?_); rintro e w5 ⟨rfl, sv5, hp5, hr5⟩)
          have HJ5 := Lib.hid (And.intro hp5 (HJ.out.2.trans hr5))
          clear hp5 hr5 CI HO1 pc' cf
          go_wp2_with fail
          go_roundw
          case rel => exact ⟨j + 1, sv5, by go_num, by omega, Lib.hid ⟨by rw [HS.out]; exact HJ5.out.1, HJ5.out.2⟩⟩
          case measure => simp [intOf] <;> omega
        · have HF : Hid (acc ++ [(⟨k, y, nn, s, 1 + (Tp.sz c : Nat)⟩ : Nd)] ++ Tp.flat (putF l (qs.take j)) = acc ++ Tp.flat (Tp.sT (.node k y nn s c .nil))) := Lib.hid (by
            rw [List.take_of_length_le (by omega), Tp.sT, Tp.flat_node, ← HC2.out.is, HC2.out.sz]
            simp [Tp.sT])
          have hjN : ¬ (j : Int) < qs.length := by omega
          rw [hN] at hjN
          clear hNN
          go_wp2_with fail
          go_end0
          exact ⟨rfl, svj, by rw [← HF.out]; exact HJ.out.1, HPR.out.trans ((PR.below HC2.out.bel).trans HJ.out.2)⟩
end Go.Proofs.YtgmdjofnkbaflaaGreatDoor

/- Sorted (the program's). -/
namespace Go.Proofs.YtgmdjofnkbaflaaGreatDoor
open Go.RowKit
set_option linter.unusedVariables false
set_option maxRecDepth 100000

theorem put_claim (B base : Nat) (v : Value) (l : List Nd) (hl : l.length ≤ 4000) (sb tb pb : Nat) : ∀ n, PClaim B base v l sb tb pb n
  | 0 => fun a A k y nn s c w sv acc hn => absurd hn (Nat.not_lt_zero _)
  | n + 1 => put_step B base v l hl sb tb pb n (put_claim B base v l hl sb tb pb n)
theorem node_room (w : World) (s : Nat) (hm : s ≤ 4000) :
    (Instr.makeSlice 22 (.int .i64 0) (.int .i64 (s : Nat))).run Tryz.prog w = .ok (.slice (some ⟨w.heap.size, 0, none⟩) 0 s) (w.alloc (.cells (madeCells ndz.cells (s * 5)) 28)) := by
  obtain ⟨i, hi, hz, hsz, hby⟩ := ndY.parts
  have h := run_makeSlice w 22 28 i ndz Tryz.underlying22 hi hz .i64 .i64 0 (s : Nat) (by omega) (by omega) (by rw [hsz]; simp; omega) (by rw [hby]; omega) (by omega)
  simpa [hsz] using h
/-- A row of nodes that was made: none yet, room for them. -/
theorem own_room (w : World) (s : Nat) (hm : s ≤ 4000) : OwnN (w.alloc (.cells (madeCells ndz.cells (s * 5)) 28)) w.heap.size (.slice (some ⟨w.heap.size, 0, none⟩) 0 s) [] := by
  have hl : (madeCells ndz.cells (s * 5)).size = s * 5 := by simp [madeCells]
  refine ⟨rfl, .inr ⟨w.heap.size, s, _, rfl, Nat.le_refl _, heap_alloc_new w _, by simp, by simp [maxLen]; omega, hl, ?_⟩⟩
  simp [Gn.cells]
theorem ps_start (w w2 : World) (v : Value) (l : List Nd) (M : Array Value) (n : Nat) (hR : RdN w w.heap.size v l) (hb : Below w.heap.size w w2) (ht : Blk w2 w.heap.size 22 [v]) (ho : OwnN (w2.alloc (.cells M 28)) w2.heap.size (.slice (some ⟨w2.heap.size, 0, none⟩) 0 n) []) :
    PSt (((w2.alloc (.cells M 28)).alloc (.cells #[.slice (some ⟨w2.heap.size, 0, none⟩) 0 n] 22)).alloc (.cells #[pfn (w2.heap.size + 1) w.heap.size (w2.heap.size + 1 + 1)] 79)) w.heap.size w.heap.size v l (w2.heap.size + 1) w.heap.size (w2.heap.size + 1 + 1) (.slice (some ⟨w2.heap.size, 0, none⟩) 0 n) [] := by
  have b0 := up_new w2 (.cells M 28)
  have b1 := up_new (w2.alloc (.cells M 28)) (.cells #[.slice (some ⟨w2.heap.size, 0, none⟩) 0 n] 22)
  have b2 := up_new ((w2.alloc (.cells M 28)).alloc (.cells #[.slice (some ⟨w2.heap.size, 0, none⟩) 0 n] 22)) (.cells #[pfn (w2.heap.size + 1) w.heap.size (w2.heap.size + 1 + 1)] 79)
  have b12 := up b1 b2
  have b02 := up b0 b12
  have n1 := (Blk.new (w2.alloc (.cells M 28)) 22 #[.slice (some ⟨w2.heap.size, 0, none⟩) 0 n]).later b2
  have n2 := Blk.new ((w2.alloc (.cells M 28)).alloc (.cells #[.slice (some ⟨w2.heap.size, 0, none⟩) 0 n] 22)) 79 #[pfn (w2.heap.size + 1) w.heap.size (w2.heap.size + 1 + 1)]
  simp only [World.size_alloc] at n1 n2
  have hs := hb.size
  have htl := ht.lt
  refine ⟨Gn.Rd.below hR (up hb b02) (Nat.le_refl _), ht.later b02, n2, n1, Gn.Own.lower (Gn.Own.later ho b12) hs, ?_, by omega, Nat.le_refl _, by omega, by omega, by omega, by have := (up hb b02).size; omega, by have := (up hb b02).size; omega⟩
  intro g hg
  have : w2.heap.size = g := by simpa [Value.ownBlock] using hg
  omega
theorem ps_end {w w2 w' : World} {M : Array Value} {n b : Nat} {v sv' : Value} {l acc : List Nd} {tb pb : Nat} {o1 o2 : Obj} (h : PSt (((w2.alloc (.cells M 28)).alloc o1).alloc o2) w.heap.size w.heap.size v l b tb pb (.slice (some ⟨w2.heap.size, 0, none⟩) 0 n) acc) (hb : Below w.heap.size w w2) (hr : PR b (((w2.alloc (.cells M 28)).alloc o1).alloc o2) (.slice (some ⟨w2.heap.size, 0, none⟩) 0 n) w' sv') : Below w.heap.size w w' := by
  have b02 := up hb (up (up_new w2 (.cells M 28)) (up (up_new _ o1) (up_new _ o2)))
  exact b02.trans (hr.touch.below h.lo (fun i hi => hi.elim (fun e => by rw [e]; exact h.bs) (fun e => (h.nb i e).2.2.2)))
def SortIs (l r : List Nd) : Prop := (∃ F, May l F ∧ r = Tp.flat (Tp.sT F)) ∨ (chk l ≠ 0 ∧ r = [])

set_option maxHeartbeats 4000000 in
theorem sorted (v : Value) (l : List Nd) (w : World) (h : RdN w w.heap.size v l) (hok : ∀ x ∈ l, Nok x) (T : Tab w) (r : List Nd) (hr : SortIs l r) :
    Calls Tryz.prog 26 #[v] w fun e w' => MkPost w r e w' := by
  have hR := Lib.hid h
  obtain ⟨ad, cp, rfl, _⟩ := Gn.Rd.form h
  have C := Lib.hid (fun (wb : World) (hb : Below w.heap.size w wb) (e : Int) (he : chk l = e) => check _ l wb (h.later hb) hok (T.later hb) e he)
  rcases hr with ⟨F, hM, rfl⟩ | ⟨h0, rfl⟩
  · obtain ⟨⟨k, y, nn, s, c, rfl, hy⟩, hg, hfl⟩ := hM.2.1
    have h0 := (may_chk hM).1
    have hll := hM.1
    have C0 := Lib.hid (fun (wb : World) (hb : Below w.heap.size w wb) => C.out wb hb 0 h0)
    have hlz : l.length = 1 + Tp.sz c := by
      have e : (Tp.flat (.node k y nn s c .nil)).length = Tp.sz (.node k y nn s c .nil) := rfl
      rw [← hfl, e, Tp.sz_node, Tp.sz_nil]; omega
    have HLZ := Lib.hid hlz
    have HAt : Hid (Tp.At l 0 (.node k y nn s c .nil)) := Lib.hid (by rw [← hfl]; exact Tp.at_flat _)
    have HG := Lib.hid hg
    obtain ⟨M, hM2⟩ : ∃ M, M = madeCells ndz.cells (l.length * 5) := ⟨_, rfl⟩
    have R := Lib.hid (fun wx => node_room wx l.length hll)
    rw [← hM2] at R
    have HO := Lib.hid (fun wx => own_room wx l.length hll)
    rw [← hM2] at HO
    clear h hok T hM hy hg hfl C h0 hlz hM2
    go_enter Tryz.func26, Tryz.ntmps26
    go_wp2_with fail
    ((with_reducible refine (C0.out _ (up_new w _)).mono ?_); rintro e w2 ⟨rfl, b2⟩)
    have HB2 := Lib.hid (up (up_new w (.cells #[.slice ad l.length cp] 22)) b2)
    have HT : Hid (Blk w2 w.heap.size 22 [.slice ad l.length cp]) := Lib.hid ((Blk.new w _ _).later b2)
    have ct := HT.out.cell 0
    simp only [List.getElem?_cons_zero] at ct
    have RR := R.out w2
    clear b2
    go_wp2_with fail
    have HP := Lib.hid (ps_start w w2 _ l M l.length hR.out HB2.out HT.out (HO.out w2))
    refine ((put_claim _ _ _ l hll _ _ _ (Tp.sz c + 1)) 0 _ k y nn s c _ _ [] (by omega) rfl HAt.out HG.out (by have := HLZ.out; simp; omega) HP.out).mono ?_
    rintro e w5 ⟨rfl, sv5, hp5, hr5⟩
    have HP5 := Lib.hid hp5
    have HR5 := Lib.hid hr5
    have cs := hp5.s.cell 0
    simp only [List.getElem?_cons_zero] at cs
    clear hp5 hr5 ct
    go_wp2_with fail
    go_ret
    exact ⟨_, rfl, HP5.out.own, ps_end HP.out HB2.out HR5.out⟩
  · have h0' : ((chk l : Int) != 0) = true := by simpa using h0
    clear h hok T h0
    have C0 := Lib.hid (fun (wb : World) (hb : Below w.heap.size w wb) => C.out wb hb _ rfl)
    clear C
    generalize chk l = e at *
    go_enter Tryz.func26, Tryz.ntmps26
    go_wp2_with fail
    ((with_reducible refine (C0.out _ (up_new w _)).mono ?_); rintro e w2 ⟨rfl, b2⟩)
    have HB := Lib.hid (up (up_new w (.cells #[.slice ad l.length cp] 22)) b2)
    clear b2
    go_wp2_with fail
    go_ret
    exact ⟨_, rfl, Gn.Own.nil _ _, HB.out⟩
end Go.Proofs.YtgmdjofnkbaflaaGreatDoor

/- What a text of JSON says, part by part: how a reading goes on over a value's text, whatever stands around it; plainly. -/
namespace Go.Proofs.YtgmdjofnkbaflaaGreatDoor.Jr
open Go.Lib
set_option linter.unusedVariables false

/-! ### how a reading goes on -/
/-- What comes of b comes of a. -/
def To (a b : St) : Prop := ∀ r, Ends b r → Ends a r
theorem To.refl (a : St) : To a a := fun _ h => h
theorem To.trans {a b c : St} (h : To a b) (k : To b c) : To a c := fun r hr => h r (k r hr)
theorem To.step {a b : St} (h : Jr.step a = .inl b) : To a b := fun r hr => hr.after (.one h)
theorem To.same {a b : St} (h : skip a = skip b) : To a b := by
  have e : Jr.step a = Jr.step b := by unfold Jr.step; rw [h]
  intro r hr
  obtain ⟨u, h1, h2⟩ := hr
  cases h1 with
  | refl => exact ⟨a, .refl a, by rw [e]; exact h2⟩
  | next h3 h4 => exact ⟨u, .next (by rw [e]; exact h3) h4, h2⟩
theorem To.ends {a b : St} (h : To a b) {r : Res} (hs : Jr.step b = .inr r) : Ends a r := h r (.now hs)
/-- Blanks that stand next are gone past. -/
theorem To.blanks {t : St} {b s : List Nat} (hb : ∀ c ∈ b, blank c = true) (hs : t.s = b ++ s) : To t { t with at_ := t.at_ + b.length, s := s } := by
  refine To.same ?_
  unfold skip
  simp only [hs, nb_append b s hb]
  rw [List.drop_append, List.drop_eq_nil_of_le (by omega), List.nil_append, Nat.add_sub_cancel_left, Nat.add_assoc]
theorem skip_at {t : St} (h : blank (hd t.s) = false) : skip t = t := by
  unfold skip
  rw [nb_zero h]; rfl
theorem bgn_blank {c : Nat} (h : bgn c = true) : blank c = false := by
  unfold bgn isd at h
  unfold blank
  simp at h ⊢
  omega
theorem hd_append {p : List Nat} (h : p ≠ []) (s : List Nat) : hd (p ++ s) = hd p := by
  cases p with
  | nil => exact absurd rfl h
  | cons c p => rfl

/-! ### values -/
/-- A value, below another key. -/
def withKey (y : ByteArray) : Fo → Fo
  | .node k _ n s c r => .node k y n s c r
  | .nil => .nil
theorem withKey_sz (y : ByteArray) (V : Fo) : Tp.sz (withKey y V) = Tp.sz V := by
  cases V with
  | nil => rfl
  | node => simp only [withKey, Tp.sz_node]
theorem withKey_dep (y : ByteArray) (V : Fo) : Tp.dep (withKey y V) = Tp.dep V := by
  cases V <;> rfl
def kindOf : Fo → Int
  | .node k _ _ _ _ _ => k
  | .nil => 0
def One (V : Fo) : Prop := ∃ k n s c, V = .node k ⟨#[]⟩ n s c .nil
theorem withKey_one {V : Fo} (h : One V) : withKey ⟨#[]⟩ V = V := by obtain ⟨k, n, s, c, rfl⟩ := h; rfl
theorem one_keys {V : Fo} (h : One V) (y : ByteArray) : Tp.keys (withKey y V) = [y] := by obtain ⟨k, n, s, c, rfl⟩ := h; rfl
theorem one_sz {V : Fo} (h : One V) : 1 ≤ Tp.sz V := by obtain ⟨k, n, s, c, rfl⟩ := h; rw [Tp.sz_node]; omega
theorem one_dep {V : Fo} (h : One V) : 1 ≤ Tp.dep V := by obtain ⟨k, n, s, c, rfl⟩ := h; simp only [Tp.dep]; omega
/-- The reading behind a value. -/
def putV (t : St) (m : Nat) (tail : List Nat) (V : Fo) : St := { at_ := t.at_ + m, s := tail, nx := .behind, key := ⟨#[]⟩, op := (place (withKey t.key V) t.op t.root).1, root := (place (withKey t.key V) t.op t.root).2 }
/-- No number goes on with that. -/
def Stop (tail : List Nat) : Prop := isd (hd tail) = false ∧ hd tail ≠ 46 ∧ hd tail ≠ 101 ∧ hd tail ≠ 69
theorem stop_of {tail : List Nat} (h : tail = [] ∨ hd tail = 44 ∨ hd tail = 93 ∨ hd tail = 125 ∨ blank (hd tail) = true) : Stop tail := by
  have : hd tail = 0 ∨ hd tail = 44 ∨ hd tail = 93 ∨ hd tail = 125 ∨ hd tail = 32 ∨ hd tail = 9 ∨ hd tail = 10 ∨ hd tail = 13 := by
    rcases h with rfl | h | h | h | h
    · exact .inl rfl
    · omega
    · omega
    · omega
    · unfold blank at h; simp at h; omega
  unfold Stop isd
  refine ⟨?_, by omega, by omega, by omega⟩
  simp; omega
def Byte (l : List Nat) : Prop := ∀ x ∈ l, x < 256
theorem Byte.append {a b : List Nat} (h : Byte a) (k : Byte b) : Byte (a ++ b) := fun x hx => (List.mem_append.1 hx).elim (h x) (k x)
theorem Byte.cons {a : Nat} {b : List Nat} (h : a < 256) (k : Byte b) : Byte (a :: b) := fun x hx => by
  rcases List.mem_cons.1 hx with rfl | hx
  · exact h
  · exact k x hx
theorem Byte.nil : Byte [] := fun x hx => by simp at hx
theorem Byte.left {a b : List Nat} (h : Byte (a ++ b)) : Byte a := fun x hx => h x (List.mem_append_left _ hx)
theorem Byte.right {a b : List Nat} (h : Byte (a ++ b)) : Byte b := fun x hx => h x (List.mem_append_right _ hx)
theorem blank_byte {b : List Nat} (h : ∀ c ∈ b, blank c = true) : Byte b := fun x hx => by
  have := h x hx; unfold blank at this; simp at this; omega
/-- A text that says a value. -/
structure Val (p : List Nat) (V : Fo) : Prop where
  one : One V
  bgn : Jr.bgn (hd p) = true
  ne : p ≠ []
  byte : Byte p
  go : ∀ (t : St) (tail : List Nat), t.nx = .value → t.s = p ++ tail → Byte tail → (kindOf V = 4 → Stop tail) → cnt t.op t.root + Tp.sz V ≤ 4000 → t.op.length + Tp.dep V ≤ 64 → To t (putV t p.length tail V)
theorem leaf_put {t : St} {p tail : List Nat} {k n : Int} {x : ByteArray} (hs : t.s = p ++ tail) : leaf t p.length k n x = putV t p.length tail (nd1 k ⟨#[]⟩ n x .nil) := by
  unfold leaf putV
  rw [hs, List.drop_left' rfl]
  rfl
theorem leaf_bounds {t : St} {k n : Int} {x : ByteArray} (h1 : cnt t.op t.root + Tp.sz (nd1 k ⟨#[]⟩ n x .nil) ≤ 4000) (h2 : t.op.length + Tp.dep (nd1 k ⟨#[]⟩ n x .nil) ≤ 64) : ¬ 4000 ≤ cnt t.op t.root ∧ ¬ 64 ≤ t.op.length := by
  unfold nd1 at h1 h2
  rw [Tp.sz_node] at h1
  simp only [Tp.dep] at h2
  omega
theorem step_at {t : St} (hv : t.nx = .value) (hb : bgn (hd t.s) = true) (h1 : ¬ 4000 ≤ cnt t.op t.root) (h2 : ¬ 64 ≤ t.op.length) : step t = valueB t := by
  unfold step
  rw [skip_at (bgn_blank hb)]
  unfold stepS
  rw [hv]
  show stepV t = _
  unfold stepV
  rw [if_neg (by rw [hb]; simp), if_neg h1, if_neg h2]
theorem wd_all : ∀ (w tail : List Nat), wd w (w ++ tail) = w.length
  | [], _ => rfl
  | c :: w, tail => by
    unfold wd
    rw [if_pos ⟨rfl, by simp⟩]
    show wd w (w ++ tail) + 1 = _
    rw [wd_all w tail]; rfl
theorem val_word {w : List Nat} {k : Int} (h : (w = [110, 117, 108, 108] ∧ k = 1) ∨ (w = [102, 97, 108, 115, 101] ∧ k = 2) ∨ (w = [116, 114, 117, 101] ∧ k = 3)) : Val w (nd1 k ⟨#[]⟩ 0 ⟨#[]⟩ .nil) := by
  have hne : w ≠ [] := by rcases h with ⟨rfl, _⟩ | ⟨rfl, _⟩ | ⟨rfl, _⟩ <;> simp
  have hb : bgn (hd w) = true := by rcases h with ⟨rfl, _⟩ | ⟨rfl, _⟩ | ⟨rfl, _⟩ <;> decide
  refine ⟨⟨_, _, _, _, rfl⟩, hb, hne, ?_, fun t tail hv hs hy _ h1 h2 => ?_⟩
  · rcases h with ⟨rfl, _⟩ | ⟨rfl, _⟩ | ⟨rfl, _⟩ <;> (intro x hx; simp at hx; omega)
  · obtain ⟨b1, b2⟩ := leaf_bounds h1 h2
    refine To.step ?_
    rw [step_at hv (by rw [hs, hd_append hne]; exact hb) b1 b2]
    have e : valueB t = word t w k := by
      unfold valueB
      rw [hs, hd_append hne]
      rcases h with ⟨rfl, rfl⟩ | ⟨rfl, rfl⟩ | ⟨rfl, rfl⟩ <;> rfl
    rw [e]
    unfold word
    rw [hs, wd_all, if_pos rfl, leaf_put hs]
/-- A literal that says a text. -/
structure Lit (p say : List Nat) : Prop where
  reads : ∀ more, Byte more → Utf.unq (p ++ more) = (say, p.length, 0)
  head : hd p = 34
  byte : Byte p
/-- .. that is no literal, cut off. -/
def LitC (p : List Nat) : Prop := ∀ j, j < p.length → Utf.unq (p.take j) = ([], 0, 3)
theorem litC_spelt (ps : List (Nat × List Nat)) (h : ∀ p ∈ ps, Utf.Spell p.1 p.2) : LitC (34 :: (ps.flatMap Prod.snd ++ [34])) := fun j hj => Utf.unq_cut ps j h (by simpa using hj)
theorem Lit.ne {p say : List Nat} (h : Lit p say) : p ≠ [] := by
  intro e; have := h.head; rw [e] at this; simp at this
theorem lit_spelt (ps : List (Nat × List Nat)) (h : ∀ p ∈ ps, Utf.Spell p.1 p.2) : Lit (34 :: (ps.flatMap Prod.snd ++ [34])) (Utf.encs (ps.map Prod.fst)) := by
  refine ⟨fun more hm => ?_, rfl, ?_⟩
  · have := Utf.unq_spelt ps more hm h
    rw [show (34 :: (ps.flatMap Prod.snd ++ [34])) ++ more = 34 :: (ps.flatMap Prod.snd ++ 34 :: more) by simp, this]
    simp
  · refine Byte.cons (by omega) (Byte.append ?_ (Byte.cons (by omega) Byte.nil))
    intro x hx
    obtain ⟨p, hp, hx⟩ := List.mem_flatMap.1 hx
    exact (h p hp).byte x hx
theorem lit_tidy (rs : List Nat) (h : ∀ r ∈ rs, Utf.isr r) : Lit (Utf.tidy (Utf.encs rs)) (Utf.encs rs) := by
  have := lit_spelt (rs.map fun r => (r, Utf.escR r)) fun p hp => by
    obtain ⟨r, hr, rfl⟩ := List.mem_map.1 hp
    exact Utf.spell_tidy r (h r hr)
  rw [← Utf.tidy_parts] at this
  simpa [Function.comp_def, Utf.tidy] using this
theorem val_text {p say : List Nat} (h : Lit p say) : Val p (nd1 5 ⟨#[]⟩ 0 (str say) .nil) := by
  refine ⟨⟨_, _, _, _, rfl⟩, by rw [h.head]; decide, h.ne, h.byte, fun t tail hv hs hy _ h1 h2 => ?_⟩
  obtain ⟨b1, b2⟩ := leaf_bounds h1 h2
  have hh : hd t.s = 34 := by rw [hs, hd_append h.ne, h.head]
  refine To.step ?_
  rw [step_at hv (by rw [hh]; decide) b1 b2]
  have e : valueB t = text t := by unfold valueB; rw [hh]; rfl
  rw [e]
  unfold text
  rw [hs, h.reads tail hy, if_neg (by simp), leaf_put hs]
/-- Text of a number: read as it, as long as nothing goes on behind. -/
structure Num (p : List Nat) (v : Int) : Prop where
  bgn : hd p = 45 ∨ isd (hd p) = true
  ne : p ≠ []
  byte : Byte p
  reads : ∀ tail, Stop tail → scan (p ++ tail) = (p.length, true) ∧ fits (p ++ tail) ∧ nVal (p ++ tail) = v
theorem val_num {p : List Nat} {v : Int} (h : Num p v) : Val p (nd1 4 ⟨#[]⟩ v ⟨#[]⟩ .nil) := by
  have hx : hd p = 45 ∨ (48 ≤ hd p ∧ hd p ≤ 57) := by
    rcases h.bgn with h | h
    · exact .inl h
    · simp [isd] at h; exact .inr h
  have hb : bgn (hd p) = true := by
    unfold bgn isd
    simp; omega
  refine ⟨⟨_, _, _, _, rfl⟩, hb, h.ne, h.byte, fun t tail hv hs hy hst h1 h2 => ?_⟩
  obtain ⟨b1, b2⟩ := leaf_bounds h1 h2
  have hh : hd t.s = hd p := by rw [hs, hd_append h.ne]
  refine To.step ?_
  rw [step_at hv (by rw [hh]; exact hb) b1 b2]
  have e : valueB t = number t := by
    unfold valueB
    rw [hh, if_neg (by omega), if_neg (by omega), if_neg (by omega), if_neg (by omega), if_neg (by omega), if_neg (by omega)]
  obtain ⟨k1, k2, k3⟩ := h.reads tail (hst rfl)
  rw [e]
  unfold number
  rw [hs, k1, if_neg (by simp), if_pos k2, k3, leaf_put hs]

/-! ### parts -/
def hadOf (k : Int) (C : Fo) : List ByteArray := if k = 7 then Tp.keys C else []
def pnx : Fo → Nx
  | .nil => .part
  | .node .. => .behind
theorem pnx_app {C V : Fo} (h : One V) (y : ByteArray) : pnx (Tp.app C (withKey y V)) = .behind := by
  obtain ⟨k, n, s, c, rfl⟩ := h
  cases C <;> rfl
/-- Where a reading stands among the parts of what was opened last. -/
structure Among (t : St) (k : Int) (y : ByteArray) (C : Fo) (r : List Fr) : Prop where
  op : t.op = ⟨k, y, hadOf k C, C⟩ :: r
  nx : t.nx = pnx C
  key : t.key = ⟨#[]⟩
/-- .. behind some parts. -/
def toParts (t : St) (m : Nat) (tail : List Nat) (k : Int) (y : ByteArray) (C : Fo) (r : List Fr) : St := { at_ := t.at_ + m, s := tail, nx := pnx C, key := ⟨#[]⟩, op := ⟨k, y, hadOf k C, C⟩ :: r, root := t.root }
theorem among_to (t : St) (m : Nat) (tail : List Nat) (k : Int) (y : ByteArray) (C : Fo) (r : List Fr) : Among (toParts t m tail k y C r) k y C r := ⟨rfl, rfl, rfl⟩
theorem among_self {t : St} {k : Int} {y : ByteArray} {C : Fo} {r : List Fr} (h : Among t k y C r) : toParts t 0 t.s k y C r = t := by
  obtain ⟨h1, h2, h3⟩ := h
  obtain ⟨a, s, nx, key, op, root⟩ := t
  subst h1 h2 h3
  rfl
theorem among_blanks {t : St} {k : Int} {y : ByteArray} {C : Fo} {r : List Fr} (h : Among t k y C r) {b tail : List Nat} (hb : ∀ c ∈ b, blank c = true) (hs : t.s = b ++ tail) : To t (toParts t b.length tail k y C r) := by
  have := To.blanks hb hs
  obtain ⟨h1, h2, h3⟩ := h
  rw [h1, h2, h3] at this
  exact this
theorem end_bgn {k : Int} {c : Nat} (h : bgn c = true) : c ≠ endOf k := by
  unfold bgn isd at h
  unfold endOf
  simp at h
  split <;> omega
/-- What a member's key adds. -/
structure Keyed (k : Int) (q : List Nat) (y : ByteArray) : Prop where
  is : (k ≠ 7 ∧ q = [] ∧ y = ⟨#[]⟩) ∨ (k = 7 ∧ ∃ lit say b1 b2, Lit lit say ∧ q = lit ++ (b1 ++ 58 :: b2) ∧ y = str say ∧ (∀ c ∈ b1, blank c = true) ∧ (∀ c ∈ b2, blank c = true))
theorem Keyed.byte {k : Int} {q : List Nat} {y : ByteArray} (h : Keyed k q y) : Byte q := by
  rcases h.is with ⟨_, rfl, _⟩ | ⟨_, lit, say, b1, b2, hl, rfl, _, h1, h2⟩
  · exact Byte.nil
  · exact hl.byte.append ((blank_byte h1).append (Byte.cons (by omega) (blank_byte h2)))
theorem colon_step {t : St} {s : List Nat} (h : t.nx = .colon) (hs : t.s = 58 :: s) : step t = .inl (go t 1 .value) := by
  unfold step
  rw [skip_at (by rw [hs]; show blank 58 = false; decide)]
  unfold stepS
  rw [h]
  show stepC t = _
  unfold stepC
  rw [if_neg (by rw [hs]; simp)]
theorem end_ok {t : St} (h : t.nx = .behind) (ho : t.op = []) (hs : ∀ c ∈ t.s, blank c = true) : step t = .inr (.ok t.root) := by
  have e : nb t.s = t.s.length := by have := nb_append t.s [] hs; rw [List.append_nil] at this; simpa [nb] using this
  unfold step skip stepS
  simp only [h, e, List.drop_length]
  unfold stepB
  simp [ho]
theorem end_err {t : St} (h : t.nx = .behind) (ho : t.op = []) (hb : blank (hd t.s) = false) (hs : t.s ≠ []) : step t = .inr (.err t.at_ 70) := by
  unfold step
  rw [skip_at hb]
  unfold stepS
  simp only [h]
  unfold stepB
  simp [ho, hs]
/-- A key is read. -/
theorem key_go {t : St} {k : Int} {q s : List Nat} {y Y : ByteArray} {C : Fo} {r : List Fr} (hq : Keyed k q y) (hop : t.op = ⟨k, Y, hadOf k C, C⟩ :: r) (hnx : t.nx = ahead t.op) (hkey : t.key = ⟨#[]⟩) (hs : t.s = q ++ s) (hb : Byte s) (hn : k = 7 → y ∉ Tp.keys C) :
    To t { at_ := t.at_ + q.length, s := s, nx := .value, key := y, op := ⟨k, Y, hadOf k C ++ (if k = 7 then [y] else []), C⟩ :: r, root := t.root } := by
  rw [hop] at hnx
  rcases hq.is with ⟨hk, rfl, rfl⟩ | ⟨hk, lit, say, b1, b2, hl, rfl, rfl, h1, h2⟩
  · have hnx : t.nx = .value := by rw [hnx]; show (if k = 7 then _ else _) = _; rw [if_neg hk]
    refine To.same ?_
    obtain ⟨a, s', nx, key, op, root⟩ := t
    simp only at hnx hkey hop hs
    subst hnx hkey hop
    rw [if_neg hk, List.append_nil, hs]
    rfl
  · subst hk
    have hnx : t.nx = .key := by rw [hnx]; rfl
    have hh : hd t.s = 34 := by rw [hs, List.append_assoc, hd_append hl.ne, hl.head]
    have hbb : Byte ((b1 ++ 58 :: b2) ++ s) := ((blank_byte h1).append (Byte.cons (by omega) (blank_byte h2))).append hb
    have hu := hl.reads _ hbb
    have e1 : step t = .inl { at_ := t.at_ + lit.length, s := b1 ++ (58 :: (b2 ++ s)), nx := .colon, key := str say, op := ⟨7, Y, hadOf 7 C ++ [str say], C⟩ :: r, root := t.root } := by
      unfold step
      rw [skip_at (by rw [hh]; decide)]
      unfold stepS
      rw [hnx]
      show stepK t = _
      unfold stepK
      rw [hop]
      simp only
      rw [hs, List.append_assoc, hu, if_neg (by rw [← List.append_assoc, ← hs, hh]; simp), if_neg (by simp), if_neg (by simpa [hadOf] using hn rfl)]
      simp
    refine (To.step e1).trans ((To.blanks h1 rfl).trans ?_)
    refine To.trans (To.step (b := go { at_ := t.at_ + lit.length + b1.length, s := 58 :: (b2 ++ s), nx := .colon, key := str say, op := ⟨7, Y, hadOf 7 C ++ [str say], C⟩ :: r, root := t.root } 1 .value) ?_) ?_
    · unfold step
      exact colon_step rfl rfl
    · refine (To.blanks (b := b2) (s := s) h2 (by simp [go])).trans ?_
      refine To.same (congrArg skip ?_)
      simp [go]
      omega
/-- One part more. -/
theorem part_go {t : St} {k : Int} {Y y : ByteArray} {C V : Fo} {r : List Fr} {c0 q p s : List Nat} (ha : Among t k Y C r) (hc : (C = .nil ∧ c0 = []) ∨ (C ≠ .nil ∧ ∃ b, (∀ c ∈ b, blank c = true) ∧ c0 = 44 :: b)) (hq : Keyed k q y) (hV : Val p V)
    (hs : t.s = c0 ++ (q ++ (p ++ s))) (hb : Byte s) (hst : kindOf V = 4 → Stop s) (hn : k = 7 → y ∉ Tp.keys C) (h1 : cnt t.op t.root + Tp.sz V ≤ 4000) (h2 : t.op.length + Tp.dep V ≤ 64) :
    To t (toParts t (c0 ++ (q ++ p)).length s k Y (Tp.app C (withKey y V)) r) := by
  have hop := ha.op
  have hqp : bgn (hd (q ++ (p ++ s))) = true := by
    rcases hq.is with ⟨_, rfl, _⟩ | ⟨_, lit, say, b1, b2, hl, rfl, _, _, _⟩
    · rw [List.nil_append, hd_append hV.ne]; exact hV.bgn
    · rw [List.append_assoc, hd_append hl.ne, hl.head]; decide
  have hbq : Byte (q ++ (p ++ s)) := hq.byte.append (hV.byte.append hb)
  -- ahead of the key, or the value
  have A : To t { at_ := t.at_ + c0.length, s := q ++ (p ++ s), nx := ahead t.op, key := ⟨#[]⟩, op := t.op, root := t.root } := by
    rcases hc with ⟨rfl, rfl⟩ | ⟨hC, b, hbl, rfl⟩
    · refine To.step ?_
      have hnx : t.nx = .part := ha.nx
      rw [List.nil_append] at hs
      unfold step
      rw [skip_at (by rw [hs]; exact bgn_blank hqp)]
      unfold stepS
      rw [hnx]
      show stepP t = _
      unfold stepP
      rw [hop]
      simp only
      rw [if_neg (by rw [hs]; exact end_bgn hqp)]
      unfold go
      rw [hop, hs, ha.key]
      rfl
    · have hnx : t.nx = .behind := by rw [ha.nx]; cases C with
        | nil => exact absurd rfl hC
        | node => rfl
      refine To.trans (To.step (b := go t 1 (ahead t.op)) ?_) ?_
      · unfold step
        rw [skip_at (by rw [hs]; show blank 44 = false; decide)]
        unfold stepS
        rw [hnx]
        show stepB t = _
        unfold stepB
        rw [hop]
        simp only
        rw [if_neg (by rw [hs]; unfold endOf; simp; split <;> omega), if_neg (by rw [hs]; simp)]
      · refine (To.blanks (b := b) (s := q ++ (p ++ s)) hbl (by simp [go, hs])).trans (To.same (congrArg skip ?_))
        simp [go, ha.key]
        omega
  have B := key_go (t := { at_ := t.at_ + c0.length, s := q ++ (p ++ s), nx := ahead t.op, key := ⟨#[]⟩, op := t.op, root := t.root }) hq hop rfl rfl rfl (hV.byte.append hb) hn
  refine A.trans (B.trans ?_)
  have hc2 : cnt (⟨k, Y, hadOf k C ++ (if k = 7 then [y] else []), C⟩ :: r) t.root = cnt t.op t.root := by rw [hop]; rfl
  have hl2 : (⟨k, Y, hadOf k C ++ (if k = 7 then [y] else []), C⟩ :: r : List Fr).length = t.op.length := by rw [hop]; rfl
  refine (hV.go _ s rfl rfl hb hst (by show cnt (_ :: r) t.root + _ ≤ 4000; rw [hc2]; exact h1) (by show (_ :: r : List Fr).length + _ ≤ 64; rw [hl2]; exact h2)).trans (To.same ?_)
  congr 1
  unfold putV toParts
  simp only [place]
  have e1 : hadOf k C ++ (if k = 7 then [y] else []) = hadOf k (Tp.app C (withKey y V)) := by
    unfold hadOf
    split
    · rw [Tp.keys_app, one_keys hV.one]
    · rfl
  rw [e1, pnx_app hV.one]
  simp only [List.length_append, Nat.add_assoc]
/-- What is open ends. -/
theorem close_go {t : St} {k : Int} {y : ByteArray} {C : Fo} {r : List Fr} {s : List Nat} (ha : Among t k y C r) (hs : t.s = endOf k :: s) :
    To t { at_ := t.at_ + 1, s := s, nx := .behind, key := ⟨#[]⟩, op := (place (nd1 k y 0 ⟨#[]⟩ C) r t.root).1, root := (place (nd1 k y 0 ⟨#[]⟩ C) r t.root).2 } := by
  refine To.step ?_
  have hb : blank (hd t.s) = false := by rw [hs]; unfold endOf; simp only [hd_cons]; split <;> decide
  have e : cls t = { at_ := t.at_ + 1, s := s, nx := .behind, key := ⟨#[]⟩, op := (place (nd1 k y 0 ⟨#[]⟩ C) r t.root).1, root := (place (nd1 k y 0 ⟨#[]⟩ C) r t.root).2 } := by
    unfold cls
    rw [ha.op, ha.key, hs]
    rfl
  unfold step
  rw [skip_at hb]
  unfold stepS
  rw [ha.nx]
  cases C with
  | nil =>
    show stepP t = _
    unfold stepP
    rw [ha.op]
    simp only
    rw [if_pos (by rw [hs]; rfl), e]
  | node a b c d e' f' =>
    show stepB t = _
    unfold stepB
    rw [ha.op]
    simp only
    rw [if_pos (by rw [hs]; rfl), e]
/-- Parts' text, behind what opens them. -/
structure Parts (k : Int) (p : List Nat) (C : Fo) : Prop where
  byte : Byte p
  go : ∀ (t : St) (tail : List Nat) (y : ByteArray) (r : List Fr), Among t k y .nil r → t.s = p ++ tail → Byte tail → (C ≠ .nil → Stop tail) → cnt t.op t.root + Tp.sz C ≤ 4000 → t.op.length + Tp.dep C ≤ 64 → To t (toParts t p.length tail k y C r)
theorem parts_nil (k : Int) {b : List Nat} (hb : ∀ c ∈ b, blank c = true) : Parts k b .nil :=
  ⟨blank_byte hb, fun t tail y r ha hs _ _ _ _ => among_blanks ha hb hs⟩
theorem stop_blank {b s : List Nat} (hb : ∀ c ∈ b, blank c = true) (h : Stop s) : Stop (b ++ s) := by
  cases b with
  | nil => exact h
  | cons c b => exact stop_of (.inr (.inr (.inr (.inr (hb c (List.mem_cons_self ..))))))
/-- What stands between parts. -/
def Comma (C : Fo) (c0 : List Nat) : Prop := (C = .nil ∧ c0 = []) ∨ (C ≠ .nil ∧ ∃ b, (∀ c ∈ b, blank c = true) ∧ c0 = 44 :: b)
theorem parts_snoc {k : Int} {p0 c0 q p b : List Nat} {y : ByteArray} {C V : Fo} (h : Parts k p0 C) (hc : Comma C c0) (hq : Keyed k q y) (hV : Val p V) (hb : ∀ c ∈ b, blank c = true) (hn : k = 7 → y ∉ Tp.keys C) :
    Parts k (p0 ++ (c0 ++ (q ++ (p ++ b)))) (Tp.app C (withKey y V)) := by
  have b0 : Byte c0 := by
    rcases hc with ⟨_, rfl⟩ | ⟨_, b, h1, rfl⟩
    · exact Byte.nil
    · exact Byte.cons (by omega) (blank_byte h1)
  refine ⟨h.byte.append (b0.append (hq.byte.append (hV.byte.append (blank_byte hb)))), fun t tail Y r ha hs hy hst h1 h2 => ?_⟩
  rw [Tp.sz_app, withKey_sz] at h1
  rw [Tp.dep_app, withKey_dep] at h2
  have hby : Byte (b ++ tail) := (blank_byte hb).append hy
  have hne : Tp.app C (withKey y V) ≠ .nil := fun e => by
    have := congrArg Tp.sz e
    rw [Tp.sz_app, withKey_sz, Tp.sz_nil] at this
    have := one_sz hV.one
    omega
  have hst2 : Stop (b ++ tail) := stop_blank hb (hst hne)
  have hcnt : cnt t.op t.root = cnt r t.root + 1 := by rw [ha.op]; show cnt r t.root + (1 + Tp.sz .nil) = _; rw [Tp.sz_nil]
  have hlen : t.op.length = r.length + 1 := by rw [ha.op]; rfl
  have hs2 : t.s = p0 ++ (c0 ++ (q ++ (p ++ (b ++ tail)))) := by rw [hs]; simp
  have A := h.go t _ Y r ha hs2 (b0.append (hq.byte.append (hV.byte.append hby))) (fun hC => by
    rcases hc with ⟨e, _⟩ | ⟨_, b, _, rfl⟩
    · exact absurd e hC
    · exact stop_of (.inr (.inl rfl))) (by omega) (by omega)
  have B := part_go (among_to t p0.length (c0 ++ (q ++ (p ++ (b ++ tail)))) k Y C r) hc hq hV rfl hby (fun _ => hst2) hn (by show cnt r t.root + (1 + Tp.sz C) + _ ≤ 4000; omega) (by show r.length + 1 + _ ≤ 64; omega)
  have D := among_blanks (among_to (toParts t p0.length (c0 ++ (q ++ (p ++ (b ++ tail)))) k Y C r) (c0 ++ (q ++ p)).length (b ++ tail) k Y (Tp.app C (withKey y V)) r) hb rfl
  refine A.trans (B.trans (D.trans (To.same (congrArg skip ?_))))
  simp [toParts]
  omega
/-- A list, or an object. -/
theorem val_open {k : Int} {p : List Nat} {C : Fo} (hk : k = 6 ∨ k = 7) (h : Parts k p C) : Val ((if k = 7 then 123 else 91) :: (p ++ [endOf k])) (nd1 k ⟨#[]⟩ 0 ⟨#[]⟩ C) := by
  have hx : (if k = 7 then 123 else 91 : Nat) < 256 := by split <;> omega
  have hy : endOf k < 256 := by unfold endOf; split <;> omega
  have hb : bgn (if k = 7 then 123 else 91) = true := by split <;> decide
  refine ⟨⟨_, _, _, _, rfl⟩, hb, by simp, Byte.cons hx (h.byte.append (Byte.cons hy Byte.nil)), fun t tail hv hs hyt _ h1 h2 => ?_⟩
  unfold nd1 at h1 h2
  rw [Tp.sz_node, Tp.sz_nil] at h1
  simp only [Tp.dep] at h2
  have hh : hd t.s = (if k = 7 then 123 else 91) := by rw [hs]; rfl
  have e1 : step t = .inl (opn t k) := by
    rw [step_at hv (by rw [hh]; exact hb) (by omega) (by omega)]
    unfold valueB
    rw [hh]
    rcases hk with rfl | rfl <;> rfl
  have hst : Stop (endOf k :: tail) := stop_of (by unfold endOf; rcases hk with rfl | rfl <;> simp)
  have ha : Among (opn t k) k t.key .nil t.op := ⟨by unfold opn hadOf; simp [Tp.keys], rfl, rfl⟩
  have A := h.go (opn t k) (endOf k :: tail) t.key t.op ha (by unfold opn; rw [hs]; simp) (Byte.cons hy hyt) (fun _ => hst) (by show cnt t.op t.root + (1 + Tp.sz .nil) + _ ≤ 4000; rw [Tp.sz_nil]; omega) (by show t.op.length + 1 + _ ≤ 64; omega)
  have B := close_go (among_to (opn t k) p.length (endOf k :: tail) k t.key C t.op) rfl
  refine (To.step e1).trans (A.trans (B.trans (To.same (congrArg skip ?_))))
  simp [toParts, putV, opn, withKey, nd1]
  omega

/-! ### whole texts -/
theorem whole_go {p b1 more : List Nat} {V : Fo} (h : Val p V) (h1 : ∀ c ∈ b1, blank c = true) (hm : Byte more) (hst : kindOf V = 4 → Stop more) (hz : Tp.sz V ≤ 4000) (hd : Tp.dep V ≤ 64) :
    To (init (b1 ++ (p ++ more))) { at_ := b1.length + p.length, s := more, nx := .behind, key := ⟨#[]⟩, op := [], root := V } := by
  have A := To.blanks (t := init (b1 ++ (p ++ more))) h1 rfl
  have B := h.go { init (b1 ++ (p ++ more)) with at_ := (init (b1 ++ (p ++ more))).at_ + b1.length, s := p ++ more } more rfl rfl hm hst (by show 0 + _ ≤ 4000; omega) (by show 0 + _ ≤ 64; omega)
  refine A.trans (B.trans (To.same (congrArg skip ?_)))
  simp [putV, init, place, Tp.app, withKey_one h.one]
/-- A value's text, and blanks. -/
theorem reads_val {p b1 b2 : List Nat} {V : Fo} (h : Val p V) (h1 : ∀ c ∈ b1, blank c = true) (h2 : ∀ c ∈ b2, blank c = true) (hz : Tp.sz V ≤ 4000) (hd : Tp.dep V ≤ 64) (hl : (b1 ++ (p ++ b2)).length ≤ 1048576) : Reads (b1 ++ (p ++ b2)) (.ok V) := by
  unfold Reads
  rw [if_neg (by omega)]
  have hst : Stop b2 := by have := stop_blank h2 (s := []) (stop_of (.inl rfl)); rwa [List.append_nil] at this
  refine whole_go h h1 (blank_byte h2) (fun _ => hst) hz hd _ (.now (end_ok rfl rfl h2))
/-- .. with something else behind it. -/
theorem reads_behind {p b m : List Nat} {V : Fo} (h : Val p V) (h1 : ∀ c ∈ b, blank c = true) (hm : Byte m) (hm0 : m ≠ []) (hm1 : blank (hd m) = false) (hk : kindOf V ≠ 4) (hz : Tp.sz V ≤ 4000) (hd : Tp.dep V ≤ 64) (hl : (p ++ (b ++ m)).length ≤ 1048576) : Reads (p ++ (b ++ m)) (.err (p.length + b.length) 70) := by
  unfold Reads
  rw [if_neg (by omega)]
  refine whole_go (b1 := []) h (by simp) ((blank_byte h1).append hm) (fun e => absurd e hk) hz hd _ ?_
  refine (To.blanks h1 rfl).ends ?_
  rw [end_err rfl rfl hm1 hm0]
  simp
end Go.Proofs.YtgmdjofnkbaflaaGreatDoor.Jr

/- Texts that begin with a number, plainly. -/
namespace Go.Proofs.YtgmdjofnkbaflaaGreatDoor.Jr
open Go.Lib
set_option linter.unusedVariables false

/-- A number's digits. -/
def dcs (u : Nat) : List Nat := (decDigits u).map UInt8.toNat
theorem u8_dig (d : Nat) (h : d < 10) : (UInt8.ofNat (48 + d)).toNat = 48 + d := by
  rw [UInt8.toNat_ofNat']; omega
theorem dcs_small {u : Nat} (h : u < 10) : dcs u = [48 + u] := by
  unfold dcs
  rw [decDigits, dif_pos h, List.map_singleton, u8_dig u h]
theorem dcs_big {u : Nat} (h : ¬ u < 10) : dcs u = dcs (u / 10) ++ [48 + u % 10] := by
  unfold dcs
  rw [decDigits, dif_neg h, List.map_append, List.map_singleton, u8_dig _ (by omega)]
theorem dcs_isd (u : Nat) : ∀ c ∈ dcs u, isd c = true := by
  induction u using Nat.strongRecOn with
  | ind u ih =>
    intro c hc
    by_cases h : u < 10
    · rw [dcs_small h] at hc
      have : c = 48 + u := by simpa using hc
      subst this
      simp [isd]; omega
    · rw [dcs_big h] at hc
      rcases List.mem_append.1 hc with hc | hc
      · exact ih (u / 10) (by omega) c hc
      · have : c = 48 + u % 10 := by simpa using hc
        subst this
        simp [isd]; omega
theorem val_snoc (l : List Nat) (c : Nat) : val (l ++ [c]) = 10 * val l + (c - 48) := by
  unfold val
  rw [List.foldl_append]; rfl
theorem dcs_val (u : Nat) : val (dcs u) = u := by
  induction u using Nat.strongRecOn with
  | ind u ih =>
    by_cases h : u < 10
    · rw [dcs_small h]; simp [val]
    · rw [dcs_big h, val_snoc, ih (u / 10) (by omega)]; omega
theorem dcs_ne (u : Nat) : dcs u ≠ [] := by
  by_cases h : u < 10
  · rw [dcs_small h]; simp
  · rw [dcs_big h]; simp
theorem hd_app {l : List Nat} (h : l ≠ []) (t : List Nat) : hd (l ++ t) = hd l := by
  cases l with
  | nil => exact absurd rfl h
  | cons c l => rfl
theorem dcs_head (u : Nat) (hu : u ≠ 0) : hd (dcs u) ≠ 48 := by
  induction u using Nat.strongRecOn with
  | ind u ih =>
    by_cases h : u < 10
    · rw [dcs_small h]; show 48 + u ≠ 48; omega
    · rw [dcs_big h, hd_app (dcs_ne _)]
      exact ih (u / 10) (by omega) (by omega)
/-- Digits without a leading zero. -/
def Dg (D : List Nat) : Prop := D ≠ [] ∧ (∀ c ∈ D, isd c = true) ∧ (hd D = 48 → D = [48])
theorem dcs_dg (u : Nat) : Dg (dcs u) := ⟨dcs_ne u, dcs_isd u, fun e => by
  by_cases h : u = 0
  · subst h; rw [dcs_small (by omega)]
  · exact absurd e (dcs_head u h)⟩
theorem nd_app : ∀ (D t : List Nat), (∀ c ∈ D, isd c = true) → isd (hd t) = false → nd (D ++ t) = D.length
  | [], t, _, h => by
    cases t with
    | nil => rfl
    | cons c t =>
      have h : isd c = false := h
      show nd (c :: t) = 0
      unfold nd
      rw [if_neg (by rw [h]; simp)]
  | c :: D, t, h1, h2 => by
    have := nd_app D t (fun x hx => h1 x (List.mem_cons_of_mem _ hx)) h2
    show nd (c :: (D ++ t)) = _
    unfold nd
    rw [if_pos (h1 c (List.mem_cons_self ..)), this]
    simp
theorem isd_hd {D : List Nat} (h : Dg D) : isd (hd D) = true := by
  cases D with
  | nil => exact absurd rfl h.1
  | cons c D => exact h.2.1 c (List.mem_cons_self ..)
theorem nIn_app {D t : List Nat} (h : Dg D) (ht : isd (hd t) = false) : nIn (D ++ t) = D.length := by
  unfold nIn
  rw [hd_app h.1]
  by_cases e : hd D = 48
  · rw [if_pos e, h.2.2 e]; rfl
  · rw [if_neg e, nd_app D t h.2.1 ht]
/-- A sign, or none. -/
def sgn (b : Bool) : List Nat := if b then [45] else []
/-- Where the whole part ends, and what it is. -/
theorem nm {b : Bool} {D t : List Nat} (h : Dg D) (ht : isd (hd t) = false) : nP1 (sgn b ++ (D ++ t)) = (sgn b).length ∧ nP2 (sgn b ++ (D ++ t)) = (sgn b).length + D.length ∧ (sgn b ++ (D ++ t)).drop ((sgn b).length + D.length) = t ∧ nVal (sgn b ++ (D ++ t)) = if b then -((val D : Nat) : Int) else ((val D : Nat) : Int) := by
  have hD := isd_hd h
  have h45 : hd (D ++ t) ≠ 45 := by
    rw [hd_app h.1]; intro e; rw [e] at hD; simp [isd] at hD
  have hn := nIn_app h ht
  cases b with
  | true =>
    have e1 : nP1 (sgn true ++ (D ++ t)) = 1 := rfl
    refine ⟨e1, ?_, ?_, ?_⟩
    · unfold nP2
      rw [e1]
      show 1 + nIn (D ++ t) = 1 + D.length
      rw [hn]
    · show (45 :: (D ++ t)).drop (1 + D.length) = t
      rw [Nat.add_comm, List.drop_succ_cons]; simp
    · show nVal (45 :: (D ++ t)) = _
      unfold nVal
      rw [if_pos (by rfl), if_pos rfl]
      show -((val ((D ++ t).take (nIn (D ++ t))) : Nat) : Int) = _
      rw [hn]; simp
  | false =>
    have e1 : nP1 (sgn false ++ (D ++ t)) = 0 := by
      show nSg (D ++ t) = 0
      unfold nSg
      rw [if_neg h45]
    refine ⟨e1, ?_, ?_, ?_⟩
    · unfold nP2
      rw [e1]
      show 0 + nIn (D ++ t) = 0 + D.length
      rw [hn]
    · show (D ++ t).drop (0 + D.length) = t
      rw [Nat.zero_add]; simp
    · show nVal (D ++ t) = _
      unfold nVal
      rw [if_neg h45, hn]; simp
section
variable {b : Bool} {D t : List Nat}
theorem at_p (h : Dg D) (ht : isd (hd t) = false) : nP2 (sgn b ++ (D ++ t)) ≠ nP1 (sgn b ++ (D ++ t)) ∧ (sgn b ++ (D ++ t)).drop (nP2 (sgn b ++ (D ++ t))) = t := by
  obtain ⟨h1, h2, h3, _⟩ := nm (b := b) h ht
  have hl : 0 < D.length := List.length_pos_iff.2 h.1
  rw [h1, h2]
  exact ⟨by omega, h3⟩
/-- Nothing behind. -/
theorem scan_end (h : Dg D) : scan (sgn b ++ (D ++ [])) = ((sgn b).length + D.length, true) ∧ nP5 (sgn b ++ (D ++ [])) = nP2 (sgn b ++ (D ++ [])) := by
  have ht : isd (hd []) = false := rfl
  obtain ⟨h1, h2, h3, _⟩ := nm (b := b) h ht
  obtain ⟨k1, k2⟩ := at_p (b := b) h ht
  generalize sgn b ++ (D ++ []) = s at *
  have e3 : nP3 s = nP2 s := by unfold nP3; rw [k2]; rfl
  have n1 : ¬ isE (s.drop (nP3 s)) := by rw [e3, k2]; decide
  have e4 : nP4 s = nP3 s := by unfold nP4 nEh; rw [if_neg n1]; rfl
  have e5 : nP5 s = nP4 s := by unfold nP5 nEd; rw [if_neg n1]; rfl
  refine ⟨?_, by omega⟩
  unfold scan
  rw [if_neg k1, if_neg (by omega), if_neg (fun c => n1 c.1)]
  rw [e5, e4, e3, h2]
/-- A point and digits. -/
theorem scan_point {E : List Nat} (h : Dg D) (hE : E ≠ [] ∧ ∀ c ∈ E, isd c = true) : (scan (sgn b ++ (D ++ 46 :: E))).2 = true ∧ nP5 (sgn b ++ (D ++ 46 :: E)) ≠ nP2 (sgn b ++ (D ++ 46 :: E)) := by
  have ht : isd (hd (46 :: E)) = false := by simp [isd]
  obtain ⟨k1, k2⟩ := at_p (b := b) h ht
  generalize sgn b ++ (D ++ 46 :: E) = s at *
  have hl : 0 < E.length := List.length_pos_iff.2 hE.1
  have hn : nd E = E.length := by have := nd_app E [] hE.2 rfl; rwa [List.append_nil] at this
  have e3 : nP3 s = nP2 s + (1 + E.length) := by unfold nP3; rw [k2]; unfold nFr; rw [if_pos (by rfl)]; show nP2 s + (1 + nd E) = _; rw [hn]
  have d3 : s.drop (nP3 s) = [] := by rw [e3, ← List.drop_drop, k2, Nat.add_comm 1, List.drop_succ_cons]; simp
  have n1 : ¬ isE (s.drop (nP3 s)) := by rw [d3]; decide
  have e4 : nP4 s = nP3 s := by unfold nP4 nEh; rw [if_neg n1]; rfl
  have e5 : nP5 s = nP4 s := by unfold nP5 nEd; rw [if_neg n1]; rfl
  refine ⟨?_, by omega⟩
  unfold scan
  rw [if_neg k1, if_neg (by omega), if_neg (fun c => n1 c.1)]
/-- An e, perhaps a sign, and digits, or none. -/
theorem scan_e {x : Nat} {m E : List Nat} (hx : x = 101 ∨ x = 69) (hm : m = [] ∨ m = [43] ∨ m = [45]) (h : Dg D) (hE : ∀ c ∈ E, isd c = true) :
    scan (sgn b ++ (D ++ x :: (m ++ E))) = ((sgn b).length + D.length + (1 + m.length + E.length), decide (E ≠ [])) ∧ nP5 (sgn b ++ (D ++ x :: (m ++ E))) ≠ nP2 (sgn b ++ (D ++ x :: (m ++ E))) := by
  have ht : isd (hd (x :: (m ++ E))) = false := by rcases hx with rfl | rfl <;> simp [isd]
  obtain ⟨h1, h2, h3, _⟩ := nm (b := b) h ht
  obtain ⟨k1, k2⟩ := at_p (b := b) h ht
  generalize sgn b ++ (D ++ x :: (m ++ E)) = s at *
  have hn : nd E = E.length := by have := nd_app E [] hE rfl; rwa [List.append_nil] at this
  have e3 : nP3 s = nP2 s := by unfold nP3; rw [k2]; unfold nFr; rw [if_neg (by rcases hx with rfl | rfl <;> simp [hd])]; rfl
  have d3 : s.drop (nP3 s) = x :: (m ++ E) := by rw [e3, k2]
  have y1 : isE (s.drop (nP3 s)) := by rw [d3]; rcases hx with rfl | rfl <;> simp [isE, hd]
  have hp : nPm (m ++ E) = m.length := by
    unfold nPm
    rcases hm with rfl | rfl | rfl
    · rw [List.nil_append, if_neg]
      · rfl
      · intro c
        cases E with
        | nil => simp [hd] at c
        | cons z E =>
          have := hE z (List.mem_cons_self ..)
          have c : z = 43 ∨ z = 45 := c
          rcases c with rfl | rfl <;> simp [isd] at this
    · rfl
    · rfl
  have e4 : nP4 s = nP3 s + (1 + m.length) := by unfold nP4 nEh; rw [if_pos y1, d3]; show nP3 s + (1 + nPm (m ++ E)) = _; rw [hp]
  have e5 : nP5 s = nP4 s + E.length := by
    unfold nP5 nEd
    rw [if_pos y1]
    have : nEh (s.drop (nP3 s)) = 1 + m.length := by unfold nEh; rw [if_pos y1, d3]; show 1 + nPm (m ++ E) = _; rw [hp]
    rw [this, d3, Nat.add_comm 1, List.drop_succ_cons]
    simp [hn]
  refine ⟨?_, by omega⟩
  unfold scan
  rw [if_neg k1, if_neg (by omega)]
  by_cases hE0 : E = []
  · subst hE0
    rw [if_pos ⟨y1, by simpa using e5⟩, e4, e3, h2]
    simp
  · have : 0 < E.length := List.length_pos_iff.2 hE0
    rw [if_neg (fun c => by have := c.2; omega), e5, e4, e3, h2]
    simp [hE0]; omega
/-- A point without digits. -/
theorem scan_dot {E : List Nat} (h : Dg D) (hE : isd (hd E) = false) : scan (sgn b ++ (D ++ 46 :: E)) = ((sgn b).length + D.length + 1, false) := by
  have ht : isd (hd (46 :: E)) = false := by simp [isd]
  obtain ⟨h1, h2, h3, _⟩ := nm (b := b) h ht
  obtain ⟨k1, k2⟩ := at_p (b := b) h ht
  generalize sgn b ++ (D ++ 46 :: E) = s at *
  have hn : nd E = 0 := nd_app [] E (by simp) hE
  have e3 : nP3 s = nP2 s + 1 := by unfold nP3; rw [k2]; unfold nFr; rw [if_pos (by rfl)]; show nP2 s + (1 + nd E) = _; rw [hn]
  unfold scan
  rw [if_neg k1, if_pos e3, e3, h2]
end
end Go.Proofs.YtgmdjofnkbaflaaGreatDoor.Jr

/- The text of a tape, plainly: what it is, and that it is read as the tape that it is of. -/
namespace Go.Proofs.YtgmdjofnkbaflaaGreatDoor.Jr
open Go.Lib
set_option linter.unusedVariables false

/-- A number's digits. -/
def dnum (n : Int) : List Nat := sgn (decide (n < 0)) ++ dcs n.natAbs
def wNull : List Nat := [110, 117, 108, 108]
def wFalse : List Nat := [102, 97, 108, 115, 101]
def wTrue : List Nat := [116, 114, 117, 101]
/-- A value's text: of its root, and its parts' text. -/
def one (k n : Int) (s : ByteArray) (body : List Nat) : List Nat :=
  if k = 1 then wNull else if k = 2 then wFalse else if k = 3 then wTrue else if k = 4 then dnum n else if k = 5 then Utf.tidy (bl s) else (if k = 7 then 123 else 91) :: (body ++ [endOf k])
/-- What stands ahead of a part. -/
def comma (first : Bool) : List Nat := if first then [] else [44]
def keyT (k : Int) (y : ByteArray) : List Nat := if k = 7 then Utf.tidy (bl y) ++ [58] else []
/-- The text of parts. -/
def shp (k : Int) : Bool → Fo → List Nat
  | _, .nil => []
  | first, .node k1 y n s c r => comma first ++ (keyT k y ++ (one k1 n s (shp k1 true c) ++ shp k false r))
/-- The text of a value. -/
def shv : Fo → List Nat
  | .nil => []
  | .node k _ n s c _ => one k n s (shp k true c)
def isNil : Fo → Bool | .nil => true | .node .. => false
theorem shp_app (k : Int) : ∀ (C D : Fo) (first : Bool), shp k first (Tp.app C D) = shp k first C ++ shp k (first && isNil C) D
  | .nil, D, first => by simp [Tp.app, shp, isNil]
  | .node k1 y n s c r, D, first => by
    simp only [Tp.app, shp]
    rw [shp_app k r D false]
    simp [isNil]

/-! ### reading it -/
/-- The numbers fit. -/
def NFit (F : Fo) : Prop := ∀ x ∈ Tp.flat F, -9223372036854775808 ≤ x.n ∧ x.n ≤ 9223372036854775807
theorem nfit_node {k n : Int} {y s : ByteArray} {c r : Fo} (h : NFit (.node k y n s c r)) : (-9223372036854775808 ≤ n ∧ n ≤ 9223372036854775807) ∧ NFit c ∧ NFit r := by
  unfold NFit at h ⊢
  rw [Tp.flat_node] at h
  exact ⟨h _ (List.mem_cons_self ..), fun x hx => h x (List.mem_cons_of_mem _ (List.mem_append_left _ hx)), fun x hx => h x (List.mem_cons_of_mem _ (List.mem_append_right _ hx))⟩
theorem scan_stop {b : Bool} {D t : List Nat} (h : Dg D) (ht : Stop t) : scan (sgn b ++ (D ++ t)) = ((sgn b).length + D.length, true) ∧ nP5 (sgn b ++ (D ++ t)) = nP2 (sgn b ++ (D ++ t)) := by
  obtain ⟨t1, t2, t3, t4⟩ := ht
  obtain ⟨h1, h2, h3, _⟩ := nm (b := b) h t1
  obtain ⟨k1, k2⟩ := at_p (b := b) h t1
  generalize sgn b ++ (D ++ t) = s at *
  have e3 : nP3 s = nP2 s := by unfold nP3; rw [k2]; unfold nFr; rw [if_neg t2]; rfl
  have n1 : ¬ isE (s.drop (nP3 s)) := by rw [e3, k2]; unfold isE; omega
  have e4 : nP4 s = nP3 s := by unfold nP4 nEh; rw [if_neg n1]; rfl
  have e5 : nP5 s = nP4 s := by unfold nP5 nEd; rw [if_neg n1]; rfl
  refine ⟨?_, by omega⟩
  unfold scan
  rw [if_neg k1, if_neg (by omega), if_neg (fun c => n1 c.1)]
  rw [e5, e4, e3, h2]
theorem dnum_num {n : Int} (h : -9223372036854775808 ≤ n ∧ n ≤ 9223372036854775807) : Num (dnum n) n := by
  have hd0 := dcs_dg n.natAbs
  refine ⟨?_, ?_, ?_, fun tail ht => ?_⟩
  · unfold dnum
    by_cases e : n < 0
    · left; simp [e, sgn]
    · right
      simp only [e, decide_false]
      exact isd_hd hd0
  · unfold dnum
    simp [dcs_ne]
  · unfold dnum
    refine Byte.append ?_ (fun x hx => ?_)
    · unfold sgn; split
      · exact Byte.cons (by omega) Byte.nil
      · exact Byte.nil
    · have := dcs_isd n.natAbs x hx
      simp [isd] at this; omega
  · unfold dnum
    rw [List.append_assoc]
    obtain ⟨s1, s2⟩ := scan_stop (b := decide (n < 0)) hd0 ht
    have s3 := (nm (b := decide (n < 0)) hd0 ht.1).2.2.2
    have ev : nVal (sgn (decide (n < 0)) ++ (dcs n.natAbs ++ tail)) = n := by
      rw [s3, dcs_val]
      by_cases e : n < 0
      · simp [e]; omega
      · simp [e]; omega
    refine ⟨by rw [s1, List.length_append], ⟨s2, ?_⟩, ev⟩
    rw [ev]; exact h
theorem sz0 {s : ByteArray} (h : s.size = 0) : s = ⟨#[]⟩ := ByteArray.ext (Array.eq_empty_of_size_eq_zero h)
theorem lit_text {s : ByteArray} (h : Utf.vld (bl s) = true) : Lit (Utf.tidy (bl s)) (bl s) := by
  obtain ⟨rs, h1, h2⟩ := Utf.vld_runes _ (bl s) (Nat.le_refl _) (bl_byte s) h
  have := lit_tidy rs h1
  rwa [← h2] at this
/-- A value's text, given its parts'. -/
theorem val_one {k n : Int} {s : ByteArray} {c : Fo} (hh : Tp.hf k n s) (hc : k ≤ 5 → c = .nil) (hn : -9223372036854775808 ≤ n ∧ n ≤ 9223372036854775807) (hp : (k = 6 ∨ k = 7) → Parts k (shp k true c) c) : Val (one k n s (shp k true c)) (nd1 k ⟨#[]⟩ n s c) := by
  unfold one
  rcases hh with ⟨hk, rfl, hs⟩ | ⟨rfl, hs⟩ | ⟨rfl, rfl, hv⟩ | ⟨hk, rfl, hs⟩
  · obtain rfl := sz0 hs
    obtain rfl := hc (by omega)
    rcases hk with rfl | rfl | rfl
    · exact val_word (.inl ⟨rfl, rfl⟩)
    · exact val_word (.inr (.inl ⟨rfl, rfl⟩))
    · exact val_word (.inr (.inr ⟨rfl, rfl⟩))
  · obtain rfl := sz0 hs
    obtain rfl := hc (by omega)
    exact val_num (dnum_num hn)
  · obtain rfl := hc (by omega)
    have := val_text (lit_text hv)
    rwa [str_bl] at this
  · obtain rfl := sz0 hs
    have := val_open hk (hp hk)
    rcases hk with rfl | rfl
    · exact this
    · exact this
theorem keyed_key {k : Int} {y : ByteArray} (h : Tp.k1 k [] y) : Keyed k (keyT k y) y := by
  unfold Tp.k1 at h
  unfold keyT
  split at h
  · rename_i e
    rw [if_pos e]
    exact ⟨.inr ⟨e, _, _, [], [], lit_text h.1, rfl, (str_bl y).symm, by simp, by simp⟩⟩
  · rename_i e
    rw [if_neg e]
    exact ⟨.inl ⟨e, rfl, sz0 h⟩⟩
/-- The reading goes on over parts' text. -/
def Goes (k : Int) (C : Fo) : Prop := ∀ (D : Fo) (t : St) (Y : ByteArray) (r : List Fr) (tail : List Nat), Tp.ko k (Tp.keys (Tp.app D C)) → Among t k Y D r → t.s = shp k (isNil D) C ++ tail → Byte tail → (C ≠ .nil → Stop tail) → cnt t.op t.root + Tp.sz C ≤ 4000 → t.op.length + Tp.dep C ≤ 64 →
  To t (toParts t (shp k (isNil D) C).length tail k Y (Tp.app D C) r)
theorem goes_byte : ∀ (C : Fo) (k : Int) (first : Bool), Tp.good C → NFit C → Tp.ko k (Tp.keys C) → Byte (shp k first C)
  | .nil, k, first, _, _, _ => Byte.nil
  | .node k1 y n s c r, k, first, hg, hn, hk => by
    obtain ⟨g1, g2, g3, g4, g5⟩ := hg
    obtain ⟨n1, n2, n3⟩ := nfit_node hn
    have hk2 : Tp.ko k ([y] ++ Tp.keys r) := hk
    have hk3 := Tp.ko_append hk2
    have h1 : Tp.k1 k [] y := ((Tp.ko_snoc k [] y).1 hk3.1).2
    have ic := goes_byte c k1 true g4 n2 g3
    have ir := goes_byte r k false g5 n3 hk3.2
    refine Byte.append ?_ (Byte.append (keyed_key h1).byte (Byte.append ?_ ir))
    · unfold comma; split
      · exact Byte.nil
      · exact Byte.cons (by omega) Byte.nil
    · unfold one
      have w1 : Byte wNull := by intro x hx; simp [wNull] at hx; omega
      have w2 : Byte wFalse := by intro x hx; simp [wFalse] at hx; omega
      have w3 : Byte wTrue := by intro x hx; simp [wTrue] at hx; omega
      split
      · exact w1
      split
      · exact w2
      split
      · exact w3
      split
      · exact (dnum_num n1).byte
      split
      · exact Utf.tidy_byte _ (bl_byte s)
      · exact Byte.cons (by split <;> omega) (ic.append (Byte.cons (by unfold endOf; split <;> omega) Byte.nil))
theorem isNil_iff {D : Fo} : isNil D = true ↔ D = .nil := by cases D <;> simp [isNil]
theorem goes : ∀ (C : Fo) (k : Int), Tp.good C → NFit C → Goes k C
  | .nil, k, _, _ => by
    intro D t Y r tail _ ha hs _ _ _ _
    rw [Tp.app_nil]
    have hs : t.s = tail := hs
    have := among_self ha
    rw [hs] at this
    show To t (toParts t 0 tail k Y D r)
    rw [this]
    exact To.refl t
  | .node k1 y n s c r', k, hg, hn => by
    obtain ⟨g1, g2, g3, g4, g5⟩ := hg
    obtain ⟨n1, n2, n3⟩ := nfit_node hn
    have ic := goes c k1 g4 n2
    have ir := goes r' k g5 n3
    intro D t Y r tail hko ha hs hy hst h1 h2
    have hstop : Stop tail := hst (by simp)
    rw [Tp.sz_node] at h1
    simp only [Tp.dep] at h2
    have hP : (k1 = 6 ∨ k1 = 7) → Parts k1 (shp k1 true c) c := fun hk =>
      ⟨goes_byte c k1 true g4 n2 g3, fun t tail y r ha hs hy hst h1 h2 => ic .nil t y r tail g3 ha hs hy hst h1 h2⟩
    have hV := val_one (s := s) g1 g2 n1 hP
    have e0 : Tp.app D (.node k1 y n s c r') = Tp.app (Tp.app D (withKey y (nd1 k1 ⟨#[]⟩ n s c))) r' := by rw [Tp.app_assoc]; rfl
    rw [e0] at hko ⊢
    have hk1 : Tp.ko k (Tp.keys D ++ [y]) := by
      rw [Tp.keys_app, Tp.keys_app] at hko
      exact (Tp.ko_append hko).1
    have hk2 := (Tp.ko_snoc k _ y).1 hk1
    have hk3 : Tp.k1 k [] y := by
      have := hk2.2
      unfold Tp.k1 at this ⊢
      split
      · rename_i e; rw [if_pos e] at this; exact ⟨this.1, by simp⟩
      · rename_i e; rw [if_neg e] at this; exact this
    have hnk : k = 7 → y ∉ Tp.keys D := fun e => by
      have := hk2.2
      unfold Tp.k1 at this
      rw [if_pos e] at this
      exact this.2
    have hsz : Tp.sz (nd1 k1 ⟨#[]⟩ n s c) = 1 + Tp.sz c := by unfold nd1; rw [Tp.sz_node, Tp.sz_nil]; omega
    have hdp : Tp.dep (nd1 k1 ⟨#[]⟩ n s c) = 1 + Tp.dep c := by unfold nd1; simp only [Tp.dep]; omega
    have hko3 : Tp.ko k (Tp.keys r') := by
      rw [Tp.keys_app] at hko
      exact (Tp.ko_append hko).2
    have hbr : Byte (shp k false r' ++ tail) := (goes_byte r' k false g5 n3 hko3).append hy
    have hsr : Stop (shp k false r' ++ tail) := by
      cases r' with
      | nil => exact hstop
      | node => exact stop_of (.inr (.inl rfl))
    have hc : Comma D (comma (isNil D)) := by
      cases D with
      | nil => exact .inl ⟨rfl, rfl⟩
      | node => exact .inr ⟨by simp, [], by simp, rfl⟩
    have hs2 : t.s = comma (isNil D) ++ (keyT k y ++ (one k1 n s (shp k1 true c) ++ (shp k false r' ++ tail))) := by
      rw [hs]
      simp [shp]
    have A := part_go ha hc (keyed_key hk3) hV hs2 hbr (fun _ => hsr) hnk (by omega) (by omega)
    have hcnt : cnt t.op t.root = cnt r t.root + (1 + Tp.sz D) := by rw [ha.op]; rfl
    have hlen : t.op.length = r.length + 1 := by rw [ha.op]; rfl
    have en : isNil (Tp.app D (withKey y (nd1 k1 ⟨#[]⟩ n s c))) = false := by cases D <;> rfl
    have B := ir _ _ Y r tail hko (among_to t (comma (isNil D) ++ (keyT k y ++ one k1 n s (shp k1 true c))).length (shp k false r' ++ tail) k Y (Tp.app D (withKey y (nd1 k1 ⟨#[]⟩ n s c))) r) (by rw [en]; rfl) hy (fun _ => hstop)
      (by show cnt r t.root + (1 + Tp.sz (Tp.app D _)) + _ ≤ 4000; rw [Tp.sz_app, withKey_sz, hsz]; omega) (by show r.length + 1 + _ ≤ 64; omega)
    refine A.trans (B.trans (To.same (congrArg skip ?_)))
    rw [en]
    simp [toParts, shp]
    omega
/-- A tape's text says it. -/
theorem val_shv {V : Fo} (h1 : One V) (hg : Tp.good V) (hn : NFit V) : Val (shv V) V := by
  obtain ⟨k, n, s, c, rfl⟩ := h1
  obtain ⟨g1, g2, g3, g4, _⟩ := hg
  obtain ⟨n1, n2, _⟩ := nfit_node hn
  exact val_one g1 g2 n1 fun hk => ⟨goes_byte c k true g4 n2 g3, fun t tail y r ha hs hy hst h1 h2 => goes c k g4 n2 .nil t y r tail g3 ha hs hy hst h1 h2⟩
theorem reads_shv {V : Fo} (h1 : One V) (hg : Tp.good V) (hn : NFit V) (hz : Tp.sz V ≤ 4000) (hd : Tp.dep V ≤ 64) (hl : (shv V).length ≤ 1048576) : Reads (shv V) (.ok V) := by
  have := reads_val (b1 := []) (b2 := []) (val_shv h1 hg hn) (by simp) (by simp) hz hd (by simpa using hl)
  simpa using this
/-- Of two tapes the texts are the same just if they are. -/
theorem shv_inj {V U : Fo} (h1 : One V) (hg : Tp.good V) (hn : NFit V) (hz : Tp.sz V ≤ 4000) (hd : Tp.dep V ≤ 64) (hl : (shv V).length ≤ 1048576) (k1 : One U) (kg : Tp.good U) (kn : NFit U) (kz : Tp.sz U ≤ 4000) (kd : Tp.dep U ≤ 64) (e : shv V = shv U) : V = U := by
  have a := reads_shv h1 hg hn hz hd hl
  have b := reads_shv k1 kg kn kz kd (e ▸ hl)
  rw [e] at a
  have := a.only b
  injection this
end Go.Proofs.YtgmdjofnkbaflaaGreatDoor.Jr

/- A tape's text has no blanks but those of texts: plainly. Numbers ten times as great. How long a text may be. -/
namespace Go.Proofs.YtgmdjofnkbaflaaGreatDoor.Jr
open Go.Lib
set_option linter.unusedVariables false

/-- Going along a text, within a literal or not: no blank outside, no byte below 32. -/
inductive Pl : Bool → List Nat → Bool → Prop
  | nil (w : Bool) : Pl w [] w
  | esc {w w' : Bool} {c : Nat} {t : List Nat} (h : Pl w t w') : Pl w (92 :: c :: t) w'
  | quote {w w' : Bool} {t : List Nat} (h : Pl (!w) t w') : Pl w (34 :: t) w'
  | other {w w' : Bool} {c : Nat} {t : List Nat} (h0 : 32 ≤ c) (h1 : c ≠ 92) (h2 : c ≠ 34) (h3 : c ≠ 32 ∨ w = true) (h : Pl w t w') : Pl w (c :: t) w'
theorem Pl.append {a b c : Bool} {l m : List Nat} (h : Pl a l b) (k : Pl b m c) : Pl a (l ++ m) c := by
  induction h with
  | nil => exact k
  | esc _ ih => exact .esc (ih k)
  | quote _ ih => exact .quote (ih k)
  | other h0 h1 h2 h3 _ ih => exact .other h0 h1 h2 h3 (ih k)
theorem pl_row {w : Bool} : ∀ {l : List Nat}, (∀ c ∈ l, 33 ≤ c ∧ c ≠ 92 ∧ c ≠ 34) → Pl w l w
  | [], _ => .nil w
  | c :: l, h => by
    have := h c (List.mem_cons_self ..)
    exact .other (by omega) this.2.1 this.2.2 (.inl (by omega)) (pl_row fun x hx => h x (List.mem_cons_of_mem _ hx))
theorem hex_plain (d : Nat) (h : d < 16) : 33 ≤ Utf.hex d ∧ Utf.hex d ≠ 92 ∧ Utf.hex d ≠ 34 := by
  unfold Utf.hex; split <;> omega
theorem pl_esc (c : Nat) (hc : c < 256) : Pl true (Utf.escB c) true := by
  unfold Utf.escB
  split
  · exact .esc (.nil _)
  split
  · exact .esc (.nil _)
  split
  · exact .esc (.nil _)
  split
  · exact .esc (.nil _)
  split
  · exact .esc (.nil _)
  split
  · exact .esc (.nil _)
  split
  · exact .esc (.nil _)
  split
  · refine .esc (pl_row fun x hx => ?_)
    have h1 := hex_plain (c / 16) (by omega)
    have h2 := hex_plain (c % 16) (by omega)
    simp at hx
    rcases hx with rfl | rfl | rfl
    · omega
    · exact h1
    · exact h2
  · exact .other (by omega) (by omega) (by omega) (.inr rfl) (.nil _)
theorem pl_escs : ∀ (l : List Nat), Byte l → Pl true (Utf.escs l) true
  | [], _ => .nil _
  | c :: l, h => by
    rw [Utf.escs_cons]
    exact (pl_esc c (h c (List.mem_cons_self ..))).append (pl_escs l fun x hx => h x (List.mem_cons_of_mem _ hx))
theorem pl_tidy (l : List Nat) (h : Byte l) : Pl false (Utf.tidy l) false := by
  unfold Utf.tidy
  exact .quote ((pl_escs l h).append (.quote (.nil _)))
theorem pl_dnum (n : Int) : Pl false (dnum n) false := by
  refine pl_row fun c hc => ?_
  unfold dnum at hc
  rcases List.mem_append.1 hc with hc | hc
  · unfold sgn at hc
    split at hc
    · simp at hc; omega
    · simp at hc
  · have := dcs_isd _ c hc
    simp [isd] at this; omega
theorem pl_one {k n : Int} {s : ByteArray} {b : List Nat} (h : Pl false b false) : Pl false (one k n s b) false := by
  unfold one
  split
  · exact pl_row (by decide)
  split
  · exact pl_row (by decide)
  split
  · exact pl_row (by decide)
  split
  · exact pl_dnum n
  split
  · exact pl_tidy _ (bl_byte s)
  · refine .other (by split <;> omega) (by split <;> omega) (by split <;> omega) (.inl (by split <;> omega)) (h.append ?_)
    exact .other (by unfold endOf; split <;> omega) (by unfold endOf; split <;> omega) (by unfold endOf; split <;> omega) (.inl (by unfold endOf; split <;> omega)) (.nil _)
theorem pl_shp : ∀ (C : Fo) (k : Int) (first : Bool), Pl false (shp k first C) false
  | .nil, _, _ => .nil _
  | .node k1 y n s c r, k, first => by
    refine Pl.append (b := false) ?_ (Pl.append (b := false) ?_ (Pl.append (pl_one (pl_shp c k1 true)) (pl_shp r k false)))
    · unfold comma; split
      · exact .nil _
      · exact .other (by omega) (by omega) (by omega) (.inl (by omega)) (.nil _)
    · unfold keyT; split
      · exact (pl_tidy _ (bl_byte y)).append (.other (by omega) (by omega) (by omega) (.inl (by omega)) (.nil _))
      · exact .nil _
theorem pl_shv (V : Fo) : Pl false (shv V) false := by
  cases V with
  | nil => exact .nil _
  | node k y n s c r => exact pl_one (pl_shp c k true)
/-- One step along. -/
theorem pl_step {w w' : Bool} {c : Nat} {t : List Nat} (h : Pl w (c :: t) w') : (c = 92 ∧ ∃ d u, t = d :: u ∧ Pl w u w') ∨ (c = 34 ∧ Pl (!w) t w') ∨ (32 ≤ c ∧ c ≠ 92 ∧ c ≠ 34 ∧ (c ≠ 32 ∨ w = true) ∧ Pl w t w') := by
  cases h with
  | esc h => exact .inl ⟨rfl, _, _, rfl, h⟩
  | quote h => exact .inr (.inl ⟨rfl, h⟩)
  | other h0 h1 h2 h3 h => exact .inr (.inr ⟨h0, h1, h2, h3, h⟩)
theorem pl_end {w w' : Bool} (h : Pl w [] w') : w = w' := by cases h; rfl

/-! ### numbers -/
theorem dnum_ten (n : Int) (k : Nat) (hk : k < 10) (h : n ≠ 0) : dnum (10 * n + (if n < 0 then -(k : Int) else k)) = dnum n ++ [48 + k] := by
  unfold dnum
  have e1 : decide (10 * n + (if n < 0 then -(k : Int) else k) < 0) = decide (n < 0) := by
    by_cases e : n < 0
    · simp [e]; omega
    · simp [e]; omega
  have e2 : (10 * n + (if n < 0 then -(k : Int) else k)).natAbs = 10 * n.natAbs + k := by split <;> omega
  rw [e1, e2, dcs_big (by omega)]
  have e3 : (10 * n.natAbs + k) / 10 = n.natAbs := by omega
  have e4 : (10 * n.natAbs + k) % 10 = k := by omega
  rw [e3, e4]
  simp
theorem dnum_dig (k : Nat) (hk : k < 10) : dnum (k : Int) = [48 + k] := by
  unfold dnum
  rw [decide_eq_false (by omega)]
  show [] ++ dcs k = _
  rw [dcs_small hk]; rfl

/-! ### how long -/
theorem tidy_le (l : List Nat) : (Utf.tidy l).length ≤ 6 * l.length + 2 := by
  unfold Utf.tidy Utf.escs
  have h : ∀ m : List Nat, (m.flatMap Utf.escB).length ≤ 6 * m.length := by
    intro m
    induction m with
    | nil => simp
    | cons a m ih =>
      rw [List.flatMap_cons, List.length_append, List.length_cons]
      have := (Utf.escB_len a).2
      omega
  have := h l
  simp only [List.length_cons, List.length_append]
  simp only [List.length_nil]
  omega
theorem dcs_fit (u : Nat) (h : u < 10 ^ 19) : (dcs u).length ≤ 19 := by
  have hle : ∀ (m u : Nat), u < 10 ^ (m + 1) → (dcs u).length ≤ m + 1 := by
    intro m
    induction m with
    | zero => intro u h; rw [dcs_small (by omega)]; simp
    | succ m ih =>
      intro u h
      by_cases hu : u < 10
      · rw [dcs_small hu]; simp
      · rw [dcs_big hu, List.length_append]
        have : u / 10 < 10 ^ (m + 1) := by
          rw [Nat.pow_succ] at h
          exact Nat.div_lt_of_lt_mul (by omega)
        have := ih (u / 10) this
        simp; omega
  exact hle 18 u h
theorem dnum_fit {n : Int} (h : -9223372036854775808 ≤ n ∧ n ≤ 9223372036854775807) : (dnum n).length ≤ 20 := by
  unfold dnum
  have h1 := dcs_fit n.natAbs (by omega)
  have h2 : (sgn (decide (n < 0))).length ≤ 1 := by unfold sgn; split <;> simp
  rw [List.length_append]
  omega
/-- Keys and texts of b bytes at most. -/
def Small (a b : Nat) (F : Fo) : Prop := ∀ x ∈ Tp.flat F, x.key.size ≤ a ∧ x.s.size ≤ b ∧ (-9223372036854775808 ≤ x.n ∧ x.n ≤ 9223372036854775807)
theorem small_node {a b : Nat} {k n : Int} {y s : ByteArray} {c r : Fo} (h : Small a b (.node k y n s c r)) : y.size ≤ a ∧ s.size ≤ b ∧ (-9223372036854775808 ≤ n ∧ n ≤ 9223372036854775807) ∧ Small a b c ∧ Small a b r := by
  unfold Small at h ⊢
  rw [Tp.flat_node] at h
  have h0 := h _ (List.mem_cons_self ..)
  exact ⟨h0.1, h0.2.1, h0.2.2, fun x hx => h x (List.mem_cons_of_mem _ (List.mem_append_left _ hx)), fun x hx => h x (List.mem_cons_of_mem _ (List.mem_append_right _ hx))⟩
theorem one_le {a b : Nat} {k n : Int} {s : ByteArray} {B : List Nat} (h2 : s.size ≤ b) (h3 : -9223372036854775808 ≤ n ∧ n ≤ 9223372036854775807) : (one k n s B).length ≤ B.length + (6 * b + 20) := by
  have e1 := tidy_le (bl s)
  rw [bl_length] at e1
  have e2 := dnum_fit h3
  unfold one wNull wFalse wTrue
  split
  · simp; omega
  split
  · simp; omega
  split
  · simp; omega
  split
  · omega
  split
  · omega
  · simp; omega
theorem shp_le {a b : Nat} : ∀ (C : Fo) (k : Int) (first : Bool), Small a b C → (shp k first C).length ≤ (6 * a + 6 * b + 24) * Tp.sz C
  | .nil, _, _, _ => by simp [shp]
  | .node k1 y n s c r, k, first, h => by
    obtain ⟨h1, h2, h3, h4, h5⟩ := small_node h
    have ic := shp_le c k1 true h4
    have ir := shp_le r k false h5
    have e1 := one_le (a := a) (k := k1) (B := shp k1 true c) h2 h3
    have e2 : (comma first).length ≤ 1 := by unfold comma; split <;> simp
    have e3 : (keyT k y).length ≤ 6 * a + 3 := by
      unfold keyT
      split
      · have := tidy_le (bl y)
        rw [bl_length] at this
        simp; omega
      · simp
    rw [Tp.sz_node]
    simp only [shp, List.length_append]
    have : (6 * a + 6 * b + 24) * (1 + Tp.sz c + Tp.sz r) = (6 * a + 6 * b + 24) + (6 * a + 6 * b + 24) * Tp.sz c + (6 * a + 6 * b + 24) * Tp.sz r := by rw [Nat.mul_add, Nat.mul_add, Nat.mul_one]
    omega
theorem shv_le {a b : Nat} {k n : Int} {y s : ByteArray} {c : Fo} (h : Small a b (.node k y n s c .nil)) : (shv (.node k y n s c .nil)).length ≤ (6 * a + 6 * b + 24) * Tp.sz (.node k y n s c .nil) := by
  have := shp_le _ 6 true h
  simpa [shp, shv, comma, keyT] using this
end Go.Proofs.YtgmdjofnkbaflaaGreatDoor.Jr

/- A text that grows up to its limit, in a builder that is embedded: the builder's methods, fits, put. -/
namespace Go.Proofs.YtgmdjofnkbaflaaGreatDoor
open Go.RowKit
set_option linter.unusedVariables false
set_option maxRecDepth 100000

/-- The writer's block b (from block B on): its own bytes, and whether it is full. -/
structure Wr (B b : Nat) (l : List Nat) (fl : Bool) (w : World) : Prop where
  lo : B ≤ b
  lies : ∃ p v, (p = .pointer none ∨ p = .pointer (some ⟨b, 0, none⟩)) ∧ w.heap[b]? = some (.cells #[p, v, .bool fl] 97 (0, 0)) ∧ w.ownsRow B 5 1 v l.length (vals l)
  byte : ∀ x ∈ l, x < 256
  len : l.length ≤ 1048576
theorem Wr.lt {B b : Nat} {l : List Nat} {fl : Bool} {w : World} (h : Wr B b l fl w) : b < w.heap.size := by
  obtain ⟨p, v, _, h, _⟩ := h.lies
  exact (Array.getElem?_eq_some_iff.1 h).1
theorem wr_ne : (97 : TypeId) ≠ 5 := by decide
/-- What a writing call keeps. -/
def WK (B b : Nat) (w w' : World) : Prop := Below B w w' ∧ Lib.OthersKept 5 (some b) w w'
theorem WK.refl (B b : Nat) (w : World) : WK B b w w := ⟨Below.refl _ _, Lib.OthersKept.refl _ _ _⟩
theorem WK.trans {B b : Nat} {w w1 w2 : World} (h : WK B b w w1) (k : WK B b w1 w2) : WK B b w w2 := ⟨h.1.trans k.1, h.2.trans k.2⟩
theorem WK.new {B b : Nat} {w w' : World} (hB : B ≤ w.heap.size) (hb : Below w.heap.size w w') : WK B b w w' :=
  ⟨hb.mono hB, fun k o hk _ _ => (hb.block k (Array.getElem?_eq_some_iff.1 hk).1).trans hk⟩
theorem Wr.kept {B b : Nat} {l : List Nat} {fl : Bool} {w w' : World} (h : Wr B b l fl w) (hk : ∀ (k : Nat) c t f, w.heap[k]? = some (Obj.cells c t f) → w'.heap[k]? = some (Obj.cells c t f)) : Wr B b l fl w' := by
  obtain ⟨h1, ⟨p, v, h2, h3, h4⟩, h5, h6⟩ := h
  exact ⟨h1, ⟨p, v, h2, hk _ _ _ _ h3, row_kept h4 hk⟩, h5, h6⟩
theorem Wr.later {B b : Nat} {l : List Nat} {fl : Bool} {w w' : World} (h : Wr B b l fl w) (hb : Below w.heap.size w w') : Wr B b l fl w' :=
  h.kept fun k c t f hk => (hb.block k (Array.getElem?_eq_some_iff.1 hk).1).trans hk
theorem Wr.fresh (w : World) : Wr w.heap.size w.heap.size [] false (w.alloc (.cells #[.pointer none, .slice none 0 0, .bool false] 97)) :=
  ⟨Nat.le_refl _, ⟨.pointer none, .slice none 0 0, .inl rfl, Array.getElem?_push_size, World.ownsRow_nil _ _ _ _⟩, by simp, by simp⟩
/-- Taken apart. -/
theorem Wr.parts {B b : Nat} {l : List Nat} {fl : Bool} {w : World} (h : Wr B b l fl w) : ∃ p a c, (p = .pointer none ∨ p = .pointer (some ⟨b, 0, none⟩)) ∧ w.heap[b]? = some (.cells #[p, .slice a l.length c, .bool fl] 97 (0, 0)) ∧ w.ownsRow B 5 1 (.slice a l.length c) l.length (vals l) ∧ (Value.slice a l.length c).ownBlock ≠ some b := by
  obtain ⟨p, v, h2, h3, h4⟩ := h.lies
  have hne : v.ownBlock ≠ some b := by
    intro e
    obtain ⟨c, fz, hc⟩ := row_kind h4 b e
    rw [h3] at hc
    injection hc with hc
    injection hc with _ hc _
    exact wr_ne hc
  rcases id h4.2 with ⟨hv, h0⟩ | ⟨g, cap, cur, hv, _⟩
  · have e : v = Value.slice none l.length 0 := by rw [h0, hv]
    rw [e] at h3 h4 hne
    exact ⟨p, none, 0, h2, h3, h4, hne⟩
  · rw [hv] at h3 h4 hne
    exact ⟨p, _, _, h2, h3, h4, hne⟩
theorem wr_size : (Tryz.prog.info? 97).map (·.size) = some 3 := by kernel_rfl
theorem wr_lies : liesAt Tryz.prog Tryz.prog.depth 97 (3 / Tryz.prog.cellsOf 97) 0 78 1 = true := by kernel_rfl

set_option maxHeartbeats 1000000 in
theorem wCopyCheck (B b : Nat) (l : List Nat) (fl : Bool) (w : World) (h : Wr B b l fl w) :
    Calls Tryz.prog 95 #[.pointer (some ⟨b, 0, none⟩)] w fun e w' => e = .returned (.tuple #[]) ∧
      (∃ a c, w'.heap[b]? = some (.cells #[.pointer (some ⟨b, 0, none⟩), .slice a l.length c, .bool fl] 97 (0, 0)) ∧ w'.ownsRow B 5 1 (.slice a l.length c) l.length (vals l) ∧ (Value.slice a l.length c).ownBlock ≠ some b) ∧ w'.heap.size = w.heap.size ∧ WK B b w w' := by
  obtain ⟨j, hj, hjs⟩ := Option.map_eq_some_iff.1 b_size
  obtain ⟨p, a, c, hp, hbk, hown, hne⟩ := h.parts
  have hlo := h.lo
  have hlt := h.lt
  have c0 := cell_heap hbk 0
  have hsh : w.shape? b = some (97, 3) := by simp [World.shape?, hbk]
  have hfz : w.frozen? ⟨b, 0, none⟩ = false := by simp [World.frozen?, hbk]
  simp at c0
  rcases hp with rfl | rfl
  · have HBK := Lib.hid hbk
    have HO := Lib.hid hown
    have HN := Lib.hid hne
    clear h hbk hown hne
    go_enter Tryz.func95, Tryz.ntmps95
    go_wp2
    rw [Lib.run_to_unsafe w ⟨b, 0, none⟩ Tryz.underlying76 Tryz.underlying160 hj (by rw [hjs]; decide) hsh (Nat.zero_lt_succ 2)]
    simp only [Result.andThen]
    rw [Oper.upon_value]
    go_wp2
    rw [run_callFunc_extern Tryz.func126 (by kernel_rfl) (by kernel_rfl) (by kernel_rfl) (e := Extern.AbiNoEscape.same) (by kernel_rfl)]
    rw [Lib.run_noEscape]
    simp only [Result.andThen]
    rw [Oper.upon_value]
    go_wp2
    rw [Lib.run_from_unsafe w ⟨b, 0, none⟩ Tryz.underlying160 Tryz.underlying76 hj hsh wr_lies]
    simp only [Result.andThen]
    rw [Oper.upon_value]
    go_wp2
    go_end0
    refine ⟨rfl, ⟨a, c, ?_, ?_, HN.out⟩, by simp [World.setCell], (Below.refl B w).setCell (p := ⟨b, 0, none⟩) hlo _, (Lib.OthersKept.refl _ _ w).setCell ⟨b, 0, none⟩ rfl _⟩
    · simp [World.setCell, Array.getElem?_modify, HBK.out]
    · exact HO.out.kept (row := some b) ⟨rfl, rfl, rfl, by simp [World.setCell], fun k _ hk => Below.heap_setCell _ _ _ _ (fun e => hk (by simp [e]))⟩ (Or.inr HN.out)
  · have HBK := Lib.hid hbk
    have HO := Lib.hid hown
    have HN := Lib.hid hne
    clear h hbk hown hne
    go_enter Tryz.func95, Tryz.ntmps95
    go_wp2
    rw [Lib.run_neq_ptr_same w _ Tryz.underlying76 hj]
    go_wp2
    go_end0
    exact ⟨rfl, ⟨a, c, HBK.out, HO.out, HN.out⟩, rfl, WK.refl _ _ _⟩
set_option maxHeartbeats 2000000 in
theorem wWrite (B b : Nat) (l : List Nat) (fl : Bool) (s : ByteArray) (w : World) (h : Wr B b l fl w) (hs : l.length + s.size ≤ 1048576) (hBw : B ≤ w.heap.size) :
    Calls Tryz.prog 46 #[.pointer (some ⟨b, 0, none⟩), .string s] w fun e w' => (∃ n, e = .returned (.tuple #[.int .i64 n, .nilIface])) ∧ Wr B b (l ++ bl s) fl w' ∧ WK B b w w' := by
  obtain ⟨i0, hi, hz0, hz1, hz2⟩ := byte_parts
  have HH := Lib.hid h
  have HLV := Lib.hid (vals_length l)
  have CC := Lib.hid (wCopyCheck B b l fl w h)
  have hlt := h.lt
  clear h
  go_enter Tryz.func46, Tryz.ntmps46
  go_wp2_with (go_at_call 95; refine (CC.out).mono ?_)
  rintro e w1 ⟨rfl, ⟨a1, cp1, hbk, hown, hne⟩, hsz, hk1⟩
  have c0 := cell_heap hbk 0
  have c1 := cell_heap hbk 1
  simp at c0 c1
  have HK := Lib.hid hbk
  have HN := Lib.hid hne
  have HO := Lib.hid hown
  have HK1 := Lib.hid hk1
  clear hbk hne hown hk1 CC
  have hown2 : w1.ownsRow B 5 1 (.slice a1 l.length cp1) (vals l).length (vals l) := by rw [HLV.out]; exact HO.out
  go_wp2_with (at_builtin; refine Lib.wpList_append_own_string _ rfl _ _ 44 9 rfl B 5 i0 Tryz.underlying44 Tryz.underlying9 hi hz0 hz1 hz2 _ _ _ rfl hown2 s rfl (by rw [HLV.out]; simp only [maxLen]; omega) (by rw [HLV.out]; omega) (by omega) ?_)
  intro v' w2 hown' hgrow _
  have hb2 : w2.heap[b]? = some (.cells #[.pointer (some ⟨b, 0, none⟩), .slice a1 l.length cp1, .bool fl] 97 (0, 0)) := by
    rw [hgrow.block b (by omega) (fun e => HN.out e.symm)]
    exact HK.out
  have d0 := cell_heap hb2 0
  have d1 := cell_heap hb2 1
  simp at d0 d1
  have f1 : w2.frozen? ⟨b, 1, none⟩ = false := by simp [World.frozen?, hb2]
  obtain ⟨a2, cp2, rfl⟩ := row_shape hown'
  have HB2 := Lib.hid hb2
  have HO2 := Lib.hid hown'
  have HG := Lib.hid hgrow
  clear hb2 hown' hgrow hown2
  go_wp2
  go_ret2
  have hne2 : (Value.slice a2 ((vals l).length + s.size) cp2).ownBlock ≠ some b := by
    intro e
    obtain ⟨c, fz, hc⟩ := row_kind HO2.out b e
    rw [HB2.out] at hc
    injection hc with hc
    injection hc with _ hc _
    exact wr_ne hc
  refine ⟨⟨_, rfl⟩, ⟨HH.out.lo, ⟨.pointer (some ⟨b, 0, none⟩), .slice a2 ((vals l).length + s.size) cp2, .inr rfl, ?_, ?_⟩, fun x hx => ?_, by rw [List.length_append, bl_length]; exact hs⟩, ?_, ?_⟩
  · simp [World.setCell, Array.getElem?_modify, HB2.out]
  · have := HO2.out.kept (w' := w2.setCell ⟨b, 1, none⟩ (.slice a2 ((vals l).length + s.size) cp2)) (row := some b) ⟨rfl, rfl, rfl, by simp [World.setCell], fun k _ hk => Below.heap_setCell _ _ _ _ (fun e => hk (by simp [e]))⟩ (Or.inr hne2)
    rw [vals_append, ← strCells_bl]
    rw [List.length_append, bl_length]
    rw [HLV.out] at this ⊢
    exact this
  · rcases List.mem_append.1 hx with hx | hx
    · exact HH.out.byte x hx
    · exact bl_byte s x hx
  · exact (HK1.out.1.grown HG.out (by omega) (fun k hk => (HO.out.lt k hk).1)).setCell (p := ⟨b, 1, none⟩) HH.out.lo _
  · exact (HK1.out.2.grown HG.out fun g hg => row_kind HO.out g hg).setCell ⟨b, 1, none⟩ rfl _
set_option maxHeartbeats 1000000 in
theorem wLen (B b : Nat) (l : List Nat) (fl : Bool) (w : World) (h : Wr B b l fl w) :
    Calls Tryz.prog 47 #[.pointer (some ⟨b, 0, none⟩)] w fun e w' => e = .returned (.int .i64 (l.length : Nat)) ∧ w = w' := by
  obtain ⟨p, a, c, hp, hbk, hown, hne⟩ := h.parts
  have c1 := cell_heap hbk 1
  simp at c1
  clear h hbk hown hne
  go_enter Tryz.func47, Tryz.ntmps47
  go_wp2_with fail
  go_ret
  exact ⟨rfl, rfl⟩
/-- Full, or not. -/
def fits (l : List Nat) (fl : Bool) (n : Nat) : Bool := !fl && decide (l.length + n ≤ 1048576)
set_option maxHeartbeats 2000000 in
theorem wFits (B b : Nat) (l : List Nat) (fl : Bool) (n : Nat) (hn : n ≤ 1000000000) (w : World) (h : Wr B b l fl w) :
    Calls Tryz.prog 131 #[.pointer (some ⟨b, 0, none⟩), .int .i64 (n : Nat)] w fun e w' => e = .returned (.bool (fits l fl n)) ∧ Wr B b l (!fits l fl n) w' ∧ WK B b w w' := by
  obtain ⟨p, a, c, hp, hbk, hown, hne⟩ := h.parts
  have hlen := h.len
  have HH := Lib.hid h
  have CL := Lib.hid (wLen B b l fl w h)
  have c2 := cell_heap hbk 2
  have f2 : w.frozen? ⟨b, 2, none⟩ = false := by simp [World.frozen?, hbk]
  have HBK := Lib.hid hbk
  have HO := Lib.hid hown
  have HN := Lib.hid hne
  simp at c2
  clear h hbk hown hne
  by_cases hlt : l.length + n ≤ 1048576
  · have q : ¬ ((n : Int) > 1048576 - (l.length : Nat)) := by omega
    have q2 : ¬ (1048576 - (l.length : Int) < (n : Int)) := by omega
    have e1 : fits l fl n = !fl := by simp [fits, hlt]
    rw [e1]
    go_enter Tryz.func131, Tryz.ntmps131
    go_wp2_with fail
    ((with_reducible refine (CL.out).mono ?_); rintro e w2 ⟨rfl, rfl⟩)
    go_wp2_with fail
    go_ret
    exact ⟨rfl, by rw [Bool.not_not]; exact HH.out, WK.refl _ _ _⟩
  · have q2 : (1048576 - (l.length : Int) < (n : Int)) := by omega
    have e1 : fits l fl n = false := by simp [fits, hlt]
    rw [e1]
    have c2' : (w.setCell ⟨b, 2, none⟩ (.bool true)).cell? ⟨b, 2, none⟩ = some (.bool true) := World.cell?_setCell_same' _ _ _ (by rw [c2]; rfl)
    go_enter Tryz.func131, Tryz.ntmps131
    go_wp2_with fail
    ((with_reducible refine (CL.out).mono ?_); rintro e w2 ⟨rfl, rfl⟩)
    go_wp2_with fail
    go_ret
    refine ⟨rfl, ⟨HH.out.lo, ⟨p, .slice a l.length c, hp, ?_, ?_⟩, HH.out.byte, HH.out.len⟩, (Below.refl B w).setCell (p := ⟨b, 2, none⟩) HH.out.lo _, (Lib.OthersKept.refl _ _ w).setCell ⟨b, 2, none⟩ rfl _⟩
    · simp [World.setCell, Array.getElem?_modify, HBK.out]
    · exact HO.out.kept (row := some b) ⟨rfl, rfl, rfl, by simp [World.setCell], fun k _ hk => Below.heap_setCell _ _ _ _ (fun e => hk (by simp [e]))⟩ (Or.inr HN.out)
/-- The writer was given this text, in all. -/
def WS (B b : Nat) (M : List Nat) (w : World) : Prop := ∃ l fl, Wr B b l fl w ∧ (fl = false → l = M) ∧ (fl = true ↔ 1048576 < M.length)
theorem WS.lo {B b : Nat} {M : List Nat} {w : World} (h : WS B b M w) : B ≤ b := by obtain ⟨l, fl, h, _⟩ := h; exact h.lo
theorem WS.lt {B b : Nat} {M : List Nat} {w : World} (h : WS B b M w) : b < w.heap.size := by obtain ⟨l, fl, h, _⟩ := h; exact h.lt
theorem WS.kept {B b : Nat} {M : List Nat} {w w' : World} (h : WS B b M w) (hk : ∀ (k : Nat) c t f, w.heap[k]? = some (Obj.cells c t f) → w'.heap[k]? = some (Obj.cells c t f)) : WS B b M w' := by
  obtain ⟨l, fl, h1, h2⟩ := h
  exact ⟨l, fl, h1.kept hk, h2⟩
theorem WS.later {B b : Nat} {M : List Nat} {w w' : World} (h : WS B b M w) (hb : Below w.heap.size w w') : WS B b M w' := by
  obtain ⟨l, fl, h1, h2⟩ := h
  exact ⟨l, fl, h1.later hb, h2⟩
set_option maxHeartbeats 2000000 in
theorem wPut (B b : Nat) (M : List Nat) (s : ByteArray) (w : World) (h : WS B b M w) (hs : s.size ≤ 1000000000) (hBw : B ≤ w.heap.size) :
    Calls Tryz.prog 102 #[.pointer (some ⟨b, 0, none⟩), .string s] w fun e w' => e = .returned (.tuple #[]) ∧ WS B b (M ++ bl s) w' ∧ WK B b w w' := by
  obtain ⟨l, fl, h1, h2, h3⟩ := h
  have CF := Lib.hid (wFits B b l fl s.size hs w h1)
  have HM := Lib.hid (show (M ++ bl s).length = M.length + s.size by rw [List.length_append, bl_length])
  obtain ⟨q, hq⟩ : ∃ q, fits l fl s.size = q := ⟨_, rfl⟩
  rw [hq] at CF
  clear h1
  cases q with
  | true =>
    obtain ⟨rfl, hle⟩ : fl = false ∧ l.length + s.size ≤ 1048576 := by simpa [fits] using hq
    obtain rfl := h2 rfl
    go_enter Tryz.func102, Tryz.ntmps102
    go_wp2_with fail
    ((with_reducible refine (CF.out).mono ?_); rintro e w2 ⟨rfl, hw, hk⟩)
    have CW := Lib.hid (wWrite B b l false s w2 hw hle (Nat.le_trans hBw hk.1.size))
    have HK := Lib.hid hk
    clear hw hk CF
    go_wp2_with fail
    ((with_reducible refine (CW.out).mono ?_); rintro e w3 ⟨⟨n, rfl⟩, hw, hk⟩)
    have HW := Lib.hid hw
    have HK2 := Lib.hid (HK.out.trans hk)
    clear hw hk CW
    go_wp2_with fail
    go_end0
    exact ⟨rfl, ⟨_, false, HW.out, fun _ => rfl, ⟨fun e => by simp at e, fun e => by rw [HM.out] at e; omega⟩⟩, HK2.out⟩
  | false =>
    have hbig : 1048576 < (M ++ bl s).length := by
      rw [HM.out]
      cases fl with
      | true => have := h3.1 rfl; omega
      | false =>
        obtain rfl := h2 rfl
        simp [fits] at hq
        omega
    have HB := Lib.hid hbig
    clear hbig
    go_enter Tryz.func102, Tryz.ntmps102
    go_wp2_with fail
    ((with_reducible refine (CF.out).mono ?_); rintro e w2 ⟨rfl, hw, hk⟩)
    have HW := Lib.hid hw
    have HK := Lib.hid hk
    clear hw hk CF
    go_wp2_with fail
    go_end0
    exact ⟨rfl, ⟨l, true, HW.out, fun e => by simp at e, ⟨fun _ => HB.out, fun _ => rfl⟩⟩, HK.out⟩
end Go.Proofs.YtgmdjofnkbaflaaGreatDoor

/- The program's Quote, of texts as long as they may be. -/
namespace Go.Proofs.YtgmdjofnkbaflaaGreatDoor
open Go.RowKit
set_option linter.unusedVariables false

set_option maxHeartbeats 8000000 in
set_option maxRecDepth 100000 in
theorem quote_big (s : ByteArray) (w : World) (T : Tab w) (hm : s.size ≤ 1100000) (h : Utf.vld (bl s) = true) :
    Calls Tryz.prog 124 #[.string s] w fun e w' => e = .returned (.tuple #[.string (str (Utf.tidy (bl s))), .int .i64 0]) ∧ Below w.heap.size w w' := by
  have hm2 : s.size ≤ maxLen := by unfold maxLen; omega
  have HV := Lib.hid h
  clear h
  go_enter Tryz.func124, Tryz.ntmps124
  go_wp2_with fail
  ((with_reducible refine (valid s _ T hm2 _ HV.out).mono ?_); rintro e w2 ⟨rfl, hb2⟩)
  go_wp2_with fail
  ((with_reducible refine (paired_tidy w2).mono ?_); rintro e w3 ⟨rfl, hmap3, hb3⟩)
  have hB0 := Bld.fresh w3
  have HM3 := Lib.hid hmap3
  have HB0 := Lib.hid hB0
  have hbb : Below w.heap.size w w3 := up hb2 hb3
  have hm3 := hmap3.lt
  clear hmap3 hB0
  go_wp2_with fail
  ((with_reducible refine (writeByteI w3.heap.size w3.heap.size [] 34 34 rfl _ HB0.out (by decide) (by simp) (by simp)).mono ?_); rintro e w4 ⟨rfl, hw4⟩)
  go_wp2
  have hqs : QS w3 w2.heap.size w3.heap.size w4.heap.size tidyL s 0 (upto (bl s) 0) (w4.iter s 0) := by
    obtain ⟨k1, k2, k3⟩ := hw4
    have hlt := k1.lt
    have hn : Below w4.heap.size w4 (w4.iter s 0) := (Below.refl _ _).alloc (Nat.le_refl _) _
    refine ⟨?_, ?_, ?_, ?_, hm3, hlt⟩
    · have := (HM3.out.later ((Below.refl _ _).alloc (Nat.le_refl _) (.cells #[.pointer none, .slice none 0 0] 78)))
      exact IsMap.later (show IsMap w4 w2.heap.size tidyL from (k2.block _ hm3).trans this) hn
    · have := k1.later hn
      simpa [upto, Utf.escs] using this
    · have := World.iter_heap w4 s 0
      simpa using this
    · exact (((Below.refl _ w3).alloc (Nat.le_refl _) _).trans k2).trans (hn.mono (by omega))
  have HQ := Lib.hid hqs
  clear hqs hw4
  go_loopw [] (fun wr => ∃ pos : Nat, pos ≤ s.size ∧ QS w3 w2.heap.size w3.heap.size w4.heap.size tidyL s pos (upto (bl s) pos) wr ∧ Hid (Utf.vld ((bl s).drop pos) = true)) (fun wr => s.size - wr.iterPos w4.heap.size)
  case atStart => exact ⟨0, by omega, HQ.out, by simpa using HV⟩
  case round =>
    clear HQ
    obtain ⟨pos, hps, hq, HVD⟩ := hrel
    have hul := upto_len (bl s) pos
    rw [bl_length] at hul
    have hit := hq.2.2.1
    by_cases hp : pos < s.size
    · have hnx : ∀ ty, (Instr.next (.pointer (some ⟨w4.heap.size, 0, none⟩)) true ty).run Tryz.prog wr = _ := fun ty => Lib.run_next_any_at wr w4.heap.size s pos ty hit hp
      have hne : (bl s).drop pos ≠ [] := fun e => by have := congrArg List.length e; simp [bl_length] at this; omega
      have hs := Utf.vld_step _ hne
      rw [HVD.out] at hs
      have h1 : Utf.nw ((bl s).drop pos) ≠ 0 := fun e => by rw [if_pos e] at hs; cases hs
      rw [if_neg h1, List.drop_drop] at hs
      rw [dec_from s pos hp, dec_step _ h1] at hnx
      have hle := Utf.nw_le _ (Utf.drop_byte (bl_byte s) pos)
      rw [List.length_drop, bl_length] at hle
      have hur := upto_rune (bl s) (bl_byte s) pos h1
      have hisr := (Utf.nx_some _ (Utf.drop_byte (bl_byte s) pos) h1).1
      have hq2 := hq.iter (pos + Utf.nw ((bl s).drop pos))
      generalize Utf.nr ((bl s).drop pos) = r at *
      generalize Utf.nw ((bl s).drop pos) = n at *
      have hr2 : r ≤ 1114111 := by unfold Utf.isr at hisr; omega
      have HI := Lib.hid hit
      have HS := Lib.hid hs
      have HU := Lib.hid hur
      have HQ2 := Lib.hid hq2
      have hrest : ∀ (acc : List Nat) (wx : World), QS w3 w2.heap.size w3.heap.size w4.heap.size tidyL s (pos + n) acc wx → acc = upto (bl s) pos ++ Utf.escR r → ∃ pos' : Nat, pos' ≤ s.size ∧ QS w3 w2.heap.size w3.heap.size w4.heap.size tidyL s pos' (upto (bl s) pos') wx ∧ Hid (Utf.vld ((bl s).drop pos') = true) := by
        intro acc wx hx he
        refine ⟨pos + n, by omega, ?_, Lib.hid HS.out.symm⟩
        rw [HU.out, ← he]; exact hx
      have HR := Lib.hid hrest
      clear hs hur hit hq2 hne hrest
      by_cases c34 : r = 34
      · subst c34
        have hlk := look_someI HQ2.out.1 34 34 34 34 rfl rfl (by decide)
        have HE := Lib.hid (show Utf.escR 34 = [92] ++ Utf.enc 34 from rfl)
        go_wp2_with fail
        ((with_reducible refine (qs_byte HQ2.out 92 92 rfl (by decide) (by omega)).mono ?_); rintro e w5 ⟨rfl, hq5⟩)
        go_wp2_with fail
        ((with_reducible refine (qs_rune hq5 34 34 rfl (isr_low _ (by decide)) (by simp; omega)).mono ?_); rintro e w6 ⟨⟨nn, rfl⟩, hq6⟩)
        have HQ6 := Lib.hid hq6
        clear hq5 hq6
        go_wp2
        go_roundw
        case rel => exact HR.out _ _ HQ6.out (by rw [HE.out, List.append_assoc])
        case measure => simp only [World.iterPos, HQ6.out.at, HI.out]; omega
      by_cases c92 : r = 92
      · subst c92
        have hlk := look_someI HQ2.out.1 92 92 92 92 rfl rfl (by decide)
        have HE := Lib.hid (show Utf.escR 92 = [92] ++ Utf.enc 92 from rfl)
        go_wp2_with fail
        ((with_reducible refine (qs_byte HQ2.out 92 92 rfl (by decide) (by omega)).mono ?_); rintro e w5 ⟨rfl, hq5⟩)
        go_wp2_with fail
        ((with_reducible refine (qs_rune hq5 92 92 rfl (isr_low _ (by decide)) (by simp; omega)).mono ?_); rintro e w6 ⟨⟨nn, rfl⟩, hq6⟩)
        have HQ6 := Lib.hid hq6
        clear hq5 hq6
        go_wp2
        go_roundw
        case rel => exact HR.out _ _ HQ6.out (by rw [HE.out, List.append_assoc])
        case measure => simp only [World.iterPos, HQ6.out.at, HI.out]; omega
      by_cases c8 : r = 8
      · subst c8
        have hlk := look_someI HQ2.out.1 8 98 8 98 rfl rfl (by decide)
        have HE := Lib.hid (show Utf.escR 8 = [92] ++ Utf.enc 98 from rfl)
        go_wp2_with fail
        ((with_reducible refine (qs_byte HQ2.out 92 92 rfl (by decide) (by omega)).mono ?_); rintro e w5 ⟨rfl, hq5⟩)
        go_wp2_with fail
        ((with_reducible refine (qs_rune hq5 98 98 rfl (isr_low _ (by decide)) (by simp; omega)).mono ?_); rintro e w6 ⟨⟨nn, rfl⟩, hq6⟩)
        have HQ6 := Lib.hid hq6
        clear hq5 hq6
        go_wp2
        go_roundw
        case rel => exact HR.out _ _ HQ6.out (by rw [HE.out, List.append_assoc])
        case measure => simp only [World.iterPos, HQ6.out.at, HI.out]; omega
      by_cases c12 : r = 12
      · subst c12
        have hlk := look_someI HQ2.out.1 12 102 12 102 rfl rfl (by decide)
        have HE := Lib.hid (show Utf.escR 12 = [92] ++ Utf.enc 102 from rfl)
        go_wp2_with fail
        ((with_reducible refine (qs_byte HQ2.out 92 92 rfl (by decide) (by omega)).mono ?_); rintro e w5 ⟨rfl, hq5⟩)
        go_wp2_with fail
        ((with_reducible refine (qs_rune hq5 102 102 rfl (isr_low _ (by decide)) (by simp; omega)).mono ?_); rintro e w6 ⟨⟨nn, rfl⟩, hq6⟩)
        have HQ6 := Lib.hid hq6
        clear hq5 hq6
        go_wp2
        go_roundw
        case rel => exact HR.out _ _ HQ6.out (by rw [HE.out, List.append_assoc])
        case measure => simp only [World.iterPos, HQ6.out.at, HI.out]; omega
      by_cases c10 : r = 10
      · subst c10
        have hlk := look_someI HQ2.out.1 10 110 10 110 rfl rfl (by decide)
        have HE := Lib.hid (show Utf.escR 10 = [92] ++ Utf.enc 110 from rfl)
        go_wp2_with fail
        ((with_reducible refine (qs_byte HQ2.out 92 92 rfl (by decide) (by omega)).mono ?_); rintro e w5 ⟨rfl, hq5⟩)
        go_wp2_with fail
        ((with_reducible refine (qs_rune hq5 110 110 rfl (isr_low _ (by decide)) (by simp; omega)).mono ?_); rintro e w6 ⟨⟨nn, rfl⟩, hq6⟩)
        have HQ6 := Lib.hid hq6
        clear hq5 hq6
        go_wp2
        go_roundw
        case rel => exact HR.out _ _ HQ6.out (by rw [HE.out, List.append_assoc])
        case measure => simp only [World.iterPos, HQ6.out.at, HI.out]; omega
      by_cases c13 : r = 13
      · subst c13
        have hlk := look_someI HQ2.out.1 13 114 13 114 rfl rfl (by decide)
        have HE := Lib.hid (show Utf.escR 13 = [92] ++ Utf.enc 114 from rfl)
        go_wp2_with fail
        ((with_reducible refine (qs_byte HQ2.out 92 92 rfl (by decide) (by omega)).mono ?_); rintro e w5 ⟨rfl, hq5⟩)
        go_wp2_with fail
        ((with_reducible refine (qs_rune hq5 114 114 rfl (isr_low _ (by decide)) (by simp; omega)).mono ?_); rintro e w6 ⟨⟨nn, rfl⟩, hq6⟩)
        have HQ6 := Lib.hid hq6
        clear hq5 hq6
        go_wp2
        go_roundw
        case rel => exact HR.out _ _ HQ6.out (by rw [HE.out, List.append_assoc])
        case measure => simp only [World.iterPos, HQ6.out.at, HI.out]; omega
      by_cases c9 : r = 9
      · subst c9
        have hlk := look_someI HQ2.out.1 9 116 9 116 rfl rfl (by decide)
        have HE := Lib.hid (show Utf.escR 9 = [92] ++ Utf.enc 116 from rfl)
        go_wp2_with fail
        ((with_reducible refine (qs_byte HQ2.out 92 92 rfl (by decide) (by omega)).mono ?_); rintro e w5 ⟨rfl, hq5⟩)
        go_wp2_with fail
        ((with_reducible refine (qs_rune hq5 116 116 rfl (isr_low _ (by decide)) (by simp; omega)).mono ?_); rintro e w6 ⟨⟨nn, rfl⟩, hq6⟩)
        have HQ6 := Lib.hid hq6
        clear hq5 hq6
        go_wp2
        go_roundw
        case rel => exact HR.out _ _ HQ6.out (by rw [HE.out, List.append_assoc])
        case measure => simp only [World.iterPos, HQ6.out.at, HI.out]; omega
      have hlk := look_none HQ2.out.1 r (lk_tidy_none r ⟨c34, c92, c8, c12, c10, c13, c9⟩)
      by_cases cl : r < 32
      · have cl' : (r : Int) < 32 := by omega
        have HE := Lib.hid (show Utf.escR r = [92, 117] ++ [48, 48] ++ [Utf.hex (r / 16)] ++ [Utf.hex (r % 16)] by
          unfold Utf.escR Utf.escB
          rw [if_pos (by omega), if_neg c34, if_neg c92, if_neg c8, if_neg c12, if_neg c10, if_neg c13, if_neg c9, if_pos cl]; rfl)
        have hx1 := hex_run (r / 16) (by omega) .i32
        have hx2 := hex_run (r % 16) (by omega) .i32
        rw [show ((r / 16 : Nat) : Int) = (r : Int) / 16 by omega] at hx1
        rw [show ((r % 16 : Nat) : Int) = (r : Int) % 16 by omega] at hx2
        have hh1 : Utf.hex (r / 16) < 256 := by unfold Utf.hex; split <;> omega
        have hh2 : Utf.hex (r % 16) < 256 := by unfold Utf.hex; split <;> omega
        generalize Utf.hex (r / 16) = p at *
        generalize Utf.hex (r % 16) = q at *
        go_wp2_with fail
        ((with_reducible refine (qs_str HQ2.out _ [92, 117] (by decide) (by decide) (by omega)).mono ?_); rintro e w5 ⟨⟨nn, rfl⟩, hq5⟩)
        go_wp2_with fail
        ((with_reducible refine (qs_str hq5 _ [48, 48] (by decide) (by decide) (by simp; omega)).mono ?_); rintro e w6 ⟨⟨nn, rfl⟩, hq6⟩)
        go_wp2_with fail
        ((with_reducible refine (qs_byte hq6 p p rfl hh1 (by simp; omega)).mono ?_); rintro e w7 ⟨rfl, hq7⟩)
        go_wp2_with fail
        ((with_reducible refine (qs_byte hq7 q q rfl hh2 (by simp; omega)).mono ?_); rintro e w8 ⟨rfl, hq8⟩)
        have HQ6 := Lib.hid hq8
        clear hq5 hq6 hq7 hq8
        go_wp2
        go_roundw
        case rel => exact HR.out _ _ HQ6.out (by rw [HE.out]; simp [List.append_assoc])
        case measure => simp only [World.iterPos, HQ6.out.at, HI.out]; omega
      · have cl' : ¬ ((r : Int) < 32) := by omega
        have HE := Lib.hid (show Utf.escR r = Utf.enc r by
          unfold Utf.escR
          by_cases cc : r < 128
          · rw [if_pos cc, Utf.enc_low r cc]
            unfold Utf.escB
            rw [if_neg c34, if_neg c92, if_neg c8, if_neg c12, if_neg c10, if_neg c13, if_neg c9, if_neg cl]
          · rw [if_neg cc])
        have HIS := Lib.hid hisr
        clear hisr
        go_wp2_with fail
        ((with_reducible refine (qs_rune HQ2.out r r rfl HIS.out (by omega)).mono ?_); rintro e w6 ⟨⟨nn, rfl⟩, hq6⟩)
        have HQ6 := Lib.hid hq6
        clear hq6
        go_wp2
        go_roundw
        case rel => exact HR.out _ _ HQ6.out (by rw [HE.out])
        case measure => simp only [World.iterPos, HQ6.out.at, HI.out]; omega
    · have hnx : ∀ ty, (Instr.next (.pointer (some ⟨w4.heap.size, 0, none⟩)) true ty).run Tryz.prog wr = _ := fun ty => Lib.run_next_end_at wr w4.heap.size s pos ty hit hp
      have hall : upto (bl s) pos = 34 :: Utf.escs (bl s) := by unfold upto; rw [List.take_of_length_le (by rw [bl_length]; omega)]
      have HA := Lib.hid hall
      have HQ5 := Lib.hid hq
      clear hall hit hq
      go_wp2_with fail
      ((with_reducible refine (qs_byte HQ5.out 34 34 rfl (by decide) (by omega)).mono ?_); rintro e w5 ⟨rfl, hq5⟩)
      go_wp2_with fail
      ((with_reducible refine (bString _ _ _ _ hq5.bld hq5.size).mono ?_); rintro e w6 ⟨rfl, hb6⟩)
      rw [HA.out]
      go_wp2
      go_ret2
      exact ⟨rfl, hbb.trans ((hq5.below.trans hb6).mono hbb.size)⟩
end Go.Proofs.YtgmdjofnkbaflaaGreatDoor

/- Numbers as texts: the library's FormatInt; its table lies in its place. -/
namespace Go.Proofs.YtgmdjofnkbaflaaGreatDoor
open Go.RowKit
set_option linter.unusedVariables false
set_option maxRecDepth 100000

/-- The library's two errors and its table lie in their places. -/
def TabP (w : World) : Prop := Lib.TabIs Tryz.prog w "internal/strconv.uint64pow10" .u64 Lib.pow10Tab
theorem TabP.later {w w' : World} (h : TabP w) (hb : Below w.heap.size w w') : TabP w' := by
  unfold TabP Lib.TabIs World.var? at h ⊢
  have hg : Tryz.prog.globalNamed "internal/strconv.uint64pow10" = some 3 := by kernel_rfl
  rw [hg] at h ⊢
  simp only [Option.bind_some] at h ⊢
  have hlt : 3 < w.heap.size := by
    rcases Nat.lt_or_ge 3 w.heap.size with h' | h'
    · exact h'
    · rw [Array.getElem?_eq_none h'] at h; cases h
  rw [hb.block 3 hlt]
  exact h
/-- A number's text. -/
def itS (n : Int) : ByteArray := ⟨(Lib.itoa n).toArray⟩
theorem bl_arr (l : List UInt8) : bl ⟨l.toArray⟩ = l.map UInt8.toNat := by unfold bl; simp
theorem itS_bl (n : Int) : bl (itS n) = Jr.sgn (decide (n < 0)) ++ (Jr.dcs n.natAbs ++ []) := by
  unfold itS
  rw [bl_arr, List.append_nil]
  unfold Lib.itoa Jr.dcs Jr.sgn
  by_cases h : n < 0
  · rw [if_pos h, if_pos (by simp [h])]; rfl
  · rw [if_neg h, if_neg (by simp [h]), show n.natAbs = n.toNat by omega]; rfl
theorem itS_size (n : Int) (h0 : -9223372036854775808 ≤ n) (h1 : n ≤ 9223372036854775807) : (itS n).size ≤ 21 := by
  have := Lib.itoa_length_le n h0 h1
  rw [← bl_length]
  unfold itS
  rw [bl_arr, List.length_map]
  exact this
theorem jfmt (n : Int) (h0 : -9223372036854775808 ≤ n) (h1 : n ≤ 9223372036854775807) (w : World) (T : TabP w) : Calls Tryz.prog 87 #[.int .i64 n, .int .i64 10] w fun e w' => e = .returned (.string (itS n)) ∧ Below w.heap.size w w' :=
  (Tryz.strconv_FormatInt_10 n h0 h1 w T).mono fun e w' ⟨h2, k, os, h3⟩ => ⟨h2, by rw [h3]; exact Lib.below_grow _ _ (Nat.le_refl _) _ _⟩
theorem jitoa (n : Int) (h0 : -9223372036854775808 ≤ n) (h1 : n ≤ 9223372036854775807) (w : World) (T : TabP w) : Calls Tryz.prog 90 #[.int .i64 n] w fun e w' => e = .returned (.string (itS n)) ∧ Below w.heap.size w w' :=
  (Tryz.strconv_Itoa n h0 h1 w T).mono fun e w' ⟨h2, k, os, h3⟩ => ⟨h2, by rw [h3]; exact Lib.below_grow _ _ (Nat.le_refl _) _ _⟩
theorem itS_dnum (n : Int) : bl (itS n) = Jr.dnum n := by rw [itS_bl, List.append_nil]; rfl
theorem TabP.lt {w : World} (h : TabP w) : 3 < w.heap.size := by
  unfold TabP Lib.TabIs World.var? at h
  have hg : Tryz.prog.globalNamed "internal/strconv.uint64pow10" = some 3 := by kernel_rfl
  rw [hg] at h
  simp only [Option.bind_some] at h
  rcases Nat.lt_or_ge 3 w.heap.size with h' | h'
  · exact h'
  · rw [Array.getElem?_eq_none h'] at h; cases h
theorem TabP.below {w w' : World} {B : Nat} (h : TabP w) (hB : 3 < B) (hb : Below B w w') : TabP w' := by
  unfold TabP Lib.TabIs World.var? at h ⊢
  have hg : Tryz.prog.globalNamed "internal/strconv.uint64pow10" = some 3 := by kernel_rfl
  rw [hg] at h ⊢
  simp only [Option.bind_some] at h ⊢
  rw [hb.block 3 hB]
  exact h
/-- The tables lie, below B. -/
structure TB (B : Nat) (w : World) : Prop where
  tab : Tab w
  pow : TabP w
  lo : TabAt B
  po : 3 < B
theorem TB.below {B : Nat} {w w' : World} (h : TB B w) (hb : Below B w w') : TB B w' := ⟨h.tab.below h.lo hb, h.pow.below h.po hb, h.lo, h.po⟩
theorem TB.start {w : World} (h : Tab w) (k : TabP w) : TB w.heap.size w := ⟨h, k, h.size, k.lt⟩
theorem TB.more {B B' : Nat} {w : World} (h : TB B w) (hB : B ≤ B') : TB B' w := ⟨h.tab, h.pow, ⟨by have := h.lo.1; omega, by have := h.lo.2; omega⟩, by have := h.po; omega⟩
end Go.Proofs.YtgmdjofnkbaflaaGreatDoor

/- The parts of a value, gone over by a range function. -/
namespace Go.Proofs.YtgmdjofnkbaflaaGreatDoor
open Go.RowKit Go.Shelf
set_option linter.unusedVariables false
set_option maxRecDepth 100000
attribute [local go_sem] Oper.semAt_some

/-- A part, as it is handed over: its number, its nodes. -/
structure PPart where
  i : Nat
  v : Value
  k : Int
  y : ByteArray
  n : Int
  s : ByteArray
  c : Fo
def PPart.fo (x : PPart) : Fo := .node x.k x.y x.n x.s x.c .nil
structure PGood (w : World) (B : Nat) (C : Fo) (x : PPart) : Prop where
  rd : RdN w B x.v (Tp.flat x.fo)
  at_ : ∃ D R, C = Tp.app D (.node x.k x.y x.n x.s x.c R) ∧ x.i = (Tp.keys D).length
abbrev PA (w : World) (B : Nat) (C : Fo) := { x : PPart // PGood w B C x }
def encs {w : World} {B : Nat} {C : Fo} (x : PA w B C) : Array Value := #[.int .i64 (x.1.i : Nat), x.1.v]
/-- A part's text. -/
def txp (k : Int) (x : PPart) : List Nat := Jr.comma (x.i == 0) ++ (Jr.keyT k x.y ++ Jr.one x.k x.n x.s (Jr.shp x.k true x.c))
def txs {w : World} {B : Nat} {C : Fo} (k : Int) (xs : List (PA w B C)) : List Nat := xs.flatMap fun x => txp k x.1
theorem keys_nil (D : Fo) : ((Tp.keys D).length == 0) = Jr.isNil D := by cases D <;> rfl
theorem keys_sz (F : Fo) : (Tp.keys F).length ≤ Tp.sz F := by
  induction F with
  | nil => simp [Tp.keys]
  | node k y n s c r _ ih => rw [Tp.sz_node]; simp only [Tp.keys, List.length_cons]; omega
theorem txs_snoc {w : World} {B : Nat} {C : Fo} (k : Int) (xs : List (PA w B C)) (x : PA w B C) : txs k (xs ++ [x]) = txs k xs ++ txp k x.1 := by simp [txs]
theorem parts_new (a : Option Addr) (n c : Nat) (w : World) :
    Calls Tryz.prog 132 #[.slice a n c] w fun e w' => e = .returned (.func (.func 171) #[] #[.pointer (some ⟨w.heap.size, 0, none⟩)]) ∧ w' = w.alloc (.cells #[.slice a n c] 22) := by
  go_enter Tryz.func132, Tryz.ntmps132
  go_wp2_with fail
  go_ret
  exact ⟨rfl, rfl⟩
/-- How things stand between two rounds. -/
def PIt (w : World) (B : Nat) (C : Fo) (J : List (PA w B C) → World → Prop) (u i : Value) (wr : World) : Prop :=
  ∃ (a : Option Addr) (c : Nat) (D R : Fo) (pre : List (PA w B C)), u = .slice a (Tp.sz R) c ∧ i = .int .i64 ((Tp.keys D).length : Nat) ∧ Hid (C = Tp.app D R) ∧ Hid (RdN w B u (Tp.flat R)) ∧ pre.length = (Tp.keys D).length ∧ Hid (∀ k, txs k pre = Jr.shp k true D) ∧ Hid (J pre wr) ∧ Hid (Below B w wr)
def restOf (u : Value) : Nat := match u with | .slice _ n _ => n | _ => 0
set_option maxHeartbeats 4000000 in
theorem parts_stops (n Bs B : Nat) (hn : 1 ≤ n) (a : Option Addr) (c0 : Nat) (w : World) (K NN : Int) (Y S : ByteArray) (C : Fo) (hR : RdN w B (.slice a (1 + Tp.sz C) c0) (Tp.flat (.node K Y NN S C .nil))) (hsz : Tp.sz C ≤ 4000) (hB : B ≤ w.heap.size) (hBs : Bs < w.heap.size) (hc : w.cell? ⟨Bs, 0, none⟩ = some (.slice a (1 + Tp.sz C) c0)) :
    SeqStopsK Fence.wide n Tryz.prog 171 #[.pointer (some ⟨Bs, 0, none⟩)] (encs (w := w) (B := B) (C := C)) (Below B) (fun xs => ∀ k, txs k xs = Jr.shp k true C) (fun _ => True) ((Tp.keys C).length) w := fun l J Jx W hW _ _ hY h0 => by
  have hc' := (hW.cell (p := ⟨Bs, 0, none⟩) hBs).trans hc
  have hlen : (Tp.flat (.node K Y NN S C .nil)).length = 1 + Tp.sz C := by show Tp.sz _ = _; rw [Tp.sz_node, Tp.sz_nil]; omega
  obtain ⟨u, hu, hur⟩ := Gn.cut_from ndY w B a _ (1 + Tp.sz C) c0 1 hR hlen (by omega)
  replace hu : ∀ w', (Instr.slice 22 (.slice a (1 + Tp.sz C : Nat) c0) (some (.int .i64 1)) none none).run Tryz.prog w' = .ok u w' := hu
  have hfl : (Tp.flat (.node K Y NN S C .nil)).drop 1 = Tp.flat C := by rw [Tp.flat_node]; simp
  rw [hfl] at hur
  obtain ⟨ua, uc, rfl, _⟩ := Gn.Rd.form hur
  have hul : (Tp.flat C).length = Tp.sz C := rfl
  rw [hul] at hu hur
  have HUR := Lib.hid hur
  have H0 := Lib.hid h0
  have HW : Hid (Below B w W) := Lib.hid (hW.mono hB)
  have HY := Lib.hid hY
  obtain ⟨N, hN⟩ : ∃ N, 1 + Tp.sz C = N := ⟨_, rfl⟩
  rw [hN] at hu hc'
  clear hR hur h0 hY hW hc hlen hfl hul
  refine callsIn_of_wp Tryz.func171 rfl trivial ?_ rfl
  simp only [Tryz.ntmps171, List.size_toArray, List.length_cons, List.length_nil, Nat.reduceAdd, Nat.reduceSub, Array.replicate_succ, Array.replicate_zero, List.push_toArray, List.append_toArray, List.nil_append, List.cons_append]
  gi_wp2
  gi_loopw [3, 4] (fun u i wr => PIt w B C J u i wr) (fun u _ _ => restOf u)
  case atStart => exact ⟨ua, uc, .nil, C, [], rfl, rfl, Lib.hid rfl, HUR, rfl, Lib.hid (fun k => rfl), H0, HW⟩
  case round =>
    obtain ⟨a1, c1, D, R, pre, rfl, rfl, HC, HR, hpre, HT, HJ, HB⟩ := hrel
    clear HUR H0 HW hu hc'
    cases R with
    | nil =>
      rw [Tp.sz_nil]
      have HS : Hid (∀ k, txs k pre = Jr.shp k true C) := Lib.hid (fun k => (HT.out k).trans (congrArg (Jr.shp k true) (by have := HC.out; rw [Tp.app_nil] at this; exact this.symm)))
      gi_wp2
      go_end0
      exact ⟨⟨_, rfl⟩, .inl ⟨pre, HS.out, HJ.out⟩⟩
    | node k1 y n1 s c R =>
      obtain ⟨P, hP⟩ : ∃ P, 1 + Tp.sz c = P := ⟨_, rfl⟩
      obtain ⟨M, hM⟩ : ∃ M, Tp.sz (.node k1 y n1 s c R) = M := ⟨_, rfl⟩
      have hMs : M = P + Tp.sz R := by rw [← hM, Tp.sz_node]; omega
      have hrd := HR.out
      rw [hM] at hrd
      have hfl : (Tp.flat (.node k1 y n1 s c R)).length = M := hM
      obtain ⟨b, off, rfl, _, _, _, _, q4⟩ := rdN_cells hrd HB.out (i := 0) (x := ⟨k1, y, n1, s, 1 + (Tp.sz c : Nat)⟩) (by rw [Tp.flat_node]; rfl)
      simp only [Nat.zero_mul, Nat.add_zero, show (1 + (Tp.sz c : Nat) : Int) = ((P : Nat) : Int) by omega] at q4
      have hCl : (Tp.keys D).length < (Tp.keys C).length := by rw [HC.out, Tp.keys_app, List.length_append]; simp [Tp.keys]
      have hks := keys_sz C
      obtain ⟨v1, hv1, hr1⟩ := Gn.cut_to ndY w B _ _ M c1 P hrd hfl (by rw [hfl]; omega)
      obtain ⟨v2, hv2, hr2⟩ := Gn.cut_from ndY w B _ _ M c1 P hrd hfl (by rw [hfl]; omega)
      have f1 : (Tp.flat (.node k1 y n1 s c R)).take P = Tp.flat (.node k1 y n1 s c .nil) := by
        rw [Tp.flat_node, Tp.flat_node, ← hP, Nat.add_comm, List.take_succ_cons, Tp.flat_nil, List.append_nil]
        exact congrArg _ (List.take_left' rfl)
      have f2 : (Tp.flat (.node k1 y n1 s c R)).drop P = Tp.flat R := by
        rw [Tp.flat_node, ← hP, Nat.add_comm, List.drop_succ_cons]
        exact List.drop_left' rfl
      rw [f1] at hr1
      rw [f2] at hr2
      obtain ⟨a2, c2, rfl, _⟩ := Gn.Rd.form hr2
      have hRl : (Tp.flat R).length = Tp.sz R := rfl
      rw [hRl] at hv2 hr2
      obtain ⟨px, hpx⟩ : ∃ px : PA w B C, px.1 = ⟨(Tp.keys D).length, v1, k1, y, n1, s, c⟩ := ⟨⟨⟨(Tp.keys D).length, v1, k1, y, n1, s, c⟩, ⟨hr1, ⟨D, R, HC.out, rfl⟩⟩⟩, rfl⟩
      obtain ⟨fn, tmps, assign, body, hy, hRo⟩ := HY.out pre px wr HJ.out (by rw [hpre]; exact hCl)
      simp only [encs, hpx] at hy
      have e1 : C = Tp.app (Tp.app D (.node k1 y n1 s c .nil)) R := by rw [Tp.app_assoc]; exact HC.out
      have E1 := Lib.hid e1
      have H2 := Lib.hid hr2
      have ek : (Tp.keys (Tp.app D (.node k1 y n1 s c .nil))).length = (Tp.keys D).length + 1 := by rw [Tp.keys_app, List.length_append]; rfl
      have ET : ∀ k, Jr.shp k true (Tp.app D (.node k1 y n1 s c .nil)) = Jr.shp k true D ++ txp k ⟨(Tp.keys D).length, v1, k1, y, n1, s, c⟩ := fun k => by
        rw [Jr.shp_app]
        simp only [txp, keys_nil, Jr.shp, Bool.true_and, List.append_nil]
      have HET := Lib.hid ET
      have hP1 : 1 ≤ P := by omega
      rw [hM]
      clear hrd hfl hr1 hr2 f1 f2 hRl ET e1
      have hM0 : (0 : Int) < (M : Nat) := by omega
      have HMS := Lib.hid hMs
      clear hMs
      have hJb : ((Tp.keys D).length : Int) + 1 ≤ 4001 := by omega
      gi_wp2
      refine hRo.mono ?_
      rintro e W3 (⟨rfl, hJ3, hk3⟩ | ⟨rfl, hJx3⟩)
      · gi_wp2
        go_roundw
        case rel => exact ⟨a2, c2, Tp.app D (.node k1 y n1 s c .nil), R, pre ++ [px], rfl, by rw [ek]; go_num, E1, H2, by rw [List.length_append, hpre, ek]; rfl, Lib.hid (fun k => by rw [txs_snoc, HT.out k, HET.out k, hpx]), Lib.hid hJ3, Lib.hid (HB.out.trans hk3)⟩
        case measure => have := HMS.out; simp [restOf]; omega
      · gi_wp2
        refine bodyPost_ret (results_none rfl _ _ _) rfl ?_
        exact ⟨⟨_, rfl⟩, .inr ⟨_, trivial, hJx3⟩⟩
end Go.Proofs.YtgmdjofnkbaflaaGreatDoor

/- The program's Show: a value put, with its parts. -/
namespace Go.Proofs.YtgmdjofnkbaflaaGreatDoor
open Go.RowKit Go.Shelf
set_option linter.unusedVariables false
set_option maxRecDepth 100000
attribute [local go_sem] Oper.semAt_some

theorem escs_ge2 : ∀ l : List Nat, l.length ≤ (Utf.escs l).length
  | [] => Nat.le_refl _
  | c :: l => by
    have := (Utf.escB_len c).1
    have := escs_ge2 l
    rw [Utf.escs_cons, List.length_append, List.length_cons]; omega
theorem tidy_ge (l : List Nat) : l.length + 2 ≤ (Utf.tidy l).length := by
  have := escs_ge2 l
  unfold Utf.tidy
  simp; omega
theorem tidy_lt (l : List Nat) : (Utf.tidy l).length ≤ 6 * l.length + 2 := by
  unfold Utf.tidy Utf.escs
  have h : ∀ m : List Nat, (m.flatMap Utf.escB).length ≤ 6 * m.length := by
    intro m
    induction m with
    | nil => simp
    | cons a m ih =>
      rw [List.flatMap_cons, List.length_append, List.length_cons]
      have := (Utf.escB_len a).2
      omega
  have := h l
  simp only [List.length_cons, List.length_append]
  simp only [List.length_nil]
  omega
set_option maxHeartbeats 2000000 in
theorem wPutLit (B b : Nat) (M : List Nat) (s : ByteArray) (w : World) (h : WS B b M w) (T : TB B w) (hv : Utf.vld (bl s) = true) (hs : s.size ≤ 1000000000) (hBw : B ≤ w.heap.size) :
    Calls Tryz.prog 103 #[.pointer (some ⟨b, 0, none⟩), .string s] w fun e w' => e = .returned (.tuple #[]) ∧ WS B b (M ++ Utf.tidy (bl s)) w' ∧ WK B b w w' := by
  obtain ⟨l, fl, h1, h2, h3⟩ := h
  have CF := Lib.hid (wFits B b l fl s.size hs w h1)
  have HT := Lib.hid T
  have HG := Lib.hid (tidy_ge (bl s))
  have HV := Lib.hid hv
  have hbl := bl_length s
  obtain ⟨q, hq⟩ : ∃ q, fits l fl s.size = q := ⟨_, rfl⟩
  rw [hq] at CF
  clear h1 T hv
  cases q with
  | true =>
    obtain ⟨rfl, hle⟩ : fl = false ∧ l.length + s.size ≤ 1048576 := by simpa [fits] using hq
    obtain rfl := h2 rfl
    have hsz := str_size (Utf.tidy (bl s))
    have htl := tidy_lt (bl s)
    have hby := Lib.hid (bl_str (Utf.tidy (bl s)) (Utf.tidy_byte _ (bl_byte s)))
    clear h2
    go_enter Tryz.func103, Tryz.ntmps103
    go_wp2_with fail
    ((with_reducible refine (CF.out).mono ?_); rintro e w2 ⟨rfl, hw, hk⟩)
    have CQ := Lib.hid (quote_big s w2 (HT.out.below hk.1).tab (by omega) HV.out)
    have HW := Lib.hid hw
    have HK := Lib.hid hk
    clear hw hk CF
    go_wp2_with fail
    ((with_reducible refine (CQ.out).mono ?_); rintro e w3 ⟨rfl, hb⟩)
    have HK3 := Lib.hid (HK.out.trans (WK.new (Nat.le_trans hBw HK.out.1.size) hb))
    have CP := Lib.hid (wPut B b l (str (Utf.tidy (bl s))) w3 ⟨l, false, by simpa using HW.out.later hb, fun _ => rfl, ⟨fun e => by simp at e, fun e => by omega⟩⟩ (by omega) (Nat.le_trans hBw HK3.out.1.size))
    clear hb CQ
    generalize str (Utf.tidy (bl s)) = z at *
    go_wp2_with fail
    ((with_reducible refine (CP.out).mono ?_); rintro e w4 ⟨rfl, hw, hk⟩)
    have HW4 := Lib.hid hw
    have HK4 := Lib.hid (HK3.out.trans hk)
    rw [hby.out] at HW4
    clear hw hk CP
    go_wp2_with fail
    go_end0
    exact ⟨rfl, HW4.out, HK4.out⟩
  | false =>
    have hbig : 1048576 < (M ++ Utf.tidy (bl s)).length := by
      have := HG.out
      rw [List.length_append]
      cases fl with
      | true => have := h3.1 rfl; omega
      | false =>
        obtain rfl := h2 rfl
        simp [fits] at hq
        omega
    have HB := Lib.hid hbig
    clear hbig
    go_enter Tryz.func103, Tryz.ntmps103
    go_wp2_with fail
    ((with_reducible refine (CF.out).mono ?_); rintro e w2 ⟨rfl, hw, hk⟩)
    have HW := Lib.hid hw
    have HK := Lib.hid hk
    clear hw hk CF
    go_wp2_with fail
    refine bodyPost_ret (results_none rfl _ _ _) rfl ?_
    exact ⟨rfl, ⟨l, true, HW.out, fun e => by simp at e, ⟨fun _ => HB.out, fun _ => rfl⟩⟩, HK.out⟩
/-- Texts that fit. -/
def TFit (F : Fo) : Prop := ∀ x ∈ Tp.flat F, x.key.size ≤ 1000000000 ∧ x.s.size ≤ 1000000000
theorem tfit_node {k n : Int} {y s : ByteArray} {c r : Fo} (h : TFit (.node k y n s c r)) : (y.size ≤ 1000000000 ∧ s.size ≤ 1000000000) ∧ TFit c ∧ TFit r := by
  unfold TFit at h ⊢
  rw [Tp.flat_node] at h
  exact ⟨h _ (List.mem_cons_self ..), fun x hx => h x (List.mem_cons_of_mem _ (List.mem_append_left _ hx)), fun x hx => h x (List.mem_cons_of_mem _ (List.mem_append_right _ hx))⟩
def VPut (B b : Nat) (M x : List Nat) (w : World) (e : Ending) (w' : World) : Prop := e = .returned (.tuple #[]) ∧ WS B b (M ++ x) w' ∧ WK B b w w'
def VW (N : Nat) : Prop := ∀ (k n : Int) (y s : ByteArray) (c : Fo) (B b : Nat) (M : List Nat) (v : Value) (w : World), Tp.sz c < N → Tp.sz c ≤ 4000 → Tp.good (.node k y n s c .nil) → TFit (.node k y n s c .nil) → Jr.NFit (.node k y n s c .nil) → RdN w B v (Tp.flat (.node k y n s c .nil)) → WS B b M w → TB B w → B ≤ w.heap.size →
  Calls Tryz.prog 57 #[.pointer (some ⟨b, 0, none⟩), v] w (VPut B b M (Jr.one k n s (Jr.shp k true c)) w)
def PW (N : Nat) : Prop := ∀ (k n : Int) (y s : ByteArray) (c : Fo) (B b : Nat) (M : List Nat) (v : Value) (w : World), Tp.sz c < N → Tp.sz c ≤ 4000 → (k = 6 ∨ k = 7) → Tp.ko k (Tp.keys c) → Tp.good c → TFit c → Jr.NFit c → RdN w B v (Tp.flat (.node k y n s c .nil)) → WS B b M w → TB B w → B ≤ w.heap.size →
  Calls Tryz.prog 104 #[.pointer (some ⟨b, 0, none⟩), v] w (VPut B b M (Jr.shp k true c) w)
theorem WK.keeps {B b X : Nat} {M : List Nat} {w w' : World} (h : WK B b w w') (hs : WS B b M w) : KeepsFrom X w w' := by
  refine ⟨?_, fun k o _ hk ho => h.2 k o hk (fun e => ?_) (fun c fz e => by subst e; simp [Obj.isCells] at ho)⟩
  · exact h.1.size
  · obtain ⟨l, fl, hw, _⟩ := hs
    obtain ⟨p, v, _, hb, _⟩ := hw.lies
    have e : k = b := by injection e
    subst e
    rw [hb] at hk
    injection hk with hk
    subst hk
    simp [Obj.isCells] at ho
theorem WK.cells {B b g : Nat} {w w' : World} {c : Array Value} {t : TypeId} {f : Nat × Nat} (h : WK B b w w') (hg : w.heap[g]? = some (.cells c t f)) (ht : t ≠ 5) (hb : g ≠ b) : w'.heap[g]? = some (.cells c t f) :=
  h.2 g _ hg (fun e => hb (by injection e)) (fun c' fz e => ht (by injection e))
theorem ty_ptr : (141 : TypeId) ≠ 5 ∧ (4 : TypeId) ≠ 5 := by decide
/-- What stands while parts are put. -/
structure PS2 (B b g : Nat) (k : Int) (M : List Nat) (w0 w2 W W' : World) : Prop where
  ws : WS B b M W'
  c1 : W'.heap[g]? = some (.cells #[.pointer (some ⟨b, 0, none⟩)] 141 (0, 0))
  c2 : W'.heap[g + 1]? = some (.cells #[.bool (k == 7)] 4 (0, 0))
  k0 : WK B b w0 W'
  b2 : Below B w2 W'
  kp : KeepsFrom w2.heap.size W W'
  bw : Below B W W'
theorem PS2.go {B b g : Nat} {k : Int} {M x : List Nat} {w0 w2 W W1 W2 : World} (h : PS2 B b g k M w0 w2 W W1) (hg : b < g) (h1 : WS B b (M ++ x) W2) (h2 : WK B b W1 W2) : PS2 B b g k (M ++ x) w0 w2 W W2 :=
  ⟨h1, h2.cells h.c1 ty_ptr.1 (by omega), h2.cells h.c2 ty_ptr.2 (by omega), h.k0.trans h2, h.b2.trans h2.1, h.kp.trans (h2.keeps h.ws), h.bw.trans h2.1⟩
theorem PS2.drew {B b g : Nat} {k : Int} {M : List Nat} {w0 w2 W W1 : World} (h : PS2 B b g k M w0 w2 W W1) : PS2 B b g k M w0 w2 W W1.drew :=
  ⟨h.ws.kept (fun _ _ _ _ h => h), h.c1, h.c2, ⟨h.k0.1.drew, h.k0.2.drew⟩, h.b2.drew, h.kp.trans ((KeepsOthers.drew _).from _), h.bw.drew⟩
theorem PS2.cell {B b g : Nat} {k : Int} {M : List Nat} {w0 w2 W W1 : World} (h : PS2 B b g k M w0 w2 W W1) : W1.cell? ⟨g, 0, none⟩ = some (.pointer (some ⟨b, 0, none⟩)) ∧ W1.cell? ⟨g + 1, 0, none⟩ = some (.bool (k == 7)) := by
  have a := cell_heap h.c1 0
  have c := cell_heap h.c2 0
  simp at a c
  exact ⟨a, c⟩
set_option maxHeartbeats 4000000 in
theorem putParts_step (N : Nat) (IH : VW N) : PW (N + 1) := by
  intro k n y s c B b M v w hN hsz hk hko hg hf hn hR hS hT hB
  have hlen : (Tp.flat (.node k y n s c .nil)).length = 1 + Tp.sz c := by show Tp.sz _ = _; rw [Tp.sz_node, Tp.sz_nil]; omega
  obtain ⟨a, c0, rfl, _⟩ := Gn.Rd.form hR
  rw [hlen] at hR ⊢
  obtain ⟨nb, off, rfl, q0, _, _, _, _⟩ := rdN_cells hR ((Below.refl B w).alloc hB (.cells #[.pointer (some ⟨b, 0, none⟩)] 141)) (i := 0) (x := ⟨k, y, n, s, 1 + (Tp.sz c : Nat)⟩) (by rw [Tp.flat_node]; rfl)
  simp only [Nat.zero_mul, Nat.add_zero] at q0
  obtain ⟨P, hP⟩ : ∃ P, 1 + Tp.sz c = P := ⟨_, rfl⟩
  have hP1 : 1 ≤ P := by omega
  have HR := Lib.hid hR
  have HS := Lib.hid hS
  have HT := Lib.hid hT
  rw [hP] at HR ⊢
  obtain ⟨wb, hwb⟩ : ∃ wb, wb = (w.alloc (.cells #[.pointer (some ⟨b, 0, none⟩)] 141)).alloc (.cells #[.bool (k == 7)] 4) := ⟨_, rfl⟩
  obtain ⟨wc, hwc⟩ : ∃ wc, wc = wb.alloc (.cells #[.slice (some ⟨nb, off, none⟩) P c0] 22) := ⟨_, rfl⟩
  have CP := Lib.hid (parts_new (some ⟨nb, off, none⟩) P c0 wb)
  have hsb : wb.heap.size = w.heap.size + 2 := by rw [hwb]; simp
  have hsc : wc.heap.size = w.heap.size + 3 := by rw [hwc]; simp; omega
  have HB1 : Hid (Below w.heap.size w wb) := Lib.hid (by rw [hwb]; exact up (up_new w _) (up_new _ _))
  have HB2 : Hid (Below wb.heap.size wb wc) := Lib.hid (by rw [hwc]; exact up_new wb _)
  have HB3 := Lib.hid (up HB1.out HB2.out)
  have hg1 : wc.heap[w.heap.size]? = some (.cells #[.pointer (some ⟨b, 0, none⟩)] 141 (0, 0)) := by
    rw [HB2.out.block _ (by omega), hwb, Lib.alloc_old _ _ _ (by simp)]
    exact Array.getElem?_push_size
  have hg2 : wc.heap[w.heap.size + 1]? = some (.cells #[.bool (k == 7)] 4 (0, 0)) := by
    rw [HB2.out.block _ (by omega), hwb]
    have := (Array.getElem?_push_size : ((w.alloc (.cells #[.pointer (some ⟨b, 0, none⟩)] 141)).heap.push (.cells #[.bool (k == 7)] 4 (0, 0)))[(w.alloc (.cells #[.pointer (some ⟨b, 0, none⟩)] 141)).heap.size]? = _)
    rwa [World.size_alloc] at this
  have hg3 : wc.cell? ⟨w.heap.size + 2, 0, none⟩ = some (.slice (some ⟨nb, off, none⟩) P c0) := by
    have e : wc.heap[w.heap.size + 2]? = some (.cells #[.slice (some ⟨nb, off, none⟩) P c0] 22 (0, 0)) := by
      rw [hwc, ← hsb]
      exact Array.getElem?_push_size
    have := cell_heap e 0
    simpa using this
  have HG1 := Lib.hid hg1
  have HG2 := Lib.hid hg2
  have hBc : B ≤ wc.heap.size := by omega
  have HRc := Lib.hid (Gn.Rd.below HR.out (HB3.out.mono hB) (Nat.le_refl _))
  have HST := Lib.hid (parts_stops 7 (w.heap.size + 2) B (by omega) (some ⟨nb, off, none⟩) c0 wc k n y s c (by rw [hP]; exact HRc.out) hsz hBc (by omega) (by rw [hP]; exact hg3))
  have HSc := Lib.hid (HS.out.later HB3.out)
  have HTc := Lib.hid (HT.out.below (HB3.out.mono hB))
  rw [hsb] at CP
  clear hR hS hT hg1 hg2 hg3
  refine (callsIn_wide (n := 8)).1 ?_
  refine callsIn_of_wp_marks Tryz.func104 rfl trivial ?_ rfl
  simp only [Tryz.ntmps104, List.size_toArray, List.length_cons, List.length_nil, Nat.reduceAdd, Nat.reduceSub, Array.replicate_succ, Array.replicate_zero, List.push_toArray, List.append_toArray, List.nil_append, List.cons_append]
  gi_wp2_with fail
  rw [← hwb]
  refine ⟨trivial, (callsIn_wide.2 CP.out).mono ?_⟩
  rintro e w2 ⟨rfl, hw2⟩
  rw [← hwc] at hw2
  subst hw2
  clear CP hwb hwc q0
  gi_wp2_with fail
  refine wpIn_rangeFunc_ownG rfl (by omega) (gf := 171) (lb := #[.pointer (some ⟨w.heap.size + 2, 0, none⟩)]) rfl trivial (enters_of Tryz.func171 (by kernel_rfl) rfl)
    HST.out belowK_t (belowK_b hBc) (Below.refl _ _) (fun _ => rfl)
    (fun pre W => WS B b (M ++ txs k pre) W ∧ W.heap[w.heap.size]? = some (.cells #[.pointer (some ⟨b, 0, none⟩)] 141 (0, 0)) ∧ W.heap[w.heap.size + 1]? = some (.cells #[.bool (k == 7)] 4 (0, 0)) ∧ WK B b w W ∧ Below B w2 W)
    (fun _ _ _ => False) ?own (fun _ _ _ _ _ hs _ _ => hs) ?start ?a1 ?assign ?body ?done ?stop
  case assign =>
    intro l x W K hK
    dsimp only [encs]
    gi_wp2
    exact hK
  case own =>
    rintro pre W W' row ⟨h1, h2, h3, h4, h5⟩ hg hr
    have hkeep : ∀ (g : Nat) c t f, W.heap[g]? = some (Obj.cells c t f) → W'.heap[g]? = some (Obj.cells c t f) := fun g c t f hgc => by
      refine (hg.block g (Array.getElem?_eq_some_iff.1 hgc).1 (fun e => ?_)).trans hgc
      obtain ⟨_, o, ho, hc⟩ := hr g e.symm
      rw [hgc] at ho
      injection ho with ho
      subst ho
      simp [Obj.isCells] at hc
    refine ⟨h1.kept hkeep, hkeep _ _ _ _ h2, hkeep _ _ _ _ h3, ⟨h4.1.grown hg (Nat.le_trans hB h4.1.size) (fun g e => Nat.le_trans hBc (hr g e).1), fun g o hgo hb ho => ?_⟩, h5.grown hg (Nat.le_trans hBc h5.size) (fun g e => Nat.le_trans hBc (hr g e).1)⟩
    have := h4.2 g o hgo hb ho
    refine (hg.block g (Array.getElem?_eq_some_iff.1 this).1 (fun e => ?_)).trans this
    have e2 := (hr g e.symm).1
    have e3 := (Array.getElem?_eq_some_iff.1 hgo).1
    omega
  case start =>
    exact ⟨by simpa [txs] using HSc.out, HG1.out, HG2.out, WK.new hB HB3.out, Below.refl _ _⟩
  case body =>
    rintro l pre x W ⟨h1, h2, h3, h4, h5⟩ hlen2
    obtain ⟨hrd, D, R, hC, hi⟩ := x.2
    obtain ⟨⟨xi, xv, xk, xy, xn, xs, xc⟩, hpx⟩ : ∃ p, p = x.1 := ⟨_, rfl⟩
    have HPX : Hid (txp k x.1 = _) := Lib.hid (congrArg (txp k) hpx.symm)
    simp only [← hpx] at hrd hC hi ⊢
    have hrd2 : RdN w2 B xv (Tp.flat (.node xk xy xn xs xc .nil)) := hrd
    have hBW : B ≤ W.heap.size := Nat.le_trans hBc h5.size
    have hbg : b < w.heap.size := HS.out.lt
    have HP : Hid (PS2 B b w.heap.size k (M ++ txs k pre) w w2 W W) := Lib.hid ⟨h1, h2, h3, h4, h5, KeepsFrom.refl _ _, Below.refl _ _⟩
    have hgx : Tp.good (.node xk xy xn xs xc R) := by rw [hC] at hg; exact ((Tp.good_app _ _).1 hg).2
    have hfx : (xy.size ≤ 1000000000 ∧ xs.size ≤ 1000000000) ∧ TFit xc ∧ TFit R := tfit_node (fun z hz => hf z (by rw [hC, Tp.flat_app]; exact List.mem_append_right _ hz))
    have hnx := Jr.nfit_node (show Jr.NFit (.node xk xy xn xs xc R) from fun z hz => hn z (by rw [hC, Tp.flat_app]; exact List.mem_append_right _ hz))
    have hsx : Tp.sz c = Tp.sz D + (1 + Tp.sz xc + Tp.sz R) := by rw [hC, Tp.sz_app, Tp.sz_node]
    have hky : k = 7 → Utf.vld (bl xy) = true := fun e => by
      unfold Tp.ko at hko
      rw [if_pos e, hC, Tp.keys_app] at hko
      exact hko.1 xy (List.mem_append_right _ (List.mem_cons_self ..))
    have hxl : (Tp.flat (.node xk xy xn xs xc .nil)).length = 1 + Tp.sz xc := by show Tp.sz _ = _; rw [Tp.sz_node, Tp.sz_nil]; omega
    have CV : Hid (∀ (Mx : List Nat) (Wx : World), WS B b Mx Wx → TB B Wx → Below B w2 Wx → Calls Tryz.prog 57 #[.pointer (some ⟨b, 0, none⟩), xv] Wx (VPut B b Mx (Jr.one xk xn xs (Jr.shp xk true xc)) Wx)) := Lib.hid fun Mx Wx g1 g2 g3 =>
      IH xk xn xy xs xc B b Mx xv Wx (by omega) (by omega) ⟨hgx.1, hgx.2.1, hgx.2.2.1, hgx.2.2.2.1, trivial⟩ (fun z hz => by
          rw [Tp.flat_node, Tp.flat_nil, List.append_nil] at hz
          rcases List.mem_cons.1 hz with rfl | hz
          · exact hfx.1
          · exact hfx.2.1 z hz) (fun z hz => by
          rw [Tp.flat_node, Tp.flat_nil, List.append_nil] at hz
          rcases List.mem_cons.1 hz with rfl | hz
          · exact hnx.1
          · exact hnx.2.1 z hz) (Gn.Rd.below hrd2 g3 (Nat.le_refl _)) g1 g2 (Nat.le_trans hBc g3.size)
    obtain ⟨xa, xcc, rfl, _⟩ := Gn.Rd.form hrd2
    rw [hxl] at hrd2 CV ⊢
    clear hrd h1 h2 h3 h4 h5 hgx hnx IH hlen2
    have hxi : xi ≤ 4000 := by have := keys_sz D; omega
    clear hi
    by_cases h0 : xi = 0
    · subst h0
      have hi0' : True := trivial
      rw [show ((0 : Nat) : Int) = 0 from rfl]
      rcases hk with rfl | rfl
      · skip
        have C := Lib.hid (CV.out _ W HP.out.ws (HTc.out.below HP.out.b2) HP.out.b2)
        have hc1 := HP.out.cell.1
        have hc2 := HP.out.cell.2
        gi_wp2_with fail
        refine ⟨trivial, (CallsIn.inRound l (callsIn_wide.2 C.out)).mono ?_⟩
        rintro e W4 ⟨rfl, hw4, hk4⟩
        have HP4 := (HP.out.go hbg hw4 hk4)
        clear hw4 hk4 C hc1 hc2
        gi_wp2_with fail
        refine ⟨HP4.kp, HP4.bw, ?_, HP4.c1, HP4.c2, HP4.k0, HP4.b2⟩
        have h := HP4.ws
        rw [txs_snoc, HPX.out]
        simpa [txp, Jr.comma, Jr.keyT, bl, List.append_assoc, hi0'] using h
      · have hvy := Lib.hid (hky rfl)
        have hc1 := HP.out.cell.1
        have hc2 := HP.out.cell.2
        have CL := Lib.hid (fun Mx Wx (h : WS B b Mx Wx) (T : TB B Wx) (hb : B ≤ Wx.heap.size) => wPutLit B b Mx xy Wx h T hvy.out hfx.1.1 hb)
        have hmx : Tryz.prog.follows .mixedOrders = true := by kernel_rfl
        obtain ⟨xb, xo, rfl, q0, q1, _, _, _⟩ := rdN_cells hrd2 HP.out.b2 (i := 0) (x := ⟨xk, xy, xn, xs, 1 + (Tp.sz xc : Nat)⟩) (by rw [Tp.flat_node]; rfl)
        simp only [Nat.zero_mul, Nat.add_zero] at q0 q1
        have hX1 : (1 : Int) ≤ 1 + (Tp.sz xc : Nat) := by omega
        gi_wp2_with fail
        gi_region_with_o (refine ⟨trivial, ?_⟩; gi_at_call 103; refine (CallsIn.inRound l (callsIn_wide.2 (CL.out _ _ HP.out.drew.ws (HTc.out.below HP.out.drew.b2) hBW))).mono ?_; rintro e W2 ⟨rfl, hw2, hk2⟩)
        all_goals
          have HP2 := Lib.hid (HP.out.drew.go hbg hw2 hk2)
          have hB2 : B ≤ W2.heap.size := Nat.le_trans hBW hk2.1.size
          clear hw2 hk2 CL hc1 hc2 q0 q1
          have CP := Lib.hid (wPut B b _ ⟨#[58]⟩ W2 HP2.out.ws (by decide) hB2)
          have hc1 := HP2.out.cell.1
          have hc2 := HP2.out.cell.2
          gi_wp2_with fail
          refine ⟨trivial, (CallsIn.inRound l (callsIn_wide.2 CP.out)).mono ?_⟩
          rintro e W3 ⟨rfl, hw1, hk1⟩
          have HP3 := Lib.hid (HP2.out.go hbg hw1 hk1)
          have hBW3 : B ≤ W3.heap.size := Nat.le_trans hB2 hk1.1.size
          clear hw1 hk1 CP hc1 hc2
          have C := Lib.hid (CV.out _ W3 HP3.out.ws (HTc.out.below HP3.out.b2) HP3.out.b2)
          have hc1 := HP3.out.cell.1
          have hc2 := HP3.out.cell.2
          gi_wp2_with fail
          refine ⟨trivial, (CallsIn.inRound l (callsIn_wide.2 C.out)).mono ?_⟩
          rintro e W4 ⟨rfl, hw4, hk4⟩
          have HP4 := (HP3.out.go hbg hw4 hk4)
          clear hw4 hk4 C hc1 hc2
          gi_wp2_with fail
          refine ⟨HP4.kp, HP4.bw, ?_, HP4.c1, HP4.c2, HP4.k0, HP4.b2⟩
          have h := HP4.ws
          rw [txs_snoc, HPX.out]
          simpa [txp, Jr.comma, Jr.keyT, bl, List.append_assoc, hi0'] using h
    · have hi0 : (0 : Int) < (xi : Nat) := by omega
      have hi0' := h0
      rcases hk with rfl | rfl
      · skip
        have CP := Lib.hid (wPut B b _ ⟨#[44]⟩ W HP.out.ws (by decide) hBW)
        have hc1 := HP.out.cell.1
        have hc2 := HP.out.cell.2
        gi_wp2_with fail
        refine ⟨trivial, (CallsIn.inRound l (callsIn_wide.2 CP.out)).mono ?_⟩
        rintro e Wa ⟨rfl, hw1, hk1⟩
        have HPa := Lib.hid (HP.out.go hbg hw1 hk1)
        have hBWa : B ≤ Wa.heap.size := Nat.le_trans hBW hk1.1.size
        clear hw1 hk1 CP hc1 hc2
        have C := Lib.hid (CV.out _ Wa HPa.out.ws (HTc.out.below HPa.out.b2) HPa.out.b2)
        have hc1 := HPa.out.cell.1
        have hc2 := HPa.out.cell.2
        gi_wp2_with fail
        refine ⟨trivial, (CallsIn.inRound l (callsIn_wide.2 C.out)).mono ?_⟩
        rintro e W4 ⟨rfl, hw4, hk4⟩
        have HP4 := (HPa.out.go hbg hw4 hk4)
        clear hw4 hk4 C hc1 hc2
        gi_wp2_with fail
        refine ⟨HP4.kp, HP4.bw, ?_, HP4.c1, HP4.c2, HP4.k0, HP4.b2⟩
        have h := HP4.ws
        rw [txs_snoc, HPX.out]
        simpa [txp, Jr.comma, Jr.keyT, bl, List.append_assoc, hi0'] using h
      · have hvy := Lib.hid (hky rfl)
        have CP := Lib.hid (wPut B b _ ⟨#[44]⟩ W HP.out.ws (by decide) hBW)
        have hc1 := HP.out.cell.1
        have hc2 := HP.out.cell.2
        gi_wp2_with fail
        refine ⟨trivial, (CallsIn.inRound l (callsIn_wide.2 CP.out)).mono ?_⟩
        rintro e Wa ⟨rfl, hw1, hk1⟩
        have HPa := Lib.hid (HP.out.go hbg hw1 hk1)
        have hBWa : B ≤ Wa.heap.size := Nat.le_trans hBW hk1.1.size
        clear hw1 hk1 CP hc1 hc2
        have hc1 := HPa.out.cell.1
        have hc2 := HPa.out.cell.2
        have CL := Lib.hid (fun Mx Wx (h : WS B b Mx Wx) (T : TB B Wx) (hb : B ≤ Wx.heap.size) => wPutLit B b Mx xy Wx h T hvy.out hfx.1.1 hb)
        have hmx : Tryz.prog.follows .mixedOrders = true := by kernel_rfl
        obtain ⟨xb, xo, rfl, q0, q1, _, _, _⟩ := rdN_cells hrd2 HPa.out.b2 (i := 0) (x := ⟨xk, xy, xn, xs, 1 + (Tp.sz xc : Nat)⟩) (by rw [Tp.flat_node]; rfl)
        simp only [Nat.zero_mul, Nat.add_zero] at q0 q1
        have hX1 : (1 : Int) ≤ 1 + (Tp.sz xc : Nat) := by omega
        gi_wp2_with fail
        gi_region_with_o (refine ⟨trivial, ?_⟩; gi_at_call 103; refine (CallsIn.inRound l (callsIn_wide.2 (CL.out _ _ HPa.out.drew.ws (HTc.out.below HPa.out.drew.b2) hBWa))).mono ?_; rintro e W2 ⟨rfl, hw2, hk2⟩)
        all_goals
          have HP2 := Lib.hid (HPa.out.drew.go hbg hw2 hk2)
          have hB2 : B ≤ W2.heap.size := Nat.le_trans hBWa hk2.1.size
          clear hw2 hk2 CL hc1 hc2 q0 q1
          have CP := Lib.hid (wPut B b _ ⟨#[58]⟩ W2 HP2.out.ws (by decide) hB2)
          have hc1 := HP2.out.cell.1
          have hc2 := HP2.out.cell.2
          gi_wp2_with fail
          refine ⟨trivial, (CallsIn.inRound l (callsIn_wide.2 CP.out)).mono ?_⟩
          rintro e W3 ⟨rfl, hw1, hk1⟩
          have HP3 := Lib.hid (HP2.out.go hbg hw1 hk1)
          have hBW3 : B ≤ W3.heap.size := Nat.le_trans hB2 hk1.1.size
          clear hw1 hk1 CP hc1 hc2
          have C := Lib.hid (CV.out _ W3 HP3.out.ws (HTc.out.below HP3.out.b2) HP3.out.b2)
          have hc1 := HP3.out.cell.1
          have hc2 := HP3.out.cell.2
          gi_wp2_with fail
          refine ⟨trivial, (CallsIn.inRound l (callsIn_wide.2 C.out)).mono ?_⟩
          rintro e W4 ⟨rfl, hw4, hk4⟩
          have HP4 := (HP3.out.go hbg hw4 hk4)
          clear hw4 hk4 C hc1 hc2
          gi_wp2_with fail
          refine ⟨HP4.kp, HP4.bw, ?_, HP4.c1, HP4.c2, HP4.k0, HP4.b2⟩
          have h := HP4.ws
          rw [txs_snoc, HPX.out]
          simpa [txp, Jr.comma, Jr.keyT, bl, List.append_assoc, hi0'] using h
  case done =>
    rintro D xs W hD hx ⟨h1, h2, h3, h4, h5⟩ hKD
    rw [hx k] at h1
    gi_wp2
    have hkeep : ∀ (g : Nat) c t f, W.heap[g]? = some (Obj.cells c t f) → (W.putObj D (.deferred none)).heap[g]? = some (Obj.cells c t f) := fun g c t f hgc => by
      refine (World.putObj_heap_other (fun e => ?_)).trans hgc
      subst e
      rw [hKD] at hgc
      injection hgc with hgc
      cases hgc
    refine ⟨by simp, .inl ⟨_, _, rfl, run_takeDeferred hKD, ?_⟩⟩
    refine ⟨_, results_none rfl _ _ _, rfl, h1.kept hkeep, h4.1.trans ((Below.refl B W).grown (grownBy_putObj' W D _) (Nat.le_trans hB h4.1.size) (fun g e => by injection e with e; omega)), fun g o hgo hb ho => ?_⟩
    have h6 := h4.2 g o hgo hb ho
    refine (World.putObj_heap_other (fun e => ?_)).trans h6
    have := (Array.getElem?_eq_some_iff.1 hgo).1
    omega
  case stop =>
    rintro D c pre W _ _ h _
    exact h.elim
/-! ### values -/
set_option maxHeartbeats 8000000 in
theorem putValue_step (N : Nat) (IH : PW N) : VW N := by
  intro k n y s c B b M v w hN hsz hg hf hn hR hS hT hB
  obtain ⟨g1, g2, g3, g4, _⟩ := hg
  obtain ⟨f1, f2, _⟩ := tfit_node hf
  obtain ⟨n1, n2, _⟩ := Jr.nfit_node hn
  have hlen : (Tp.flat (.node k y n s c .nil)).length = 1 + Tp.sz c := by show Tp.sz _ = _; rw [Tp.sz_node, Tp.sz_nil]; omega
  have HR0 := Lib.hid hR
  obtain ⟨a, c0, rfl, _⟩ := Gn.Rd.form hR
  rw [hlen] at hR HR0 ⊢
  obtain ⟨nb, off, rfl, q0, q1, q2, q3, q4⟩ := rdN_cells hR (Below.refl _ _) (i := 0) (x := ⟨k, y, n, s, 1 + (Tp.sz c : Nat)⟩) (by rw [Tp.flat_node]; rfl)
  simp only [Nat.zero_mul, Nat.add_zero] at q0 q1 q2 q3 q4
  obtain ⟨P, hP⟩ : ∃ P, 1 + Tp.sz c = P := ⟨_, rfl⟩
  have hP1 : 1 ≤ P := by omega
  rw [show (1 + (Tp.sz c : Nat) : Int) = (P : Nat) by omega] at q4
  rw [hP] at HR0 ⊢
  obtain ⟨wa, hwa⟩ : ∃ wa, wa = w.alloc (.cells #[.int .i64 k, .string y, .int .i64 n, .string s, .int .i64 (P : Nat)] 28) := ⟨_, rfl⟩
  have HU : Hid (Below w.heap.size w wa) := Lib.hid (by rw [hwa]; exact up_new w _)
  have HK := Lib.hid (WK.new (b := b) hB HU.out)
  have hBa : B ≤ wa.heap.size := Nat.le_trans hB HU.out.size
  have HSa := Lib.hid (hS.later HU.out)
  have HTa := Lib.hid (hT.below HK.out.1)
  have HRa := Lib.hid (Gn.Rd.below HR0.out HK.out.1 (Nat.le_refl _))
  clear hR hS hT hP hlen
  rcases g1 with ⟨hk, rfl, _⟩ | ⟨rfl, _⟩ | ⟨rfl, rfl, hv⟩ | ⟨hk, rfl, _⟩
  · clear IH g2 g3 g4
    rcases hk with rfl | rfl | rfl
    · skip
      go_enter Tryz.func57, Tryz.ntmps57
      have CP := Lib.hid (wPut B b _ ⟨#[110, 117, 108, 108]⟩ wa HSa.out (by decide) hBa)
      go_wp2_with fail
      rw [← hwa]
      ((with_reducible refine (CP.out).mono ?_); rintro e w1 ⟨rfl, hw, hk⟩)
      have HS1 := Lib.hid hw
      have HK1 := Lib.hid (HK.out.trans hk)
      have hB1 : B ≤ w1.heap.size := Nat.le_trans hBa hk.1.size
      clear hw hk CP
      go_wp2_with fail
      go_end0
      refine ⟨rfl, ?_, HK1.out⟩
      have h := HS1.out
      exact h
    · skip
      go_enter Tryz.func57, Tryz.ntmps57
      have CP := Lib.hid (wPut B b _ ⟨#[102, 97, 108, 115, 101]⟩ wa HSa.out (by decide) hBa)
      go_wp2_with fail
      rw [← hwa]
      ((with_reducible refine (CP.out).mono ?_); rintro e w1 ⟨rfl, hw, hk⟩)
      have HS1 := Lib.hid hw
      have HK1 := Lib.hid (HK.out.trans hk)
      have hB1 : B ≤ w1.heap.size := Nat.le_trans hBa hk.1.size
      clear hw hk CP
      go_wp2_with fail
      go_end0
      refine ⟨rfl, ?_, HK1.out⟩
      have h := HS1.out
      exact h
    · skip
      go_enter Tryz.func57, Tryz.ntmps57
      have CP := Lib.hid (wPut B b _ ⟨#[116, 114, 117, 101]⟩ wa HSa.out (by decide) hBa)
      go_wp2_with fail
      rw [← hwa]
      ((with_reducible refine (CP.out).mono ?_); rintro e w1 ⟨rfl, hw, hk⟩)
      have HS1 := Lib.hid hw
      have HK1 := Lib.hid (HK.out.trans hk)
      have hB1 : B ≤ w1.heap.size := Nat.le_trans hBa hk.1.size
      clear hw hk CP
      go_wp2_with fail
      go_end0
      refine ⟨rfl, ?_, HK1.out⟩
      have h := HS1.out
      exact h
  · clear IH g2 g3 g4
    have CF := Lib.hid (jfmt n n1.1 n1.2 wa HTa.out.pow)
    have hit := itS_size n n1.1 n1.2
    have hib := Lib.hid (itS_dnum n)
    go_enter Tryz.func57, Tryz.ntmps57
    go_wp2_with fail
    rw [← hwa]
    ((with_reducible refine (CF.out).mono ?_); rintro e w1 ⟨rfl, hb⟩)
    have HK1 := Lib.hid (HK.out.trans (WK.new (b := b) hBa hb))
    have HS1 := Lib.hid (HSa.out.later hb)
    have hB1 : B ≤ w1.heap.size := Nat.le_trans hBa hb.size
    clear hb CF
    generalize itS n = z at *
    have CP := Lib.hid (wPut B b _ z w1 HS1.out (by omega) hB1)
    go_wp2_with fail
    ((with_reducible refine (CP.out).mono ?_); rintro e w2 ⟨rfl, hw, hk⟩)
    rw [hib.out] at hw
    have HS2 := Lib.hid hw
    have HK2 := Lib.hid (HK1.out.trans hk)
    clear hw hk CP
    go_wp2_with fail
    go_end0
    refine ⟨rfl, ?_, HK2.out⟩
    have h := HS2.out
    exact h
  · clear IH g2 g3 g4
    have CP := Lib.hid (wPutLit B b _ s wa HSa.out HTa.out hv f1.2 hBa)
    go_enter Tryz.func57, Tryz.ntmps57
    go_wp2_with fail
    rw [← hwa]
    ((with_reducible refine (CP.out).mono ?_); rintro e w1 ⟨rfl, hw, hk⟩)
    have HS1 := Lib.hid hw
    have HK1 := Lib.hid (HK.out.trans hk)
    clear hw hk CP
    go_wp2_with fail
    go_end0
    refine ⟨rfl, ?_, HK1.out⟩
    have h := HS1.out
    exact h
  · have hko := g3
    rcases hk with rfl | rfl
    · skip
      have CK := Lib.hid (fun (Mx : List Nat) (Wx : World) (h1 : WS B b Mx Wx) (h2 : TB B Wx) (h3 : Below B wa Wx) => IH 6 0 y s c B b Mx _ Wx hN hsz (by omega) g3 g4 f2 n2 (Gn.Rd.below HRa.out h3 (Nat.le_refl _)) h1 h2 (Nat.le_trans hBa h3.size))
      clear IH g2 g3 g4 hko
      go_enter Tryz.func57, Tryz.ntmps57
      have CP := Lib.hid (wPut B b _ ⟨#[91]⟩ wa HSa.out (by decide) hBa)
      go_wp2_with fail
      rw [← hwa]
      ((with_reducible refine (CP.out).mono ?_); rintro e w1 ⟨rfl, hw, hk⟩)
      have HS1 := Lib.hid hw
      have HK1 := Lib.hid ((WK.refl B b wa).trans hk)
      have hB1 : B ≤ w1.heap.size := Nat.le_trans hBa hk.1.size
      clear hw hk CP
      have CQ := Lib.hid (CK.out _ w1 HS1.out (HTa.out.below HK1.out.1) HK1.out.1)
      go_wp2_with fail
      ((with_reducible refine (CQ.out).mono ?_); rintro e w2 ⟨rfl, hw, hk⟩)
      have HS2 := Lib.hid hw
      have HK2 := Lib.hid (HK1.out.trans hk)
      have hB2 : B ≤ w2.heap.size := Nat.le_trans hB1 hk.1.size
      clear hw hk CQ
      have CP := Lib.hid (wPut B b _ ⟨#[93]⟩ w2 HS2.out (by decide) hB2)
      go_wp2_with fail
      ((with_reducible refine (CP.out).mono ?_); rintro e w3 ⟨rfl, hw, hk⟩)
      have HS3 := Lib.hid hw
      have HK3 := Lib.hid (HK2.out.trans hk)
      have hB3 : B ≤ w3.heap.size := Nat.le_trans hB2 hk.1.size
      clear hw hk CP
      have HK4 := Lib.hid (HK.out.trans HK3.out)
      go_wp2_with fail
      go_end0
      refine ⟨rfl, ?_, HK4.out⟩
      have h := HS3.out
      simpa [Jr.one, Jr.endOf, bl, List.append_assoc] using h
    · skip
      have CK := Lib.hid (fun (Mx : List Nat) (Wx : World) (h1 : WS B b Mx Wx) (h2 : TB B Wx) (h3 : Below B wa Wx) => IH 7 0 y s c B b Mx _ Wx hN hsz (by omega) g3 g4 f2 n2 (Gn.Rd.below HRa.out h3 (Nat.le_refl _)) h1 h2 (Nat.le_trans hBa h3.size))
      clear IH g2 g3 g4 hko
      go_enter Tryz.func57, Tryz.ntmps57
      have CP := Lib.hid (wPut B b _ ⟨#[123]⟩ wa HSa.out (by decide) hBa)
      go_wp2_with fail
      rw [← hwa]
      ((with_reducible refine (CP.out).mono ?_); rintro e w1 ⟨rfl, hw, hk⟩)
      have HS1 := Lib.hid hw
      have HK1 := Lib.hid ((WK.refl B b wa).trans hk)
      have hB1 : B ≤ w1.heap.size := Nat.le_trans hBa hk.1.size
      clear hw hk CP
      have CQ := Lib.hid (CK.out _ w1 HS1.out (HTa.out.below HK1.out.1) HK1.out.1)
      go_wp2_with fail
      ((with_reducible refine (CQ.out).mono ?_); rintro e w2 ⟨rfl, hw, hk⟩)
      have HS2 := Lib.hid hw
      have HK2 := Lib.hid (HK1.out.trans hk)
      have hB2 : B ≤ w2.heap.size := Nat.le_trans hB1 hk.1.size
      clear hw hk CQ
      have CP := Lib.hid (wPut B b _ ⟨#[125]⟩ w2 HS2.out (by decide) hB2)
      go_wp2_with fail
      ((with_reducible refine (CP.out).mono ?_); rintro e w3 ⟨rfl, hw, hk⟩)
      have HS3 := Lib.hid hw
      have HK3 := Lib.hid (HK2.out.trans hk)
      have hB3 : B ≤ w3.heap.size := Nat.le_trans hB2 hk.1.size
      clear hw hk CP
      have HK4 := Lib.hid (HK.out.trans HK3.out)
      go_wp2_with fail
      go_end0
      refine ⟨rfl, ?_, HK4.out⟩
      have h := HS3.out
      simpa [Jr.one, Jr.endOf, bl, List.append_assoc] using h
theorem vw_all : ∀ N, VW N
  | 0 => fun _ _ _ _ _ _ _ _ _ _ h => absurd h (by omega)
  | N + 1 => putValue_step (N + 1) (putParts_step N (vw_all N))
end Go.Proofs.YtgmdjofnkbaflaaGreatDoor

/- The program's Show and Canon. -/
namespace Go.Proofs.YtgmdjofnkbaflaaGreatDoor
open Go.RowKit
set_option linter.unusedVariables false
set_option maxRecDepth 100000

theorem wr_bytes (l : List Nat) (h : ∀ x ∈ l, x < 256) : vals l = Lib.byteCells (l.map UInt8.ofNat) := vals_bytes l h
set_option maxHeartbeats 4000000 in
theorem wString (B b : Nat) (l : List Nat) (w : World) (h : Wr B b l false w) (h0 : l ≠ []) (hBw : B ≤ w.heap.size) :
    Calls Tryz.prog 48 #[.pointer (some ⟨b, 0, none⟩)] w fun e w' => e = .returned (.string (str l)) ∧ Below B w w' := by
  obtain ⟨p, v, hp, hbk, hown⟩ := h.lies
  have hl0 : l.length ≠ 0 := by simpa using h0
  rw [vals_bytes l h.byte] at hown
  obtain ⟨L, hL⟩ : ∃ L : List UInt8, L = l.map UInt8.ofNat := ⟨_, rfl⟩
  have hLl : L.length = l.length := by rw [hL, List.length_map]
  rw [← hL] at hown
  obtain ⟨g, cap, cur, rfl, hbg, hg, hnc, hcm, hcs, htake⟩ : ∃ g cap cur, v = .slice (some ⟨g, 0, none⟩) l.length cap ∧ B ≤ g ∧ w.heap[g]? = some (.cells cur 5 (0, 0)) ∧ l.length ≤ cap ∧ cap ≤ maxLen ∧ cur.size = cap * 1 ∧ cur.toList.take (l.length * 1) = Lib.byteCells L := by
    rcases hown.2 with ⟨_, hz⟩ | ⟨g, cap, cur, hv, r⟩
    · exact absurd hz hl0
    · exact ⟨g, cap, cur, hv, r⟩
  have c1 := cell_heap hbk 1
  simp at c1
  have c1d : w.drew.cell? ⟨b, 1, none⟩ = some (.slice (some ⟨g, 0, none⟩) l.length cap) := c1
  have hSD : ∀ w, (Builtin.unsafeSliceData_ #[44] 134 #[.slice (some ⟨g, 0, none⟩) l.length cap]).run Tryz.prog w = .ok (.pointer (some ⟨g, 0, none⟩)) w := fun w =>
    Lib.run_unsafeSliceData_row _ _ _ _ _ _ (by omega)
  have hUS : (Builtin.unsafeString_ #[134, 3] 9 #[.pointer (some ⟨g, 0, none⟩), .int .i64 l.length]).run Tryz.prog w.drew = .ok (.string (str l)) (w.drew.freeze ⟨g, 0, none⟩ l.length) := by
    have := Lib.run_unsafeString_row (P := Tryz.prog) w.drew 134 3 9 5 Tryz.underlying134 (by kernel_rfl) g cur.size (by have hg' : w.drew.heap[g]? = some (.cells cur 5 (0, 0)) := hg; simp [World.shape?, hg']) L (by intro e; rw [e] at hLl; simp at hLl; omega) (by omega) (by unfold maxLen at hcm; omega) (fun j x hx => by
      have := hown.cells (g := g) rfl j (.int .u8 x.toNat) (by simp [Lib.byteCells, hx])
      exact this)
    rw [hLl] at this
    rw [this, hL, str_bytes]
  have hBg := hbg
  clear h hown hbk hg htake
  go_enter Tryz.func48, Tryz.ntmps48
  go_wp2_with fail
  go_region
  all_goals (go_wp2_with fail; go_ret; exact ⟨rfl, Lib.below_freeze (Below.drew (Below.refl B w)) (p := ⟨g, 0, none⟩) hBg _⟩)
/-- What Show answers. -/
def ShIs (l : List Nd) (x : List Nat) (e : Int) : Prop := (chk l ≠ 0 ∧ e = chk l ∧ x = []) ∨ ∃ F, May l F ∧ (((Jr.shv F).length ≤ 1048576 ∧ e = 0 ∧ x = Jr.shv F) ∨ (1048576 < (Jr.shv F).length ∧ e = 5 ∧ x = []))
theorem sh_ex (l : List Nd) : ∃ x e, ShIs l x e := by
  by_cases h : chk l = 0
  · obtain ⟨F, hF, _⟩ := may_of h
    by_cases hl : (Jr.shv F).length ≤ 1048576
    · exact ⟨_, _, .inr ⟨F, hF, .inl ⟨hl, rfl, rfl⟩⟩⟩
    · exact ⟨_, _, .inr ⟨F, hF, .inr ⟨by omega, rfl, rfl⟩⟩⟩
  · exact ⟨_, _, .inl ⟨h, rfl, rfl⟩⟩
/-- Texts of a tape that are not too long for the memory. -/
def TOk (l : List Nd) : Prop := ∀ x ∈ l, x.key.size ≤ 1000000000 ∧ x.s.size ≤ 1000000000
theorem one_pos {k n : Int} {s : ByteArray} {b : List Nat} : Jr.one k n s b ≠ [] := by
  unfold Jr.one Jr.wNull Jr.wFalse Jr.wTrue
  repeat' split
  all_goals first
    | (simp; done)
    | (unfold Jr.dnum; simp [Jr.dcs_ne]; done)
    | (unfold Utf.tidy; simp)
set_option maxHeartbeats 4000000 in
theorem showC (v : Value) (l : List Nd) (w : World) (h : RdN w w.heap.size v l) (hok : ∀ x ∈ l, Nok x) (ht : TOk l) (T : Tab w) (TP : TabP w) (x : List Nat) (e : Int) (hx : ShIs l x e) :
    Calls Tryz.prog 24 #[v] w fun r w' => r = .returned (.tuple #[.string (str x), .int .i64 e]) ∧ Below w.heap.size w w' := by
  have HR := Lib.hid h
  rcases hx with ⟨h0, rfl, rfl⟩ | ⟨F, hM, hx⟩
  · have C := Lib.hid (check v l w h hok T _ rfl)
    obtain ⟨a, c, rfl, _⟩ := Gn.Rd.form h
    have hne : (chk l != 0) = true := by simpa using h0
    have hs : str [] = ⟨#[]⟩ := rfl
    rw [hs]
    generalize chk l = q at *
    clear h T TP
    go_enter Tryz.func24, Tryz.ntmps24
    go_wp2_with fail
    ((with_reducible refine (C.out).mono ?_); rintro r w2 ⟨rfl, hb⟩)
    go_wp2_with fail
    go_ret2
    exact ⟨rfl, hb⟩
  · have C := Lib.hid (check v l w h hok T 0 (may_chk hM).1)
    obtain ⟨hl, ⟨⟨k, y, n, s, c, rfl, hy⟩, hg, rfl⟩, hd⟩ := hM
    obtain rfl := Jr.sz0 hy
    have hsz : Tp.sz c ≤ 4000 := by have : Tp.sz (.node k ⟨#[]⟩ n s c .nil) ≤ 4000 := hl; rw [Tp.sz_node] at this; omega
    have hnf : Jr.NFit (.node k ⟨#[]⟩ n s c .nil) := fun z hz => (hok z hz).2.2.1
    have CV := Lib.hid (fun (B b : Nat) (Mx : List Nat) (Wx : World) (h1 : RdN Wx B v (Tp.flat (.node k ⟨#[]⟩ n s c .nil))) (h2 : WS B b Mx Wx) (h3 : TB B Wx) (h4 : B ≤ Wx.heap.size) => vw_all 5000 k n ⟨#[]⟩ s c B b Mx v Wx (by omega) hsz hg ht hnf h1 h2 h3 h4)
    have HT := Lib.hid (TB.start T TP)
    obtain ⟨a, cc, rfl, _⟩ := Gn.Rd.form h
    clear h T TP hok ht hg hnf
    have hx2 : ((Jr.one k n s (Jr.shp k true c)).length ≤ 1048576 ∧ e = 0 ∧ x = Jr.one k n s (Jr.shp k true c)) ∨ (1048576 < (Jr.one k n s (Jr.shp k true c)).length ∧ e = 5 ∧ x = []) := hx
    have hpos := one_pos (k := k) (n := n) (s := s) (b := Jr.shp k true c)
    have hflen : (Tp.flat (.node k ⟨#[]⟩ n s c .nil)).length = 1 + Tp.sz c := by show Tp.sz _ = _; rw [Tp.sz_node, Tp.sz_nil]; omega
    rw [hflen] at C CV HR ⊢
    generalize Jr.one k n s (Jr.shp k true c) = X at *
    go_enter Tryz.func24, Tryz.ntmps24
    go_wp2_with fail
    ((with_reducible refine (C.out).mono ?_); rintro r w2 ⟨rfl, hb⟩)
    obtain ⟨wa, hwa⟩ : ∃ wa, wa = w2.alloc (.cells #[.pointer none, .slice none 0 0, .bool false] 97) := ⟨_, rfl⟩
    have HB2 := Lib.hid hb
    have HUa : Hid (Below w2.heap.size w2 wa) := Lib.hid (by rw [hwa]; exact up_new w2 _)
    have HBa := Lib.hid (up hb HUa.out)
    have HWa : Hid (WS w2.heap.size w2.heap.size [] wa) := Lib.hid (by rw [hwa]; exact ⟨[], false, Wr.fresh w2, fun _ => rfl, by simp⟩)
    have CQ := Lib.hid (CV.out w2.heap.size w2.heap.size [] wa ((Gn.Rd.later HR.out hb).below HUa.out (Nat.le_refl _)) HWa.out (((HT.out.below hb).more hb.size).below HUa.out) HUa.out.size)
    clear hb C CV
    go_wp2_with fail
    rw [← hwa]
    ((with_reducible refine (CQ.out).mono ?_); rintro r w3 ⟨rfl, hw, hk⟩)
    rw [List.nil_append] at hw
    obtain ⟨L, fl, k1, k2, k3⟩ := hw
    obtain ⟨p, sa, sc, _, hbk, _, _⟩ := k1.parts
    have c2 := cell_heap hbk 2
    simp at c2
    have HK := Lib.hid k1
    have HB3 : Hid (Below w.heap.size w w3) := Lib.hid (HBa.out.trans (hk.1.mono HB2.out.size))
    have hB3 : w2.heap.size ≤ w3.heap.size := Nat.le_trans HUa.out.size hk.1.size
    clear hk CQ hbk hwa
    rcases hx2 with ⟨hle, rfl, rfl⟩ | ⟨hgt, rfl, rfl⟩
    · have hf : fl = false := by
        cases fl with
        | false => rfl
        | true => have := k3.1 rfl; omega
      subst hf
      obtain rfl := k2 rfl
      have CS := Lib.hid (wString _ _ L w3 HK.out hpos hB3)
      clear k1 k2 k3
      go_wp2_with fail
      ((with_reducible refine (CS.out).mono ?_); rintro r w4 ⟨rfl, hb⟩)
      have HB4 := Lib.hid (HB3.out.trans (hb.mono HB2.out.size))
      clear hb CS
      go_wp2_with fail
      go_ret2
      exact ⟨rfl, HB4.out⟩
    · obtain rfl := k3.2 hgt
      clear k1 k2 k3
      go_wp2_with fail
      go_ret2
      exact ⟨rfl, HB3.out⟩
set_option maxHeartbeats 4000000 in
theorem canonC (v : Value) (l r : List Nd) (w : World) (h : RdN w w.heap.size v l) (hok : ∀ x ∈ l, Nok x) (T : Tab w) (TP : TabP w) (hr : SortIs l r) (hok2 : ∀ x ∈ r, Nok x) (ht : TOk r) (x : List Nat) (e : Int) (hx : ShIs r x e) :
    Calls Tryz.prog 27 #[v] w fun r w' => r = .returned (.tuple #[.string (str x), .int .i64 e]) ∧ Below w.heap.size w w' := by
  have C := Lib.hid (sorted v l w h hok T r hr)
  have CS := Lib.hid (fun v2 w2 (h2 : RdN w2 w2.heap.size v2 r) (T : Tab w2) (TP : TabP w2) => showC v2 r w2 h2 hok2 ht T TP x e hx)
  have HT := Lib.hid T
  have HP := Lib.hid TP
  obtain ⟨a, c, rfl, _⟩ := Gn.Rd.form h
  clear h hok T TP hr hok2 ht hx
  generalize str x = z at *
  go_enter Tryz.func27, Tryz.ntmps27
  go_wp2_with fail
  ((with_reducible refine (C.out).mono ?_); rintro q w2 ⟨v2, rfl, ho, hb⟩)
  have CS2 := Lib.hid (CS.out v2 w2 (Gn.Own.rd ndL ho) (HT.out.later hb) (HP.out.later hb))
  have HB := Lib.hid hb
  clear hb ho C CS
  go_wp2_with fail
  ((with_reducible refine (CS2.out).mono ?_); rintro q w3 ⟨rfl, hb⟩)
  have HB3 := Lib.hid (up HB.out hb)
  clear hb CS2
  go_wp2_with fail
  go_ret2
  exact ⟨rfl, HB3.out⟩
end Go.Proofs.YtgmdjofnkbaflaaGreatDoor

/- The chapter's examples: shows, works. -/
namespace Go.Proofs.YtgmdjofnkbaflaaGreatDoor
open Go.RowKit
set_option linter.unusedVariables false
set_option maxRecDepth 100000

theorem str_list (l : List Nat) (s : ByteArray) (hl : ∀ x ∈ l, x < 256) : ((str l).toList == s.toList) = decide (l = bl s) := by
  rw [bl_eq, bl_str l hl]
theorem sh_byte {l : List Nd} {x : List Nat} {e : Int} (hx : ShIs l x e) (hn : ∀ z ∈ l, Nok z) : ∀ z ∈ x, z < 256 := by
  rcases hx with ⟨_, _, rfl⟩ | ⟨F, hM, ⟨_, _, rfl⟩ | ⟨_, _, rfl⟩⟩
  · simp
  · obtain ⟨_, ⟨⟨k, y, n, s, c, rfl, hy⟩, hg, rfl⟩, _⟩ := hM
    obtain rfl := Jr.sz0 hy
    exact (Jr.val_shv ⟨k, n, s, c, rfl⟩ hg (fun z hz => (hn z hz).2.2.1)).byte
  · simp
set_option maxHeartbeats 4000000 in
theorem lshows (v : Value) (l : List Nd) (want : ByteArray) (w : World) (h : RdN w w.heap.size v l) (hok : ∀ x ∈ l, Nok x) (ht : TOk l) (T : Tab w) (TP : TabP w) (x : List Nat) (e : Int) (hx : ShIs l x e) (q : Bool) (hq : q = (decide (x = bl want) && decide (e = 0))) :
    Calls Tryz.prog 54 #[v, .string want] w fun r w' => r = .returned (.bool q) ∧ Below w.heap.size w w' := by
  have C := Lib.hid (showC v l w h hok ht T TP x e hx)
  have e1 := str_list x want (sh_byte hx hok)
  obtain ⟨a, c, rfl, _⟩ := Gn.Rd.form h
  generalize str x = z at *
  by_cases hxw : x = bl want
  · have e2 : (z.toList == want.toList) = true := by rw [e1]; simpa using hxw
    have hq2 : q = decide (e = 0) := by rw [hq]; simp [hxw]
    have HQ := Lib.hid hq2
    clear h hok ht T TP hx e1 hxw hq hq2
    go_enter Tryz.func54, Tryz.ntmps54
    go_wp2_with fail
    ((with_reducible refine (C.out).mono ?_); rintro r w2 ⟨rfl, hb⟩)
    have HB := Lib.hid hb
    clear hb C
    go_wp2_with fail
    go_ret
    exact ⟨congrArg (fun z => Ending.returned (Value.bool z)) (HQ.out.trans (Bool.beq_eq_decide_eq e 0).symm).symm, HB.out⟩
  · have e2 : (z.toList == want.toList) = false := by rw [e1]; simpa using hxw
    have hq2 : q = false := by rw [hq]; simp [hxw]
    subst hq2
    clear h hok ht T TP hx e1 hxw hq
    go_enter Tryz.func54, Tryz.ntmps54
    go_wp2_with fail
    ((with_reducible refine (C.out).mono ?_); rintro r w2 ⟨rfl, hb⟩)
    have HB := Lib.hid hb
    clear hb C
    go_wp2_with fail
    go_ret
    exact ⟨rfl, HB.out⟩
/-! ### the examples -/
namespace Jr
theorem dcs_1 : dcs 1 = [49] := by rw [dcs_small (by omega)]
theorem dcs_min : dcs 9223372036854775808 = [57, 50, 50, 51, 51, 55, 50, 48, 51, 54, 56, 53, 52, 55, 55, 53, 56, 48, 56] := by simp [dcs_big, dcs_small]
theorem ex_show : shv exF = [123, 34, 98, 34, 58, 91, 49, 44, 110, 117, 108, 108, 93, 44, 34, 97, 34, 58, 116, 114, 117, 101, 125] := by
  have h1 : dnum 1 = [49] := by show sgn false ++ dcs 1 = _; rw [dcs_1]; rfl
  have hb : Utf.tidy (bl ⟨#[98]⟩) = [34, 98, 34] := by decide
  have ha : Utf.tidy (bl ⟨#[97]⟩) = [34, 97, 34] := by decide
  simp [exF, exC, shv, shp, one, comma, keyT, endOf, wNull, wTrue, h1, hb, ha]
def exSF : Fo := .node 7 ⟨#[]⟩ 0 ⟨#[]⟩ (.node 3 ⟨#[97]⟩ 0 ⟨#[]⟩ .nil (.node 6 ⟨#[98]⟩ 0 ⟨#[]⟩ (.node 4 ⟨#[]⟩ 1 ⟨#[]⟩ .nil (.node 1 ⟨#[]⟩ 0 ⟨#[]⟩ .nil .nil)) .nil)) .nil
theorem exs_show : shv exSF = [123, 34, 97, 34, 58, 116, 114, 117, 101, 44, 34, 98, 34, 58, 91, 49, 44, 110, 117, 108, 108, 93, 125] := by
  have h1 : dnum 1 = [49] := by show sgn false ++ dcs 1 = _; rw [dcs_1]; rfl
  have hb : Utf.tidy (bl ⟨#[98]⟩) = [34, 98, 34] := by decide
  have ha : Utf.tidy (bl ⟨#[97]⟩) = [34, 97, 34] := by decide
  simp [exSF, shv, shp, one, comma, keyT, endOf, wNull, wTrue, h1, hb, ha]
theorem min_show : shv (.node 4 ⟨#[]⟩ (-9223372036854775808) ⟨#[]⟩ .nil .nil) = [45, 57, 50, 50, 51, 51, 55, 50, 48, 51, 54, 56, 53, 52, 55, 55, 53, 56, 48, 56] := by
  show dnum (-9223372036854775808) = _
  show sgn true ++ dcs 9223372036854775808 = _
  rw [dcs_min]; rfl
theorem txt_show : shv (.node 5 ⟨#[]⟩ 0 ⟨#[34, 10]⟩ .nil .nil) = [34, 92, 34, 92, 110, 34] := by
  show Utf.tidy (bl ⟨#[34, 10]⟩) = _
  decide
end Jr
theorem exs_flat : Tp.flat Jr.exSF = exS := rfl
/-! ### the walk -/
theorem exs_good : Tp.good Jr.exSF := by
  simp [Jr.exSF, Tp.good, Tp.hf, Tp.ko, Tp.keys, vld_a, vld_b]
  rfl
theorem exs_may : May exS Jr.exSF := ⟨by decide, ⟨⟨7, ⟨#[]⟩, 0, ⟨#[]⟩, _, rfl, rfl⟩, exs_good, rfl⟩, by decide⟩
theorem exs_ok : ∀ x ∈ exS, Nok x := by
  intro x hx
  simp only [exS, List.mem_cons, List.not_mem_nil, or_false] at hx
  rcases hx with rfl | rfl | rfl | rfl | rfl <;> (unfold Nok maxLen; refine ⟨⟨?_, ?_⟩, ?_, ⟨?_, ?_⟩, ?_, ⟨?_, ?_⟩⟩ <;> first | decide | simp)
theorem exl_t : TOk exL := by
  intro x hx
  simp only [exL, List.mem_cons, List.not_mem_nil, or_false] at hx
  rcases hx with rfl | rfl | rfl | rfl | rfl <;> exact ⟨by decide, by decide⟩
theorem exs_t : TOk exS := by
  intro x hx
  simp only [exS, List.mem_cons, List.not_mem_nil, or_false] at hx
  rcases hx with rfl | rfl | rfl | rfl | rfl <;> exact ⟨by decide, by decide⟩
def exB : List Nd := [⟨6, ⟨#[98]⟩, 0, ⟨#[]⟩, 3⟩]
theorem exb_chk : chk exB = 60 := by
  refine (chk_eq (d := 0) (.inr (.inl ⟨by decide, ?_, rfl, rfl⟩))).1
  rintro F ⟨⟨k, y, n, s, c, rfl, hy⟩, _, hf⟩
  rw [Tp.flat_node] at hf
  have h1 := congrArg (fun l => l.head?.map Tp.Nd.key) hf
  simp [exB] at h1
  rw [h1] at hy
  exact absurd hy (by decide)
theorem exb_ok : ∀ x ∈ exB, Nok x := by
  intro x hx
  simp only [exB, List.mem_cons, List.not_mem_nil, or_false] at hx
  rcases hx with rfl
  unfold Nok maxLen; refine ⟨⟨?_, ?_⟩, ?_, ⟨?_, ?_⟩, ?_, ⟨?_, ?_⟩⟩ <;> first | decide | simp
theorem nok_one (k n : Int) (s : ByteArray) (hk : 1 ≤ k ∧ k ≤ 7) (hn : -9223372036854775808 ≤ n ∧ n ≤ 9223372036854775807) (hs : s.size ≤ 1000) : (∀ x ∈ [nd1 k n s], Nok x) ∧ TOk [nd1 k n s] := by
  constructor
  · intro x hx
    obtain rfl := List.mem_singleton.1 hx
    exact ⟨by simp [nd1]; omega, Nat.zero_le _, hn, by simp only [nd1]; unfold maxLen; omega, by simp [nd1]⟩
  · intro x hx
    obtain rfl := List.mem_singleton.1 hx
    exact ⟨Nat.zero_le _, by simp only [nd1]; omega⟩
theorem sh_ok {l : List Nd} {F : Fo} (hM : May l F) (h : (Jr.shv F).length ≤ 1048576) : ShIs l (Jr.shv F) 0 := .inr ⟨F, hM, .inl ⟨h, rfl, rfl⟩⟩
theorem nil_sh : ShIs [] [] 60 := .inl ⟨by rw [nil_chk]; decide, by rw [nil_chk], rfl⟩
theorem rd_form {w : World} {B : Nat} {v : Value} {l : List Nd} (h : RdN w B v l) (n : Nat) (hn : l.length = n) : ∃ a c, v = .slice a n c := by
  subst hn
  obtain ⟨a, c, e, _⟩ := Gn.Rd.form h
  exact ⟨a, c, e⟩
theorem vld_qn : Utf.vld (bl ⟨#[34, 10]⟩) = true := by kernel_rfl
theorem mkStr2 (w : World) (T : Tab w) : Calls Tryz.prog 31 #[.string ⟨#[34, 10]⟩] w fun e w' => MkPost w [nd1 5 0 ⟨#[34, 10]⟩] e w' := by
  have := mkStr ⟨#[34, 10]⟩ w T (by decide)
  rwa [show strL ⟨#[34, 10]⟩ = [nd1 5 0 ⟨#[34, 10]⟩] by unfold strL; rw [if_pos vld_qn]] at this
set_option maxHeartbeats 16000000 in
theorem works8 (w : World) (T : Tab w) (TP : TabP w) : Calls Tryz.prog 22 #[] w fun e w' => e = .returned (.bool true) ∧ Below w.heap.size w w' := by
  obtain ⟨w0, hw0⟩ : ∃ w0, w0 = w.alloc (.cells #[.int .i64 7, .string ⟨#[]⟩, .int .i64 0, .string ⟨#[]⟩, .int .i64 5, .int .i64 6, .string ⟨#[98]⟩, .int .i64 0, .string ⟨#[]⟩, .int .i64 3, .int .i64 4, .string ⟨#[]⟩, .int .i64 1, .string ⟨#[]⟩, .int .i64 1, .int .i64 1, .string ⟨#[]⟩, .int .i64 0, .string ⟨#[]⟩, .int .i64 1, .int .i64 3, .string ⟨#[97]⟩, .int .i64 0, .string ⟨#[]⟩, .int .i64 1] 28) := ⟨_, rfl⟩
  have b0 : Below w.heap.size w w0 := by rw [hw0]; exact up_new _ _
  have HV : Hid (RdN w0 w0.heap.size (.slice (some ⟨w.heap.size, 0, none⟩) 5 5) exL) := Lib.hid (by rw [hw0]; exact Gn.Own.rd ndL (Gn.Own.lit (T := 28) ndL w w.heap.size exL _ 5 5 rfl rfl rfl (by decide) (Nat.le_refl _)))
  have HW0 := Lib.hid hw0
  have HB := Lib.hid b0
  have HT := Lib.hid (T.later b0)
  have HTP := Lib.hid (TP.later b0)
  obtain ⟨g, hg⟩ : ∃ g, g = w.heap.size := ⟨_, rfl⟩
  rw [← hg] at HV
  have HG := Lib.hid hg
  obtain ⟨u, hu, hur⟩ := Gn.cut_mid ndY w0 w0.heap.size (some ⟨g, 0, none⟩) exL 5 5 1 2 HV.out rfl (by omega) (by decide)
  replace hu : ∀ w', (Instr.slice 22 (.slice (some ⟨g, 0, none⟩) 5 5) (some (.int .i64 1)) (some (.int .i64 2)) none).run Tryz.prog w' = .ok u w' := hu
  have HUR : Hid (RdN w0 w0.heap.size u exB) := Lib.hid hur
  obtain ⟨ua, uc, rfl⟩ := rd_form HUR.out 1 rfl
  have HHU := Lib.hid hu
  clear T TP b0 hw0 hg hur hu
  go_enter Tryz.func22, Tryz.ntmps22
  go_wp2_with fail
  rw [← HW0.out, ← HG.out]
  have E1 : str (Jr.shv Jr.exSF) = ⟨#[123, 34, 97, 34, 58, 116, 114, 117, 101, 44, 34, 98, 34, 58, 91, 49, 44, 110, 117, 108, 108, 93, 125]⟩ := by rw [Jr.exs_show]; rfl
  have CF := Lib.hid (canonC _ exL exS w0 HV.out ex_ok HT.out HTP.out ex_sort exs_ok exs_t _ 0 (sh_ok exs_may (by rw [Jr.exs_show]; decide)))
  rw [E1] at CF
  ((with_reducible refine (CF.out).mono ?_); rintro e w1 ⟨rfl, b⟩)
  replace HB := Lib.hid (up HB.out b)
  replace HT := Lib.hid (HT.out.later b)
  replace HTP := Lib.hid (HTP.out.later b)
  replace HV := Lib.hid (Gn.Rd.later HV.out b)
  replace HUR := Lib.hid (Gn.Rd.later HUR.out b)
  clear b CF
  have CF := Lib.hid (showC (.slice none 0 0) [] w1 (Gn.Rd.nil _ _) (by simp) (fun x hx => by simp at hx) HT.out HTP.out [] 60 nil_sh)
  rw [show str [] = ⟨#[]⟩ from rfl] at CF
  go_wp2_with fail
  ((with_reducible refine (CF.out).mono ?_); rintro e w2 ⟨rfl, b⟩)
  replace HB := Lib.hid (up HB.out b)
  replace HT := Lib.hid (HT.out.later b)
  replace HTP := Lib.hid (HTP.out.later b)
  replace HV := Lib.hid (Gn.Rd.later HV.out b)
  replace HUR := Lib.hid (Gn.Rd.later HUR.out b)
  clear b CF
  have hu := HHU.out
  have CF := Lib.hid (canonC _ exB [] w2 HUR.out exb_ok HT.out HTP.out (.inr ⟨by rw [exb_chk]; decide, rfl⟩) (by simp) (fun x hx => by simp at hx) [] 60 nil_sh)
  rw [show str [] = ⟨#[]⟩ from rfl] at CF
  go_wp2_with fail
  ((with_reducible refine (CF.out).mono ?_); rintro e w3 ⟨rfl, b⟩)
  replace HB := Lib.hid (up HB.out b)
  replace HT := Lib.hid (HT.out.later b)
  replace HTP := Lib.hid (HTP.out.later b)
  replace HV := Lib.hid (Gn.Rd.later HV.out b)
  replace HUR := Lib.hid (Gn.Rd.later HUR.out b)
  clear b CF
  clear hu
  have CF := Lib.hid (lshows _ exL ⟨#[123, 34, 98, 34, 58, 91, 49, 44, 110, 117, 108, 108, 93, 44, 34, 97, 34, 58, 116, 114, 117, 101, 125]⟩ w3 HV.out ex_ok exl_t HT.out HTP.out _ 0 (sh_ok ex_may (by rw [Jr.ex_show]; decide)) true (by rw [Jr.ex_show]; decide))
  go_wp2_with fail
  ((with_reducible refine (CF.out).mono ?_); rintro e w4 ⟨rfl, b⟩)
  replace HB := Lib.hid (up HB.out b)
  replace HT := Lib.hid (HT.out.later b)
  replace HTP := Lib.hid (HTP.out.later b)
  replace HV := Lib.hid (Gn.Rd.later HV.out b)
  replace HUR := Lib.hid (Gn.Rd.later HUR.out b)
  clear b CF
  have CF := Lib.hid (mkNum (-9223372036854775808) w4)
  go_wp2_with fail
  ((with_reducible refine (CF.out).mono ?_); rintro e w5 ⟨v, rfl, ho, b⟩)
  replace HB := Lib.hid (up HB.out b)
  replace HT := Lib.hid (HT.out.later b)
  replace HTP := Lib.hid (HTP.out.later b)
  replace HV := Lib.hid (Gn.Rd.later HV.out b)
  replace HUR := Lib.hid (Gn.Rd.later HUR.out b)
  have HN := Lib.hid (Gn.Own.rd ndL ho)
  obtain ⟨na, nc, rfl⟩ := rd_form HN.out 1 rfl
  clear b CF ho
  have CF := Lib.hid (lshows _ [nd1 4 (-9223372036854775808) ⟨#[]⟩] ⟨#[45, 57, 50, 50, 51, 51, 55, 50, 48, 51, 54, 56, 53, 52, 55, 55, 53, 56, 48, 56]⟩ w5 HN.out (nok_one 4 _ _ (by decide) (by decide) (by decide)).1 (nok_one 4 _ _ (by decide) (by decide) (by decide)).2 HT.out HTP.out _ 0 (sh_ok (leaf_may 4 _ _ (.inr (.inl ⟨rfl, rfl⟩))) (by rw [Jr.min_show]; decide)) true (by rw [Jr.min_show]; decide))
  go_wp2_with fail
  ((with_reducible refine (CF.out).mono ?_); rintro e w6 ⟨rfl, b⟩)
  replace HB := Lib.hid (up HB.out b)
  replace HT := Lib.hid (HT.out.later b)
  replace HTP := Lib.hid (HTP.out.later b)
  replace HV := Lib.hid (Gn.Rd.later HV.out b)
  replace HUR := Lib.hid (Gn.Rd.later HUR.out b)
  clear b CF
  have CF := Lib.hid (mkStr2 w6 HT.out)
  go_wp2_with fail
  ((with_reducible refine (CF.out).mono ?_); rintro e w7 ⟨v, rfl, ho, b⟩)
  replace HB := Lib.hid (up HB.out b)
  replace HT := Lib.hid (HT.out.later b)
  replace HTP := Lib.hid (HTP.out.later b)
  replace HV := Lib.hid (Gn.Rd.later HV.out b)
  replace HUR := Lib.hid (Gn.Rd.later HUR.out b)
  have HM := Lib.hid (Gn.Own.rd ndL ho)
  obtain ⟨ma, mc, rfl⟩ := rd_form HM.out 1 rfl
  clear b CF ho
  have CF := Lib.hid (lshows _ [nd1 5 0 ⟨#[34, 10]⟩] ⟨#[34, 92, 34, 92, 110, 34]⟩ w7 HM.out (nok_one 5 _ _ (by decide) (by decide) (by decide)).1 (nok_one 5 _ _ (by decide) (by decide) (by decide)).2 HT.out HTP.out _ 0 (sh_ok (leaf_may 5 _ _ (.inr (.inr (.inl ⟨rfl, rfl, vld_qn⟩)))) (by rw [Jr.txt_show]; decide)) true (by rw [Jr.txt_show]; decide))
  go_wp2_with fail
  ((with_reducible refine (CF.out).mono ?_); rintro e w8 ⟨rfl, b⟩)
  replace HB := Lib.hid (up HB.out b)
  replace HT := Lib.hid (HT.out.later b)
  replace HTP := Lib.hid (HTP.out.later b)
  replace HV := Lib.hid (Gn.Rd.later HV.out b)
  replace HUR := Lib.hid (Gn.Rd.later HUR.out b)
  clear b CF
  obtain ⟨wz, hwz⟩ : ∃ wz, wz = w8.alloc (.cells #[.int .i64 6, .string ⟨#[]⟩, .int .i64 0, .string ⟨#[]⟩, .int .i64 1] 28) := ⟨_, rfl⟩
  have HZ : Hid (RdN wz wz.heap.size (.slice (some ⟨w8.heap.size, 0, none⟩) 1 1) [nd1 6 0 ⟨#[]⟩]) := Lib.hid (by rw [hwz]; exact Gn.Own.rd ndL (Gn.Own.lit (T := 28) ndL w8 w8.heap.size [nd1 6 0 ⟨#[]⟩] _ 1 1 rfl rfl rfl (by decide) (Nat.le_refl _)))
  have bz : Below w8.heap.size w8 wz := by rw [hwz]; exact up_new _ _
  have CZ := Lib.hid (lshows _ [nd1 6 0 ⟨#[]⟩] ⟨#[91, 93]⟩ wz HZ.out (nok_one 6 _ _ (by decide) (by decide) (by decide)).1 (nok_one 6 _ _ (by decide) (by decide) (by decide)).2 (HT.out.later bz) (HTP.out.later bz) _ 0 (sh_ok (leaf_may 6 _ _ (.inr (.inr (.inr ⟨.inl rfl, rfl, rfl⟩)))) (by decide)) true (by decide))
  rw [hwz] at CZ
  go_wp2_with fail
  ((with_reducible refine (CZ.out).mono ?_); rintro e wy ⟨rfl, b⟩)
  rw [← hwz] at b
  replace HB := Lib.hid (up HB.out (up bz b))
  clear b CZ bz hwz
  go_wp2_with fail
  go_ret
  exact ⟨rfl, HB.out⟩
end Go.Proofs.YtgmdjofnkbaflaaGreatDoor

/- What is read is shown in no more bytes than it had: plainly, along the reading. -/
namespace Go.Proofs.YtgmdjofnkbaflaaGreatDoor.Jr
open Go.Lib
set_option linter.unusedVariables false

/-! ### numbers -/
theorem dcs_le : ∀ (m u : Nat), u < 10 ^ (m + 1) → (dcs u).length ≤ m + 1
  | 0, u, h => by
    rw [dcs_small (by omega)]; simp
  | m + 1, u, h => by
    by_cases hu : u < 10
    · rw [dcs_small hu]; simp
    · rw [dcs_big hu, List.length_append]
      have : u / 10 < 10 ^ (m + 1) := by
        rw [Nat.pow_succ] at h
        exact Nat.div_lt_of_lt_mul (by omega)
      have := dcs_le m (u / 10) this
      simp; omega
theorem valf_lt : ∀ (E : List Nat) (a : Nat), (∀ c ∈ E, isd c = true) → E.foldl (fun n c => 10 * n + (c - 48)) a < (a + 1) * 10 ^ E.length
  | [], a, _ => by simp
  | c :: E, a, h => by
    have h1 := valf_lt E (10 * a + (c - 48)) (fun x hx => h x (List.mem_cons_of_mem _ hx))
    have h2 := h c (List.mem_cons_self ..)
    simp [isd] at h2
    rw [List.foldl_cons, List.length_cons, Nat.pow_succ]
    refine Nat.lt_of_lt_of_le h1 ?_
    have h3 : (10 * a + (c - 48) + 1) * 10 ^ E.length ≤ (10 * (a + 1)) * 10 ^ E.length := Nat.mul_le_mul_right _ (by omega)
    have h4 : (10 * (a + 1)) * 10 ^ E.length = (a + 1) * (10 ^ E.length * 10) := by rw [Nat.mul_comm 10, Nat.mul_assoc, Nat.mul_comm 10]
    omega
theorem val_lt {D : List Nat} (h : ∀ c ∈ D, isd c = true) : val D < 10 ^ D.length := by
  have := valf_lt D 0 h
  unfold val
  omega
theorem nd_take : ∀ s : List Nat, ∀ c ∈ s.take (nd s), isd c = true
  | [], c, hc => by simp at hc
  | a :: t, c, hc => by
    unfold nd at hc
    split at hc
    · rename_i h
      rw [List.take_succ_cons] at hc
      rcases List.mem_cons.1 hc with rfl | hc
      · exact h
      · exact nd_take t c hc
    · simp at hc
theorem nIn_take (s : List Nat) : (∀ c ∈ s.take (nIn s), isd c = true) ∧ (s.take (nIn s)).length = nIn s := by
  unfold nIn
  split
  · rename_i h
    cases s with
    | nil => simp at h
    | cons a t =>
      have h : a = 48 := h
      subst h
      simp [isd]
  · exact ⟨nd_take s, by rw [List.length_take]; have := nd_le s; omega⟩
/-- Digits that are read have no fewer bytes than the number's own. -/
theorem dnum_le {s : List Nat} (h : (scan s).2 = true) (hf : fits s) : (dnum (nVal s)).length ≤ (scan s).1 := by
  have hp : nP2 s ≠ nP1 s := by
    intro e; unfold scan at h; rw [if_pos e] at h; simp at h
  have hs : (scan s).1 = nP5 s := by
    unfold scan at h ⊢
    rw [if_neg hp] at h ⊢
    split at h
    · simp at h
    · rename_i h1
      rw [if_neg h1]
      split at h
      · simp at h
      · rename_i h2
        rw [if_neg h2]
  rw [hs, hf.1]
  unfold dnum
  rw [List.length_append]
  have key : ∀ D : List Nat, (∀ c ∈ D, isd c = true) → 1 ≤ D.length → (dcs (val D)).length ≤ D.length := fun D h1 h2 => by
    obtain ⟨m, hm⟩ : ∃ m, D.length = m + 1 := ⟨D.length - 1, by omega⟩
    have := val_lt h1
    rw [hm] at this ⊢
    exact dcs_le m _ this
  unfold nP2 nP1 nSg at hp ⊢
  unfold nVal
  by_cases e : hd s = 45
  · simp only [e, if_true] at hp ⊢
    obtain ⟨k1, k2⟩ := nIn_take (s.drop 1)
    have := key _ k1 (by omega)
    rw [k2] at this
    have e2 : (-(val ((s.drop 1).take (nIn (s.drop 1))) : Nat) : Int).natAbs = val ((s.drop 1).take (nIn (s.drop 1))) := by omega
    rw [e2]
    have : (sgn (decide ((-(val ((s.drop 1).take (nIn (s.drop 1))) : Nat) : Int) < 0))).length ≤ 1 := by unfold sgn; split <;> simp
    omega
  · simp only [e, if_false, List.drop_zero] at hp ⊢
    obtain ⟨k1, k2⟩ := nIn_take s
    have := key _ k1 (by omega)
    rw [k2] at this
    have e2 : ((val (s.take (nIn s)) : Nat) : Int).natAbs = val (s.take (nIn s)) := by omega
    rw [e2]
    have : (sgn (decide (((val (s.take (nIn s)) : Nat) : Int) < 0))).length = 0 := by
      rw [decide_eq_false (by omega)]; rfl
    omega
theorem unq_le {l t : List Nat} {n : Nat} (hl : Byte l) (h : Utf.unq l = (t, n, 0)) : (Utf.tidy t).length ≤ n ∧ n ≤ l.length ∧ Byte t := by
  unfold Utf.unq at h
  by_cases h0 : l = []
  · rw [if_pos h0] at h; simp at h
  · rw [if_neg h0] at h
    by_cases h1 : l.getD 0 0 ≠ 34
    · rw [if_pos h1] at h; simp at h
    · rw [if_neg h1] at h
      by_cases h2 : (Utf.ub (l.drop 1)).2.2 ≠ 0
      · rw [if_pos h2] at h
        simp only [Prod.mk.injEq] at h
        exact absurd h.2.2 h2
      · rw [if_neg h2] at h
        simp only [Prod.mk.injEq] at h
        obtain ⟨e1, e2, _⟩ := h
        obtain ⟨i1, i2, i3⟩ := Utf.ub_good (l.drop 1).length (l.drop 1) (Nat.le_refl _) (Utf.drop_byte hl 1) (by omega)
        rw [List.length_drop] at i3
        rw [e1] at i1 i2
        obtain ⟨rs, hr, rfl⟩ := i1
        have hp : 0 < l.length := by cases l with | nil => exact absurd rfl h0 | cons => simp
        refine ⟨?_, by omega, Utf.encs_byte rs hr⟩
        unfold Utf.tidy
        simp; omega

/-! ### the text so far -/
/-- What stands ahead of the next part. -/
def lead : List Fr → ByteArray → List Nat
  | [], _ => []
  | f :: _, y => comma (isNil f.done) ++ keyT f.kind y
def tx : List Fr → Fo → List Nat
  | [], R => shp 6 true R
  | f :: r, R => tx r R ++ (lead r f.key ++ ((if f.kind = 7 then 123 else 91) :: shp f.kind true f.done))
theorem tx_place {k n : Int} {y x : ByteArray} {c : Fo} {op : List Fr} {R : Fo} (hR : op = [] → R = .nil) :
    tx (place (nd1 k y n x c) op R).1 (place (nd1 k y n x c) op R).2 = tx op R ++ (lead op y ++ one k n x (shp k true c)) := by
  cases op with
  | nil =>
    obtain rfl := hR rfl
    simp [place, tx, Tp.app, nd1, shp, lead, comma, keyT]
  | cons f r =>
    simp only [place, tx]
    rw [shp_app]
    simp [nd1, shp, lead]
def Kinds (op : List Fr) : Prop := ∀ f ∈ op, f.kind = 6 ∨ f.kind = 7
theorem place_kinds {T : Fo} {op : List Fr} {R : Fo} (h : Kinds op) : Kinds (place T op R).1 := by
  cases op with
  | nil => exact h
  | cons f r =>
    intro g hg
    rcases List.mem_cons.1 hg with rfl | hg
    · exact h f (List.mem_cons_self ..)
    · exact h g (List.mem_cons_of_mem _ hg)
structure LInv (t : St) : Prop where
  byte : Byte t.s
  kinds : Kinds t.op
  nil : (t.op ≠ [] ∨ t.nx ≠ .behind) → t.root = .nil
  len : match t.nx with
    | .value => (tx t.op t.root).length + (lead t.op t.key).length ≤ t.at_
    | .part => (∃ f r, t.op = f :: r ∧ f.done = .nil) ∧ (tx t.op t.root).length ≤ t.at_
    | .key => (∃ f r, t.op = f :: r ∧ (tx t.op t.root).length + (comma (isNil f.done)).length ≤ t.at_)
    | .colon => (∃ f r, t.op = f :: r) ∧ (tx t.op t.root).length + (lead t.op t.key).length ≤ t.at_ + 1
    | .behind => (tx t.op t.root).length ≤ t.at_
theorem linv_skip {t : St} (h : LInv t) : LInv (skip t) := by
  obtain ⟨h1, h0, h2, h3⟩ := h
  refine ⟨fun x hx => h1 x (List.mem_of_mem_drop hx), h0, h2, ?_⟩
  show match t.nx with | .value => (tx t.op t.root).length + (lead t.op t.key).length ≤ t.at_ + _ | .part => (∃ f r, t.op = f :: r ∧ f.done = .nil) ∧ (tx t.op t.root).length ≤ t.at_ + _ | .key => (∃ f r, t.op = f :: r ∧ (tx t.op t.root).length + (comma (isNil f.done)).length ≤ t.at_ + _) | .colon => (∃ f r, t.op = f :: r) ∧ (tx t.op t.root).length + (lead t.op t.key).length ≤ t.at_ + _ + 1 | .behind => (tx t.op t.root).length ≤ t.at_ + _
  split at h3
  · omega
  · exact ⟨h3.1, by have := h3.2; omega⟩
  · obtain ⟨f, r, e, h⟩ := h3; exact ⟨f, r, e, by omega⟩
  · exact ⟨h3.1, by have := h3.2; omega⟩
  · omega
/-- What a step leaves. -/
def LRes (t : St) : St ⊕ Res → Prop
  | .inl u => LInv u
  | .inr (.ok F) => (shp 6 true F).length ≤ t.at_
  | .inr (.err ..) => True
theorem leaf_len {t : St} {m : Nat} {k n : Int} {x : ByteArray} (h : LInv t) (hv : t.nx = .value) (hm : (one k n x (shp k true .nil)).length ≤ m) : LRes t (.inl (leaf t m k n x)) := by
  have hl := h.len
  rw [hv] at hl
  simp only at hl
  have hR : t.root = .nil := h.nil (.inr (by rw [hv]; decide))
  refine ⟨fun z hz => h.byte z (List.mem_of_mem_drop hz), place_kinds h.kinds, fun hh => ?_, ?_⟩
  · rcases hh with hh | hh
    · show (place _ t.op t.root).2 = .nil
      cases ho : t.op with
      | nil => have hh : (place (nd1 k t.key n x .nil) t.op t.root).1 ≠ [] := hh; rw [ho] at hh; exact absurd rfl hh
      | cons f r => exact hR
    · exact absurd rfl hh
  · show (tx (place (nd1 k t.key n x .nil) t.op t.root).1 (place (nd1 k t.key n x .nil) t.op t.root).2).length ≤ t.at_ + m
    rw [tx_place (fun _ => hR)]
    simp only [List.length_append]
    omega
theorem cls_len {t : St} {f : Fr} {r : List Fr} (h : LInv t) (ho : t.op = f :: r) (hl : (tx t.op t.root).length ≤ t.at_) : LRes t (.inl (cls t)) := by
  have hR : t.root = .nil := h.nil (.inl (by rw [ho]; simp))
  have hk : f.kind = 6 ∨ f.kind = 7 := h.kinds f (by rw [ho]; exact List.mem_cons_self ..)
  have hks : Kinds r := fun g hg => h.kinds g (by rw [ho]; exact List.mem_cons_of_mem _ hg)
  unfold cls
  rw [ho]
  refine ⟨fun z hz => h.byte z (List.mem_of_mem_drop hz), place_kinds hks, fun hh => ?_, ?_⟩
  · rcases hh with hh | hh
    · show (place _ r t.root).2 = .nil
      cases hr : r with
      | nil => have hh : (place (nd1 f.kind f.key 0 ⟨#[]⟩ f.done) r t.root).1 ≠ [] := hh; rw [hr] at hh; exact absurd rfl hh
      | cons => exact hR
    · exact absurd rfl hh
  · show (tx (place (nd1 f.kind f.key 0 ⟨#[]⟩ f.done) r t.root).1 (place (nd1 f.kind f.key 0 ⟨#[]⟩ f.done) r t.root).2).length ≤ t.at_ + 1
    rw [tx_place (fun _ => hR)]
    rw [ho] at hl
    simp only [tx, List.length_append, List.length_cons] at hl ⊢
    have : (one f.kind 0 ⟨#[]⟩ (shp f.kind true f.done)).length = (shp f.kind true f.done).length + 2 := by
      unfold one
      rw [if_neg (by omega), if_neg (by omega), if_neg (by omega), if_neg (by omega), if_neg (by omega)]
      simp
    omega
theorem ahead_len {t : St} {f : Fr} {r : List Fr} {m : Nat} (h : LInv t) (ho : t.op = f :: r) (hl : (tx t.op t.root).length + (comma (isNil f.done)).length ≤ t.at_ + m) : LRes t (.inl (go t m (ahead t.op))) := by
  have hR : t.root = .nil := h.nil (.inl (by rw [ho]; simp))
  refine ⟨fun z hz => h.byte z (List.mem_of_mem_drop hz), h.kinds, fun _ => hR, ?_⟩
  have ea : ahead t.op = if f.kind = 7 then .key else .value := by rw [ho]; rfl
  by_cases e : f.kind = 7
  · rw [if_pos e] at ea
    have e1 : (go t m (ahead t.op)).nx = .key := ea
    rw [e1]
    exact ⟨f, r, ho, hl⟩
  · rw [if_neg e] at ea
    have e1 : (go t m (ahead t.op)).nx = .value := ea
    rw [e1]
    show (tx t.op t.root).length + (lead t.op t.key).length ≤ t.at_ + m
    have : lead t.op t.key = comma (isNil f.done) := by rw [ho]; simp [lead, keyT, e]
    rw [this]; exact hl
theorem word_len {t : St} {w : List Nat} {k : Int} (h : LInv t) (hv : t.nx = .value) (hm : (one k 0 ⟨#[]⟩ (shp k true .nil)).length ≤ w.length) : LRes t (word t w k) := by
  unfold word
  split
  · exact leaf_len h hv hm
  · trivial
theorem step_len {t : St} (h : LInv t) : LRes t (stepS t) := by
  have hl := h.len
  unfold stepS
  cases hnx : t.nx with
  | value =>
    rw [hnx] at hl
    simp only at hl ⊢
    unfold stepV
    split
    · trivial
    split
    · trivial
    split
    · trivial
    unfold valueB
    split
    · exact word_len h hnx (Nat.le_refl _)
    split
    · exact word_len h hnx (Nat.le_refl _)
    split
    · exact word_len h hnx (Nat.le_refl _)
    split
    · unfold text
      obtain ⟨l, n, x, hu⟩ : ∃ l n x, Utf.unq t.s = (l, n, x) := ⟨_, _, _, rfl⟩
      rw [hu]
      split
      · trivial
      · rename_i hx
        have hx : x = 0 := by simpa using hx
        subst hx
        obtain ⟨g1, g2, g3⟩ := unq_le h.byte hu
        refine leaf_len h hnx ?_
        show (Utf.tidy (bl (str l))).length ≤ n
        rw [bl_str l g3]
        exact g1
    split
    · refine ⟨fun z hz => h.byte z (List.mem_of_mem_drop hz), ?_, fun _ => h.nil (.inr (by rw [hnx]; decide)), ⟨_, _, rfl, rfl⟩, ?_⟩
      · intro f hf
        rcases List.mem_cons.1 hf with rfl | hf
        · exact .inl rfl
        · exact h.kinds f hf
      · show (tx t.op t.root ++ (lead t.op t.key ++ (_ :: []))).length ≤ t.at_ + 1
        simp; omega
    split
    · refine ⟨fun z hz => h.byte z (List.mem_of_mem_drop hz), ?_, fun _ => h.nil (.inr (by rw [hnx]; decide)), ⟨_, _, rfl, rfl⟩, ?_⟩
      · intro f hf
        rcases List.mem_cons.1 hf with rfl | hf
        · exact .inr rfl
        · exact h.kinds f hf
      · show (tx t.op t.root ++ (lead t.op t.key ++ (_ :: []))).length ≤ t.at_ + 1
        simp; omega
    unfold number
    split
    · trivial
    split
    · rename_i h1 h2
      exact leaf_len h hnx (dnum_le (by simpa using h1) h2)
    · trivial
  | part =>
    rw [hnx] at hl
    simp only at hl ⊢
    obtain ⟨⟨f', r', ho', hd⟩, hl⟩ := hl
    unfold stepP
    split
    · trivial
    · rename_i f r ho
      obtain ⟨rfl, rfl⟩ : f = f' ∧ r = r' := by rw [ho] at ho'; injection ho' with e1 e2; exact ⟨e1, e2⟩
      split
      · exact cls_len h ho hl
      · refine ahead_len h ho ?_
        rw [hd]
        exact hl
  | key =>
    rw [hnx] at hl
    simp only at hl ⊢
    obtain ⟨f', r', ho', hl⟩ := hl
    unfold stepK
    split
    · trivial
    · rename_i f r ho
      obtain ⟨rfl, rfl⟩ : f = f' ∧ r = r' := by rw [ho] at ho'; injection ho' with e1 e2; exact ⟨e1, e2⟩
      split
      · trivial
      obtain ⟨l, n, x, hu⟩ : ∃ l n x, Utf.unq t.s = (l, n, x) := ⟨_, _, _, rfl⟩
      rw [hu]
      split
      · trivial
      split
      · trivial
      rename_i hx _
      have hx : x = 0 := by simpa using hx
      subst hx
      obtain ⟨g1, g2, g3⟩ := unq_le h.byte hu
      refine ⟨fun z hz => h.byte z (List.mem_of_mem_drop hz), ?_, fun _ => h.nil (.inr (by rw [hnx]; decide)), ⟨_, _, rfl⟩, ?_⟩
      · intro g hg
        have hks := h.kinds
        rw [ho] at hks
        rcases List.mem_cons.1 hg with rfl | hg
        · exact hks f (List.mem_cons_self ..)
        · exact hks g (List.mem_cons_of_mem _ hg)
      · rw [ho] at hl
        show (tx (f :: r) t.root).length + (comma (isNil f.done) ++ keyT f.kind (str l)).length ≤ t.at_ + n + 1
        rw [List.length_append]
        have : (keyT f.kind (str l)).length ≤ n + 1 := by
          unfold keyT
          split
          · rw [bl_str l g3, List.length_append, List.length_singleton]; omega
          · simp
        omega
  | colon =>
    rw [hnx] at hl
    simp only at hl ⊢
    obtain ⟨⟨f, r, ho⟩, hl⟩ := hl
    unfold stepC
    split
    · trivial
    · refine ⟨fun z hz => h.byte z (List.mem_of_mem_drop hz), h.kinds, fun _ => h.nil (.inr (by rw [hnx]; decide)), ?_⟩
      show (tx t.op t.root).length + (lead t.op t.key).length ≤ t.at_ + 1
      exact hl
  | behind =>
    rw [hnx] at hl
    simp only at hl ⊢
    unfold stepB
    split
    · rename_i ho
      rw [ho] at hl
      split
      · exact hl
      · trivial
    · rename_i f r ho
      split
      · exact cls_len h ho hl
      split
      · trivial
      · refine ahead_len h ho ?_
        have : (comma (isNil f.done)).length ≤ 1 := by unfold comma; split <;> simp
        omega
theorem steps_len {t u : St} (h : LInv t) (hs : Steps t u) : LInv u := by
  induction hs with
  | refl => exact h
  | next h1 _ ih =>
    have := step_len (linv_skip h)
    unfold step at h1
    rw [h1] at this
    exact ih this
/-- How far a reading goes is within its text. -/
def Within (N : Nat) (t : St) : Prop := t.at_ + t.s.length = N
/-- What is read is shown in no more bytes than it had. -/
theorem reads_short {l : List Nat} {F : Fo} (hl : Byte l) (hle : ∀ u, Steps (init l) u → u.at_ + nb u.s ≤ l.length) (h : Ends (init l) (.ok F)) : (shp 6 true F).length ≤ l.length := by
  obtain ⟨u, h1, h2⟩ := h
  have hi : LInv (init l) := ⟨hl, fun f hf => by simp [init] at hf, fun _ => rfl, Nat.le_refl _⟩
  have k := step_len (linv_skip (steps_len hi h1))
  unfold step at h2
  rw [h2] at k
  have k : (shp 6 true F).length ≤ u.at_ + nb u.s := k
  have := hle u h1
  omega
theorem shp_shv {k n : Int} {y s : ByteArray} {c : Fo} : shp 6 true (.node k y n s c .nil) = shv (.node k y n s c .nil) := by
  simp [shp, shv, comma, keyT]
end Go.Proofs.YtgmdjofnkbaflaaGreatDoor.Jr
