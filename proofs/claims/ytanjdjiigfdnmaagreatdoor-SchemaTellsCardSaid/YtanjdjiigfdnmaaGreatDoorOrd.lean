/- Trees in the order of their keys, plainly; no program. -/
import Derived.Test.YtanjdjiigfdnmaaGreatDoorTree
namespace Go.Proofs.YtanjdjiigfdnmaaGreatDoor.Tp
open Go.Lib
set_option linter.unusedVariables false

/-- The order of bytes, of numbers. -/
def less : List Nat → List Nat → Bool
  | [], [] => false
  | [], _ :: _ => true
  | _ :: _, [] => false
  | a :: s, b :: t => decide (a < b) || (decide (a = b) && less s t)
theorem less_map : ∀ (a b : List UInt8), Op.bytesLess a b = less (a.map UInt8.toNat) (b.map UInt8.toNat)
  | [], [] => by simp [Op.bytesLess, less]
  | [], _ :: _ => by simp [Op.bytesLess, less]
  | _ :: _, [] => by simp [Op.bytesLess, less]
  | x :: s, y :: t => by
    simp only [Op.bytesLess, List.map_cons, less]
    rw [less_map s t]
    have e1 : decide (x < y) = decide (x.toNat < y.toNat) := by simp [UInt8.lt_iff_toNat_lt]
    have e2 : (x == y) = decide (x.toNat = y.toNat) := by rw [Bool.eq_iff_iff]; simp [UInt8.toNat_inj]
    rw [e1, e2]
theorem less_bl (s t : ByteArray) : Op.bytesLess s.toList t.toList = less (bl s) (bl t) := by
  rw [Lib.toList_data, Lib.toList_data, less_map]; rfl
theorem less_irrefl : ∀ a, less a a = false
  | [] => rfl
  | a :: s => by simp [less, less_irrefl s]
theorem less_trans : ∀ {a b c : List Nat}, less a b = true → less b c = true → less a c = true
  | [], [], _, h, _ => by simp [less] at h
  | [], _ :: _, [], _, h => by simp [less] at h
  | [], _ :: _, _ :: _, _, _ => by simp [less]
  | _ :: _, [], _, h, _ => by simp [less] at h
  | _ :: _, _ :: _, [], _, h => by simp [less] at h
  | a :: s, b :: t, c :: u, h1, h2 => by
    simp only [less, Bool.or_eq_true, Bool.and_eq_true, decide_eq_true_eq] at h1 h2 ⊢
    rcases h1 with h1 | ⟨rfl, h1⟩ <;> rcases h2 with h2 | ⟨rfl, h2⟩
    · exact .inl (by omega)
    · exact .inl h1
    · exact .inl h2
    · exact .inr ⟨rfl, less_trans h1 h2⟩
theorem less_tri : ∀ {a b : List Nat}, less a b = false → less b a = false → a = b
  | [], [], _, _ => rfl
  | [], _ :: _, h, _ => by simp [less] at h
  | _ :: _, [], _, h => by simp [less] at h
  | a :: s, b :: t, h1, h2 => by
    simp only [less, Bool.or_eq_false_iff, Bool.and_eq_false_iff, decide_eq_false_iff_not] at h1 h2
    have e : a = b := by omega
    subst e
    have h3 : less s t = false := by simpa using h1.2
    have h4 : less t s = false := by simpa using h2.2
    rw [less_tri h3 h4]
/-- One key is less than another. -/
def ly (x y : ByteArray) : Bool := less (bl x) (bl y)
theorem ly_irrefl (x : ByteArray) : ly x x = false := less_irrefl _
theorem ly_trans {x y z : ByteArray} (h1 : ly x y = true) (h2 : ly y z = true) : ly x z = true := less_trans h1 h2
theorem ly_tri {x y : ByteArray} (h1 : ly x y = false) (h2 : ly y x = false) : x = y := bl_inj (less_tri h1 h2)
theorem ly_asymm {x y : ByteArray} (h : ly x y = true) : ly y x = false := by
  cases h2 : ly y x with
  | false => rfl
  | true => have := ly_trans h h2; rw [ly_irrefl] at this; cases this
theorem ly_ntrans {x y z : ByteArray} (h1 : ly x y = false) (h2 : ly y z = false) : ly x z = false := by
  cases h3 : ly x z with
  | false => rfl
  | true =>
    by_cases h4 : ly y x = true
    · have := ly_trans h4 h3; rw [h2] at this; cases this
    · have := ly_tri h1 (by simpa using h4)
      subst this
      rw [h2] at h3; cases h3

/-- The trees of a forest, each by itself; and back. -/
def trs : Fo → List Fo
  | .nil => []
  | .node k y n s c r => .node k y n s c .nil :: trs r
def cat : List Fo → Fo
  | [] => .nil
  | T :: ts => app T (cat ts)
theorem cat_trs : ∀ F, cat (trs F) = F
  | .nil => rfl
  | .node k y n s c r => by rw [trs, cat, cat_trs r]; rfl
theorem trs_app : ∀ F G, trs (app F G) = trs F ++ trs G
  | .nil, _ => rfl
  | .node k y n s c r, G => by rw [app, trs, trs, trs_app r G, List.cons_append]
theorem cat_append : ∀ a b, cat (a ++ b) = app (cat a) (cat b)
  | [], _ => rfl
  | T :: a, b => by rw [List.cons_append, cat, cat, cat_append a b, app_assoc]
/-- A tree by itself. -/
def Single (T : Fo) : Prop := ∃ k y n s c, T = .node k y n s c .nil
theorem trs_single : ∀ F, ∀ T ∈ trs F, Single T
  | .nil, T, h => by simp [trs] at h
  | .node k y n s c r, T, h => by
    rcases List.mem_cons.1 h with rfl | h
    · exact ⟨_, _, _, _, _, rfl⟩
    · exact trs_single r T h
theorem trs_cat : ∀ ts, (∀ T ∈ ts, Single T) → trs (cat ts) = ts
  | [], _ => rfl
  | T :: ts, h => by
    obtain ⟨k, y, n, s, c, rfl⟩ := h T (List.mem_cons_self ..)
    rw [cat, trs_app, trs_cat ts (fun S hS => h S (List.mem_cons_of_mem _ hS))]
    rfl
/-- A tree's key. -/
def kyo : Fo → ByteArray
  | .nil => ⟨#[]⟩
  | .node _ y _ _ _ _ => y
theorem keys_trs : ∀ F, keys F = (trs F).map kyo
  | .nil => rfl
  | .node k y n s c r => by rw [keys, trs, List.map_cons, keys_trs r]; rfl
theorem sz_cat_perm {a b : List Fo} (h : a.Perm b) : sz (cat a) = sz (cat b) := by
  induction h with
  | nil => rfl
  | cons x _ ih => rw [cat, cat, sz_app, sz_app, ih]
  | swap x y l => simp only [cat, sz_app]; omega
  | trans _ _ h1 h2 => rw [h1, h2]
theorem dep_cat_perm {a b : List Fo} (h : a.Perm b) : dep (cat a) = dep (cat b) := by
  induction h with
  | nil => rfl
  | cons x _ ih => rw [cat, cat, dep_app, dep_app, ih]
  | swap x y l => simp only [cat, dep_app]; omega
  | trans _ _ h1 h2 => rw [h1, h2]
theorem good_cat : ∀ ts, good (cat ts) ↔ ∀ T ∈ ts, good T
  | [] => by simp [cat, good]
  | T :: ts => by rw [cat, good_app, good_cat ts]; simp
/-- A tree is put in, ahead of the first one whose key is not less. -/
def insL (T : Fo) : List Fo → List Fo
  | [] => [T]
  | S :: ts => if ly (kyo S) (kyo T) = true then S :: insL T ts else T :: S :: ts
def srtL (ts : List Fo) : List Fo := ts.foldl (fun acc T => insL T acc) []
theorem insL_perm (T : Fo) : ∀ ts, (insL T ts).Perm (T :: ts)
  | [] => List.Perm.refl _
  | S :: ts => by
    unfold insL
    split
    · exact ((insL_perm T ts).cons S).trans (List.Perm.swap ..)
    · exact List.Perm.refl _
theorem foldl_perm : ∀ (ts acc : List Fo), (ts.foldl (fun acc T => insL T acc) acc).Perm (acc ++ ts)
  | [], acc => by simp
  | T :: ts, acc => by
    rw [List.foldl_cons]
    refine (foldl_perm ts (insL T acc)).trans ?_
    refine ((insL_perm T acc).append_right ts).trans ?_
    rw [List.cons_append]
    exact List.perm_middle.symm
theorem srtL_perm (ts : List Fo) : (srtL ts).Perm ts := by have := foldl_perm ts []; simpa [srtL] using this
/-- Rising keys. -/
def Rise (ts : List Fo) : Prop := ts.Pairwise fun a b => ly (kyo a) (kyo b) = true
theorem insL_rise (T : Fo) : ∀ ts, Rise ts → (∀ S ∈ ts, kyo S ≠ kyo T) → Rise (insL T ts)
  | [], _, _ => by simp [insL, Rise]
  | S :: ts, h, hne => by
    unfold Rise at h ⊢
    rw [List.pairwise_cons] at h
    unfold insL
    split
    · rename_i hl
      rw [List.pairwise_cons]
      refine ⟨fun U hU => ?_, insL_rise T ts h.2 (fun U hU => hne U (List.mem_cons_of_mem _ hU))⟩
      rcases List.mem_cons.1 ((insL_perm T ts).mem_iff.1 hU) with rfl | hU
      · exact hl
      · exact h.1 U hU
    · rename_i hl
      have hlt : ly (kyo T) (kyo S) = true := by
        cases h2 : ly (kyo T) (kyo S) with
        | true => rfl
        | false => exact absurd (ly_tri (by simpa using hl) h2) (hne S (List.mem_cons_self ..))
      rw [List.pairwise_cons, List.pairwise_cons]
      refine ⟨fun U hU => ?_, h.1, h.2⟩
      rcases List.mem_cons.1 hU with rfl | hU
      · exact hlt
      · exact ly_trans hlt (h.1 U hU)
theorem foldl_rise : ∀ (ts acc : List Fo), Rise acc → ((acc ++ ts).map kyo).Nodup → Rise (ts.foldl (fun acc T => insL T acc) acc)
  | [], acc, h, _ => h
  | T :: ts, acc, h, hn => by
    rw [List.foldl_cons]
    have hn' : ((T :: (acc ++ ts)).map kyo).Nodup := ((List.perm_middle (a := T) (l₁ := acc) (l₂ := ts)).map kyo).nodup_iff.1 hn
    refine foldl_rise ts _ (insL_rise T acc h fun S hS e => ?_) ?_
    · rw [List.map_cons, List.nodup_cons] at hn'
      exact hn'.1 (List.mem_map.2 ⟨S, List.mem_append_left _ hS, e⟩)
    · refine ((((insL_perm T acc).append_right ts).map kyo).nodup_iff).2 ?_
      exact hn'
theorem srtL_rise (ts : List Fo) (h : (ts.map kyo).Nodup) : Rise (srtL ts) := foldl_rise ts [] (by simp [Rise]) (by simpa using h)
/-- One order alone rises. -/
theorem rise_one : ∀ {a b : List Fo}, Rise a → Rise b → a.Perm b → a = b
  | [], b, _, _, h => (List.Perm.nil_eq h)
  | T :: ts, [], _, _, h => by have := h.length_eq; simp at this
  | T :: ts, S :: us, ha, hb, h => by
    unfold Rise at ha hb
    rw [List.pairwise_cons] at ha hb
    have e : T = S := by
      rcases List.mem_cons.1 (h.mem_iff.1 (List.mem_cons_self ..)) with e | h1
      · exact e
      · rcases List.mem_cons.1 (h.mem_iff.2 (List.mem_cons_self ..)) with e | h2
        · exact e.symm
        · have q1 := ha.1 S h2
          have q2 := hb.1 T h1
          rw [ly_asymm q1] at q2
          cases q2
    subst e
    rw [rise_one ha.2 hb.2 ((List.perm_cons _).1 h)]
theorem srtL_eq {ts us : List Fo} (h : (ts.map kyo).Nodup) (hp : us.Perm ts) (hr : Rise us) : us = srtL ts := rise_one hr (srtL_rise ts h) (hp.trans (srtL_perm ts).symm)

/-- All members by rising keys, below the top. -/
def sT : Fo → Fo
  | .nil => .nil
  | .node k y n s c r => .node k y n s (if k = 7 then cat (srtL (trs (sT c))) else sT c) (sT r)
theorem sT_app : ∀ F G, sT (app F G) = app (sT F) (sT G)
  | .nil, _ => rfl
  | .node k y n s c r, G => by rw [app, sT, sT, app, sT_app r G]
theorem sT_keys : ∀ F, keys (sT F) = keys F
  | .nil => rfl
  | .node k y n s c r => by rw [sT, keys, keys, sT_keys r]
theorem cat_srt_sz (F : Fo) : sz (cat (srtL (trs F))) = sz F := by rw [sz_cat_perm (srtL_perm _), cat_trs]
theorem sT_sz : ∀ F, sz (sT F) = sz F
  | .nil => rfl
  | .node k y n s c r => by
    rw [sT, sz_node, sz_node, sT_sz r]
    split
    · rw [cat_srt_sz, sT_sz c]
    · rw [sT_sz c]
theorem sT_dep : ∀ F, dep (sT F) = dep F
  | .nil => rfl
  | .node k y n s c r => by
    rw [sT]
    simp only [dep]
    rw [sT_dep r]
    split
    · rw [dep_cat_perm (srtL_perm _), cat_trs, sT_dep c]
    · rw [sT_dep c]
theorem keys_cat_perm {a b : List Fo} (h : a.Perm b) (hs : ∀ T ∈ a, Single T) (hs' : ∀ T ∈ b, Single T) : (keys (cat a)).Perm (keys (cat b)) := by
  rw [keys_trs, keys_trs, trs_cat a hs, trs_cat b hs']
  exact h.map kyo
theorem ko_perm {k : Int} {a b : List ByteArray} (h : a.Perm b) : ko k a ↔ ko k b := by
  unfold ko
  split
  · rw [h.nodup_iff]
    constructor
    · rintro ⟨h1, h2⟩; exact ⟨fun y hy => h1 y (h.mem_iff.2 hy), h2⟩
    · rintro ⟨h1, h2⟩; exact ⟨fun y hy => h1 y (h.mem_iff.1 hy), h2⟩
  · exact ⟨fun h1 y hy => h1 y (h.mem_iff.2 hy), fun h1 y hy => h1 y (h.mem_iff.1 hy)⟩
theorem srt_single (F : Fo) : ∀ T ∈ srtL (trs F), Single T := fun T hT => trs_single F T ((srtL_perm _).mem_iff.1 hT)
theorem keys_srt (F : Fo) : (keys (cat (srtL (trs F)))).Perm (keys F) := by
  have := keys_cat_perm (srtL_perm (trs F)) (srt_single F) (trs_single F)
  rwa [cat_trs] at this
theorem good_srt (F : Fo) (h : good F) : good (cat (srtL (trs F))) := by
  rw [good_cat]
  have h2 : good (cat (trs F)) := by rw [cat_trs]; exact h
  rw [good_cat] at h2
  exact fun T hT => h2 T ((srtL_perm _).mem_iff.1 hT)
theorem sT_good : ∀ F, good F → good (sT F)
  | .nil, _ => trivial
  | .node k y n s c r, ⟨g1, g2, g3, g4, g5⟩ => by
    rw [sT]
    refine ⟨g1, fun h => ?_, ?_, ?_, sT_good r g5⟩
    · have := g2 h
      subst this
      split <;> rfl
    · split
      · exact (ko_perm ((keys_srt _).trans (List.Perm.of_eq (sT_keys c)))).2 g3
      · rw [sT_keys]; exact g3
    · split
      · exact good_srt _ (sT_good c g4)
      · exact sT_good c g4
end Go.Proofs.YtanjdjiigfdnmaaGreatDoor.Tp
