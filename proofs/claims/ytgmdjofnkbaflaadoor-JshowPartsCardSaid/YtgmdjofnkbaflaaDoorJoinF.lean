/- What joins forests to tapes, plainly. -/
import Derived.Test.YtgmdjofnkbaflaaDoorShall
namespace Go.Proofs.YtgmdjofnkbaflaaDoor
open Go.RowKit
set_option linter.unusedVariables false
set_option maxRecDepth 100000

/-- The tapes of a forest's values. -/
def cks : Fo → List (List Nd)
  | .nil => []
  | .node k _ n s c r => cutF k n s c :: cks r
theorem cks_app : ∀ F G, cks (Tp.app F G) = cks F ++ cks G
  | .nil, _ => rfl
  | .node k y n s c r, G => by simp only [Tp.app, cks, List.cons_append]; rw [cks_app r G]
theorem cks_len : ∀ F, (cks F).length = (Tp.keys F).length
  | .nil => rfl
  | .node k y n s c r => by simp [cks, Tp.keys, cks_len r]
theorem flat_sz (F : Fo) : (Tp.flat F).length = Tp.sz F := rfl
theorem cut_may {k n : Int} {s y : ByteArray} {c : Fo} (hg : Tp.good (.node k y n s c .nil)) (hs : 1 + Tp.sz c ≤ 4000) (hd : 1 + Tp.dep c ≤ 64) : May (cutF k n s c) (.node k ⟨#[]⟩ n s c .nil) :=
  ⟨by show (Tp.flat _).length ≤ 4000; rw [flat_sz, Tp.sz_node, Tp.sz_nil]; omega, ⟨⟨k, ⟨#[]⟩, n, s, c, rfl, rfl⟩, hg, rfl⟩, by simp only [Tp.dep]; omega⟩
theorem ke_zero {k : Int} (hk : k = 6 ∨ k = 7) {seen : List ByteArray} {y : ByteArray} (h : Tp.ko k (seen ++ [y])) : ke k seen y = 0 := by
  have h1 := ((Tp.ko_snoc k seen y).1 h).2
  unfold ke
  split
  · next e => subst e; exact (okey_ok y seen).2 h1
  · next e => exact (lkey_ok y k seen e).2 h1
/-- The first q parts of a forest. -/
def JP (k : Int) (C : Fo) (q : Nat) : Prop := ∃ D R, C = Tp.app D R ∧ (Tp.keys D).length = q ∧ jerr k (Tp.keys C) (cks C) q = 0 ∧ jsz (cks C) q = 1 + Tp.sz D ∧ jdp (cks C) q = 1 + Tp.dep D ∧ jpt (Tp.keys C) (cks C) q = Tp.flat D
theorem jp {k : Int} (hk : k = 6 ∨ k = 7) {C : Fo} (hg : Tp.good C) (hko : Tp.ko k (Tp.keys C)) (hs : Tp.sz C ≤ 4000) (hd : Tp.dep C ≤ 64) : ∀ q, q ≤ (Tp.keys C).length → JP k C q
  | 0, _ => ⟨.nil, C, rfl, rfl, rfl, jsz_zero _, rfl, by simp [jpt]⟩
  | q + 1, h => by
    obtain ⟨D, R, hC, hq, h1, h2, h3, h4⟩ := jp hk hg hko hs hd q (by omega)
    cases R with
    | nil => rw [Tp.app_nil] at hC; rw [← hC] at hq; omega
    | node k1 y n s c r =>
      have hC2 : C = Tp.app (Tp.app D (.node k1 y n s c .nil)) r := by rw [Tp.app_assoc]; exact hC
      have ek : Tp.keys C = Tp.keys D ++ y :: Tp.keys r := by rw [hC, Tp.keys_app]; rfl
      have ec : cks C = cks D ++ cutF k1 n s c :: cks r := by rw [hC, cks_app]; rfl
      have hy : (Tp.keys C)[q]? = some y := by rw [ek, List.getElem?_append_right (by omega), hq, Nat.sub_self]; rfl
      have hl : (cks C)[q]? = some (cutF k1 n s c) := by rw [ec, List.getElem?_append_right (by rw [cks_len]; omega), cks_len, hq, Nat.sub_self]; rfl
      have ht : (Tp.keys C).take q = Tp.keys D := by rw [ek, ← hq, List.take_left']; rfl
      have hsz : Tp.sz C = Tp.sz D + (1 + Tp.sz c + Tp.sz r) := by rw [hC, Tp.sz_app, Tp.sz_node]
      have hdp : Tp.dep C = max (Tp.dep D) (max (1 + Tp.dep c) (Tp.dep r)) := by rw [hC, Tp.dep_app]; rfl
      have hgn : Tp.good (.node k1 y n s c .nil) := by
        have := ((Tp.good_app D _).1 (hC ▸ hg)).2
        exact ⟨this.1, this.2.1, this.2.2.1, this.2.2.2.1, trivial⟩
      have hm := may_chk (cut_may hgn (by omega) (by omega))
      have hke : ke k ((Tp.keys C).take q) ((Tp.keys C).getD q ⟨#[]⟩) = 0 := by
        rw [ht, List.getD_eq_getElem?_getD, hy]
        have hk2 : Tp.ko k ((Tp.keys D ++ [y]) ++ Tp.keys r) := by rw [List.append_assoc]; rw [ek] at hko; exact hko
        exact ke_zero hk (Tp.ko_append hk2).1
      have hgl : (cks C).getD q [] = cutF k1 n s c := by rw [List.getD_eq_getElem?_getD, hl]; rfl
      refine ⟨Tp.app D (.node k1 y n s c .nil), r, hC2, by rw [Tp.keys_app, List.length_append, hq]; rfl, ?_, ?_, ?_, ?_⟩
      · rw [jerr_chk k _ _ q h1 hke, hgl]; exact hm.1
      · rw [jsz_succ _ _ _ hl, h2, Tp.sz_app, Tp.sz_node, Tp.sz_nil]
        show 1 + Tp.sz D + (Tp.flat _).length = _
        rw [flat_sz, Tp.sz_node, Tp.sz_nil]; omega
      · rw [jdp, h3, hgl, hm.2, Tp.dep_app]
        simp only [Tp.dep]; omega
      · rw [jpt_succ _ _ _ _ _ hy hl, h4, Tp.flat_app]; rfl
theorem keys_none {F : Fo} (h : (Tp.keys F).length = 0) : F = .nil := by
  cases F with
  | nil => rfl
  | node k y n s c r => simp [Tp.keys] at h
theorem join_is {k : Int} (hk : k = 6 ∨ k = 7) {C : Fo} (hg : Tp.good C) (hko : Tp.ko k (Tp.keys C)) (hs : Tp.sz C ≤ 4000) (hd : Tp.dep C ≤ 64) {r : List Nd} {x : Int}
    (h : (1 + Tp.sz C ≤ 4000 ∧ 1 + Tp.dep C ≤ 64 ∧ x = 0 ∧ r = Tp.flat (.node k ⟨#[]⟩ 0 ⟨#[]⟩ C .nil)) ∨ (1 + Tp.sz C ≤ 4000 ∧ 64 < 1 + Tp.dep C ∧ x = 72 ∧ r = []) ∨ (4000 < 1 + Tp.sz C ∧ x = 5 ∧ r = [])) :
    JoinIs k (Tp.keys C) (cks C) r x := by
  obtain ⟨D, R, hC, hq, h1, h2, h3, h4⟩ := jp hk hg hko hs hd (Tp.keys C).length (Nat.le_refl _)
  obtain rfl : R = .nil := by
    refine keys_none ?_
    have := congrArg (fun F => (Tp.keys F).length) hC
    simp only [Tp.keys_app, List.length_append] at this
    omega
  rw [Tp.app_nil] at hC
  subst hC
  rw [← cks_len] at h1 h2 h3 h4
  refine ⟨.inr ⟨h1, ?_⟩⟩
  rw [h2, h3, h4]
  rcases h with ⟨a, b, rfl, rfl⟩ | ⟨a, b, rfl, rfl⟩ | ⟨a, rfl, rfl⟩
  · refine .inr (.inr ⟨a, b, rfl, ?_⟩)
    rw [Tp.flat_node]
    simp
  · exact .inr (.inl ⟨a, b, rfl, rfl⟩)
  · exact .inl ⟨a, rfl, rfl⟩
theorem size0 {y : ByteArray} (h : y.size = 0) : y = ⟨#[]⟩ := by
  apply ByteArray.ext
  exact Array.eq_empty_of_size_eq_zero h
theorem rep_keys {C : Fo} (h : Tp.ko 6 (Tp.keys C)) : Tp.keys C = List.replicate (cks C).length ⟨#[]⟩ := by
  rw [cks_len]
  unfold Tp.ko at h
  rw [if_neg (by omega)] at h
  exact List.eq_replicate_iff.2 ⟨rfl, fun y hy => size0 (h y hy)⟩
/-- Values, each below a key. -/
def mkC : List ByteArray → List Fo → Fo
  | y :: ys, .node k _ n s c _ :: Fs => .node k y n s c (mkC ys Fs)
  | _, _ => .nil
def Root (F : Fo) : Prop := ∃ k n s c, F = .node k ⟨#[]⟩ n s c .nil
theorem may_root {l : List Nd} {F : Fo} (h : May l F) : Root F := by
  obtain ⟨_, ⟨⟨k, y, n, s, c, rfl, hy⟩, _⟩, _⟩ := h
  exact ⟨k, n, s, c, by rw [size0 hy]⟩
structure MkIs (ys : List ByteArray) (Fs : List Fo) (C : Fo) : Prop where
  cks : cks C = Fs.map Tp.flat
  keys : Tp.keys C = ys
  good : (∀ F ∈ Fs, Tp.good F) → Tp.good C
  sz : Tp.sz C = (Fs.map Tp.sz).sum
  dep : ∀ d, Tp.dep C ≤ d ↔ ∀ F ∈ Fs, Tp.dep F ≤ d
theorem mk_is : ∀ (ys : List ByteArray) (Fs : List Fo), ys.length = Fs.length → (∀ F ∈ Fs, Root F) → MkIs ys Fs (mkC ys Fs)
  | [], [], _, _ => ⟨rfl, rfl, fun _ => trivial, rfl, fun d => by simp [mkC, Tp.dep]⟩
  | y :: ys, F :: Fs, h, hR => by
    obtain ⟨k, n, s, c, rfl⟩ := hR F (List.mem_cons_self ..)
    have ih := mk_is ys Fs (by simpa using h) (fun G hG => hR G (List.mem_cons_of_mem _ hG))
    refine ⟨by show cutF k n s c :: Go.Proofs.YtgmdjofnkbaflaaDoor.cks (mkC ys Fs) = _; rw [ih.cks]; rfl, by show y :: Tp.keys (mkC ys Fs) = _; rw [ih.keys], fun hg => ?_, ?_, fun d => ?_⟩
    · have h1 := hg _ (List.mem_cons_self ..)
      exact ⟨h1.1, h1.2.1, h1.2.2.1, h1.2.2.2.1, ih.good (fun G hG => hg G (List.mem_cons_of_mem _ hG))⟩
    · show Tp.sz (.node k y n s c (mkC ys Fs)) = _
      rw [Tp.sz_node, ih.sz, List.map_cons, List.sum_cons, Tp.sz_node, Tp.sz_nil]
      omega
    · show Tp.dep (.node k y n s c (mkC ys Fs)) ≤ d ↔ _
      simp only [Tp.dep, List.forall_mem_cons]
      rw [← ih.dep d]
      omega
  | [], _ :: _, h, _ => by simp at h
  | _ :: _, [], h, _ => by simp at h
end Go.Proofs.YtgmdjofnkbaflaaDoor
