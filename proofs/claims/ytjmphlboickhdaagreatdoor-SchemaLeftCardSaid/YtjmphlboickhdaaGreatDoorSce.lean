/- Several texts in one: ScLfP, ScLfW. -/
import Derived.Test.YtjmphlboickhdaaGreatDoorScPlcW
import Derived.Test.YtjmphlboickhdaaGreatDoorScBackW
import Derived.Test.YtjmphlboickhdaaGreatDoorScc
import Derived.Deep.CutBlock
import Derived.Deep.DeepCutAuto
/- SchemaLeft, plainly: the lines of a text, and the text without one of them. -/
namespace Go.Proofs.YtjmphlboickhdaaGreatDoor.Sc
open Cl
set_option linter.unusedVariables false
set_option linter.unusedSimpArgs false
set_option maxRecDepth 100000

/-- The lines of columns, of which K are the key, from place i on. -/
def lins (K : List Int) : Nat → List Co → List ByteArray
  | _, [] => []
  | i, c :: t => str (line c (K.contains (i : Int))) :: lins K (i + 1) t
theorem lins_len (K : List Int) : ∀ (l : List Co) (i : Nat), (lins K i l).length = l.length
  | [], _ => rfl
  | c :: t, i => by rw [lins, List.length_cons, List.length_cons, lins_len K t (i + 1)]
theorem lins_at (K : List Int) : ∀ (l : List Co) (i j : Nat) (c : Co), l[j]? = some c → (lins K i l)[j]? = some (str (line c (K.contains ((i + j : Nat) : Int))))
  | [], i, j, c, h => by simp at h
  | x :: t, i, 0, c, h => by simp at h; subst h; simp [lins]
  | x :: t, i, j + 1, c, h => by
    have := lins_at K t (i + 1) j c (by simpa using h)
    rw [lins, List.getElem?_cons_succ, this]
    congr 5; omega
theorem split_lines (K : List Int) : ∀ (l : List Co) (i : Nat) (s : ByteArray), (∀ c ∈ l, Col c) → bl s = textFrom K i l → Lib.countB s ⟨#[10]⟩ = l.length ∧ Lib.splitB ⟨#[10]⟩ 1 l.length s = lins K i l ++ [⟨#[]⟩]
  | [], i, s, _, h => by
    have h0 : bl s = [] := h
    have hs : s = ⟨#[]⟩ := bl_inj (by rw [h0]; rfl)
    subst hs
    refine ⟨?_, rfl⟩
    rcases ix1 ⟨#[]⟩ 10 with ⟨h1, _⟩ | ⟨j, _, hj, _⟩
    · exact Lib.countB_miss _ _ h1
    · exact absurd hj (by simp [ByteArray.size])
  | c :: t, i, s, hc, h => by
    have hcc := hc c (by simp)
    have e : bl s = pre c (K.contains (i : Int)) ++ 10 :: textFrom K (i + 1) t := by
      rw [h, textFrom, line_pre]; simp
    rcases ix1 s 10 with ⟨_, hn⟩ | ⟨j, h1, hj, ha, e1⟩
    · exact absurd (show (10 : Nat) ∈ bl s by rw [e]; simp) hn
    · obtain ⟨e2, e3⟩ := cut_eq (z := 10) ha (pre_ten hcc) (e1.symm.trans e)
      obtain ⟨i1, i2⟩ := split_lines K t (i + 1) (s.extract (j + 1) s.size) (fun d hd => hc d (List.mem_cons_of_mem _ hd)) e3
      have hz1 : (⟨#[10]⟩ : ByteArray).size = 1 := rfl
      refine ⟨?_, ?_⟩
      · rw [Lib.countB_hit s ⟨#[10]⟩ j (by decide) h1, hz1, i1, List.length_cons]; omega
      · rw [List.length_cons, Lib.splitB_hit _ _ _ _ _ h1, hz1, i2, lins, List.cons_append]
        congr 1
        refine bl_inj ?_
        rw [bl_str _ (line_byte hcc), line_pre, ← e2]
        have hx : bl (s.extract 0 (j + 1)) = (bl s).take (j + 1) := by rw [bl_extract]; simp
        have hy : bl (s.extract 0 j) = (bl s).take j := by rw [bl_extract]; simp
        have hjl : ((bl s).take j).length = j := by rw [List.length_take, bl_length]; omega
        rw [hx, e1, hy]
        conv => lhs; rw [show j + 1 = ((bl s).take j).length + 1 by rw [hjl]]
        rw [List.take_append]
        simp
        exact List.take_of_length_le (by rw [List.length_take]; omega)
/-- Keys, when a place goes. -/
def shift (K : List Int) (k : Nat) : List Int := (K.filter fun x => decide (x ≠ (k : Int))).map fun x => if x > (k : Int) then x - 1 else x
theorem shift_mem (K : List Int) (k j : Nat) (h : j ≠ k) : (shift K k).contains ((if j < k then (j : Int) else (j : Int) - 1)) = K.contains (j : Int) := by
  rw [Bool.eq_iff_iff, List.contains_iff_mem, List.contains_iff_mem]
  unfold shift
  simp only [List.mem_map, List.mem_filter, decide_eq_true_eq]
  constructor
  · rintro ⟨x, ⟨h1, h2⟩, h3⟩
    have : x = (j : Int) := by
      split at h3 <;> split at h3 <;> omega
    rw [← this]; exact h1
  · intro hj
    refine ⟨(j : Int), ⟨hj, by omega⟩, ?_⟩
    split <;> split <;> omega
/-- The text, the columns without the one at place k. -/
def leftT (K : List Int) (k : Nat) : Nat → List Co → List Nat
  | _, [] => []
  | i, c :: t => (if i = k then [] else line c (K.contains (i : Int))) ++ leftT K k (i + 1) t
def leftC (k : Nat) : Nat → List Co → List Co
  | _, [] => []
  | i, c :: t => (if i = k then [] else [c]) ++ leftC k (i + 1) t
theorem leftT_snoc (K : List Int) (k : Nat) (c : Co) : ∀ (l : List Co) (i : Nat), leftT K k i (l ++ [c]) = leftT K k i l ++ (if i + l.length = k then [] else line c (K.contains ((i + l.length : Nat) : Int)))
  | [], i => by simp [leftT]
  | x :: t, i => by
    rw [List.cons_append, leftT, leftT, leftT_snoc K k c t (i + 1), List.append_assoc, List.length_cons, show i + 1 + t.length = i + (t.length + 1) by omega]
theorem leftC_snoc (k : Nat) (c : Co) : ∀ (l : List Co) (i : Nat), leftC k i (l ++ [c]) = leftC k i l ++ (if i + l.length = k then [] else [c])
  | [], i => by simp [leftC]
  | x :: t, i => by
    rw [List.cons_append, leftC, leftC, leftC_snoc k c t (i + 1), List.append_assoc, List.length_cons, show i + 1 + t.length = i + (t.length + 1) by omega]
theorem left_text (K : List Int) (k : Nat) : ∀ (l : List Co) (i : Nat), leftT K k i l = textFrom (shift K k) (if i ≤ k then i else i - 1) (leftC k i l)
  | [], i => rfl
  | c :: t, i => by
    have ih := left_text K k t (i + 1)
    rw [leftT, leftC]
    by_cases h1 : i = k
    · subst h1
      rw [if_pos rfl, if_pos rfl, List.nil_append, List.nil_append, ih, if_neg (by omega), if_pos (Nat.le_refl _)]; rfl
    · rw [if_neg h1, if_neg h1, List.cons_append, List.nil_append, ih, textFrom]
      have hm := shift_mem K k i h1
      by_cases h2 : i < k
      · rw [if_pos h2] at hm
        rw [if_pos (show i ≤ k by omega), if_pos (show i + 1 ≤ k by omega), hm]
      · rw [if_neg h2] at hm
        rw [if_neg (show ¬ i ≤ k by omega), if_neg (show ¬ i + 1 ≤ k by omega), show ((i - 1 : Nat) : Int) = (i : Int) - 1 by omega, hm, show i - 1 + 1 = i + 1 - 1 by omega]
theorem leftC_sub (k : Nat) : ∀ (l : List Co) (i : Nat), (leftC k i l).Sublist l
  | [], _ => List.Sublist.refl _
  | c :: t, i => by
    rw [leftC]
    split
    · rw [List.nil_append]; exact (leftC_sub k t (i + 1)).cons c
    · exact (leftC_sub k t (i + 1)).cons_cons c
theorem leftC_none (k : Nat) : ∀ (l : List Co) (i : Nat), k < i → leftC k i l = l
  | [], _, _ => rfl
  | c :: t, i, h => by rw [leftC, if_neg (by omega), leftC_none k t (i + 1) (by omega)]; rfl
theorem leftC_at (k : Nat) : ∀ (l : List Co) (i j : Nat), (leftC k i l)[j]? = l[if i + j < k ∨ k < i then j else j + 1]?
  | [], i, j => by simp [leftC]
  | c :: t, i, j => by
    rw [leftC]
    by_cases h1 : i = k
    · subst h1
      rw [if_pos rfl, List.nil_append, leftC_none _ t (i + 1) (by omega), if_neg (by omega)]; rfl
    · rw [if_neg h1, List.cons_append, List.nil_append]
      cases j with
      | zero => rw [if_pos (by omega)]; rfl
      | succ j =>
        rw [List.getElem?_cons_succ, leftC_at k t (i + 1) j]
        by_cases h2 : i + (j + 1) < k ∨ k < i
        · rw [if_pos h2, if_pos (by omega), List.getElem?_cons_succ]
        · rw [if_neg h2, if_neg (by omega), List.getElem?_cons_succ]
theorem leftC_len (k : Nat) : ∀ (l : List Co) (i : Nat), i ≤ k → k < i + l.length → (leftC k i l).length + 1 = l.length
  | [], i, h1, h2 => by simp at h2; omega
  | c :: t, i, h1, h2 => by
    rw [leftC]
    by_cases h : i = k
    · subst h
      rw [if_pos rfl, List.nil_append, leftC_none _ t (i + 1) (by omega)]; rfl
    · rw [if_neg h, List.length_append, List.length_cons]
      have := leftC_len k t (i + 1) (by omega) (by simp at h2; omega)
      simp; omega
/-- A schema's columns may be: element by element, and in pairs. -/
theorem okC_pair {l : List Co} : okC l = true ↔ (1 ≤ l.length ∧ l.length ≤ 32) ∧ (∀ c ∈ l, (1 ≤ c.id ∧ c.id ≤ 1048576) ∧ name (bl c.nm) = true ∧ chk c.u c.k c.d = 0) ∧ l.Pairwise fun c d => c.id < d.id ∧ bl c.nm ≠ bl d.nm := by
  constructor
  · intro h
    obtain ⟨h1, h2⟩ := okC_iff.1 h
    refine ⟨h1, fun c hc => ?_, ?_⟩
    · obtain ⟨i, hi⟩ := List.getElem?_of_mem hc
      have hp := okAt_parts.1 (h2 i c hi)
      exact ⟨⟨(least_pos h i c hi).1, hp.1.2⟩, hp.2.1, hp.2.2.1⟩
    · rw [List.pairwise_iff_getElem]
      intro i j hi hj hij
      exact ⟨id_lt h i j _ _ hij (List.getElem?_eq_getElem hi) (List.getElem?_eq_getElem hj), nm_ne h i j _ _ hij (List.getElem?_eq_getElem hi) (List.getElem?_eq_getElem hj)⟩
  · rintro ⟨h1, h2, h3⟩
    rw [List.pairwise_iff_getElem] at h3
    refine okC_iff.2 ⟨h1, fun i c hc => ?_⟩
    obtain ⟨hi, rfl⟩ := List.getElem?_eq_some_iff.1 hc
    obtain ⟨p1, p2, p3⟩ := h2 _ (List.getElem_mem hi)
    refine okAt_parts.2 ⟨⟨?_, p1.2⟩, p2, p3, ?_⟩
    · unfold least
      split
      · exact p1.1
      · next h0 =>
        rw [getD_of (List.getElem?_eq_getElem (show i - 1 < l.length by omega))]
        have := (h3 (i - 1) i (by omega) hi (by omega)).1
        omega
    · unfold fresh
      rw [List.all_eq_true]
      intro d hd
      obtain ⟨j, hj⟩ := List.getElem?_of_mem hd
      have hji : j < i := by
        have := (List.getElem?_eq_some_iff.1 hj).1
        simp at this; omega
      rw [List.getElem?_take_of_lt hji] at hj
      obtain ⟨hjl, rfl⟩ := List.getElem?_eq_some_iff.1 hj
      have := (h3 j i hjl hi hji).2
      simpa using this
theorem okK_of {l : List Co} {ks : List Int} (h1 : ks.length ≤ 8) (h2 : ks.Pairwise (· < ·)) (h3 : ∀ k ∈ ks, (0 ≤ k ∧ k < (l.length : Int)) ∧ (l.getD k.toNat co0).u = false) : okK l ks = true := by
  rw [List.pairwise_iff_getElem] at h2
  refine okK_iff.2 ⟨h1, fun i k hk => ?_⟩
  obtain ⟨hi, rfl⟩ := List.getElem?_eq_some_iff.1 hk
  obtain ⟨p1, p2⟩ := h3 _ (List.getElem_mem hi)
  refine okKAt_parts.2 ⟨⟨?_, p1.2⟩, p2⟩
  unfold leastK
  split
  · exact p1.1
  · next h0 =>
    rw [getD_of (List.getElem?_eq_getElem (show i - 1 < ks.length by omega))]
    have := h2 (i - 1) i (by omega) hi (by omega)
    omega
theorem okK_u {l : List Co} {ks : List Int} (h : okK l ks = true) : ∀ k ∈ ks, (l.getD k.toNat co0).u = false := by
  intro k hk
  obtain ⟨i, hi⟩ := List.getElem?_of_mem hk
  exact (okKAt_parts.1 ((okK_iff.1 h).2 i k hi)).2
/-- What is left may be. -/
theorem left_ok {cs : List Co} {ks : List Int} (h : Made cs ks) {k : Nat} (hk : k < cs.length) (h0 : leftC k 0 cs ≠ []) : ck (leftC k 0 cs) (shift ks k) = 0 := by
  have hl := leftC_len k cs 0 (Nat.zero_le _) (by omega)
  have hsub := leftC_sub k cs 0
  refine ck_ok ?_ ?_
  · obtain ⟨h1, h2, h3⟩ := okC_pair.1 h.ok
    exact okC_pair.2 ⟨⟨List.length_pos_iff.2 h0, by omega⟩, fun c hc => h2 c (hsub.mem hc), h3.sublist hsub⟩
  · have hs := okK_sorted h.kk
    refine okK_of ?_ ?_ ?_
    · unfold shift
      rw [List.length_map]
      exact Nat.le_trans (List.length_filter_le _ _) (okK_iff.1 h.kk).1
    · unfold shift
      rw [List.pairwise_map]
      have hf := hs.filter (fun x => decide (x ≠ (k : Int)))
      refine List.Pairwise.imp_of_mem (fun {a b} ha hb hab => ?_) hf
      rw [List.mem_filter, decide_eq_true_eq] at ha hb
      split <;> split <;> omega
    · intro x hx
      unfold shift at hx
      simp only [List.mem_map, List.mem_filter, decide_eq_true_eq] at hx
      obtain ⟨y, ⟨hy, hyk⟩, rfl⟩ := hx
      obtain ⟨y0, y1⟩ := okK_range h.kk y hy
      have hu := okK_u h.kk y hy
      have hx : ∀ z, cs[y.toNat]? = some z → z.u = false := fun z hz => by rw [getD_of hz] at hu; exact hu
      have e : (leftC k 0 cs)[(if y > (k : Int) then y - 1 else y).toNat]? = cs[y.toNat]? := by
        rw [leftC_at]
        congr 1
        split <;> split <;> omega
      refine ⟨by split <;> omega, ?_⟩
      rw [List.getD_eq_getElem?_getD, e, List.getElem?_eq_getElem (by omega)]
      exact hx _ (List.getElem?_eq_getElem (by omega))
end Go.Proofs.YtjmphlboickhdaaGreatDoor.Sc

/- The walk of SchemaLeft: the text without a line is that of the schema without that column. -/
namespace Go.Proofs.YtjmphlboickhdaaGreatDoor
open Go.RowKit Go.Sort
set_option linter.unusedVariables false
set_option linter.unusedSimpArgs false
set_option maxRecDepth 100000

def RdT (w : World) (B : Nat) (v : Value) (l : List ByteArray) : Prop := Gn.Rd txc 1 w B v l
theorem RdT.later {w w' : World} {v : Value} {l : List ByteArray} (h : RdT w w.heap.size v l) (hb : Below w.heap.size w w') : RdT w' w'.heap.size v l := Gn.Rd.later h hb
theorem rdT_cell {W w : World} {B n c : Nat} {ad : Option Addr} {l : List ByteArray} (h : RdT W B (.slice ad n c) l) (hb : Below B W w) {i : Nat} {x : ByteArray} (hi : l[i]? = some x) :
    ∃ b off, ad = some ⟨b, off, none⟩ ∧ w.cell? ⟨b, off + i, none⟩ = some (.string x) := by
  obtain ⟨hl, e⟩ := List.getElem?_eq_some_iff.1 hi
  obtain ⟨b, off, rfl, _, hc⟩ := Gn.Rd.at h hb hl
  rw [e] at hc
  exact ⟨b, off, rfl, by have := hc 0 _ rfl; simpa using this⟩
set_option maxHeartbeats 4000000 in
theorem cSplitAfter (t : ByteArray) (hm : t.size ≤ 1000000) (L : List ByteArray) (hs : Lib.splitB ⟨#[10]⟩ 1 (Lib.countB t ⟨#[10]⟩) t = L) (hL : L.length = Lib.countB t ⟨#[10]⟩ + 1) (w : World) (T : TabM w) :
    Calls Tryz.prog 29 #[.string t, .string ⟨#[10]⟩] w fun e w' => e = .returned (.slice (some ⟨w.heap.size, 0, none⟩) L.length L.length) ∧ RdT w' w'.heap.size (.slice (some ⟨w.heap.size, 0, none⟩) L.length L.length) L ∧ Below w.heap.size w w' := by
  obtain ⟨m, hmm⟩ := T
  have hle := Lib.countB_le ⟨#[10]⟩ (by decide) t.size t (Nat.le_refl _)
  have GS := Tryz.strings_genSplit t ⟨#[10]⟩ 1 (-1) (Lib.countB t ⟨#[10]⟩ + 1) m w (by omega) hmm (by decide) (by decide) (by decide) (by decide) (by rw [if_pos (by decide)]; omega)
  rw [Nat.add_sub_cancel, hs, ← hL, Lib.cellsOf_full] at GS
  have HG : Hid (Calls Tryz.prog 63 #[.string t, .string ⟨#[10]⟩, .int .i64 1, .int .i64 (-1)] w _) := Lib.hid GS
  have HRD : Hid (RdT (w.alloc (.cells (L.map Value.string).toArray 9)) (w.alloc (.cells (L.map Value.string).toArray 9)).heap.size (.slice (some ⟨w.heap.size, 0, none⟩) L.length L.length) L) := Lib.hid (by
    have e : (L.map Value.string).toArray = (Gn.cells txc L).toArray := by
      congr 1
      clear hs hL GS HG
      induction L with
      | nil => rfl
      | cons a L ih => rw [List.map_cons, Gn.cells_cons, ih]; rfl
    exact Gn.Own.rd txL (Gn.Own.lit (T := 9) txL w 0 L _ L.length L.length e rfl rfl (by simp only [maxLen]; omega) (Nat.zero_le _)))
  have HLL := Lib.hid hL
  clear GS hs hle hmm hL
  go_enter Tryz.func29, Tryz.ntmps29
  go_wp2_with fail
  ((with_reducible refine HG.out.mono ?_); rintro e w1 ⟨rfl, rfl⟩)
  go_wp2_with fail
  go_ret
  exact ⟨rfl, HRD.out, box_new _ _⟩
/-- What is left, in a variable. -/
structure LW (w : World) (l : List Co) (kk : List Int) (lv kv : Value) (W : World) : Prop where
  s : Blk W w.heap.size 25 [lv, kv]
  oc : OwnK W (w.heap.size + 1) lv l
  ok : OwnI W (w.heap.size + 1) kv kk
  b : Below w.heap.size w W
  sz : w.heap.size + 1 ≤ W.heap.size
theorem LW.later {w W W' : World} {l : List Co} {kk : List Int} {lv kv : Value} (h : LW w l kk lv kv W) (hb : Below W.heap.size W W') : LW w l kk lv kv W' :=
  ⟨h.s.later hb, Gn.Own.later h.oc hb, Gn.Own.later h.ok hb, up h.b hb, Nat.le_trans h.sz hb.size⟩
theorem LW.col {w W W' : World} {l l' : List Co} {kk : List Int} {lv kv v : Value} (h : LW w l kk lv kv W) (ho : OwnK W' (w.heap.size + 1) v l') (hg : W.grownBy W' lv.ownBlock) : Blk W' w.heap.size 25 [lv, kv] ∧ LW w l' kk v kv (W'.setCell ⟨w.heap.size, 0, none⟩ v) := by
  have h3 : Blk W' w.heap.size 25 [lv, kv] := h.s.app hg h.oc (by omega)
  refine ⟨h3, Blk.put h3 0 v, own_far ho (by simp only; omega) v, own_far (Gn.Own.kept h.ok hg (own_apart2 h.ok h.oc (by decide))) (by simp only; omega) v, ?_, ?_⟩
  · exact (h.b.grown hg (by have := h.sz; omega) (fun g e => by have := (h.oc.lt g e).1; omega)).setCell (by simp only; omega) v
  · have := hg.size; have := h.sz; simp; omega
theorem LW.key {w W W' : World} {l : List Co} {kk kk' : List Int} {lv kv v : Value} (h : LW w l kk lv kv W) (ho : OwnI W' (w.heap.size + 1) v kk') (hg : W.grownBy W' kv.ownBlock) : Blk W' w.heap.size 25 [lv, kv] ∧ LW w l kk' lv v (W'.setCell ⟨w.heap.size, 1, none⟩ v) := by
  have h3 : Blk W' w.heap.size 25 [lv, kv] := h.s.app hg h.ok (by omega)
  refine ⟨h3, Blk.put h3 1 v, own_far (Gn.Own.kept h.oc hg (own_apart2 h.oc h.ok (by decide))) (by simp only; omega) v, own_far ho (by simp only; omega) v, ?_, ?_⟩
  · exact (h.b.grown hg (by have := h.sz; omega) (fun g e => by have := (h.ok.lt g e).1; omega)).setCell (by simp only; omega) v
  · have := hg.size; have := h.sz; simp; omega
theorem LW.start (w : World) : LW w [] [] nilS nilS (w.alloc (.cells #[nilS, nilS] 25)) :=
  ⟨Blk.new w 25 #[nilS, nilS], Gn.Own.nil _ _, Gn.Own.nil _ _, box_new _ _, by simp⟩
/-- What an append leaves, ahead of the store. -/
structure LAp (w : World) (l : List Co) (kk : List Int) (lv kv : Value) (W : World) : Prop where
  oc : OwnK W (w.heap.size + 1) lv l
  ok : OwnI W (w.heap.size + 1) kv kk
  b : Below w.heap.size w W
  sz : w.heap.size + 1 ≤ W.heap.size
theorem LAp.later {w W W' : World} {l : List Co} {kk : List Int} {lv kv : Value} (h : LAp w l kk lv kv W) (hb : Below W.heap.size W W') : LAp w l kk lv kv W' :=
  ⟨Gn.Own.later h.oc hb, Gn.Own.later h.ok hb, up h.b hb, Nat.le_trans h.sz hb.size⟩
theorem LAp.put {w W : World} {l : List Co} {kk : List Int} {lv kv : Value} (h : LAp w l kk lv kv W) (j : Nat) (u : Value) : LAp w l kk lv kv (W.setCell ⟨w.heap.size, j, none⟩ u) :=
  ⟨own_far h.oc (by simp only; omega) u, own_far h.ok (by simp only; omega) u, h.b.setCell (by simp only; omega) u, by have := h.sz; simpa using this⟩
theorem LAp.lw {w W : World} {l : List Co} {kk : List Int} {lv kv v : Value} (h : LAp w l kk v kv W) (hs : Blk W w.heap.size 25 [lv, kv]) : LW w l kk v kv (W.setCell ⟨w.heap.size, 0, none⟩ v) :=
  have h' := h.put 0 v
  ⟨Blk.put hs 0 v, h'.oc, h'.ok, h'.b, h'.sz⟩
theorem LAp.lwk {w W : World} {l : List Co} {kk : List Int} {lv kv v : Value} (h : LAp w l kk lv v W) (hs : Blk W w.heap.size 25 [lv, kv]) : LW w l kk lv v (W.setCell ⟨w.heap.size, 1, none⟩ v) :=
  have h' := h.put 1 v
  ⟨Blk.put hs 1 v, h'.oc, h'.ok, h'.b, h'.sz⟩
theorem LW.app {w W W' : World} {l l' : List Co} {kk : List Int} {lv kv v : Value} (h : LW w l kk lv kv W) (ho : OwnK W' (w.heap.size + 1) v l') (hg : W.grownBy W' lv.ownBlock) : LAp w l' kk v kv W' ∧ Blk W' w.heap.size 25 [lv, kv] :=
  ⟨⟨ho, Gn.Own.kept h.ok hg (own_apart2 h.ok h.oc (by decide)), h.b.grown hg (by have := h.sz; omega) (fun g e => by have := (h.oc.lt g e).1; omega), Nat.le_trans h.sz hg.size⟩, h.s.app hg h.oc (by omega)⟩
theorem LW.appk {w W W' : World} {l : List Co} {kk kk' : List Int} {lv kv v : Value} (h : LW w l kk lv kv W) (ho : OwnI W' (w.heap.size + 1) v kk') (hg : W.grownBy W' kv.ownBlock) : LAp w l kk' lv v W' ∧ Blk W' w.heap.size 25 [lv, kv] :=
  ⟨⟨Gn.Own.kept h.oc hg (own_apart2 h.oc h.ok (by decide)), ho, h.b.grown hg (by have := h.sz; omega) (fun g e => by have := (h.ok.lt g e).1; omega), Nat.le_trans h.sz hg.size⟩, h.s.app hg h.ok (by omega)⟩
theorem rd_blkI {u : World} {b : Nat} {x : Int} (h : Blk u b 3 [.int .i64 x]) : RdI u u.heap.size (.slice (some ⟨b, 0, none⟩) 1 1) [x] :=
  ⟨_, 1, rfl, by simp, by simp [maxLen], by simp, fun _ => ⟨b, 0, rfl, h.lt, fun i y j q hi hj => by
    have hi0 : i = 0 := by
      have := (List.getElem?_eq_some_iff.1 hi).1
      simp at this; exact this
    subst hi0
    simp at hi
    subst hi
    rw [show 0 + 0 * 1 + j = j by omega, h.cell j]
    exact hj⟩⟩
theorem Sc.shift_snoc (K : List Int) (x : Int) (k : Nat) : Sc.shift (K ++ [x]) k = Sc.shift K k ++ (if x = (k : Int) then [] else [if x > (k : Int) then x - 1 else x]) := by
  unfold Sc.shift
  rw [List.filter_append, List.map_append]
  congr 1
  by_cases h : x = (k : Int) <;> simp [h]
theorem Sc.leftT_len (K : List Int) (k : Nat) : ∀ (l : List Co) (i : Nat), (∀ c ∈ l, Sc.Col c) → (∀ c ∈ l, c.d.s.size ≤ 4) → (Sc.leftT K k i l).length ≤ l.length * 200
  | [], i, _, _ => by simp [Sc.leftT]
  | c :: l, i, h, hs => by
    have h1 := Sc.line_small (y := K.contains (i : Int)) (h c (by simp)) (hs c (by simp))
    have h2 := Sc.leftT_len K k l (i + 1) (fun d hd => h d (List.mem_cons_of_mem _ hd)) (fun d hd => hs d (List.mem_cons_of_mem _ hd))
    rw [Sc.leftT, List.length_append, List.length_cons, Nat.add_mul]
    split
    · simp; omega
    · omega
set_option maxHeartbeats 16000000 in
theorem schemaLeft (sv : Value) (L : List S5) (K which : Int) (w : World) (hI : SeedIn w sv L K) (hw0 : -9223372036854775808 ≤ which) (hw1 : which ≤ 9223372036854775807) (T : TA w) : Calls Tryz.prog 6 #[.agg #[sv, .int .i64 K], .int .i64 which] w fun e w' => e = .returned (.bool true) ∧ Below w.heap.size w w' := by
  have HT := Lib.hid T
  have HI := Lib.hid hI
  have HWH : Hid (Cl.I64 which) := Lib.hid ⟨hw0, hw1⟩
  have b0 := box_new w (.cells #[sv, .int .i64 K] 49)
  have HB0 := Lib.hid b0
  have HX := Lib.hid (Blk.new w 49 #[sv, .int .i64 K])
  have HR := Lib.hid (hI.rd.later b0)
  have x0 := HX.out.cell 0
  have x1 := HX.out.cell 1
  simp only [List.getElem?_cons_succ, List.getElem?_cons_zero] at x0 x1
  clear T hI b0 hw0 hw1
  go_enter Tryz.func6, Tryz.ntmps6
  go_upto_region 1 with fail
  generalize hg0 : w.heap.size = g0 at *
  generalize hw0 : w.alloc (.cells #[sv, .int .i64 K] 49) = w0 at *
  go_wp2_with fail
  subst hg0
  ((with_reducible refine (lMade sv L K w0 HR.out HI.out.in_ HI.out.k).mono ?_); rintro x w2 ⟨cv, kv, cs, ks, rfl, hm, ho, hi, b2⟩)
  have HM := Lib.hid hm
  have HV := Lib.hid (SV.new ho hi)
  have HB2 := Lib.hid (up (up HB0.out b2) (box_new w2 (.cells #[cv, kv] 25)))
  clear x0 x1 b2 HB0 HI HR HX hw0
  obtain ⟨ca, cc, rfl, _⟩ := Gn.Rd.form (RdK.of ho)
  obtain ⟨ka, kc, rfl, _⟩ := Gn.Rd.form (RdI.of hi)
  clear ho hi
  obtain ⟨tx, htx⟩ : ∃ tx, str (Sc.text cs ks) = tx := ⟨_, rfl⟩
  have hmt := hm.text
  rw [htx] at hmt
  have CT := Lib.hid (fun w1 (T1 : TA w1) (g1 : RdK w1 w1.heap.size (.slice ca cs.length cc) cs) (g2 : RdI w1 w1.heap.size (.slice ka ks.length kc) ks) => cTextS _ _ cs ks w1 T1 g1 g2 hm.ko hm.ki 0 hm.ck tx (by rw [if_pos rfl]; exact htx))
  obtain ⟨sp1, sp2⟩ := Sc.split_lines ks cs 0 tx hm.cols hmt.b
  have CS := Lib.hid (fun w1 (T1 : TabM w1) => cSplitAfter tx (by have := hmt.s; omega) (Sc.lins ks 0 cs ++ [⟨#[]⟩]) (by rw [sp1]; exact sp2) (by rw [sp1, List.length_append, Sc.lins_len]; rfl) w1 T1)
  rw [show (Sc.lins ks 0 cs ++ [(⟨#[]⟩ : ByteArray)]).length = cs.length + 1 by rw [List.length_append, Sc.lins_len]; rfl] at CS
  have hl1 := hm.l1
  have hl16 := hm.l16
  obtain ⟨kz, hkz⟩ : ∃ kz, which % (cs.length : Int) = kz := ⟨_, rfl⟩
  have HBK := Lib.hid (bringAt which cs.length kz HWH.out (by omega) (by omega) hkz)
  have hkz0 : 0 ≤ kz := by rw [← hkz]; exact Int.emod_nonneg _ (by omega)
  have hkz1 : kz < cs.length := by rw [← hkz]; exact Int.emod_lt_of_pos _ (by omega)
  obtain ⟨k, rfl⟩ : ∃ k : Nat, kz = k := ⟨kz.toNat, by omega⟩
  have hk : k < cs.length := by omega
  clear hkz htx sp1 sp2 hmt hm
  go_wp2_with fail
  generalize hg : w2.heap.size = g at *
  generalize w2.alloc (.cells #[.slice ca cs.length cc, .slice ka ks.length kc] 25) = w3 at *
  clear hg
  obtain ⟨x0, x1⟩ := HV.out.lie
  go_wp2_with fail
  ((with_reducible refine (CT.out w3 (HT.out.later HB2.out) HV.out.c HV.out.k).mono ?_); rintro x w4 ⟨rfl, b4⟩)
  have HB4 := Lib.hid (up HB2.out b4)
  have HV4 := Lib.hid (HV.out.later b4)
  clear x0 x1 b4 HV CT HB2
  go_wp2_with fail
  ((with_reducible refine (CS.out w4 (HT.out.later HB4.out).mx).mono ?_); rintro x w5 ⟨rfl, hrt, b5⟩)
  have HB5 := Lib.hid (up HB4.out b5)
  have HV5 := Lib.hid (HV4.out.later b5)
  have HRT := Lib.hid hrt
  obtain ⟨x0, x1⟩ := HV5.out.lie
  clear b5 hrt HV4 CS HB4
  have hne : ¬ ((cs.length : Int) + 1 ≠ (cs.length : Int) + 1) := by simp
  go_wp2_with fail
  ((with_reducible refine (HBK.out _).mono ?_); rintro e w6 ⟨rfl, rfl⟩)
  clear HBK
  have HL0 := Lib.hid (LW.start w5)
  unfold nilS at HL0
  go_wp2_with fail
  generalize w5.alloc (.cells #[.slice none 0 0, .slice none 0 0] 25) = w6 at *
  clear x0 x1 hne
  go_loopw [11, 12] (fun t i wr => ∃ (j : Nat) (x : ByteArray) (lv : Value), j ≤ cs.length ∧ i = .int .i64 (j : Nat) ∧ t = .string x ∧ Hid (bl x = Sc.leftT ks k 0 (cs.take j)) ∧ Hid (LW w5 (Sc.leftC k 0 (cs.take j)) [] lv (.slice none 0 0) wr)) (fun _ i _ => cs.length - (intOf i).toNat)
  case atStart => exact ⟨0, ⟨#[]⟩, _, by omega, by rfl, by rfl, Lib.hid rfl, HL0⟩
  case round =>
    obtain ⟨j, x, lv, hj, rfl, rfl, HX, HW⟩ := hrel
    have HVR := Lib.hid (HV5.out.later HW.out.b)
    obtain ⟨x0, x1⟩ := HVR.out.lie
    by_cases hlt : j < cs.length
    · have hlt1 : (j : Int) < cs.length := by omega
      have hj6 : (j : Int) < 16 := by omega
      have HLT := Lib.hid hlt
      obtain ⟨c, hx⟩ : ∃ c, cs[j]? = some c := ⟨_, List.getElem?_eq_getElem hlt⟩
      have HTK : Hid (cs.take (j + 1) = cs.take j ++ [c]) := Lib.hid (by rw [List.take_add_one, hx]; rfl)
      have HTL : Hid ((cs.take j).length = j) := Lib.hid (by rw [List.length_take]; omega)
      by_cases hjk : j = k
      · have hjk1 : (j : Int) = (k : Int) := by omega
        have HT1 : Hid (Sc.leftT ks k 0 (cs.take (j + 1)) = Sc.leftT ks k 0 (cs.take j)) := Lib.hid (by rw [HTK.out, Sc.leftT_snoc, HTL.out, Nat.zero_add, if_pos hjk, List.append_nil])
        have HC1 : Hid (Sc.leftC k 0 (cs.take (j + 1)) = Sc.leftC k 0 (cs.take j)) := Lib.hid (by rw [HTK.out, Sc.leftC_snoc, HTL.out, Nat.zero_add, if_pos hjk, List.append_nil])
        clear hjk
        go_wp2_with fail
        go_roundw
        case rel => exact ⟨j + 1, x, lv, HLT.out, by go_num, rfl, Lib.hid (by rw [HT1.out]; exact HX.out), Lib.hid (by rw [HC1.out]; exact HW.out)⟩
        case measure => have := HLT.out; simp [intOf]; omega
      · have hjk1 : ¬ (j : Int) = (k : Int) := by omega
        obtain ⟨gb, off, rfl, p0, p1, p2, p3, p4, p5, p6⟩ := rdK_cells HVR.out.c (Below.refl _ _) hx
        obtain ⟨y, hy⟩ : ∃ y, str (Sc.line c (ks.contains ((0 + j : Nat) : Int))) = y := ⟨_, rfl⟩
        have hcol := HM.out.cols c (List.mem_of_getElem? hx)
        have hyb : bl y = Sc.line c (ks.contains (j : Int)) := by rw [← hy, bl_str _ (Sc.line_byte hcol), Nat.zero_add]
        have hys : y.size ≤ 200 := by
          have := Sc.line_small (y := ks.contains (j : Int)) hcol (HM.out.sm c (List.mem_of_getElem? hx))
          rw [← bl_length, hyb]; exact this
        have hxs : x.size ≤ 3200 := by
          have h1 := Sc.leftT_len ks k (cs.take j) 0 (fun d hd => HM.out.cols d (List.mem_of_mem_take hd)) (fun d hd => HM.out.sm d (List.mem_of_mem_take hd))
          rw [← HX.out, bl_length, HTL.out] at h1
          omega
        have HLJ : Hid ((Sc.lins ks 0 cs ++ [(⟨#[]⟩ : ByteArray)])[j]? = some y) := Lib.hid (by rw [List.getElem?_append_left (by rw [Sc.lins_len]; exact hlt), Sc.lins_at ks cs 0 j c hx, hy])
        have HSUM : Hid (x.size + y.size ≤ 9223372036854775807) := Lib.hid (by omega)
        have HT1 : Hid (Sc.leftT ks k 0 (cs.take (j + 1)) = bl (x ++ y)) := Lib.hid (by rw [HTK.out, Sc.leftT_snoc, HTL.out, Nat.zero_add, if_neg hjk, bl_append, hyb, HX.out])
        have HC1 : Hid (Sc.leftC k 0 (cs.take (j + 1)) = Sc.leftC k 0 (cs.take j) ++ [c]) := Lib.hid (by rw [HTK.out, Sc.leftC_snoc, HTL.out, Nat.zero_add, if_neg hjk])
        have hll : (Sc.leftC k 0 (cs.take j)).length ≤ 16 := by
          have := (Sc.leftC_sub k (cs.take j) 0).length_le
          rw [HTL.out] at this; omega
        obtain ⟨lc, hlc⟩ : ∃ lc, Sc.leftC k 0 (cs.take j) = lc := ⟨_, rfl⟩
        rw [hlc] at HW HC1 hll
        obtain ⟨la, lb, rfl, _⟩ := Gn.Rd.form (RdK.of HW.out.oc)
        have s0 := HW.out.s.cell 0
        have s2 := HW.out.s.frozen 0
        simp only [List.getElem?_cons_succ, List.getElem?_cons_zero] at s0
        have HLN : Hid (lc.length + ([c] : List Co).length ≤ 100000000) := Lib.hid (by simp; omega)
        have HLS : Hid ((lc ++ [c]).length = lc.length + 1) := Lib.hid (by simp)
        obtain ⟨xi, xm, xk, xu, ⟨xa, xb, xc⟩⟩ := c
        simp only at p0 p1 p2 p3 p4 p5 p6
        have hgl : g < w5.heap.size := HV5.out.x.lt
        have hgbl : gb < w5.heap.size := by
          obtain ⟨b', off', e1, h1, _⟩ := Gn.Rd.at HV5.out.c (Below.refl _ _) (i := j) hlt
          injection e1 with e1; injection e1 with e1 _ _; omega
        have HNS : Hid (∀ q, q < w5.heap.size → ¬ (q = w5.heap.size ∨ (Value.slice la lc.length lb).ownBlock = some q)) := Lib.hid (fun q h1 h2 => by
          rcases h2 with h2 | h2
          · omega
          · have := (HW.out.oc.lt q h2).1; omega)
        clear hx hy hcol hyb hxs hys hlc hll hjk HTK HTL
        go_upto_region 13 with fail
        refine region_growI_merge (fun u v => Touch (fun q => q = w5.heap.size ∨ (Value.slice la lc.length lb).ownBlock = some q) u v) (fun d u => (d 8 = false → LW w5 lc [] (.slice la lc.length lb) (.slice none 0 0) u) ∧ (d 10 = false → Blk u w5.heap.size 25 [.slice la lc.length lb, .slice none 0 0]) ∧ (d 10 = true → d 8 = true ∧ ∃ v1, LW w5 (lc ++ [(⟨xi, xm, xk, xu, ⟨xa, xb, xc⟩⟩ : Co)]) [] v1 (.slice none 0 0) u) ∧ (d 8 = true → d 1 = true)) (fun d u v => d 8 = true → ∀ x, (fun v u => LAp w5 (lc ++ [(⟨xi, xm, xk, xu, ⟨xa, xb, xc⟩⟩ : Co)]) [] v (.slice none 0 0) u) x u → (fun v u => LAp w5 (lc ++ [(⟨xi, xm, xk, xu, ⟨xa, xb, xc⟩⟩ : Co)]) [] v (.slice none 0 0) u) x v) (fun u => Touch.refl _ _) (fun _ _ _ h k => h.trans k (fun _ h => .inl h)) (kjP 8 (fun v u => LAp w5 (lc ++ [(⟨xi, xm, xk, xu, ⟨xa, xb, xc⟩⟩ : Co)]) [] v (.slice none 0 0) u) #[Spc.eq (.pointer (some ⟨w5.heap.size, 0, none⟩)), Spc.eq (.slice la lc.length lb), Spc.eq (.pointer (some ⟨g, 0, none⟩)), Spc.eq (.slice (some ⟨gb, off, none⟩) cs.length cc), Spc.eq (.int .i64 (j : Nat)), Spc.eq (.pointer (some ⟨gb, off + j * 7, none⟩)), Spc.eq (.agg #[.int .i64 xi, .string xm, .int .i64 xk, .bool xu, .bool xa, .int .i64 xb, .string xc]), ⟨fun v u => ∃ b, v = .slice (some ⟨b, 0, none⟩) 1 1 ∧ ¬ (b = w5.heap.size ∨ (Value.slice la lc.length lb).ownBlock = some b) ∧ Blk u b 36 [.int .i64 xi, .string xm, .int .i64 xk, .bool xu, .bool xa, .int .i64 xb, .string xc], fun _ _ _ h hb => by obtain ⟨b, h1, h2, h3⟩ := h; exact ⟨b, h1, h2, h3.touch hb h2⟩⟩, Spc.any, Spc.eq (.pointer (some ⟨w5.heap.size, 0, none⟩)), Spc.any]) [52, 53, 54, 55, 56, 57, 58, 59, 60, 61] (fun ts u => ∃ va vc, LW w5 (lc ++ [(⟨xi, xm, xk, xu, ⟨xa, xb, xc⟩⟩ : Co)]) [] (.slice va (lc.length + 1) vc) (.slice none 0 0) u) (by kernel_rfl) (by kernel_rfl) (by kernel_rfl) kjP_later ⟨fun _ => HW.out.later (Below.refl _ _).drew, fun _ => HW.out.s.later (Below.refl _ _).drew, fun h => (by cases h), fun h => (by cases h)⟩ ?_ ?_ ?_
        · intro QQ fd jo o a w1 ho hfd hdd hI hb hs hold hdep
          have hjo : jo < 11 := (Array.getElem?_eq_some_iff.1 ho).1
          skip
          have x0' : w1.cell? ⟨g, 0, none⟩ = some (.slice (some ⟨gb, off, none⟩) cs.length cc) := (hb.cell (p := ⟨g, 0, none⟩) (cell_lt x0) (HNS.out _ (by simp only; omega))).trans x0
          have p0' : w1.cell? ⟨gb, off + j * 7, none⟩ = some (.int .i64 xi) := (hb.cell (p := ⟨gb, off + j * 7, none⟩) (cell_lt p0) (HNS.out _ (by simp only; omega))).trans p0
          have p1' : w1.cell? ⟨gb, off + j * 7 + 1, none⟩ = some (.string xm) := (hb.cell (p := ⟨gb, off + j * 7 + 1, none⟩) (cell_lt p1) (HNS.out _ (by simp only; omega))).trans p1
          have p2' : w1.cell? ⟨gb, off + j * 7 + 2, none⟩ = some (.int .i64 xk) := (hb.cell (p := ⟨gb, off + j * 7 + 2, none⟩) (cell_lt p2) (HNS.out _ (by simp only; omega))).trans p2
          have p3' : w1.cell? ⟨gb, off + j * 7 + 3, none⟩ = some (.bool xu) := (hb.cell (p := ⟨gb, off + j * 7 + 3, none⟩) (cell_lt p3) (HNS.out _ (by simp only; omega))).trans p3
          have p4' : w1.cell? ⟨gb, off + j * 7 + 4, none⟩ = some (.bool xa) := (hb.cell (p := ⟨gb, off + j * 7 + 4, none⟩) (cell_lt p4) (HNS.out _ (by simp only; omega))).trans p4
          have p5' : w1.cell? ⟨gb, off + j * 7 + 5, none⟩ = some (.int .i64 xb) := (hb.cell (p := ⟨gb, off + j * 7 + 5, none⟩) (cell_lt p5) (HNS.out _ (by simp only; omega))).trans p5
          have p6' : w1.cell? ⟨gb, off + j * 7 + 6, none⟩ = some (.string xc) := (hb.cell (p := ⟨gb, off + j * 7 + 6, none⟩) (cell_lt p6) (HNS.out _ (by simp only; omega))).trans p6
          clear x0 p0 p1 p2 p3 p4 p5 p6
          have hszr : wr.heap.size ≤ w1.heap.size := hb.size
          have hfr : ¬ (w1.heap.size = w5.heap.size ∨ (Value.slice la lc.length lb).ownBlock = some w1.heap.size) := by
            rintro (h | h)
            · have := HW.out.sz; omega
            · have := (HW.out.oc.lt _ h).2; omega
          have e5 : a.eval (.tmp 5) = .pointer (some ⟨g, 0, none⟩) := by
            show a.tmps.getD 5 undef = _
            rw [Array.getD_eq_getD_getElem?, hold 5 (by decide +kernel)]; rfl
          have e10 : a.eval (.tmp 10) = .pointer (some ⟨w5.heap.size, 0, none⟩) := by
            show a.tmps.getD 10 undef = _
            rw [Array.getD_eq_getD_getElem?, hold 10 (by decide +kernel)]; rfl
          have e12 : a.eval (.tmp 12) = .int .i64 (j : Nat) := by
            show a.tmps.getD 12 undef = _
            rw [Array.getD_eq_getD_getElem?, hold 12 (by decide +kernel)]; rfl
          have ec : ∀ v, a.eval (.const v) = v := fun _ => rfl
          clear hold hs
          rcases (show jo = 0 ∨ jo = 1 ∨ jo = 2 ∨ jo = 3 ∨ jo = 4 ∨ jo = 5 ∨ jo = 6 ∨ jo = 7 ∨ jo = 8 ∨ jo = 9 ∨ jo = 10 by omega) with rfl | rfl | rfl | rfl | rfl | rfl | rfl | rfl | rfl | rfl | rfl
          · have ho2 := ho; simp only [List.getElem?_toArray, List.getElem?_cons_succ, List.getElem?_cons_zero, Option.some.injEq] at ho2; subst ho2
            refine growI_val (I := (fun d u => (d 8 = false → LW w5 lc [] (.slice la lc.length lb) (.slice none 0 0) u) ∧ (d 10 = false → Blk u w5.heap.size 25 [.slice la lc.length lb, .slice none 0 0]) ∧ (d 10 = true → d 8 = true ∧ ∃ v1, LW w5 (lc ++ [(⟨xi, xm, xk, xu, ⟨xa, xb, xc⟩⟩ : Co)]) [] v1 (.slice none 0 0) u) ∧ (d 8 = true → d 1 = true))) (X := (fun d u v => d 8 = true → ∀ x, (fun v u => LAp w5 (lc ++ [(⟨xi, xm, xk, xu, ⟨xa, xb, xc⟩⟩ : Co)]) [] v (.slice none 0 0) u) x u → (fun v u => LAp w5 (lc ++ [(⟨xi, xm, xk, xu, ⟨xa, xb, xc⟩⟩ : Co)]) [] v (.slice none 0 0) u) x v)) (d := fd) (a := a) (w := w1) (.pointer (some ⟨w5.heap.size, 0, none⟩)) w1 ho rfl ?_ ((fun u => Touch.refl _ _) w1) ⟨fun h => (hI.1 (by simpa [upd] using h)).later (Below.refl _ _), fun h => (hI.2.1 (by simpa [upd] using h)).later (Below.refl _ _), fun h => have h' := hI.2.2.1 (by simpa [upd] using h); ⟨by have := h'.1; simp [upd, this], h'.2.elim fun v1 hv => ⟨v1, hv.later (Below.refl _ _)⟩⟩, fun h => by have h1 := hI.2.2.2 (by simpa [upd] using h); simp [upd, h1]⟩ (fun _ v hv => hv.later (Below.refl _ _)) rfl
            unfold execOp
            simp only [List.map_toArray, List.map_cons, List.map_nil, e10, ec]
            first | rfl | (go_simp; done) | (go_simp; rfl) | (go_simp; omega)
          · have ho2 := ho; simp only [List.getElem?_toArray, List.getElem?_cons_succ, List.getElem?_cons_zero, Option.some.injEq] at ho2; subst ho2
            have d0 : a.eval (.tmp 52) = .pointer (some ⟨w5.heap.size, 0, none⟩) := hdep ⟨0, .data⟩ (by simp) rfl
            refine growI_val (I := (fun d u => (d 8 = false → LW w5 lc [] (.slice la lc.length lb) (.slice none 0 0) u) ∧ (d 10 = false → Blk u w5.heap.size 25 [.slice la lc.length lb, .slice none 0 0]) ∧ (d 10 = true → d 8 = true ∧ ∃ v1, LW w5 (lc ++ [(⟨xi, xm, xk, xu, ⟨xa, xb, xc⟩⟩ : Co)]) [] v1 (.slice none 0 0) u) ∧ (d 8 = true → d 1 = true))) (X := (fun d u v => d 8 = true → ∀ x, (fun v u => LAp w5 (lc ++ [(⟨xi, xm, xk, xu, ⟨xa, xb, xc⟩⟩ : Co)]) [] v (.slice none 0 0) u) x u → (fun v u => LAp w5 (lc ++ [(⟨xi, xm, xk, xu, ⟨xa, xb, xc⟩⟩ : Co)]) [] v (.slice none 0 0) u) x v)) (d := fd) (a := a) (w := w1) (.slice la lc.length lb) w1 ho rfl ?_ ((fun u => Touch.refl _ _) w1) ⟨fun h => (hI.1 (by simpa [upd] using h)).later (Below.refl _ _), fun h => (hI.2.1 (by simpa [upd] using h)).later (Below.refl _ _), fun h => have h' := hI.2.2.1 (by simpa [upd] using h); ⟨by have := h'.1; simp [upd, this], h'.2.elim fun v1 hv => ⟨v1, hv.later (Below.refl _ _)⟩⟩, fun h => by have h1 := hI.2.2.2 (by simpa [upd] using h); simp [upd, h1]⟩ (fun _ v hv => hv.later (Below.refl _ _)) rfl
            have hd13 : fd 10 = false := by
              cases h : fd 10 with
              | false => rfl
              | true => exact absurd (hI.2.2.2 (hI.2.2.1 h).1) (by rw [hfd]; decide)
            have hl := (hI.2.1 hd13).cell 0
            simp only [List.getElem?_cons_succ, List.getElem?_cons_zero] at hl
            have d0 : a.eval (.tmp 52) = .pointer (some ⟨w5.heap.size, 0, none⟩) := hdep ⟨0, .data⟩ (by simp) rfl
            unfold execOp
            simp only [d0, ec]
            go_simp
          · have ho2 := ho; simp only [List.getElem?_toArray, List.getElem?_cons_succ, List.getElem?_cons_zero, Option.some.injEq] at ho2; subst ho2
            refine growI_val (I := (fun d u => (d 8 = false → LW w5 lc [] (.slice la lc.length lb) (.slice none 0 0) u) ∧ (d 10 = false → Blk u w5.heap.size 25 [.slice la lc.length lb, .slice none 0 0]) ∧ (d 10 = true → d 8 = true ∧ ∃ v1, LW w5 (lc ++ [(⟨xi, xm, xk, xu, ⟨xa, xb, xc⟩⟩ : Co)]) [] v1 (.slice none 0 0) u) ∧ (d 8 = true → d 1 = true))) (X := (fun d u v => d 8 = true → ∀ x, (fun v u => LAp w5 (lc ++ [(⟨xi, xm, xk, xu, ⟨xa, xb, xc⟩⟩ : Co)]) [] v (.slice none 0 0) u) x u → (fun v u => LAp w5 (lc ++ [(⟨xi, xm, xk, xu, ⟨xa, xb, xc⟩⟩ : Co)]) [] v (.slice none 0 0) u) x v)) (d := fd) (a := a) (w := w1) (.pointer (some ⟨g, 0, none⟩)) w1 ho rfl ?_ ((fun u => Touch.refl _ _) w1) ⟨fun h => (hI.1 (by simpa [upd] using h)).later (Below.refl _ _), fun h => (hI.2.1 (by simpa [upd] using h)).later (Below.refl _ _), fun h => have h' := hI.2.2.1 (by simpa [upd] using h); ⟨by have := h'.1; simp [upd, this], h'.2.elim fun v1 hv => ⟨v1, hv.later (Below.refl _ _)⟩⟩, fun h => by have h1 := hI.2.2.2 (by simpa [upd] using h); simp [upd, h1]⟩ (fun _ v hv => hv.later (Below.refl _ _)) rfl
            unfold execOp
            simp only [List.map_toArray, List.map_cons, List.map_nil, e5, ec]
            first | rfl | (go_simp; done) | (go_simp; rfl) | (go_simp; omega)
          · have ho2 := ho; simp only [List.getElem?_toArray, List.getElem?_cons_succ, List.getElem?_cons_zero, Option.some.injEq] at ho2; subst ho2
            have d0 : a.eval (.tmp 54) = .pointer (some ⟨g, 0, none⟩) := hdep ⟨2, .data⟩ (by simp) rfl
            refine growI_val (I := (fun d u => (d 8 = false → LW w5 lc [] (.slice la lc.length lb) (.slice none 0 0) u) ∧ (d 10 = false → Blk u w5.heap.size 25 [.slice la lc.length lb, .slice none 0 0]) ∧ (d 10 = true → d 8 = true ∧ ∃ v1, LW w5 (lc ++ [(⟨xi, xm, xk, xu, ⟨xa, xb, xc⟩⟩ : Co)]) [] v1 (.slice none 0 0) u) ∧ (d 8 = true → d 1 = true))) (X := (fun d u v => d 8 = true → ∀ x, (fun v u => LAp w5 (lc ++ [(⟨xi, xm, xk, xu, ⟨xa, xb, xc⟩⟩ : Co)]) [] v (.slice none 0 0) u) x u → (fun v u => LAp w5 (lc ++ [(⟨xi, xm, xk, xu, ⟨xa, xb, xc⟩⟩ : Co)]) [] v (.slice none 0 0) u) x v)) (d := fd) (a := a) (w := w1) (.slice (some ⟨gb, off, none⟩) cs.length cc) w1 ho rfl ?_ ((fun u => Touch.refl _ _) w1) ⟨fun h => (hI.1 (by simpa [upd] using h)).later (Below.refl _ _), fun h => (hI.2.1 (by simpa [upd] using h)).later (Below.refl _ _), fun h => have h' := hI.2.2.1 (by simpa [upd] using h); ⟨by have := h'.1; simp [upd, this], h'.2.elim fun v1 hv => ⟨v1, hv.later (Below.refl _ _)⟩⟩, fun h => by have h1 := hI.2.2.2 (by simpa [upd] using h); simp [upd, h1]⟩ (fun _ v hv => hv.later (Below.refl _ _)) rfl
            unfold execOp
            simp only [List.map_toArray, List.map_cons, List.map_nil, d0, ec]
            first | rfl | (go_simp; done) | (go_simp; rfl) | (go_simp; omega)
          · have ho2 := ho; simp only [List.getElem?_toArray, List.getElem?_cons_succ, List.getElem?_cons_zero, Option.some.injEq] at ho2; subst ho2
            refine growI_val (I := (fun d u => (d 8 = false → LW w5 lc [] (.slice la lc.length lb) (.slice none 0 0) u) ∧ (d 10 = false → Blk u w5.heap.size 25 [.slice la lc.length lb, .slice none 0 0]) ∧ (d 10 = true → d 8 = true ∧ ∃ v1, LW w5 (lc ++ [(⟨xi, xm, xk, xu, ⟨xa, xb, xc⟩⟩ : Co)]) [] v1 (.slice none 0 0) u) ∧ (d 8 = true → d 1 = true))) (X := (fun d u v => d 8 = true → ∀ x, (fun v u => LAp w5 (lc ++ [(⟨xi, xm, xk, xu, ⟨xa, xb, xc⟩⟩ : Co)]) [] v (.slice none 0 0) u) x u → (fun v u => LAp w5 (lc ++ [(⟨xi, xm, xk, xu, ⟨xa, xb, xc⟩⟩ : Co)]) [] v (.slice none 0 0) u) x v)) (d := fd) (a := a) (w := w1) (.int .i64 (j : Nat)) w1 ho rfl ?_ ((fun u => Touch.refl _ _) w1) ⟨fun h => (hI.1 (by simpa [upd] using h)).later (Below.refl _ _), fun h => (hI.2.1 (by simpa [upd] using h)).later (Below.refl _ _), fun h => have h' := hI.2.2.1 (by simpa [upd] using h); ⟨by have := h'.1; simp [upd, this], h'.2.elim fun v1 hv => ⟨v1, hv.later (Below.refl _ _)⟩⟩, fun h => by have h1 := hI.2.2.2 (by simpa [upd] using h); simp [upd, h1]⟩ (fun _ v hv => hv.later (Below.refl _ _)) rfl
            unfold execOp
            simp only [List.map_toArray, List.map_cons, List.map_nil, e12, ec]
            first | rfl | (go_simp; done) | (go_simp; rfl) | (go_simp; omega)
          · have ho2 := ho; simp only [List.getElem?_toArray, List.getElem?_cons_succ, List.getElem?_cons_zero, Option.some.injEq] at ho2; subst ho2
            have d0 : a.eval (.tmp 55) = .slice (some ⟨gb, off, none⟩) cs.length cc := hdep ⟨3, .data⟩ (by simp) rfl
            have d1 : a.eval (.tmp 56) = .int .i64 (j : Nat) := hdep ⟨4, .data⟩ (by simp) rfl
            refine growI_val (I := (fun d u => (d 8 = false → LW w5 lc [] (.slice la lc.length lb) (.slice none 0 0) u) ∧ (d 10 = false → Blk u w5.heap.size 25 [.slice la lc.length lb, .slice none 0 0]) ∧ (d 10 = true → d 8 = true ∧ ∃ v1, LW w5 (lc ++ [(⟨xi, xm, xk, xu, ⟨xa, xb, xc⟩⟩ : Co)]) [] v1 (.slice none 0 0) u) ∧ (d 8 = true → d 1 = true))) (X := (fun d u v => d 8 = true → ∀ x, (fun v u => LAp w5 (lc ++ [(⟨xi, xm, xk, xu, ⟨xa, xb, xc⟩⟩ : Co)]) [] v (.slice none 0 0) u) x u → (fun v u => LAp w5 (lc ++ [(⟨xi, xm, xk, xu, ⟨xa, xb, xc⟩⟩ : Co)]) [] v (.slice none 0 0) u) x v)) (d := fd) (a := a) (w := w1) (.pointer (some ⟨gb, off + j * 7, none⟩)) w1 ho rfl ?_ ((fun u => Touch.refl _ _) w1) ⟨fun h => (hI.1 (by simpa [upd] using h)).later (Below.refl _ _), fun h => (hI.2.1 (by simpa [upd] using h)).later (Below.refl _ _), fun h => have h' := hI.2.2.1 (by simpa [upd] using h); ⟨by have := h'.1; simp [upd, this], h'.2.elim fun v1 hv => ⟨v1, hv.later (Below.refl _ _)⟩⟩, fun h => by have h1 := hI.2.2.2 (by simpa [upd] using h); simp [upd, h1]⟩ (fun _ v hv => hv.later (Below.refl _ _)) rfl
            unfold execOp
            simp only [List.map_toArray, List.map_cons, List.map_nil, d0, d1, ec]
            first | rfl | (go_simp; done) | (go_simp; rfl) | (go_simp; omega)
          · have ho2 := ho; simp only [List.getElem?_toArray, List.getElem?_cons_succ, List.getElem?_cons_zero, Option.some.injEq] at ho2; subst ho2
            have d0 : a.eval (.tmp 57) = .pointer (some ⟨gb, off + j * 7, none⟩) := hdep ⟨5, .data⟩ (by simp) rfl
            refine growI_val (I := (fun d u => (d 8 = false → LW w5 lc [] (.slice la lc.length lb) (.slice none 0 0) u) ∧ (d 10 = false → Blk u w5.heap.size 25 [.slice la lc.length lb, .slice none 0 0]) ∧ (d 10 = true → d 8 = true ∧ ∃ v1, LW w5 (lc ++ [(⟨xi, xm, xk, xu, ⟨xa, xb, xc⟩⟩ : Co)]) [] v1 (.slice none 0 0) u) ∧ (d 8 = true → d 1 = true))) (X := (fun d u v => d 8 = true → ∀ x, (fun v u => LAp w5 (lc ++ [(⟨xi, xm, xk, xu, ⟨xa, xb, xc⟩⟩ : Co)]) [] v (.slice none 0 0) u) x u → (fun v u => LAp w5 (lc ++ [(⟨xi, xm, xk, xu, ⟨xa, xb, xc⟩⟩ : Co)]) [] v (.slice none 0 0) u) x v)) (d := fd) (a := a) (w := w1) (.agg #[.int .i64 xi, .string xm, .int .i64 xk, .bool xu, .bool xa, .int .i64 xb, .string xc]) w1 ho rfl ?_ ((fun u => Touch.refl _ _) w1) ⟨fun h => (hI.1 (by simpa [upd] using h)).later (Below.refl _ _), fun h => (hI.2.1 (by simpa [upd] using h)).later (Below.refl _ _), fun h => have h' := hI.2.2.1 (by simpa [upd] using h); ⟨by have := h'.1; simp [upd, this], h'.2.elim fun v1 hv => ⟨v1, hv.later (Below.refl _ _)⟩⟩, fun h => by have h1 := hI.2.2.2 (by simpa [upd] using h); simp [upd, h1]⟩ (fun _ v hv => hv.later (Below.refl _ _)) rfl
            unfold execOp
            simp only [List.map_toArray, List.map_cons, List.map_nil, d0, ec]
            first | rfl | (go_simp; done) | (go_simp; rfl) | (go_simp; omega)
          · have ho2 := ho; simp only [List.getElem?_toArray, List.getElem?_cons_succ, List.getElem?_cons_zero, Option.some.injEq] at ho2; subst ho2
            have d0 : a.eval (.tmp 58) = .agg #[.int .i64 xi, .string xm, .int .i64 xk, .bool xu, .bool xa, .int .i64 xb, .string xc] := hdep ⟨6, .data⟩ (by simp) rfl
            refine growI_val (I := (fun d u => (d 8 = false → LW w5 lc [] (.slice la lc.length lb) (.slice none 0 0) u) ∧ (d 10 = false → Blk u w5.heap.size 25 [.slice la lc.length lb, .slice none 0 0]) ∧ (d 10 = true → d 8 = true ∧ ∃ v1, LW w5 (lc ++ [(⟨xi, xm, xk, xu, ⟨xa, xb, xc⟩⟩ : Co)]) [] v1 (.slice none 0 0) u) ∧ (d 8 = true → d 1 = true))) (X := (fun d u v => d 8 = true → ∀ x, (fun v u => LAp w5 (lc ++ [(⟨xi, xm, xk, xu, ⟨xa, xb, xc⟩⟩ : Co)]) [] v (.slice none 0 0) u) x u → (fun v u => LAp w5 (lc ++ [(⟨xi, xm, xk, xu, ⟨xa, xb, xc⟩⟩ : Co)]) [] v (.slice none 0 0) u) x v)) (d := fd) (a := a) (w := w1) (.slice (some ⟨w1.heap.size, 0, none⟩) 1 1) (w1.alloc (.cells #[.int .i64 xi, .string xm, .int .i64 xk, .bool xu, .bool xa, .int .i64 xb, .string xc] 36)) ho rfl ?_ ((Touch.of_below (box_new _ _))) ⟨fun h => (hI.1 (by simpa [upd] using h)).later (box_new _ _), fun h => (hI.2.1 (by simpa [upd] using h)).later (box_new _ _), fun h => have h' := hI.2.2.1 (by simpa [upd] using h); ⟨by have := h'.1; simp [upd, this], h'.2.elim fun v1 hv => ⟨v1, hv.later (box_new _ _)⟩⟩, fun h => by have h1 := hI.2.2.2 (by simpa [upd] using h); simp [upd, h1]⟩ (fun _ v hv => hv.later (box_new _ _)) ⟨_, rfl, hfr, Blk.new w1 36 #[.int .i64 xi, .string xm, .int .i64 xk, .bool xu, .bool xa, .int .i64 xb, .string xc]⟩
            unfold execOp
            simp only [List.map_toArray, List.map_cons, List.map_nil, d0, ec]
            generalize a.eval = ev at *
            go_simp
          · have ho2 := ho; simp only [List.getElem?_toArray, List.getElem?_cons_succ, List.getElem?_cons_zero, Option.some.injEq] at ho2; subst ho2
            obtain ⟨b, d1, hbn, hbk⟩ : ∃ b, a.eval (.tmp 59) = .slice (some ⟨b, 0, none⟩) 1 1 ∧ ¬ (b = w5.heap.size ∨ (Value.slice la lc.length lb).ownBlock = some b) ∧ Blk w1 b 36 [.int .i64 xi, .string xm, .int .i64 xk, .bool xu, .bool xa, .int .i64 xb, .string xc] := hdep ⟨7, .data⟩ (by simp) rfl
            have d0 : a.eval (.tmp 53) = .slice la lc.length lb := hdep ⟨1, .data⟩ (by simp) rfl
            have hm1 := hI.1 hfd
            obtain ⟨v', w', hrun, ho1, hg1, _, _⟩ := Gn.run_app coL coY w1 22 (w5.heap.size + 1) (.slice la lc.length lb) lc hm1.oc (.slice (some ⟨b, 0, none⟩) 1 1) [(⟨xi, xm, xk, xu, ⟨xa, xb, xc⟩⟩ : Co)] (rd_blk hbk) HLN.out hm1.sz
            have hma := hm1.app ho1 hg1
            refine growI_val (I := (fun d u => (d 8 = false → LW w5 lc [] (.slice la lc.length lb) (.slice none 0 0) u) ∧ (d 10 = false → Blk u w5.heap.size 25 [.slice la lc.length lb, .slice none 0 0]) ∧ (d 10 = true → d 8 = true ∧ ∃ v1, LW w5 (lc ++ [(⟨xi, xm, xk, xu, ⟨xa, xb, xc⟩⟩ : Co)]) [] v1 (.slice none 0 0) u) ∧ (d 8 = true → d 1 = true))) (X := (fun d u v => d 8 = true → ∀ x, (fun v u => LAp w5 (lc ++ [(⟨xi, xm, xk, xu, ⟨xa, xb, xc⟩⟩ : Co)]) [] v (.slice none 0 0) u) x u → (fun v u => LAp w5 (lc ++ [(⟨xi, xm, xk, xu, ⟨xa, xb, xc⟩⟩ : Co)]) [] v (.slice none 0 0) u) x v)) (d := fd) (a := a) (w := w1) v' w' ho rfl ?_ (Touch.of_grown hg1 (fun q hq => .inr hq)) ⟨fun h => absurd h (by simp [upd]), fun _ => hma.2, fun h => absurd (hI.2.2.1 (by simpa [upd] using h)).1 (by rw [hfd]; decide), fun _ => by have h1 : fd 1 = true := hdd ⟨1, .data⟩ (by simp) rfl; simp [upd, h1]⟩ (fun h => by rw [hfd] at h; cases h) hma.1
            unfold execOp resolve
            simp only [List.map_toArray, List.map_cons, List.map_nil, d0, d1, ec, invoke, builtin, Sem.run_bind, Sem.run_pure, Result.andThen_ok, hrun]
          · have ho2 := ho; simp only [List.getElem?_toArray, List.getElem?_cons_succ, List.getElem?_cons_zero, Option.some.injEq] at ho2; subst ho2
            refine growI_val (I := (fun d u => (d 8 = false → LW w5 lc [] (.slice la lc.length lb) (.slice none 0 0) u) ∧ (d 10 = false → Blk u w5.heap.size 25 [.slice la lc.length lb, .slice none 0 0]) ∧ (d 10 = true → d 8 = true ∧ ∃ v1, LW w5 (lc ++ [(⟨xi, xm, xk, xu, ⟨xa, xb, xc⟩⟩ : Co)]) [] v1 (.slice none 0 0) u) ∧ (d 8 = true → d 1 = true))) (X := (fun d u v => d 8 = true → ∀ x, (fun v u => LAp w5 (lc ++ [(⟨xi, xm, xk, xu, ⟨xa, xb, xc⟩⟩ : Co)]) [] v (.slice none 0 0) u) x u → (fun v u => LAp w5 (lc ++ [(⟨xi, xm, xk, xu, ⟨xa, xb, xc⟩⟩ : Co)]) [] v (.slice none 0 0) u) x v)) (d := fd) (a := a) (w := w1) (.pointer (some ⟨w5.heap.size, 0, none⟩)) w1 ho rfl ?_ ((fun u => Touch.refl _ _) w1) ⟨fun h => (hI.1 (by simpa [upd] using h)).later (Below.refl _ _), fun h => (hI.2.1 (by simpa [upd] using h)).later (Below.refl _ _), fun h => have h' := hI.2.2.1 (by simpa [upd] using h); ⟨by have := h'.1; simp [upd, this], h'.2.elim fun v1 hv => ⟨v1, hv.later (Below.refl _ _)⟩⟩, fun h => by have h1 := hI.2.2.2 (by simpa [upd] using h); simp [upd, h1]⟩ (fun _ v hv => hv.later (Below.refl _ _)) rfl
            unfold execOp
            simp only [List.map_toArray, List.map_cons, List.map_nil, e10, ec]
            first | rfl | (go_simp; done) | (go_simp; rfl) | (go_simp; omega)
          · have ho2 := ho; simp only [List.getElem?_toArray, List.getElem?_cons_succ, List.getElem?_cons_zero, Option.some.injEq] at ho2; subst ho2
            have hd11 : fd 8 = true := hdd ⟨8, .data⟩ (by simp) rfl
            obtain ⟨v1, d1, hma⟩ : ∃ v1, a.eval (.tmp 60) = v1 ∧ LAp w5 (lc ++ [(⟨xi, xm, xk, xu, ⟨xa, xb, xc⟩⟩ : Co)]) [] v1 (.slice none 0 0) w1 := ⟨_, rfl, hdep ⟨8, .data⟩ (by simp) rfl⟩
            have d0 : a.eval (.tmp 61) = .pointer (some ⟨w5.heap.size, 0, none⟩) := hdep ⟨9, .data⟩ (by simp) rfl
            have hs1 := hI.2.1 hfd
            have q0 := hs1.cell 0
            have q2 := hs1.frozen 0
            simp only [List.getElem?_cons_succ, List.getElem?_cons_zero] at q0
            have hmw := hma.lw hs1
            obtain ⟨va, vc, rfl, _⟩ := Gn.Rd.form (RdK.of hma.oc)
            refine growI_skip (I := (fun d u => (d 8 = false → LW w5 lc [] (.slice la lc.length lb) (.slice none 0 0) u) ∧ (d 10 = false → Blk u w5.heap.size 25 [.slice la lc.length lb, .slice none 0 0]) ∧ (d 10 = true → d 8 = true ∧ ∃ v1, LW w5 (lc ++ [(⟨xi, xm, xk, xu, ⟨xa, xb, xc⟩⟩ : Co)]) [] v1 (.slice none 0 0) u) ∧ (d 8 = true → d 1 = true))) (X := (fun d u v => d 8 = true → ∀ x, (fun v u => LAp w5 (lc ++ [(⟨xi, xm, xk, xu, ⟨xa, xb, xc⟩⟩ : Co)]) [] v (.slice none 0 0) u) x u → (fun v u => LAp w5 (lc ++ [(⟨xi, xm, xk, xu, ⟨xa, xb, xc⟩⟩ : Co)]) [] v (.slice none 0 0) u) x v)) (d := fd) (a := a) (w := w1) (w1.setCell ⟨w5.heap.size, 0, none⟩ _) ho rfl rfl ?_ ((Touch.refl _ _).setCell (.inl rfl) _) ⟨fun h => absurd h (by simp [upd, hd11]), fun h => absurd h (by simp [upd]), fun _ => ⟨by simp [upd, hd11], _, hmw⟩, fun _ => by have h1 := hI.2.2.2 hd11; simp [upd, h1]⟩ (fun _ v hv => hv.put 0 _) trivial
            unfold execOp
            simp only [d0, d1, ec]
            go_simp
        · intro a w1 hI hb hj
          obtain ⟨v1, hmw⟩ := (hI.2.2.1 (by decide)).2
          obtain ⟨va, vc, rfl, _⟩ := Gn.Rd.form (RdK.of hmw.oc)
          rw [HLS.out] at hmw
          exact ⟨va, vc, hmw⟩
        rintro ts w7 ⟨va, vc, hlw⟩
        simp only [fill, List.setIfInBounds_toArray, List.set_cons_succ, List.set_cons_zero]
        have HW7 := Lib.hid hlw
        have hsum := HSUM.out
        have l0 : w7.cell? ⟨w4.heap.size, j, none⟩ = some (.string y) := by
          obtain ⟨gt, ot, hgt, l0⟩ := rdT_cell HRT.out HW7.out.b (i := j) (x := y) HLJ.out
          injection hgt with hgt
          injection hgt with hg1 hg2 _
          subst hg1 hg2
          simpa using l0
        clear hlw x0 x1 p0 p1 p2 p3 p4 p5 p6 s0 s2 HNS HLN HLS hgl hgbl HSUM HLJ
        go_wp2_with fail
        go_roundw
        case rel => exact ⟨j + 1, x ++ y, _, HLT.out, by go_num, rfl, Lib.hid HT1.out.symm, Lib.hid (by rw [HC1.out]; exact HW7.out)⟩
        case measure => have := HLT.out; simp [intOf]; omega
    · have hlt1 : ¬ (j : Int) < cs.length := by omega
      obtain rfl : j = cs.length := by omega
      rw [List.take_length] at HX HW
      obtain ⟨lc, hlc⟩ : ∃ lc, Sc.leftC k 0 cs = lc := ⟨_, rfl⟩
      rw [hlc] at HW
      have HLC := Lib.hid hlc
      have hll : lc.length ≤ 16 := by
        have := (Sc.leftC_sub k cs 0).length_le
        rw [hlc] at this; omega
      obtain ⟨la, lb, rfl, _⟩ := Gn.Rd.form (RdK.of HW.out.oc)
      have hk8 : ks.length ≤ 8 := (Sc.okK_iff.1 HM.out.kk).1
      clear hlc hj
      go_wp2_with fail
      clear x0 x1 HVR
      go_loopw [13] (fun i wr => ∃ (q : Nat) (kv : Value), q ≤ ks.length ∧ i = .int .i64 (q : Nat) ∧ Hid (LW w5 lc (Sc.shift (ks.take q) k) (.slice la lc.length lb) kv wr)) (fun i _ => ks.length - (intOf i).toNat)
      case atStart => exact ⟨0, _, by omega, by rfl, HW⟩
      case round =>
        clear HW
        obtain ⟨q, kv, hq, rfl, HW⟩ := hrel
        have HVR := Lib.hid (HV5.out.later HW.out.b)
        obtain ⟨x0, x1⟩ := HVR.out.lie
        obtain ⟨za, zc, rfl, _⟩ := Gn.Rd.form (RdI.of HW.out.ok)
        by_cases hqt : q < ks.length
        · have hqt1 : (q : Int) < ks.length := by omega
          have HQT := Lib.hid hqt
          have hq8 : (q : Int) < 16 := by omega
          obtain ⟨z, hz⟩ : ∃ z, ks[q]? = some z := ⟨_, List.getElem?_eq_getElem hqt⟩
          obtain ⟨z0, z1⟩ := Sc.okK_range HM.out.kk z (List.mem_of_getElem? hz)
          obtain ⟨gk, ok, rfl, p0⟩ := rdI_cell HVR.out.k (Below.refl _ _) hz
          have HTK : Hid (Sc.shift (ks.take (q + 1)) k = Sc.shift (ks.take q) k ++ (if z = (k : Int) then [] else [if z > (k : Int) then z - 1 else z])) := Lib.hid (by rw [List.take_add_one, hz]; exact Sc.shift_snoc _ _ _)
          have hsl : (Sc.shift (ks.take q) k).length ≤ 8 := by
            unfold Sc.shift
            rw [List.length_map]
            have := List.length_filter_le (fun x => decide (x ≠ (k : Int))) (ks.take q)
            rw [List.length_take] at this
            omega
          obtain ⟨kk, hkk⟩ : ∃ kk, Sc.shift (ks.take q) k = kk := ⟨_, rfl⟩
          rw [hkk] at HW HTK hsl
          have hgl : g < w5.heap.size := HV5.out.x.lt
          have hgkl : gk < w5.heap.size := by
            obtain ⟨b', off', e1, h1, _⟩ := Gn.Rd.at HV5.out.k (Below.refl _ _) (i := q) hqt
            injection e1 with e1; injection e1 with e1 _ _; omega
          have HNS : Hid (∀ r, r < w5.heap.size → ¬ (r = w5.heap.size ∨ (Value.slice za kk.length zc).ownBlock = some r)) := Lib.hid (fun r h1 h2 => by
            rcases h2 with h2 | h2
            · omega
            · have := (HW.out.ok.lt r h2).1; omega)
          clear hz hkk
          rcases (show z < (k : Int) ∨ z = (k : Int) ∨ z > (k : Int) by omega) with hzk | hzk | hzk
          · have HTK1 : Hid (Sc.shift (ks.take (q + 1)) k = kk ++ [z]) := Lib.hid (by rw [HTK.out, if_neg (by omega), if_neg (by omega)])
            have HLN : Hid (kk.length + ([z] : List Int).length ≤ 100000000) := Lib.hid (by simp; omega)
            have HLS : Hid ((kk ++ [z]).length = kk.length + 1) := Lib.hid (by simp)
            go_upto_region 19 with fail
            refine region_growI_merge (fun u v => Touch (fun q => q = w5.heap.size ∨ (Value.slice za kk.length zc).ownBlock = some q) u v) (fun d u => (d 8 = false → LW w5 lc kk (.slice la lc.length lb) (.slice za kk.length zc) u) ∧ (d 10 = false → Blk u w5.heap.size 25 [.slice la lc.length lb, .slice za kk.length zc]) ∧ (d 10 = true → d 8 = true ∧ ∃ v1, LW w5 lc (kk ++ [(z)]) (.slice la lc.length lb) v1 u) ∧ (d 8 = true → d 1 = true)) (fun d u v => d 8 = true → ∀ x, (fun v u => LAp w5 lc (kk ++ [(z)]) (.slice la lc.length lb) v u) x u → (fun v u => LAp w5 lc (kk ++ [(z)]) (.slice la lc.length lb) v u) x v) (fun u => Touch.refl _ _) (fun _ _ _ h k => h.trans k (fun _ h => .inl h)) (kjP 8 (fun v u => LAp w5 lc (kk ++ [(z)]) (.slice la lc.length lb) v u) #[Spc.eq (.pointer (some ⟨w5.heap.size, 1, none⟩)), Spc.eq (.slice za kk.length zc), Spc.eq (.pointer (some ⟨g, 1, none⟩)), Spc.eq (.slice (some ⟨gk, ok, none⟩) ks.length kc), Spc.eq (.int .i64 (q : Nat)), Spc.eq (.pointer (some ⟨gk, ok + q, none⟩)), Spc.eq (.int .i64 z), ⟨fun v u => ∃ b, v = .slice (some ⟨b, 0, none⟩) 1 1 ∧ ¬ (b = w5.heap.size ∨ (Value.slice za kk.length zc).ownBlock = some b) ∧ Blk u b 3 [.int .i64 (z)], fun _ _ _ h hb => by obtain ⟨b, h1, h2, h3⟩ := h; exact ⟨b, h1, h2, h3.touch hb h2⟩⟩, Spc.any, Spc.eq (.pointer (some ⟨w5.heap.size, 1, none⟩)), Spc.any]) [82, 83, 84, 85, 86, 87, 88, 89, 90, 91] (fun ts u => ∃ va vc, LW w5 lc (kk ++ [(z)]) (.slice la lc.length lb) (.slice va (kk.length + 1) vc) u) (by kernel_rfl) (by kernel_rfl) (by kernel_rfl) kjP_later ⟨fun _ => HW.out.later (Below.refl _ _).drew, fun _ => HW.out.s.later (Below.refl _ _).drew, fun h => (by cases h), fun h => (by cases h)⟩ ?_ ?_ ?_
            · intro QQ fd jo o a w1 ho hfd hdd hI hb hs hold hdep
              have hjo : jo < 11 := (Array.getElem?_eq_some_iff.1 ho).1
              skip
              have x1' : w1.cell? ⟨g, 1, none⟩ = some (.slice (some ⟨gk, ok, none⟩) ks.length kc) := (hb.cell (p := ⟨g, 1, none⟩) (cell_lt x1) (HNS.out _ (by simp only; omega))).trans x1
              have p0' : w1.cell? ⟨gk, ok + q, none⟩ = some (.int .i64 z) := (hb.cell (p := ⟨gk, ok + q, none⟩) (cell_lt p0) (HNS.out _ (by simp only; omega))).trans p0
              clear x0 x1 p0
              have hszr : wr.heap.size ≤ w1.heap.size := hb.size
              have hfr : ¬ (w1.heap.size = w5.heap.size ∨ (Value.slice za kk.length zc).ownBlock = some w1.heap.size) := by
                rintro (h | h)
                · have := HW.out.sz; omega
                · have := (HW.out.ok.lt _ h).2; omega
              have e5 : a.eval (.tmp 5) = .pointer (some ⟨g, 0, none⟩) := by
                show a.tmps.getD 5 undef = _
                rw [Array.getD_eq_getD_getElem?, hold 5 (by decide +kernel)]; rfl
              have e10 : a.eval (.tmp 10) = .pointer (some ⟨w5.heap.size, 0, none⟩) := by
                show a.tmps.getD 10 undef = _
                rw [Array.getD_eq_getD_getElem?, hold 10 (by decide +kernel)]; rfl
              have e13 : a.eval (.tmp 13) = .int .i64 (q : Nat) := by
                show a.tmps.getD 13 undef = _
                rw [Array.getD_eq_getD_getElem?, hold 13 (by decide +kernel)]; rfl
              have ec : ∀ v, a.eval (.const v) = v := fun _ => rfl
              clear hold hs
              rcases (show jo = 0 ∨ jo = 1 ∨ jo = 2 ∨ jo = 3 ∨ jo = 4 ∨ jo = 5 ∨ jo = 6 ∨ jo = 7 ∨ jo = 8 ∨ jo = 9 ∨ jo = 10 by omega) with rfl | rfl | rfl | rfl | rfl | rfl | rfl | rfl | rfl | rfl | rfl
              · have ho2 := ho; simp only [List.getElem?_toArray, List.getElem?_cons_succ, List.getElem?_cons_zero, Option.some.injEq] at ho2; subst ho2
                refine growI_val (I := (fun d u => (d 8 = false → LW w5 lc kk (.slice la lc.length lb) (.slice za kk.length zc) u) ∧ (d 10 = false → Blk u w5.heap.size 25 [.slice la lc.length lb, .slice za kk.length zc]) ∧ (d 10 = true → d 8 = true ∧ ∃ v1, LW w5 lc (kk ++ [(z)]) (.slice la lc.length lb) v1 u) ∧ (d 8 = true → d 1 = true))) (X := (fun d u v => d 8 = true → ∀ x, (fun v u => LAp w5 lc (kk ++ [(z)]) (.slice la lc.length lb) v u) x u → (fun v u => LAp w5 lc (kk ++ [(z)]) (.slice la lc.length lb) v u) x v)) (d := fd) (a := a) (w := w1) (.pointer (some ⟨w5.heap.size, 1, none⟩)) w1 ho rfl ?_ ((fun u => Touch.refl _ _) w1) ⟨fun h => (hI.1 (by simpa [upd] using h)).later (Below.refl _ _), fun h => (hI.2.1 (by simpa [upd] using h)).later (Below.refl _ _), fun h => have h' := hI.2.2.1 (by simpa [upd] using h); ⟨by have := h'.1; simp [upd, this], h'.2.elim fun v1 hv => ⟨v1, hv.later (Below.refl _ _)⟩⟩, fun h => by have h1 := hI.2.2.2 (by simpa [upd] using h); simp [upd, h1]⟩ (fun _ v hv => hv.later (Below.refl _ _)) rfl
                unfold execOp
                simp only [List.map_toArray, List.map_cons, List.map_nil, e10, ec]
                first | rfl | (go_simp; done) | (go_simp; rfl) | (go_simp; omega)
              · have ho2 := ho; simp only [List.getElem?_toArray, List.getElem?_cons_succ, List.getElem?_cons_zero, Option.some.injEq] at ho2; subst ho2
                have d0 : a.eval (.tmp 82) = .pointer (some ⟨w5.heap.size, 1, none⟩) := hdep ⟨0, .data⟩ (by simp) rfl
                refine growI_val (I := (fun d u => (d 8 = false → LW w5 lc kk (.slice la lc.length lb) (.slice za kk.length zc) u) ∧ (d 10 = false → Blk u w5.heap.size 25 [.slice la lc.length lb, .slice za kk.length zc]) ∧ (d 10 = true → d 8 = true ∧ ∃ v1, LW w5 lc (kk ++ [(z)]) (.slice la lc.length lb) v1 u) ∧ (d 8 = true → d 1 = true))) (X := (fun d u v => d 8 = true → ∀ x, (fun v u => LAp w5 lc (kk ++ [(z)]) (.slice la lc.length lb) v u) x u → (fun v u => LAp w5 lc (kk ++ [(z)]) (.slice la lc.length lb) v u) x v)) (d := fd) (a := a) (w := w1) (.slice za kk.length zc) w1 ho rfl ?_ ((fun u => Touch.refl _ _) w1) ⟨fun h => (hI.1 (by simpa [upd] using h)).later (Below.refl _ _), fun h => (hI.2.1 (by simpa [upd] using h)).later (Below.refl _ _), fun h => have h' := hI.2.2.1 (by simpa [upd] using h); ⟨by have := h'.1; simp [upd, this], h'.2.elim fun v1 hv => ⟨v1, hv.later (Below.refl _ _)⟩⟩, fun h => by have h1 := hI.2.2.2 (by simpa [upd] using h); simp [upd, h1]⟩ (fun _ v hv => hv.later (Below.refl _ _)) rfl
                have hd13 : fd 10 = false := by
                  cases h : fd 10 with
                  | false => rfl
                  | true => exact absurd (hI.2.2.2 (hI.2.2.1 h).1) (by rw [hfd]; decide)
                have hl := (hI.2.1 hd13).cell 1
                simp only [List.getElem?_cons_succ, List.getElem?_cons_zero] at hl
                have d0 : a.eval (.tmp 82) = .pointer (some ⟨w5.heap.size, 1, none⟩) := hdep ⟨0, .data⟩ (by simp) rfl
                unfold execOp
                simp only [d0, ec]
                go_simp
              · have ho2 := ho; simp only [List.getElem?_toArray, List.getElem?_cons_succ, List.getElem?_cons_zero, Option.some.injEq] at ho2; subst ho2
                refine growI_val (I := (fun d u => (d 8 = false → LW w5 lc kk (.slice la lc.length lb) (.slice za kk.length zc) u) ∧ (d 10 = false → Blk u w5.heap.size 25 [.slice la lc.length lb, .slice za kk.length zc]) ∧ (d 10 = true → d 8 = true ∧ ∃ v1, LW w5 lc (kk ++ [(z)]) (.slice la lc.length lb) v1 u) ∧ (d 8 = true → d 1 = true))) (X := (fun d u v => d 8 = true → ∀ x, (fun v u => LAp w5 lc (kk ++ [(z)]) (.slice la lc.length lb) v u) x u → (fun v u => LAp w5 lc (kk ++ [(z)]) (.slice la lc.length lb) v u) x v)) (d := fd) (a := a) (w := w1) (.pointer (some ⟨g, 1, none⟩)) w1 ho rfl ?_ ((fun u => Touch.refl _ _) w1) ⟨fun h => (hI.1 (by simpa [upd] using h)).later (Below.refl _ _), fun h => (hI.2.1 (by simpa [upd] using h)).later (Below.refl _ _), fun h => have h' := hI.2.2.1 (by simpa [upd] using h); ⟨by have := h'.1; simp [upd, this], h'.2.elim fun v1 hv => ⟨v1, hv.later (Below.refl _ _)⟩⟩, fun h => by have h1 := hI.2.2.2 (by simpa [upd] using h); simp [upd, h1]⟩ (fun _ v hv => hv.later (Below.refl _ _)) rfl
                unfold execOp
                simp only [List.map_toArray, List.map_cons, List.map_nil, e5, ec]
                first | rfl | (go_simp; done) | (go_simp; rfl) | (go_simp; omega)
              · have ho2 := ho; simp only [List.getElem?_toArray, List.getElem?_cons_succ, List.getElem?_cons_zero, Option.some.injEq] at ho2; subst ho2
                have d0 : a.eval (.tmp 84) = .pointer (some ⟨g, 1, none⟩) := hdep ⟨2, .data⟩ (by simp) rfl
                refine growI_val (I := (fun d u => (d 8 = false → LW w5 lc kk (.slice la lc.length lb) (.slice za kk.length zc) u) ∧ (d 10 = false → Blk u w5.heap.size 25 [.slice la lc.length lb, .slice za kk.length zc]) ∧ (d 10 = true → d 8 = true ∧ ∃ v1, LW w5 lc (kk ++ [(z)]) (.slice la lc.length lb) v1 u) ∧ (d 8 = true → d 1 = true))) (X := (fun d u v => d 8 = true → ∀ x, (fun v u => LAp w5 lc (kk ++ [(z)]) (.slice la lc.length lb) v u) x u → (fun v u => LAp w5 lc (kk ++ [(z)]) (.slice la lc.length lb) v u) x v)) (d := fd) (a := a) (w := w1) (.slice (some ⟨gk, ok, none⟩) ks.length kc) w1 ho rfl ?_ ((fun u => Touch.refl _ _) w1) ⟨fun h => (hI.1 (by simpa [upd] using h)).later (Below.refl _ _), fun h => (hI.2.1 (by simpa [upd] using h)).later (Below.refl _ _), fun h => have h' := hI.2.2.1 (by simpa [upd] using h); ⟨by have := h'.1; simp [upd, this], h'.2.elim fun v1 hv => ⟨v1, hv.later (Below.refl _ _)⟩⟩, fun h => by have h1 := hI.2.2.2 (by simpa [upd] using h); simp [upd, h1]⟩ (fun _ v hv => hv.later (Below.refl _ _)) rfl
                unfold execOp
                simp only [List.map_toArray, List.map_cons, List.map_nil, d0, ec]
                first | rfl | (go_simp; done) | (go_simp; rfl) | (go_simp; omega)
              · have ho2 := ho; simp only [List.getElem?_toArray, List.getElem?_cons_succ, List.getElem?_cons_zero, Option.some.injEq] at ho2; subst ho2
                refine growI_val (I := (fun d u => (d 8 = false → LW w5 lc kk (.slice la lc.length lb) (.slice za kk.length zc) u) ∧ (d 10 = false → Blk u w5.heap.size 25 [.slice la lc.length lb, .slice za kk.length zc]) ∧ (d 10 = true → d 8 = true ∧ ∃ v1, LW w5 lc (kk ++ [(z)]) (.slice la lc.length lb) v1 u) ∧ (d 8 = true → d 1 = true))) (X := (fun d u v => d 8 = true → ∀ x, (fun v u => LAp w5 lc (kk ++ [(z)]) (.slice la lc.length lb) v u) x u → (fun v u => LAp w5 lc (kk ++ [(z)]) (.slice la lc.length lb) v u) x v)) (d := fd) (a := a) (w := w1) (.int .i64 (q : Nat)) w1 ho rfl ?_ ((fun u => Touch.refl _ _) w1) ⟨fun h => (hI.1 (by simpa [upd] using h)).later (Below.refl _ _), fun h => (hI.2.1 (by simpa [upd] using h)).later (Below.refl _ _), fun h => have h' := hI.2.2.1 (by simpa [upd] using h); ⟨by have := h'.1; simp [upd, this], h'.2.elim fun v1 hv => ⟨v1, hv.later (Below.refl _ _)⟩⟩, fun h => by have h1 := hI.2.2.2 (by simpa [upd] using h); simp [upd, h1]⟩ (fun _ v hv => hv.later (Below.refl _ _)) rfl
                unfold execOp
                simp only [List.map_toArray, List.map_cons, List.map_nil, e13, ec]
                first | rfl | (go_simp; done) | (go_simp; rfl) | (go_simp; omega)
              · have ho2 := ho; simp only [List.getElem?_toArray, List.getElem?_cons_succ, List.getElem?_cons_zero, Option.some.injEq] at ho2; subst ho2
                have d0 : a.eval (.tmp 85) = .slice (some ⟨gk, ok, none⟩) ks.length kc := hdep ⟨3, .data⟩ (by simp) rfl
                have d1 : a.eval (.tmp 86) = .int .i64 (q : Nat) := hdep ⟨4, .data⟩ (by simp) rfl
                refine growI_val (I := (fun d u => (d 8 = false → LW w5 lc kk (.slice la lc.length lb) (.slice za kk.length zc) u) ∧ (d 10 = false → Blk u w5.heap.size 25 [.slice la lc.length lb, .slice za kk.length zc]) ∧ (d 10 = true → d 8 = true ∧ ∃ v1, LW w5 lc (kk ++ [(z)]) (.slice la lc.length lb) v1 u) ∧ (d 8 = true → d 1 = true))) (X := (fun d u v => d 8 = true → ∀ x, (fun v u => LAp w5 lc (kk ++ [(z)]) (.slice la lc.length lb) v u) x u → (fun v u => LAp w5 lc (kk ++ [(z)]) (.slice la lc.length lb) v u) x v)) (d := fd) (a := a) (w := w1) (.pointer (some ⟨gk, ok + q, none⟩)) w1 ho rfl ?_ ((fun u => Touch.refl _ _) w1) ⟨fun h => (hI.1 (by simpa [upd] using h)).later (Below.refl _ _), fun h => (hI.2.1 (by simpa [upd] using h)).later (Below.refl _ _), fun h => have h' := hI.2.2.1 (by simpa [upd] using h); ⟨by have := h'.1; simp [upd, this], h'.2.elim fun v1 hv => ⟨v1, hv.later (Below.refl _ _)⟩⟩, fun h => by have h1 := hI.2.2.2 (by simpa [upd] using h); simp [upd, h1]⟩ (fun _ v hv => hv.later (Below.refl _ _)) rfl
                unfold execOp
                simp only [List.map_toArray, List.map_cons, List.map_nil, d0, d1, ec]
                first | rfl | (go_simp; done) | (go_simp; rfl) | (go_simp; omega)
              · have ho2 := ho; simp only [List.getElem?_toArray, List.getElem?_cons_succ, List.getElem?_cons_zero, Option.some.injEq] at ho2; subst ho2
                have d0 : a.eval (.tmp 87) = .pointer (some ⟨gk, ok + q, none⟩) := hdep ⟨5, .data⟩ (by simp) rfl
                refine growI_val (I := (fun d u => (d 8 = false → LW w5 lc kk (.slice la lc.length lb) (.slice za kk.length zc) u) ∧ (d 10 = false → Blk u w5.heap.size 25 [.slice la lc.length lb, .slice za kk.length zc]) ∧ (d 10 = true → d 8 = true ∧ ∃ v1, LW w5 lc (kk ++ [(z)]) (.slice la lc.length lb) v1 u) ∧ (d 8 = true → d 1 = true))) (X := (fun d u v => d 8 = true → ∀ x, (fun v u => LAp w5 lc (kk ++ [(z)]) (.slice la lc.length lb) v u) x u → (fun v u => LAp w5 lc (kk ++ [(z)]) (.slice la lc.length lb) v u) x v)) (d := fd) (a := a) (w := w1) (.int .i64 z) w1 ho rfl ?_ ((fun u => Touch.refl _ _) w1) ⟨fun h => (hI.1 (by simpa [upd] using h)).later (Below.refl _ _), fun h => (hI.2.1 (by simpa [upd] using h)).later (Below.refl _ _), fun h => have h' := hI.2.2.1 (by simpa [upd] using h); ⟨by have := h'.1; simp [upd, this], h'.2.elim fun v1 hv => ⟨v1, hv.later (Below.refl _ _)⟩⟩, fun h => by have h1 := hI.2.2.2 (by simpa [upd] using h); simp [upd, h1]⟩ (fun _ v hv => hv.later (Below.refl _ _)) rfl
                unfold execOp
                simp only [List.map_toArray, List.map_cons, List.map_nil, d0, ec]
                first | rfl | (go_simp; done) | (go_simp; rfl) | (go_simp; omega)
              · have ho2 := ho; simp only [List.getElem?_toArray, List.getElem?_cons_succ, List.getElem?_cons_zero, Option.some.injEq] at ho2; subst ho2
                have d0 : a.eval (.tmp 88) = .int .i64 z := hdep ⟨6, .data⟩ (by simp) rfl
                refine growI_val (I := (fun d u => (d 8 = false → LW w5 lc kk (.slice la lc.length lb) (.slice za kk.length zc) u) ∧ (d 10 = false → Blk u w5.heap.size 25 [.slice la lc.length lb, .slice za kk.length zc]) ∧ (d 10 = true → d 8 = true ∧ ∃ v1, LW w5 lc (kk ++ [(z)]) (.slice la lc.length lb) v1 u) ∧ (d 8 = true → d 1 = true))) (X := (fun d u v => d 8 = true → ∀ x, (fun v u => LAp w5 lc (kk ++ [(z)]) (.slice la lc.length lb) v u) x u → (fun v u => LAp w5 lc (kk ++ [(z)]) (.slice la lc.length lb) v u) x v)) (d := fd) (a := a) (w := w1) (.slice (some ⟨w1.heap.size, 0, none⟩) 1 1) (w1.alloc (.cells #[.int .i64 (z)] 3)) ho rfl ?_ ((Touch.of_below (box_new _ _))) ⟨fun h => (hI.1 (by simpa [upd] using h)).later (box_new _ _), fun h => (hI.2.1 (by simpa [upd] using h)).later (box_new _ _), fun h => have h' := hI.2.2.1 (by simpa [upd] using h); ⟨by have := h'.1; simp [upd, this], h'.2.elim fun v1 hv => ⟨v1, hv.later (box_new _ _)⟩⟩, fun h => by have h1 := hI.2.2.2 (by simpa [upd] using h); simp [upd, h1]⟩ (fun _ v hv => hv.later (box_new _ _)) ⟨_, rfl, hfr, Blk.new w1 3 #[.int .i64 (z)]⟩
                unfold execOp
                simp only [List.map_toArray, List.map_cons, List.map_nil, d0, ec]
                generalize a.eval = ev at *
                go_simp
              · have ho2 := ho; simp only [List.getElem?_toArray, List.getElem?_cons_succ, List.getElem?_cons_zero, Option.some.injEq] at ho2; subst ho2
                obtain ⟨b, d1, hbn, hbk⟩ : ∃ b, a.eval (.tmp 89) = .slice (some ⟨b, 0, none⟩) 1 1 ∧ ¬ (b = w5.heap.size ∨ (Value.slice za kk.length zc).ownBlock = some b) ∧ Blk w1 b 3 [.int .i64 (z)] := hdep ⟨7, .data⟩ (by simp) rfl
                have d0 : a.eval (.tmp 83) = .slice za kk.length zc := hdep ⟨1, .data⟩ (by simp) rfl
                have hm1 := hI.1 hfd
                obtain ⟨v', w', hrun, ho1, hg1, _, _⟩ := Gn.run_app inL inY w1 23 (w5.heap.size + 1) (.slice za kk.length zc) kk hm1.ok (.slice (some ⟨b, 0, none⟩) 1 1) [(z)] (rd_blkI hbk) HLN.out hm1.sz
                have hma := hm1.appk ho1 hg1
                refine growI_val (I := (fun d u => (d 8 = false → LW w5 lc kk (.slice la lc.length lb) (.slice za kk.length zc) u) ∧ (d 10 = false → Blk u w5.heap.size 25 [.slice la lc.length lb, .slice za kk.length zc]) ∧ (d 10 = true → d 8 = true ∧ ∃ v1, LW w5 lc (kk ++ [(z)]) (.slice la lc.length lb) v1 u) ∧ (d 8 = true → d 1 = true))) (X := (fun d u v => d 8 = true → ∀ x, (fun v u => LAp w5 lc (kk ++ [(z)]) (.slice la lc.length lb) v u) x u → (fun v u => LAp w5 lc (kk ++ [(z)]) (.slice la lc.length lb) v u) x v)) (d := fd) (a := a) (w := w1) v' w' ho rfl ?_ (Touch.of_grown hg1 (fun q hq => .inr hq)) ⟨fun h => absurd h (by simp [upd]), fun _ => hma.2, fun h => absurd (hI.2.2.1 (by simpa [upd] using h)).1 (by rw [hfd]; decide), fun _ => by have h1 : fd 1 = true := hdd ⟨1, .data⟩ (by simp) rfl; simp [upd, h1]⟩ (fun h => by rw [hfd] at h; cases h) hma.1
                unfold execOp resolve
                simp only [List.map_toArray, List.map_cons, List.map_nil, d0, d1, ec, invoke, builtin, Sem.run_bind, Sem.run_pure, Result.andThen_ok, hrun]
              · have ho2 := ho; simp only [List.getElem?_toArray, List.getElem?_cons_succ, List.getElem?_cons_zero, Option.some.injEq] at ho2; subst ho2
                refine growI_val (I := (fun d u => (d 8 = false → LW w5 lc kk (.slice la lc.length lb) (.slice za kk.length zc) u) ∧ (d 10 = false → Blk u w5.heap.size 25 [.slice la lc.length lb, .slice za kk.length zc]) ∧ (d 10 = true → d 8 = true ∧ ∃ v1, LW w5 lc (kk ++ [(z)]) (.slice la lc.length lb) v1 u) ∧ (d 8 = true → d 1 = true))) (X := (fun d u v => d 8 = true → ∀ x, (fun v u => LAp w5 lc (kk ++ [(z)]) (.slice la lc.length lb) v u) x u → (fun v u => LAp w5 lc (kk ++ [(z)]) (.slice la lc.length lb) v u) x v)) (d := fd) (a := a) (w := w1) (.pointer (some ⟨w5.heap.size, 1, none⟩)) w1 ho rfl ?_ ((fun u => Touch.refl _ _) w1) ⟨fun h => (hI.1 (by simpa [upd] using h)).later (Below.refl _ _), fun h => (hI.2.1 (by simpa [upd] using h)).later (Below.refl _ _), fun h => have h' := hI.2.2.1 (by simpa [upd] using h); ⟨by have := h'.1; simp [upd, this], h'.2.elim fun v1 hv => ⟨v1, hv.later (Below.refl _ _)⟩⟩, fun h => by have h1 := hI.2.2.2 (by simpa [upd] using h); simp [upd, h1]⟩ (fun _ v hv => hv.later (Below.refl _ _)) rfl
                unfold execOp
                simp only [List.map_toArray, List.map_cons, List.map_nil, e10, ec]
                first | rfl | (go_simp; done) | (go_simp; rfl) | (go_simp; omega)
              · have ho2 := ho; simp only [List.getElem?_toArray, List.getElem?_cons_succ, List.getElem?_cons_zero, Option.some.injEq] at ho2; subst ho2
                have hd11 : fd 8 = true := hdd ⟨8, .data⟩ (by simp) rfl
                obtain ⟨v1, d1, hma⟩ : ∃ v1, a.eval (.tmp 90) = v1 ∧ LAp w5 lc (kk ++ [(z)]) (.slice la lc.length lb) v1 w1 := ⟨_, rfl, hdep ⟨8, .data⟩ (by simp) rfl⟩
                have d0 : a.eval (.tmp 91) = .pointer (some ⟨w5.heap.size, 1, none⟩) := hdep ⟨9, .data⟩ (by simp) rfl
                have hs1 := hI.2.1 hfd
                have q0 := hs1.cell 1
                have q2 := hs1.frozen 1
                simp only [List.getElem?_cons_succ, List.getElem?_cons_zero] at q0
                have hmw := hma.lwk hs1
                obtain ⟨va, vc, rfl, _⟩ := Gn.Rd.form (RdI.of hma.ok)
                refine growI_skip (I := (fun d u => (d 8 = false → LW w5 lc kk (.slice la lc.length lb) (.slice za kk.length zc) u) ∧ (d 10 = false → Blk u w5.heap.size 25 [.slice la lc.length lb, .slice za kk.length zc]) ∧ (d 10 = true → d 8 = true ∧ ∃ v1, LW w5 lc (kk ++ [(z)]) (.slice la lc.length lb) v1 u) ∧ (d 8 = true → d 1 = true))) (X := (fun d u v => d 8 = true → ∀ x, (fun v u => LAp w5 lc (kk ++ [(z)]) (.slice la lc.length lb) v u) x u → (fun v u => LAp w5 lc (kk ++ [(z)]) (.slice la lc.length lb) v u) x v)) (d := fd) (a := a) (w := w1) (w1.setCell ⟨w5.heap.size, 1, none⟩ _) ho rfl rfl ?_ ((Touch.refl _ _).setCell (.inl rfl) _) ⟨fun h => absurd h (by simp [upd, hd11]), fun h => absurd h (by simp [upd]), fun _ => ⟨by simp [upd, hd11], _, hmw⟩, fun _ => by have h1 := hI.2.2.2 hd11; simp [upd, h1]⟩ (fun _ v hv => hv.put 1 _) trivial
                unfold execOp
                simp only [d0, d1, ec]
                go_simp
            · intro a w1 hI hb hj
              obtain ⟨v1, hmw⟩ := (hI.2.2.1 (by decide)).2
              obtain ⟨va, vc, rfl, _⟩ := Gn.Rd.form (RdI.of hmw.ok)
              rw [HLS.out] at hmw
              exact ⟨va, vc, hmw⟩
            rintro ts w7 ⟨va, vc, hlw⟩
            simp only [fill, List.setIfInBounds_toArray, List.set_cons_succ, List.set_cons_zero]
            have HW7 := Lib.hid hlw
            clear hlw x0 x1 p0 HNS HLN HLS hgl hgkl HTK
            go_wp2_with fail
            go_roundw
            case rel => exact ⟨q + 1, _, HQT.out, by go_num, Lib.hid (by rw [HTK1.out]; exact HW7.out)⟩
            case measure => have := HQT.out; simp [intOf]; omega
          · have HTK1 : Hid (Sc.shift (ks.take (q + 1)) k = kk) := Lib.hid (by rw [HTK.out, if_pos hzk, List.append_nil])
            have hz1' : ¬ z < (k : Int) := by omega
            have hz2' : ¬ (k : Int) < z := by omega
            clear HNS hgl hgkl HTK hzk
            go_wp2_with fail
            go_roundw
            case rel => exact ⟨q + 1, _, HQT.out, by go_num, Lib.hid (by rw [HTK1.out]; exact HW.out)⟩
            case measure => have := HQT.out; simp [intOf]; omega
          · have HTK1 : Hid (Sc.shift (ks.take (q + 1)) k = kk ++ [z - 1]) := Lib.hid (by rw [HTK.out, if_neg (by omega), if_pos hzk])
            have HLN : Hid (kk.length + ([z - 1] : List Int).length ≤ 100000000) := Lib.hid (by simp; omega)
            have HLS : Hid ((kk ++ [z - 1]).length = kk.length + 1) := Lib.hid (by simp)
            have hz1' : ¬ z < (k : Int) := by omega
            have hz2' : (k : Int) < z := by omega
            have hwz : IntKind.i64.wrap (z - 1) = z - 1 := IntWalk.i64_in _ ⟨by omega, by omega⟩
            go_upto_region 21 with fail
            refine region_growI_merge (fun u v => Touch (fun q => q = w5.heap.size ∨ (Value.slice za kk.length zc).ownBlock = some q) u v) (fun d u => (d 9 = false → LW w5 lc kk (.slice la lc.length lb) (.slice za kk.length zc) u) ∧ (d 11 = false → Blk u w5.heap.size 25 [.slice la lc.length lb, .slice za kk.length zc]) ∧ (d 11 = true → d 9 = true ∧ ∃ v1, LW w5 lc (kk ++ [(z - 1)]) (.slice la lc.length lb) v1 u) ∧ (d 9 = true → d 1 = true)) (fun d u v => d 9 = true → ∀ x, (fun v u => LAp w5 lc (kk ++ [(z - 1)]) (.slice la lc.length lb) v u) x u → (fun v u => LAp w5 lc (kk ++ [(z - 1)]) (.slice la lc.length lb) v u) x v) (fun u => Touch.refl _ _) (fun _ _ _ h k => h.trans k (fun _ h => .inl h)) (kjP 9 (fun v u => LAp w5 lc (kk ++ [(z - 1)]) (.slice la lc.length lb) v u) #[Spc.eq (.pointer (some ⟨w5.heap.size, 1, none⟩)), Spc.eq (.slice za kk.length zc), Spc.eq (.pointer (some ⟨g, 1, none⟩)), Spc.eq (.slice (some ⟨gk, ok, none⟩) ks.length kc), Spc.eq (.int .i64 (q : Nat)), Spc.eq (.pointer (some ⟨gk, ok + q, none⟩)), Spc.eq (.int .i64 z), Spc.eq (.int .i64 (z - 1)), ⟨fun v u => ∃ b, v = .slice (some ⟨b, 0, none⟩) 1 1 ∧ ¬ (b = w5.heap.size ∨ (Value.slice za kk.length zc).ownBlock = some b) ∧ Blk u b 3 [.int .i64 (z - 1)], fun _ _ _ h hb => by obtain ⟨b, h1, h2, h3⟩ := h; exact ⟨b, h1, h2, h3.touch hb h2⟩⟩, Spc.any, Spc.eq (.pointer (some ⟨w5.heap.size, 1, none⟩)), Spc.any]) [99, 100, 101, 102, 103, 104, 105, 106, 107, 108, 109] (fun ts u => ∃ va vc, LW w5 lc (kk ++ [(z - 1)]) (.slice la lc.length lb) (.slice va (kk.length + 1) vc) u) (by kernel_rfl) (by kernel_rfl) (by kernel_rfl) kjP_later ⟨fun _ => HW.out.later (Below.refl _ _).drew, fun _ => HW.out.s.later (Below.refl _ _).drew, fun h => (by cases h), fun h => (by cases h)⟩ ?_ ?_ ?_
            · intro QQ fd jo o a w1 ho hfd hdd hI hb hs hold hdep
              have hjo : jo < 12 := (Array.getElem?_eq_some_iff.1 ho).1
              skip
              have x1' : w1.cell? ⟨g, 1, none⟩ = some (.slice (some ⟨gk, ok, none⟩) ks.length kc) := (hb.cell (p := ⟨g, 1, none⟩) (cell_lt x1) (HNS.out _ (by simp only; omega))).trans x1
              have p0' : w1.cell? ⟨gk, ok + q, none⟩ = some (.int .i64 z) := (hb.cell (p := ⟨gk, ok + q, none⟩) (cell_lt p0) (HNS.out _ (by simp only; omega))).trans p0
              clear x0 x1 p0
              have hszr : wr.heap.size ≤ w1.heap.size := hb.size
              have hfr : ¬ (w1.heap.size = w5.heap.size ∨ (Value.slice za kk.length zc).ownBlock = some w1.heap.size) := by
                rintro (h | h)
                · have := HW.out.sz; omega
                · have := (HW.out.ok.lt _ h).2; omega
              have e5 : a.eval (.tmp 5) = .pointer (some ⟨g, 0, none⟩) := by
                show a.tmps.getD 5 undef = _
                rw [Array.getD_eq_getD_getElem?, hold 5 (by decide +kernel)]; rfl
              have e10 : a.eval (.tmp 10) = .pointer (some ⟨w5.heap.size, 0, none⟩) := by
                show a.tmps.getD 10 undef = _
                rw [Array.getD_eq_getD_getElem?, hold 10 (by decide +kernel)]; rfl
              have e13 : a.eval (.tmp 13) = .int .i64 (q : Nat) := by
                show a.tmps.getD 13 undef = _
                rw [Array.getD_eq_getD_getElem?, hold 13 (by decide +kernel)]; rfl
              have ec : ∀ v, a.eval (.const v) = v := fun _ => rfl
              clear hold hs
              rcases (show jo = 0 ∨ jo = 1 ∨ jo = 2 ∨ jo = 3 ∨ jo = 4 ∨ jo = 5 ∨ jo = 6 ∨ jo = 7 ∨ jo = 8 ∨ jo = 9 ∨ jo = 10 ∨ jo = 11 by omega) with rfl | rfl | rfl | rfl | rfl | rfl | rfl | rfl | rfl | rfl | rfl | rfl
              · have ho2 := ho; simp only [List.getElem?_toArray, List.getElem?_cons_succ, List.getElem?_cons_zero, Option.some.injEq] at ho2; subst ho2
                refine growI_val (I := (fun d u => (d 9 = false → LW w5 lc kk (.slice la lc.length lb) (.slice za kk.length zc) u) ∧ (d 11 = false → Blk u w5.heap.size 25 [.slice la lc.length lb, .slice za kk.length zc]) ∧ (d 11 = true → d 9 = true ∧ ∃ v1, LW w5 lc (kk ++ [(z - 1)]) (.slice la lc.length lb) v1 u) ∧ (d 9 = true → d 1 = true))) (X := (fun d u v => d 9 = true → ∀ x, (fun v u => LAp w5 lc (kk ++ [(z - 1)]) (.slice la lc.length lb) v u) x u → (fun v u => LAp w5 lc (kk ++ [(z - 1)]) (.slice la lc.length lb) v u) x v)) (d := fd) (a := a) (w := w1) (.pointer (some ⟨w5.heap.size, 1, none⟩)) w1 ho rfl ?_ ((fun u => Touch.refl _ _) w1) ⟨fun h => (hI.1 (by simpa [upd] using h)).later (Below.refl _ _), fun h => (hI.2.1 (by simpa [upd] using h)).later (Below.refl _ _), fun h => have h' := hI.2.2.1 (by simpa [upd] using h); ⟨by have := h'.1; simp [upd, this], h'.2.elim fun v1 hv => ⟨v1, hv.later (Below.refl _ _)⟩⟩, fun h => by have h1 := hI.2.2.2 (by simpa [upd] using h); simp [upd, h1]⟩ (fun _ v hv => hv.later (Below.refl _ _)) rfl
                unfold execOp
                simp only [List.map_toArray, List.map_cons, List.map_nil, e10, ec]
                first | rfl | (go_simp; done) | (go_simp; rfl) | (go_simp; omega)
              · have ho2 := ho; simp only [List.getElem?_toArray, List.getElem?_cons_succ, List.getElem?_cons_zero, Option.some.injEq] at ho2; subst ho2
                have d0 : a.eval (.tmp 99) = .pointer (some ⟨w5.heap.size, 1, none⟩) := hdep ⟨0, .data⟩ (by simp) rfl
                refine growI_val (I := (fun d u => (d 9 = false → LW w5 lc kk (.slice la lc.length lb) (.slice za kk.length zc) u) ∧ (d 11 = false → Blk u w5.heap.size 25 [.slice la lc.length lb, .slice za kk.length zc]) ∧ (d 11 = true → d 9 = true ∧ ∃ v1, LW w5 lc (kk ++ [(z - 1)]) (.slice la lc.length lb) v1 u) ∧ (d 9 = true → d 1 = true))) (X := (fun d u v => d 9 = true → ∀ x, (fun v u => LAp w5 lc (kk ++ [(z - 1)]) (.slice la lc.length lb) v u) x u → (fun v u => LAp w5 lc (kk ++ [(z - 1)]) (.slice la lc.length lb) v u) x v)) (d := fd) (a := a) (w := w1) (.slice za kk.length zc) w1 ho rfl ?_ ((fun u => Touch.refl _ _) w1) ⟨fun h => (hI.1 (by simpa [upd] using h)).later (Below.refl _ _), fun h => (hI.2.1 (by simpa [upd] using h)).later (Below.refl _ _), fun h => have h' := hI.2.2.1 (by simpa [upd] using h); ⟨by have := h'.1; simp [upd, this], h'.2.elim fun v1 hv => ⟨v1, hv.later (Below.refl _ _)⟩⟩, fun h => by have h1 := hI.2.2.2 (by simpa [upd] using h); simp [upd, h1]⟩ (fun _ v hv => hv.later (Below.refl _ _)) rfl
                have hd13 : fd 11 = false := by
                  cases h : fd 11 with
                  | false => rfl
                  | true => exact absurd (hI.2.2.2 (hI.2.2.1 h).1) (by rw [hfd]; decide)
                have hl := (hI.2.1 hd13).cell 1
                simp only [List.getElem?_cons_succ, List.getElem?_cons_zero] at hl
                have d0 : a.eval (.tmp 99) = .pointer (some ⟨w5.heap.size, 1, none⟩) := hdep ⟨0, .data⟩ (by simp) rfl
                unfold execOp
                simp only [d0, ec]
                go_simp
              · have ho2 := ho; simp only [List.getElem?_toArray, List.getElem?_cons_succ, List.getElem?_cons_zero, Option.some.injEq] at ho2; subst ho2
                refine growI_val (I := (fun d u => (d 9 = false → LW w5 lc kk (.slice la lc.length lb) (.slice za kk.length zc) u) ∧ (d 11 = false → Blk u w5.heap.size 25 [.slice la lc.length lb, .slice za kk.length zc]) ∧ (d 11 = true → d 9 = true ∧ ∃ v1, LW w5 lc (kk ++ [(z - 1)]) (.slice la lc.length lb) v1 u) ∧ (d 9 = true → d 1 = true))) (X := (fun d u v => d 9 = true → ∀ x, (fun v u => LAp w5 lc (kk ++ [(z - 1)]) (.slice la lc.length lb) v u) x u → (fun v u => LAp w5 lc (kk ++ [(z - 1)]) (.slice la lc.length lb) v u) x v)) (d := fd) (a := a) (w := w1) (.pointer (some ⟨g, 1, none⟩)) w1 ho rfl ?_ ((fun u => Touch.refl _ _) w1) ⟨fun h => (hI.1 (by simpa [upd] using h)).later (Below.refl _ _), fun h => (hI.2.1 (by simpa [upd] using h)).later (Below.refl _ _), fun h => have h' := hI.2.2.1 (by simpa [upd] using h); ⟨by have := h'.1; simp [upd, this], h'.2.elim fun v1 hv => ⟨v1, hv.later (Below.refl _ _)⟩⟩, fun h => by have h1 := hI.2.2.2 (by simpa [upd] using h); simp [upd, h1]⟩ (fun _ v hv => hv.later (Below.refl _ _)) rfl
                unfold execOp
                simp only [List.map_toArray, List.map_cons, List.map_nil, e5, ec]
                first | rfl | (go_simp; done) | (go_simp; rfl) | (go_simp; omega)
              · have ho2 := ho; simp only [List.getElem?_toArray, List.getElem?_cons_succ, List.getElem?_cons_zero, Option.some.injEq] at ho2; subst ho2
                have d0 : a.eval (.tmp 101) = .pointer (some ⟨g, 1, none⟩) := hdep ⟨2, .data⟩ (by simp) rfl
                refine growI_val (I := (fun d u => (d 9 = false → LW w5 lc kk (.slice la lc.length lb) (.slice za kk.length zc) u) ∧ (d 11 = false → Blk u w5.heap.size 25 [.slice la lc.length lb, .slice za kk.length zc]) ∧ (d 11 = true → d 9 = true ∧ ∃ v1, LW w5 lc (kk ++ [(z - 1)]) (.slice la lc.length lb) v1 u) ∧ (d 9 = true → d 1 = true))) (X := (fun d u v => d 9 = true → ∀ x, (fun v u => LAp w5 lc (kk ++ [(z - 1)]) (.slice la lc.length lb) v u) x u → (fun v u => LAp w5 lc (kk ++ [(z - 1)]) (.slice la lc.length lb) v u) x v)) (d := fd) (a := a) (w := w1) (.slice (some ⟨gk, ok, none⟩) ks.length kc) w1 ho rfl ?_ ((fun u => Touch.refl _ _) w1) ⟨fun h => (hI.1 (by simpa [upd] using h)).later (Below.refl _ _), fun h => (hI.2.1 (by simpa [upd] using h)).later (Below.refl _ _), fun h => have h' := hI.2.2.1 (by simpa [upd] using h); ⟨by have := h'.1; simp [upd, this], h'.2.elim fun v1 hv => ⟨v1, hv.later (Below.refl _ _)⟩⟩, fun h => by have h1 := hI.2.2.2 (by simpa [upd] using h); simp [upd, h1]⟩ (fun _ v hv => hv.later (Below.refl _ _)) rfl
                unfold execOp
                simp only [List.map_toArray, List.map_cons, List.map_nil, d0, ec]
                first | rfl | (go_simp; done) | (go_simp; rfl) | (go_simp; omega)
              · have ho2 := ho; simp only [List.getElem?_toArray, List.getElem?_cons_succ, List.getElem?_cons_zero, Option.some.injEq] at ho2; subst ho2
                refine growI_val (I := (fun d u => (d 9 = false → LW w5 lc kk (.slice la lc.length lb) (.slice za kk.length zc) u) ∧ (d 11 = false → Blk u w5.heap.size 25 [.slice la lc.length lb, .slice za kk.length zc]) ∧ (d 11 = true → d 9 = true ∧ ∃ v1, LW w5 lc (kk ++ [(z - 1)]) (.slice la lc.length lb) v1 u) ∧ (d 9 = true → d 1 = true))) (X := (fun d u v => d 9 = true → ∀ x, (fun v u => LAp w5 lc (kk ++ [(z - 1)]) (.slice la lc.length lb) v u) x u → (fun v u => LAp w5 lc (kk ++ [(z - 1)]) (.slice la lc.length lb) v u) x v)) (d := fd) (a := a) (w := w1) (.int .i64 (q : Nat)) w1 ho rfl ?_ ((fun u => Touch.refl _ _) w1) ⟨fun h => (hI.1 (by simpa [upd] using h)).later (Below.refl _ _), fun h => (hI.2.1 (by simpa [upd] using h)).later (Below.refl _ _), fun h => have h' := hI.2.2.1 (by simpa [upd] using h); ⟨by have := h'.1; simp [upd, this], h'.2.elim fun v1 hv => ⟨v1, hv.later (Below.refl _ _)⟩⟩, fun h => by have h1 := hI.2.2.2 (by simpa [upd] using h); simp [upd, h1]⟩ (fun _ v hv => hv.later (Below.refl _ _)) rfl
                unfold execOp
                simp only [List.map_toArray, List.map_cons, List.map_nil, e13, ec]
                first | rfl | (go_simp; done) | (go_simp; rfl) | (go_simp; omega)
              · have ho2 := ho; simp only [List.getElem?_toArray, List.getElem?_cons_succ, List.getElem?_cons_zero, Option.some.injEq] at ho2; subst ho2
                have d0 : a.eval (.tmp 102) = .slice (some ⟨gk, ok, none⟩) ks.length kc := hdep ⟨3, .data⟩ (by simp) rfl
                have d1 : a.eval (.tmp 103) = .int .i64 (q : Nat) := hdep ⟨4, .data⟩ (by simp) rfl
                refine growI_val (I := (fun d u => (d 9 = false → LW w5 lc kk (.slice la lc.length lb) (.slice za kk.length zc) u) ∧ (d 11 = false → Blk u w5.heap.size 25 [.slice la lc.length lb, .slice za kk.length zc]) ∧ (d 11 = true → d 9 = true ∧ ∃ v1, LW w5 lc (kk ++ [(z - 1)]) (.slice la lc.length lb) v1 u) ∧ (d 9 = true → d 1 = true))) (X := (fun d u v => d 9 = true → ∀ x, (fun v u => LAp w5 lc (kk ++ [(z - 1)]) (.slice la lc.length lb) v u) x u → (fun v u => LAp w5 lc (kk ++ [(z - 1)]) (.slice la lc.length lb) v u) x v)) (d := fd) (a := a) (w := w1) (.pointer (some ⟨gk, ok + q, none⟩)) w1 ho rfl ?_ ((fun u => Touch.refl _ _) w1) ⟨fun h => (hI.1 (by simpa [upd] using h)).later (Below.refl _ _), fun h => (hI.2.1 (by simpa [upd] using h)).later (Below.refl _ _), fun h => have h' := hI.2.2.1 (by simpa [upd] using h); ⟨by have := h'.1; simp [upd, this], h'.2.elim fun v1 hv => ⟨v1, hv.later (Below.refl _ _)⟩⟩, fun h => by have h1 := hI.2.2.2 (by simpa [upd] using h); simp [upd, h1]⟩ (fun _ v hv => hv.later (Below.refl _ _)) rfl
                unfold execOp
                simp only [List.map_toArray, List.map_cons, List.map_nil, d0, d1, ec]
                first | rfl | (go_simp; done) | (go_simp; rfl) | (go_simp; omega)
              · have ho2 := ho; simp only [List.getElem?_toArray, List.getElem?_cons_succ, List.getElem?_cons_zero, Option.some.injEq] at ho2; subst ho2
                have d0 : a.eval (.tmp 104) = .pointer (some ⟨gk, ok + q, none⟩) := hdep ⟨5, .data⟩ (by simp) rfl
                refine growI_val (I := (fun d u => (d 9 = false → LW w5 lc kk (.slice la lc.length lb) (.slice za kk.length zc) u) ∧ (d 11 = false → Blk u w5.heap.size 25 [.slice la lc.length lb, .slice za kk.length zc]) ∧ (d 11 = true → d 9 = true ∧ ∃ v1, LW w5 lc (kk ++ [(z - 1)]) (.slice la lc.length lb) v1 u) ∧ (d 9 = true → d 1 = true))) (X := (fun d u v => d 9 = true → ∀ x, (fun v u => LAp w5 lc (kk ++ [(z - 1)]) (.slice la lc.length lb) v u) x u → (fun v u => LAp w5 lc (kk ++ [(z - 1)]) (.slice la lc.length lb) v u) x v)) (d := fd) (a := a) (w := w1) (.int .i64 z) w1 ho rfl ?_ ((fun u => Touch.refl _ _) w1) ⟨fun h => (hI.1 (by simpa [upd] using h)).later (Below.refl _ _), fun h => (hI.2.1 (by simpa [upd] using h)).later (Below.refl _ _), fun h => have h' := hI.2.2.1 (by simpa [upd] using h); ⟨by have := h'.1; simp [upd, this], h'.2.elim fun v1 hv => ⟨v1, hv.later (Below.refl _ _)⟩⟩, fun h => by have h1 := hI.2.2.2 (by simpa [upd] using h); simp [upd, h1]⟩ (fun _ v hv => hv.later (Below.refl _ _)) rfl
                unfold execOp
                simp only [List.map_toArray, List.map_cons, List.map_nil, d0, ec]
                first | rfl | (go_simp; done) | (go_simp; rfl) | (go_simp; omega)
              · have ho2 := ho; simp only [List.getElem?_toArray, List.getElem?_cons_succ, List.getElem?_cons_zero, Option.some.injEq] at ho2; subst ho2
                have d0 : a.eval (.tmp 105) = .int .i64 z := hdep ⟨6, .data⟩ (by simp) rfl
                refine growI_val (I := (fun d u => (d 9 = false → LW w5 lc kk (.slice la lc.length lb) (.slice za kk.length zc) u) ∧ (d 11 = false → Blk u w5.heap.size 25 [.slice la lc.length lb, .slice za kk.length zc]) ∧ (d 11 = true → d 9 = true ∧ ∃ v1, LW w5 lc (kk ++ [(z - 1)]) (.slice la lc.length lb) v1 u) ∧ (d 9 = true → d 1 = true))) (X := (fun d u v => d 9 = true → ∀ x, (fun v u => LAp w5 lc (kk ++ [(z - 1)]) (.slice la lc.length lb) v u) x u → (fun v u => LAp w5 lc (kk ++ [(z - 1)]) (.slice la lc.length lb) v u) x v)) (d := fd) (a := a) (w := w1) (.int .i64 (z - 1)) w1 ho rfl ?_ ((fun u => Touch.refl _ _) w1) ⟨fun h => (hI.1 (by simpa [upd] using h)).later (Below.refl _ _), fun h => (hI.2.1 (by simpa [upd] using h)).later (Below.refl _ _), fun h => have h' := hI.2.2.1 (by simpa [upd] using h); ⟨by have := h'.1; simp [upd, this], h'.2.elim fun v1 hv => ⟨v1, hv.later (Below.refl _ _)⟩⟩, fun h => by have h1 := hI.2.2.2 (by simpa [upd] using h); simp [upd, h1]⟩ (fun _ v hv => hv.later (Below.refl _ _)) rfl
                unfold execOp
                simp only [List.map_toArray, List.map_cons, List.map_nil, d0, ec]
                first | (go_simp; done) | (go_simp; rw [hwz]) | (go_simp; exact hwz) | (go_simp; simp only [hwz])
              · have ho2 := ho; simp only [List.getElem?_toArray, List.getElem?_cons_succ, List.getElem?_cons_zero, Option.some.injEq] at ho2; subst ho2
                have d0 : a.eval (.tmp 106) = .int .i64 (z - 1) := hdep ⟨7, .data⟩ (by simp) rfl
                refine growI_val (I := (fun d u => (d 9 = false → LW w5 lc kk (.slice la lc.length lb) (.slice za kk.length zc) u) ∧ (d 11 = false → Blk u w5.heap.size 25 [.slice la lc.length lb, .slice za kk.length zc]) ∧ (d 11 = true → d 9 = true ∧ ∃ v1, LW w5 lc (kk ++ [(z - 1)]) (.slice la lc.length lb) v1 u) ∧ (d 9 = true → d 1 = true))) (X := (fun d u v => d 9 = true → ∀ x, (fun v u => LAp w5 lc (kk ++ [(z - 1)]) (.slice la lc.length lb) v u) x u → (fun v u => LAp w5 lc (kk ++ [(z - 1)]) (.slice la lc.length lb) v u) x v)) (d := fd) (a := a) (w := w1) (.slice (some ⟨w1.heap.size, 0, none⟩) 1 1) (w1.alloc (.cells #[.int .i64 (z - 1)] 3)) ho rfl ?_ ((Touch.of_below (box_new _ _))) ⟨fun h => (hI.1 (by simpa [upd] using h)).later (box_new _ _), fun h => (hI.2.1 (by simpa [upd] using h)).later (box_new _ _), fun h => have h' := hI.2.2.1 (by simpa [upd] using h); ⟨by have := h'.1; simp [upd, this], h'.2.elim fun v1 hv => ⟨v1, hv.later (box_new _ _)⟩⟩, fun h => by have h1 := hI.2.2.2 (by simpa [upd] using h); simp [upd, h1]⟩ (fun _ v hv => hv.later (box_new _ _)) ⟨_, rfl, hfr, Blk.new w1 3 #[.int .i64 (z - 1)]⟩
                unfold execOp
                simp only [List.map_toArray, List.map_cons, List.map_nil, d0, ec]
                generalize a.eval = ev at *
                go_simp
              · have ho2 := ho; simp only [List.getElem?_toArray, List.getElem?_cons_succ, List.getElem?_cons_zero, Option.some.injEq] at ho2; subst ho2
                obtain ⟨b, d1, hbn, hbk⟩ : ∃ b, a.eval (.tmp 107) = .slice (some ⟨b, 0, none⟩) 1 1 ∧ ¬ (b = w5.heap.size ∨ (Value.slice za kk.length zc).ownBlock = some b) ∧ Blk w1 b 3 [.int .i64 (z - 1)] := hdep ⟨8, .data⟩ (by simp) rfl
                have d0 : a.eval (.tmp 100) = .slice za kk.length zc := hdep ⟨1, .data⟩ (by simp) rfl
                have hm1 := hI.1 hfd
                obtain ⟨v', w', hrun, ho1, hg1, _, _⟩ := Gn.run_app inL inY w1 23 (w5.heap.size + 1) (.slice za kk.length zc) kk hm1.ok (.slice (some ⟨b, 0, none⟩) 1 1) [(z - 1)] (rd_blkI hbk) HLN.out hm1.sz
                have hma := hm1.appk ho1 hg1
                refine growI_val (I := (fun d u => (d 9 = false → LW w5 lc kk (.slice la lc.length lb) (.slice za kk.length zc) u) ∧ (d 11 = false → Blk u w5.heap.size 25 [.slice la lc.length lb, .slice za kk.length zc]) ∧ (d 11 = true → d 9 = true ∧ ∃ v1, LW w5 lc (kk ++ [(z - 1)]) (.slice la lc.length lb) v1 u) ∧ (d 9 = true → d 1 = true))) (X := (fun d u v => d 9 = true → ∀ x, (fun v u => LAp w5 lc (kk ++ [(z - 1)]) (.slice la lc.length lb) v u) x u → (fun v u => LAp w5 lc (kk ++ [(z - 1)]) (.slice la lc.length lb) v u) x v)) (d := fd) (a := a) (w := w1) v' w' ho rfl ?_ (Touch.of_grown hg1 (fun q hq => .inr hq)) ⟨fun h => absurd h (by simp [upd]), fun _ => hma.2, fun h => absurd (hI.2.2.1 (by simpa [upd] using h)).1 (by rw [hfd]; decide), fun _ => by have h1 : fd 1 = true := hdd ⟨1, .data⟩ (by simp) rfl; simp [upd, h1]⟩ (fun h => by rw [hfd] at h; cases h) hma.1
                unfold execOp resolve
                simp only [List.map_toArray, List.map_cons, List.map_nil, d0, d1, ec, invoke, builtin, Sem.run_bind, Sem.run_pure, Result.andThen_ok, hrun]
              · have ho2 := ho; simp only [List.getElem?_toArray, List.getElem?_cons_succ, List.getElem?_cons_zero, Option.some.injEq] at ho2; subst ho2
                refine growI_val (I := (fun d u => (d 9 = false → LW w5 lc kk (.slice la lc.length lb) (.slice za kk.length zc) u) ∧ (d 11 = false → Blk u w5.heap.size 25 [.slice la lc.length lb, .slice za kk.length zc]) ∧ (d 11 = true → d 9 = true ∧ ∃ v1, LW w5 lc (kk ++ [(z - 1)]) (.slice la lc.length lb) v1 u) ∧ (d 9 = true → d 1 = true))) (X := (fun d u v => d 9 = true → ∀ x, (fun v u => LAp w5 lc (kk ++ [(z - 1)]) (.slice la lc.length lb) v u) x u → (fun v u => LAp w5 lc (kk ++ [(z - 1)]) (.slice la lc.length lb) v u) x v)) (d := fd) (a := a) (w := w1) (.pointer (some ⟨w5.heap.size, 1, none⟩)) w1 ho rfl ?_ ((fun u => Touch.refl _ _) w1) ⟨fun h => (hI.1 (by simpa [upd] using h)).later (Below.refl _ _), fun h => (hI.2.1 (by simpa [upd] using h)).later (Below.refl _ _), fun h => have h' := hI.2.2.1 (by simpa [upd] using h); ⟨by have := h'.1; simp [upd, this], h'.2.elim fun v1 hv => ⟨v1, hv.later (Below.refl _ _)⟩⟩, fun h => by have h1 := hI.2.2.2 (by simpa [upd] using h); simp [upd, h1]⟩ (fun _ v hv => hv.later (Below.refl _ _)) rfl
                unfold execOp
                simp only [List.map_toArray, List.map_cons, List.map_nil, e10, ec]
                first | rfl | (go_simp; done) | (go_simp; rfl) | (go_simp; omega)
              · have ho2 := ho; simp only [List.getElem?_toArray, List.getElem?_cons_succ, List.getElem?_cons_zero, Option.some.injEq] at ho2; subst ho2
                have hd11 : fd 9 = true := hdd ⟨9, .data⟩ (by simp) rfl
                obtain ⟨v1, d1, hma⟩ : ∃ v1, a.eval (.tmp 108) = v1 ∧ LAp w5 lc (kk ++ [(z - 1)]) (.slice la lc.length lb) v1 w1 := ⟨_, rfl, hdep ⟨9, .data⟩ (by simp) rfl⟩
                have d0 : a.eval (.tmp 109) = .pointer (some ⟨w5.heap.size, 1, none⟩) := hdep ⟨10, .data⟩ (by simp) rfl
                have hs1 := hI.2.1 hfd
                have q0 := hs1.cell 1
                have q2 := hs1.frozen 1
                simp only [List.getElem?_cons_succ, List.getElem?_cons_zero] at q0
                have hmw := hma.lwk hs1
                obtain ⟨va, vc, rfl, _⟩ := Gn.Rd.form (RdI.of hma.ok)
                refine growI_skip (I := (fun d u => (d 9 = false → LW w5 lc kk (.slice la lc.length lb) (.slice za kk.length zc) u) ∧ (d 11 = false → Blk u w5.heap.size 25 [.slice la lc.length lb, .slice za kk.length zc]) ∧ (d 11 = true → d 9 = true ∧ ∃ v1, LW w5 lc (kk ++ [(z - 1)]) (.slice la lc.length lb) v1 u) ∧ (d 9 = true → d 1 = true))) (X := (fun d u v => d 9 = true → ∀ x, (fun v u => LAp w5 lc (kk ++ [(z - 1)]) (.slice la lc.length lb) v u) x u → (fun v u => LAp w5 lc (kk ++ [(z - 1)]) (.slice la lc.length lb) v u) x v)) (d := fd) (a := a) (w := w1) (w1.setCell ⟨w5.heap.size, 1, none⟩ _) ho rfl rfl ?_ ((Touch.refl _ _).setCell (.inl rfl) _) ⟨fun h => absurd h (by simp [upd, hd11]), fun h => absurd h (by simp [upd]), fun _ => ⟨by simp [upd, hd11], _, hmw⟩, fun _ => by have h1 := hI.2.2.2 hd11; simp [upd, h1]⟩ (fun _ v hv => hv.put 1 _) trivial
                unfold execOp
                simp only [d0, d1, ec]
                go_simp
            · intro a w1 hI hb hj
              obtain ⟨v1, hmw⟩ := (hI.2.2.1 (by decide)).2
              obtain ⟨va, vc, rfl, _⟩ := Gn.Rd.form (RdI.of hmw.ok)
              rw [HLS.out] at hmw
              exact ⟨va, vc, hmw⟩
            rintro ts w7 ⟨va, vc, hlw⟩
            simp only [fill, List.setIfInBounds_toArray, List.set_cons_succ, List.set_cons_zero]
            have HW7 := Lib.hid hlw
            clear hlw x0 x1 p0 HNS HLN HLS hgl hgkl HTK
            go_wp2_with fail
            go_roundw
            case rel => exact ⟨q + 1, _, HQT.out, by go_num, Lib.hid (by rw [HTK1.out]; exact HW7.out)⟩
            case measure => have := HQT.out; simp [intOf]; omega
        · have hqt1 : ¬ (q : Int) < ks.length := by omega
          obtain rfl : q = ks.length := by omega
          rw [List.take_length] at HW
          obtain ⟨kk, hkk⟩ : ∃ kk, Sc.shift ks k = kk := ⟨_, rfl⟩
          rw [hkk] at HW
          have s0 := HW.out.s.cell 0
          have s1 := HW.out.s.cell 1
          simp only [List.getElem?_cons_succ, List.getElem?_cons_zero] at s0 s1
          have HB6 := Lib.hid (up HB5.out HW.out.b)
          by_cases hl0 : lc.length = 0
          · obtain rfl : lc = [] := List.eq_nil_of_length_eq_zero hl0
            have hxe : bl x = [] := by rw [HX.out, Sc.left_text, if_pos (Nat.zero_le _), HLC.out]; rfl
            have hx0 : x = ⟨#[]⟩ := bl_inj (by rw [hxe]; rfl)
            subst hx0
            have HF := Lib.hid (lFails ⟨#[]⟩ 0 0 2 rfl wr (HT.out.later HB6.out) (by decide) (by show Sc.parse [] = _; unfold Sc.parse; rw [if_neg (by simp), Sc.prs_nil]; rfl))
            simp only [List.length_nil] at s0 ⊢
            clear hkk hl0 hxe HX HLC
            go_wp2_with fail
            ((with_reducible refine HF.out.mono ?_); rintro e w8 ⟨rfl, b8⟩)
            have HB8 := Lib.hid (up HB6.out b8)
            clear b8
            go_wp2_with fail
            ((with_reducible refine (works _ (HT.out.later HB8.out)).mono ?_); rintro e w9 ⟨rfl, b9⟩)
            have HB9 := Lib.hid (up HB8.out b9)
            clear b9
            go_wp2_with fail
            go_ret
            exact ⟨rfl, HB9.out⟩
          · have hl01 : ¬ (lc.length : Int) = 0 := by omega
            have hne : Sc.leftC k 0 cs ≠ [] := by rw [HLC.out]; intro e; rw [e] at hl0; exact hl0 rfl
            have hck := Sc.left_ok HM.out hk hne
            rw [HLC.out, hkk] at hck
            have hcl : ∀ c ∈ lc, Sc.Col c := fun c hc => HM.out.cols c ((Sc.leftC_sub k cs 0).mem (by rw [HLC.out]; exact hc))
            have hxe : bl x = Sc.text lc kk := by rw [HX.out, Sc.left_text, if_pos (Nat.zero_le _), HLC.out, hkk]; rfl
            have hxl : (Sc.text lc kk).length ≤ 3200 := by
              have := Sc.leftT_len ks k cs 0 HM.out.cols HM.out.sm
              rw [← HX.out, hxe] at this
              omega
            have HPA : Hid (Sc.parse (bl x) = ⟨lc, kk, 0, 0⟩) := Lib.hid (by rw [hxe]; exact Sc.parse_text hcl hck (by omega))
            have hxs : x.size ≤ 100000 := by rw [← bl_length, hxe]; omega
            have CP := Lib.hid (cParse x hxs wr (HT.out.later HB6.out) _ HPA.out)
            clear hkk hl0 hxe HX HLC hne hck hcl hxl HPA hxs
            go_wp2_with fail
            ((with_reducible refine CP.out.mono ?_); rintro e w8 ⟨rv, rk, rfl, po, pi, b8⟩)
            simp only at po pi ⊢
            have HR8 := Lib.hid (SV.new po pi)
            have HB8 := Lib.hid (up b8 (box_new w8 (.cells #[rv, rk] 25)))
            have HW8 := Lib.hid (HW.out.later HB8.out)
            obtain ⟨ra, rc, rfl, _⟩ := Gn.Rd.form (RdK.of po)
            obtain ⟨qa, qc, rfl, _⟩ := Gn.Rd.form (RdI.of pi)
            clear b8 po pi CP s0 s1
            have s0 := HW8.out.s.cell 0
            have s1 := HW8.out.s.cell 1
            simp only [List.getElem?_cons_succ, List.getElem?_cons_zero] at s0 s1
            go_upto_region 25 with fail
            generalize hgr : w8.heap.size = gr at *
            generalize w8.alloc (.cells #[.slice ra lc.length rc, .slice qa kk.length qc] 25) = w9 at *
            obtain ⟨y0, y1⟩ := HR8.out.lie
            have CS := Lib.hid (rSame (.slice ra lc.length rc) (.slice la lc.length lb) (.slice qa kk.length qc) (.slice za kk.length zc) lc lc kk kk w9 HR8.out.c (RdK.of HW8.out.oc) HR8.out.k (RdI.of HW8.out.ok) true (by simp))
            go_wp2_with fail
            ((with_reducible refine CS.out.mono ?_); rintro e w10 ⟨rfl, b10⟩)
            have HB10 := Lib.hid (up HB6.out (up HB8.out b10))
            clear b10 CS
            go_wp2_with fail
            ((with_reducible refine (works _ (HT.out.later HB10.out)).mono ?_); rintro e w11 ⟨rfl, b11⟩)
            have HB11 := Lib.hid (up HB10.out b11)
            clear b11
            go_wp2_with fail
            go_ret
            exact ⟨rfl, HB11.out⟩
end Go.Proofs.YtjmphlboickhdaaGreatDoor
