/- A list's bytes, and what is got of bytes: plain. -/
import Derived.Test.YtenfjmdajlhfoaaDcP
import Derived.Test.YtenfjmdajlhfoaaMem
namespace Go.Proofs.Ytenfjmdajlhfoaa
open Go.RowKit
set_option linter.unusedVariables false

/-- A string's bytes. -/
def bl (s : ByteArray) : List Nat := s.data.toList.map UInt8.toNat
theorem bl_length (s : ByteArray) : (bl s).length = s.size := by simp [bl]
theorem bl_byte (s : ByteArray) : ∀ x ∈ bl s, x < 256 := by
  intro x hx
  obtain ⟨b, _, rfl⟩ := List.mem_map.1 hx
  exact b.toNat_lt
theorem str_bl (s : ByteArray) : str (bl s) = s := by
  refine ByteArray.ext (Array.toList_inj.1 ?_)
  simp only [str, strOfNums_data, bl, List.map_map]
  conv => rhs; rw [← List.map_id s.data.toList]
  refine List.map_congr_left fun b _ => ?_
  simp
theorem bl_str (l : List Nat) (h : ∀ x ∈ l, x < 256) : bl (str l) = l := by
  simp only [str, strOfNums_data, bl, List.map_map]
  conv => rhs; rw [← List.map_id l]
  refine List.map_congr_left fun x hx => ?_
  have := h x hx
  simp; omega
theorem bl_inj {s t : ByteArray} (h : bl s = bl t) : s = t := by rw [← str_bl s, ← str_bl t, h]
theorem str_size (l : List Nat) : (str l).size = l.length := by
  have h : ∀ b : ByteArray, b.size = b.data.toList.length := fun b => by simp
  rw [h, str, strOfNums_data]; simp

namespace Dc
/-- A text's bytes, those of texts, of numbers, of a list. -/
def enT (s : ByteArray) : List Nat := Leb.enc s.size ++ bl s
def enD (d : List ByteArray) : List Nat := d.flatMap enT
def enN (N : List Nat) : List Nat := N.flatMap Leb.enc
def enL (l : List ByteArray) : List Nat := Leb.enc (spl [] [] l).1.length ++ enD (spl [] [] l).1 ++ enN (spl [] [] l).2
theorem enD_cons (s : ByteArray) (d : List ByteArray) : enD (s :: d) = enT s ++ enD d := rfl
theorem enN_cons (x : Nat) (N : List Nat) : enN (x :: N) = Leb.enc x ++ enN N := rfl
theorem enD_snoc (s : ByteArray) (d : List ByteArray) : enD (d ++ [s]) = enD d ++ enT s := by simp [enD]
theorem enN_snoc (x : Nat) (N : List Nat) : enN (N ++ [x]) = enN N ++ Leb.enc x := by simp [enN]
theorem enT_len (s : ByteArray) : (enT s).length ≤ 10 + s.size := by unfold enT; have := Leb.enc_len s.size; rw [List.length_append, bl_length]; omega

/-- A number that is not more than most: the number, its bytes, the error. -/
def gl (b : List Nat) (most : Int) : Nat × Nat × Nat :=
  if (Leb.dec b).2.2 ≠ 0 then (0, 0, (Leb.dec b).2.2) else if most < 0 ∨ most < ((Leb.dec b).1 : Int) then (0, 0, 5) else ((Leb.dec b).1, (Leb.dec b).2.1, 0)
/-- A text. -/
def gt (b : List Nat) (most : Int) : List Nat × Nat × Nat :=
  if (gl b most).2.2 ≠ 0 then ([], 0, (gl b most).2.2) else if b.length < (gl b most).2.1 + (gl b most).1 then ([], 0, 3)
  else ((b.drop (gl b most).2.1).take (gl b most).1, (gl b most).2.1 + (gl b most).1, 0)
/-- Texts, each of them new. -/
def gd (b : List Nat) (most : Int) : Nat → List ByteArray → Nat → List ByteArray × Nat × Nat
  | 0, d, at_ => (d, at_, 0)
  | m + 1, d, at_ =>
    if (gt (b.drop at_) most).2.2 ≠ 0 then ([], 0, (gt (b.drop at_) most).2.2)
    else if idx d (str (gt (b.drop at_) most).1) < d.length then ([], 0, 150)
    else gd b most m (d ++ [str (gt (b.drop at_) most).1]) (at_ + (gt (b.drop at_) most).2.1)
/-- Numbers, each of a text, none more than were used ahead. -/
def gn (b : List Nat) (D : List ByteArray) : Nat → Nat → List ByteArray → Nat → List ByteArray × Nat × Nat
  | 0, u, T, at_ => if u < D.length then ([], 0, 150) else (T, at_, 0)
  | m + 1, u, T, at_ =>
    if (Leb.dec (b.drop at_)).2.2 ≠ 0 then ([], 0, (Leb.dec (b.drop at_)).2.2)
    else if h : (Leb.dec (b.drop at_)).1 < D.length ∧ (Leb.dec (b.drop at_)).1 ≤ u then
      gn b D m (max u ((Leb.dec (b.drop at_)).1 + 1)) (T ++ [D[(Leb.dec (b.drop at_)).1]'h.1]) (at_ + (Leb.dec (b.drop at_)).2.1)
    else ([], 0, 150)
/-- A list: its texts, how many bytes, the error. -/
def get (b : List Nat) (n most : Int) : List ByteArray × Nat × Nat :=
  if n < 0 ∨ 1048576 < n then ([], 0, 6)
  else if (gl b n).2.2 ≠ 0 then ([], 0, (gl b n).2.2)
  else if (gd b most (gl b n).1 [] (gl b n).2.1).2.2 ≠ 0 then ([], 0, (gd b most (gl b n).1 [] (gl b n).2.1).2.2)
  else gn b (gd b most (gl b n).1 [] (gl b n).2.1).1 n.toNat 0 [] (gd b most (gl b n).1 [] (gl b n).2.1).2.1

theorem gl_err (b : List Nat) (most : Int) (h : (Leb.dec b).2.2 ≠ 0) : gl b most = (0, 0, (Leb.dec b).2.2) := by unfold gl; rw [if_pos h]
theorem gl_lim (b : List Nat) (most : Int) (h : (Leb.dec b).2.2 = 0) (hm : most < 0 ∨ most < ((Leb.dec b).1 : Int)) : gl b most = (0, 0, 5) := by unfold gl; rw [if_neg (by simp [h]), if_pos hm]
theorem gl_ok (b : List Nat) (most : Int) (h : (Leb.dec b).2.2 = 0) (hm : ¬ (most < 0 ∨ most < ((Leb.dec b).1 : Int))) : gl b most = ((Leb.dec b).1, (Leb.dec b).2.1, 0) := by unfold gl; rw [if_neg (by simp [h]), if_neg hm]
theorem gl_good (b : List Nat) (most : Int) (hb : ∀ x ∈ b, x < 256) (h : (gl b most).2.2 = 0) : (gl b most).2.1 ≤ b.length ∧ b = Leb.enc (gl b most).1 ++ b.drop (gl b most).2.1 ∧ (gl b most).2.1 = (Leb.enc (gl b most).1).length ∧ ((gl b most).1 : Int) ≤ most ∧ (gl b most).1 < 2 ^ 64 := by
  by_cases h1 : (Leb.dec b).2.2 = 0
  · by_cases h2 : most < 0 ∨ most < ((Leb.dec b).1 : Int)
    · rw [gl_lim b most h1 h2] at h; cases h
    · rw [gl_ok b most h1 h2]
      obtain ⟨_, e1, e2, e3⟩ := Leb.enc_dec b (Leb.dec b).1 (Leb.dec b).2.1 hb (by rw [← h1])
      simp only
      refine ⟨e1, ?_, ?_, by omega, e3⟩
      · rw [← e2, List.take_append_drop]
      · rw [← e2, List.length_take]; omega
  · rw [gl_err b most h1] at h; exact absurd h h1
theorem gl_enc (n : Nat) (t : List Nat) (most : Int) (hn : n < 2 ^ 64) (hm : (n : Int) ≤ most) : gl (Leb.enc n ++ t) most = (n, (Leb.enc n).length, 0) := by
  have h := Leb.dec_enc n t hn
  rw [gl_ok _ _ (by rw [h]) (by rw [h]; omega), h]
theorem gl_long (n : Nat) (t : List Nat) (most : Int) (hn : n < 2 ^ 64) (hm : most < (n : Int)) : gl (Leb.enc n ++ t) most = (0, 0, 5) := by
  have h := Leb.dec_enc n t hn
  rw [gl_lim _ _ (by rw [h]) (by rw [h]; omega)]
theorem gl_size (b : List Nat) (most : Int) (hb : ∀ x ∈ b, x < 256) : (gl b most).2.1 ≤ b.length := by
  by_cases h : (gl b most).2.2 = 0
  · exact (gl_good b most hb h).1
  · by_cases h1 : (Leb.dec b).2.2 = 0
    · by_cases h2 : most < 0 ∨ most < ((Leb.dec b).1 : Int)
      · rw [gl_lim b most h1 h2]; exact Nat.zero_le _
      · rw [gl_ok b most h1 h2] at h; exact absurd rfl h
    · rw [gl_err b most h1]; exact Nat.zero_le _
theorem gt_err (b : List Nat) (most : Int) (h : (gl b most).2.2 ≠ 0) : gt b most = ([], 0, (gl b most).2.2) := by unfold gt; rw [if_pos h]
theorem gt_cut (b : List Nat) (most : Int) (h : (gl b most).2.2 = 0) (hl : b.length < (gl b most).2.1 + (gl b most).1) : gt b most = ([], 0, 3) := by unfold gt; rw [if_neg (by simp [h]), if_pos hl]
theorem gt_ok (b : List Nat) (most : Int) (h : (gl b most).2.2 = 0) (hl : ¬ b.length < (gl b most).2.1 + (gl b most).1) : gt b most = ((b.drop (gl b most).2.1).take (gl b most).1, (gl b most).2.1 + (gl b most).1, 0) := by unfold gt; rw [if_neg (by simp [h]), if_neg hl]
theorem gt_good (b : List Nat) (most : Int) (hb : ∀ x ∈ b, x < 256) (h : (gt b most).2.2 = 0) : (gt b most).2.1 ≤ b.length ∧ b = enT (str (gt b most).1) ++ b.drop (gt b most).2.1 ∧ (gt b most).2.1 = (enT (str (gt b most).1)).length ∧ (gt b most).1.length ≤ b.length := by
  by_cases h1 : (gl b most).2.2 = 0
  · by_cases h2 : b.length < (gl b most).2.1 + (gl b most).1
    · rw [gt_cut b most h1 h2] at h; cases h
    · obtain ⟨e1, e2, e3, e4, e5⟩ := gl_good b most hb h1
      rw [gt_ok b most h1 h2]
      simp only
      have hlen : ((b.drop (gl b most).2.1).take (gl b most).1).length = (gl b most).1 := by rw [List.length_take, List.length_drop]; omega
      have hbt : ∀ x ∈ (b.drop (gl b most).2.1).take (gl b most).1, x < 256 := fun x hx => hb x (List.mem_of_mem_drop (List.mem_of_mem_take hx))
      have hT : enT (str ((b.drop (gl b most).2.1).take (gl b most).1)) = Leb.enc (gl b most).1 ++ (b.drop (gl b most).2.1).take (gl b most).1 := by
        unfold enT; rw [str_size, hlen, bl_str _ hbt]
      rw [hT]
      refine ⟨by omega, ?_, by rw [List.length_append, hlen, ← e3], by omega⟩
      conv => lhs; rw [e2]
      rw [List.append_assoc]
      congr 1
      conv => lhs; rw [← List.take_append_drop (gl b most).1 (b.drop (gl b most).2.1)]
      rw [List.drop_drop]
  · rw [gt_err b most h1] at h; exact absurd h h1
theorem gt_enT (s : ByteArray) (t : List Nat) (most : Int) (hn : s.size < 2 ^ 64) (hm : (s.size : Int) ≤ most) : gt (enT s ++ t) most = (bl s, (enT s).length, 0) := by
  have h := gl_enc s.size (bl s ++ t) most hn hm
  have e : enT s ++ t = Leb.enc s.size ++ (bl s ++ t) := by unfold enT; rw [List.append_assoc]
  rw [e, gt_ok _ _ (by rw [h]) (by rw [h]; simp [bl_length]), h]
  simp only
  rw [List.drop_left, ← bl_length, List.take_left]
  simp [enT, bl_length]
theorem gt_long (s : ByteArray) (t : List Nat) (most : Int) (hn : s.size < 2 ^ 64) (hm : most < (s.size : Int)) : gt (enT s ++ t) most = ([], 0, 5) := by
  have h := gl_long s.size (bl s ++ t) most hn hm
  have e : enT s ++ t = Leb.enc s.size ++ (bl s ++ t) := by unfold enT; rw [List.append_assoc]
  rw [e, gt_err _ _ (by rw [h]; simp), h]
theorem gt_size (b : List Nat) (most : Int) (hb : ∀ x ∈ b, x < 256) : (gt b most).2.1 ≤ b.length ∧ (gt b most).1.length ≤ b.length := by
  by_cases h : (gt b most).2.2 = 0
  · have := gt_good b most hb h; exact ⟨this.1, this.2.2.2⟩
  · by_cases h1 : (gl b most).2.2 = 0
    · by_cases h2 : b.length < (gl b most).2.1 + (gl b most).1
      · rw [gt_cut b most h1 h2]; simp
      · rw [gt_ok b most h1 h2] at h; exact absurd rfl h
    · rw [gt_err b most h1]; simp
theorem gd_err (b : List Nat) (most : Int) (m : Nat) (d : List ByteArray) (at_ : Nat) (h : (gt (b.drop at_) most).2.2 ≠ 0) : gd b most (m + 1) d at_ = ([], 0, (gt (b.drop at_) most).2.2) := by rw [gd, if_pos h]
theorem gd_dup (b : List Nat) (most : Int) (m : Nat) (d : List ByteArray) (at_ : Nat) (h : (gt (b.drop at_) most).2.2 = 0) (hi : idx d (str (gt (b.drop at_) most).1) < d.length) : gd b most (m + 1) d at_ = ([], 0, 150) := by rw [gd, if_neg (by simp [h]), if_pos hi]
theorem gd_ok (b : List Nat) (most : Int) (m : Nat) (d : List ByteArray) (at_ : Nat) (h : (gt (b.drop at_) most).2.2 = 0) (hi : ¬ idx d (str (gt (b.drop at_) most).1) < d.length) : gd b most (m + 1) d at_ = gd b most m (d ++ [str (gt (b.drop at_) most).1]) (at_ + (gt (b.drop at_) most).2.1) := by rw [gd, if_neg (by simp [h]), if_neg hi]
theorem mem_drop' {b : List Nat} (hb : ∀ x ∈ b, x < 256) (k : Nat) : ∀ x ∈ b.drop k, x < 256 := fun x hx => hb x (List.mem_of_mem_drop hx)
/-- What stands there are the texts that were got, each new. -/
theorem gd_good (b : List Nat) (most : Int) (hb : ∀ x ∈ b, x < 256) : ∀ (m : Nat) (d : List ByteArray) (at_ : Nat), at_ ≤ b.length → (gd b most m d at_).2.2 = 0 → Once d →
    ∃ ds, (gd b most m d at_).1 = d ++ ds ∧ ds.length = m ∧ Once (d ++ ds) ∧ b.drop at_ = enD ds ++ b.drop (gd b most m d at_).2.1 ∧ (gd b most m d at_).2.1 = at_ + (enD ds).length ∧ (gd b most m d at_).2.1 ≤ b.length
  | 0, d, at_, hat, h, ho => ⟨[], by simp [gd], rfl, by simpa using ho, by simp [gd, enD], by simp [gd, enD], hat⟩
  | m + 1, d, at_, hat, h, ho => by
    by_cases h1 : (gt (b.drop at_) most).2.2 = 0
    · by_cases h2 : idx d (str (gt (b.drop at_) most).1) < d.length
      · rw [gd_dup b most m d at_ h1 h2] at h; cases h
      · rw [gd_ok b most m d at_ h1 h2] at h ⊢
        obtain ⟨e1, e2, e3, _⟩ := gt_good _ most (mem_drop' hb at_) h1
        rw [List.length_drop] at e1
        generalize str (gt (b.drop at_) most).1 = s at *
        have ho2 : Once (d ++ [s]) := by have := ho.put s; rwa [put_new d s h2] at this
        obtain ⟨ds, g1, g2, g3, g4, g5, g6⟩ := gd_good b most hb m (d ++ [s]) _ (by omega) h ho2
        refine ⟨s :: ds, by rw [g1, List.append_assoc]; rfl, by simp [g2], by simpa [List.append_assoc] using g3, ?_, ?_, g6⟩
        · conv => lhs; rw [e2]
          rw [List.drop_drop, g4, enD_cons, List.append_assoc]
        · rw [g5, e3, enD_cons, List.length_append]; omega
    · rw [gd_err b most m d at_ h1] at h; exact absurd h h1
theorem gd_put (most : Int) (t : List Nat) : ∀ (ds d : List ByteArray) (b : List Nat) (at_ : Nat), b.drop at_ = enD ds ++ t → Once (d ++ ds) → (∀ s ∈ ds, s.size < 2 ^ 64 ∧ (s.size : Int) ≤ most) →
    gd b most ds.length d at_ = (d ++ ds, at_ + (enD ds).length, 0)
  | [], d, b, at_, h, ho, hs => by simp [gd, enD]
  | s :: ds, d, b, at_, h, ho, hs => by
    have hg := gt_enT s (enD ds ++ t) most (hs s (List.mem_cons_self ..)).1 (hs s (List.mem_cons_self ..)).2
    have e : b.drop at_ = enT s ++ (enD ds ++ t) := by rw [h, enD_cons, List.append_assoc]
    rw [← e] at hg
    have hn : ¬ idx d s < d.length := by
      intro hlt
      have e2 := idx_app d (s :: ds) s hlt
      have := ho d.length s (by rw [List.getElem?_append_right (Nat.le_refl _)]; simp)
      omega
    rw [List.length_cons, gd_ok b most _ d at_ (by rw [hg]) (by rw [hg, str_bl]; exact hn), hg]
    simp only [str_bl]
    rw [gd_put most t ds (d ++ [s]) b _ (by rw [← List.drop_drop, e, List.drop_left]) (by simpa [List.append_assoc] using ho) (fun x hx => hs x (List.mem_cons_of_mem _ hx))]
    rw [enD_cons, List.length_append]
    simp [Nat.add_assoc]
theorem gd_toolong (most : Int) (t : List Nat) : ∀ (ds d : List ByteArray) (b : List Nat) (at_ : Nat), b.drop at_ = enD ds ++ t → Once (d ++ ds) → (∀ s ∈ ds, s.size < 2 ^ 64) → (∃ s ∈ ds, most < (s.size : Int)) →
    gd b most ds.length d at_ = ([], 0, 5)
  | [], d, b, at_, h, ho, hs, hl => by obtain ⟨s, h, _⟩ := hl; cases h
  | s :: ds, d, b, at_, h, ho, hs, hl => by
    have e : b.drop at_ = enT s ++ (enD ds ++ t) := by rw [h, enD_cons, List.append_assoc]
    by_cases hm : most < (s.size : Int)
    · have hg := gt_long s (enD ds ++ t) most (hs s (List.mem_cons_self ..)) hm
      rw [← e] at hg
      rw [List.length_cons, gd_err b most _ d at_ (by rw [hg]; simp), hg]
    · have hg := gt_enT s (enD ds ++ t) most (hs s (List.mem_cons_self ..)) (by omega)
      rw [← e] at hg
      have hn : ¬ idx d s < d.length := by
        intro hlt
        have e2 := idx_app d (s :: ds) s hlt
        have := ho d.length s (by rw [List.getElem?_append_right (Nat.le_refl _)]; simp)
        omega
      rw [List.length_cons, gd_ok b most _ d at_ (by rw [hg]) (by rw [hg, str_bl]; exact hn), hg]
      simp only [str_bl]
      refine gd_toolong most t ds (d ++ [s]) b _ (by rw [← List.drop_drop, e, List.drop_left]) (by simpa [List.append_assoc] using ho) (fun x hx => hs x (List.mem_cons_of_mem _ hx)) ?_
      obtain ⟨x, hx, hx2⟩ := hl
      rcases List.mem_cons.1 hx with rfl | hx
      · exact absurd hx2 hm
      · exact ⟨x, hx, hx2⟩
theorem gn_err (b : List Nat) (D : List ByteArray) (m u : Nat) (T : List ByteArray) (at_ : Nat) (h : (Leb.dec (b.drop at_)).2.2 ≠ 0) : gn b D (m + 1) u T at_ = ([], 0, (Leb.dec (b.drop at_)).2.2) := by rw [gn, if_pos h]
theorem gn_bad (b : List Nat) (D : List ByteArray) (m u : Nat) (T : List ByteArray) (at_ : Nat) (h : (Leb.dec (b.drop at_)).2.2 = 0) (hi : ¬ ((Leb.dec (b.drop at_)).1 < D.length ∧ (Leb.dec (b.drop at_)).1 ≤ u)) : gn b D (m + 1) u T at_ = ([], 0, 150) := by rw [gn, if_neg (by simp [h]), dif_neg hi]
theorem gn_ok (b : List Nat) (D : List ByteArray) (m u : Nat) (T : List ByteArray) (at_ : Nat) (h : (Leb.dec (b.drop at_)).2.2 = 0) (s : ByteArray) (hs : D[(Leb.dec (b.drop at_)).1]? = some s) (hu : (Leb.dec (b.drop at_)).1 ≤ u) :
    gn b D (m + 1) u T at_ = gn b D m (max u ((Leb.dec (b.drop at_)).1 + 1)) (T ++ [s]) (at_ + (Leb.dec (b.drop at_)).2.1) := by
  obtain ⟨h1, h2⟩ := List.getElem?_eq_some_iff.1 hs
  rw [gn, if_neg (by simp [h]), dif_pos ⟨h1, hu⟩, h2]
/-- Numbers that are put are got as jn joins them. -/
theorem gn_put (D : List ByteArray) (t : List Nat) : ∀ (N : List Nat) (u : Nat) (T : List ByteArray) (b : List Nat) (at_ u' : Nat) (T' : List ByteArray), b.drop at_ = enN N ++ t → (∀ x ∈ N, x < 2 ^ 64) →
    jn D u T (N.map (fun (n : Nat) => (n : Int))) = some (u', T') → D.length ≤ u' → gn b D N.length u T at_ = (T', at_ + (enN N).length, 0)
  | [], u, T, b, at_, u', T', h, hN, hj, hu => by
    simp [jn] at hj
    obtain ⟨rfl, rfl⟩ := hj
    simp [gn, enN]; omega
  | x :: N, u, T, b, at_, u', T', h, hN, hj, hu => by
    have e : b.drop at_ = Leb.enc x ++ (enN N ++ t) := by rw [h, enN_cons, List.append_assoc]
    have hg := Leb.dec_enc x (enN N ++ t) (hN x (List.mem_cons_self ..))
    rw [← e] at hg
    rw [List.map_cons] at hj
    by_cases hx : 0 ≤ (x : Int) ∧ (x : Int) < (D.length : Int) ∧ (x : Int) ≤ (u : Int)
    · have hs : D[x]? = some (D[x]'(by omega)) := List.getElem?_eq_getElem _
      rw [jn_yes D u T _ _ x _ rfl hs (by omega)] at hj
      rw [List.length_cons, gn_ok b D _ u T at_ (by rw [hg]) (D[x]'(by omega)) (by rw [hg]; exact hs) (by rw [hg]; simp; omega), hg]
      simp only
      rw [gn_put D t N _ _ b _ u' T' (by rw [← List.drop_drop, e, List.drop_left]) (fun y hy => hN y (List.mem_cons_of_mem _ hy)) hj hu]
      rw [enN_cons, List.length_append]
      simp [Nat.add_assoc]
    · rw [jn_no _ _ _ _ _ hx] at hj; cases hj
theorem gn_good (b : List Nat) (D : List ByteArray) (hb : ∀ x ∈ b, x < 256) : ∀ (m u : Nat) (T : List ByteArray) (at_ : Nat), at_ ≤ b.length → u ≤ D.length → (gn b D m u T at_).2.2 = 0 →
    ∃ N : List Nat, N.length = m ∧ jn D u T (N.map (fun (n : Nat) => (n : Int))) = some (D.length, (gn b D m u T at_).1) ∧ b.drop at_ = enN N ++ b.drop (gn b D m u T at_).2.1 ∧ (gn b D m u T at_).2.1 = at_ + (enN N).length ∧ (gn b D m u T at_).2.1 ≤ b.length
  | 0, u, T, at_, hat, hu, h => by
    unfold gn at h ⊢
    by_cases h1 : u < D.length
    · rw [if_pos h1] at h; cases h
    · rw [if_neg h1]
      have : u = D.length := by omega
      subst this
      exact ⟨[], rfl, rfl, by simp [enN], by simp [enN], hat⟩
  | m + 1, u, T, at_, hat, hu, h => by
    by_cases h1 : (Leb.dec (b.drop at_)).2.2 = 0
    · by_cases h2 : (Leb.dec (b.drop at_)).1 < D.length ∧ (Leb.dec (b.drop at_)).1 ≤ u
      · have hs : D[(Leb.dec (b.drop at_)).1]? = some (D[(Leb.dec (b.drop at_)).1]'h2.1) := List.getElem?_eq_getElem _
        rw [gn_ok b D m u T at_ h1 _ hs h2.2] at h ⊢
        obtain ⟨_, e1, e2, e3⟩ := Leb.enc_dec (b.drop at_) (Leb.dec (b.drop at_)).1 (Leb.dec (b.drop at_)).2.1 (mem_drop' hb at_) (by rw [← h1])
        rw [List.length_drop] at e1
        have e4 : b.drop at_ = Leb.enc (Leb.dec (b.drop at_)).1 ++ b.drop (at_ + (Leb.dec (b.drop at_)).2.1) := by
          conv => lhs; rw [← List.take_append_drop (Leb.dec (b.drop at_)).2.1 (b.drop at_), e2]
          rw [List.drop_drop]
        have e5 : (Leb.dec (b.drop at_)).2.1 = (Leb.enc (Leb.dec (b.drop at_)).1).length := by
          rw [← e2, List.length_take, List.length_drop]; omega
        obtain ⟨N, g1, g2, g3, g4, g5⟩ := gn_good b D hb m _ _ _ (by omega) (by omega) h
        refine ⟨(Leb.dec (b.drop at_)).1 :: N, by simp [g1], ?_, ?_, ?_, g5⟩
        · rw [List.map_cons, jn_yes D u T _ _ _ _ rfl hs h2.2]; exact g2
        · conv => lhs; rw [e4]
          rw [g3, enN_cons, List.append_assoc]
        · rw [g4, enN_cons, List.length_append, ← e5]; omega
      · rw [gn_bad b D m u T at_ h1 h2] at h; cases h
    · rw [gn_err b D m u T at_ h1] at h; exact absurd h h1
/-- Errors leave nothing. -/
theorem gd_none (b : List Nat) (most : Int) : ∀ (m : Nat) (d : List ByteArray) (at_ : Nat), (gd b most m d at_).2.2 ≠ 0 → (gd b most m d at_).1 = [] ∧ (gd b most m d at_).2.1 = 0
  | 0, d, at_, h => absurd rfl h
  | m + 1, d, at_, h => by
    by_cases h1 : (gt (b.drop at_) most).2.2 = 0
    · by_cases h2 : idx d (str (gt (b.drop at_) most).1) < d.length
      · rw [gd_dup b most m d at_ h1 h2]; exact ⟨rfl, rfl⟩
      · rw [gd_ok b most m d at_ h1 h2] at h ⊢; exact gd_none b most m _ _ h
    · rw [gd_err b most m d at_ h1]; exact ⟨rfl, rfl⟩
theorem gn_none (b : List Nat) (D : List ByteArray) : ∀ (m u : Nat) (T : List ByteArray) (at_ : Nat), (gn b D m u T at_).2.2 ≠ 0 → (gn b D m u T at_).1 = [] ∧ (gn b D m u T at_).2.1 = 0
  | 0, u, T, at_, h => by
    unfold gn at h ⊢
    split
    · exact ⟨rfl, rfl⟩
    · rename_i h1; rw [if_neg h1] at h; exact absurd rfl h
  | m + 1, u, T, at_, h => by
    by_cases h1 : (Leb.dec (b.drop at_)).2.2 = 0
    · by_cases h2 : (Leb.dec (b.drop at_)).1 < D.length ∧ (Leb.dec (b.drop at_)).1 ≤ u
      · have hs : D[(Leb.dec (b.drop at_)).1]? = some (D[(Leb.dec (b.drop at_)).1]'h2.1) := List.getElem?_eq_getElem _
        rw [gn_ok b D m u T at_ h1 _ hs h2.2] at h ⊢
        exact gn_none b D m _ _ _ h
      · rw [gn_bad b D m u T at_ h1 h2]; exact ⟨rfl, rfl⟩
    · rw [gn_err b D m u T at_ h1]; exact ⟨rfl, rfl⟩
theorem get_none (b : List Nat) (n most : Int) (h : (get b n most).2.2 ≠ 0) : (get b n most).1 = [] ∧ (get b n most).2.1 = 0 := by
  unfold get at h ⊢
  split
  · exact ⟨rfl, rfl⟩
  · rename_i h1
    rw [if_neg h1] at h
    split
    · exact ⟨rfl, rfl⟩
    · rename_i h2
      rw [if_neg h2] at h
      split
      · exact ⟨rfl, rfl⟩
      · rename_i h3
        rw [if_neg h3] at h
        exact gn_none _ _ _ _ _ _ h
theorem nums_lt (l : List ByteArray) (hl : l.length < 2 ^ 63) : ∀ x ∈ (spl ([] : List ByteArray) [] l).2, x < 2 ^ 64 := by
  intro x hx
  obtain ⟨i, hi, rfl⟩ := List.getElem_of_mem hx
  have h1 := spl_len [] l
  have h2 : l[i]? = some (l[i]'(by omega)) := List.getElem?_eq_getElem _
  have h3 := (spl_get [] l i _ h2).1
  rw [List.getElem?_eq_getElem hi] at h3
  injection h3 with h3
  rw [h3]
  have := idx_le (spl ([] : List ByteArray) [] l).1 (l[i]'(by omega))
  simp at h1
  omega
/-- What is put is got as it was, whatever stands behind. -/
theorem get_put (l : List ByteArray) (t : List Nat) (most : Int) (hl : l.length ≤ 1048576) (hs : ∀ s ∈ l, s.size < 2 ^ 64 ∧ (s.size : Int) ≤ most) : get (enL l ++ t) l.length most = (l, (enL l).length, 0) := by
  have h1 := spl_len [] l
  have hg := gl_enc (spl [] [] l).1.length (enD (spl [] [] l).1 ++ enN (spl [] [] l).2 ++ t) l.length (by simp at h1; omega) (by simp at h1; omega)
  have e : enL l ++ t = Leb.enc (spl [] [] l).1.length ++ (enD (spl [] [] l).1 ++ enN (spl [] [] l).2 ++ t) := by unfold enL; simp [List.append_assoc]
  rw [← e] at hg
  have hd := gd_put most (enN (spl [] [] l).2 ++ t) (spl [] [] l).1 [] (enL l ++ t) (Leb.enc (spl [] [] l).1.length).length (by rw [e, List.drop_left, List.append_assoc]) (by simpa using Once.nil.spl l)
    (fun s hx => (spl_mem [] l s hx).elim (fun h => by cases h) (fun h => hs s h))
  have hj := spl_jn (D := (spl [] [] l).1) [] [] [] l (by simp)
  have hn := gn_put (spl [] [] l).1 t (spl [] [] l).2 0 [] (enL l ++ t) ((Leb.enc (spl [] [] l).1.length).length + (enD (spl [] [] l).1).length) _ _
    (by rw [← List.drop_drop, e, List.drop_left, List.append_assoc, List.drop_left]) (nums_lt l (by omega)) hj (Nat.le_refl _)
  rw [h1.1] at hn
  unfold get
  rw [if_neg (by omega), hg]
  simp only [ne_eq, not_true_eq_false, if_false, hd, List.nil_append]
  rw [Int.toNat_natCast, hn]
  simp [enL, List.length_append, Nat.add_assoc]
theorem get_long (l : List ByteArray) (t : List Nat) (most : Int) (hl : l.length ≤ 1048576) (hs : ∀ s ∈ l, s.size < 2 ^ 64) (hx : ∃ s ∈ l, most < (s.size : Int)) : get (enL l ++ t) l.length most = ([], 0, 5) := by
  have h1 := spl_len [] l
  have hg := gl_enc (spl [] [] l).1.length (enD (spl [] [] l).1 ++ enN (spl [] [] l).2 ++ t) l.length (by simp at h1; omega) (by simp at h1; omega)
  have e : enL l ++ t = Leb.enc (spl [] [] l).1.length ++ (enD (spl [] [] l).1 ++ enN (spl [] [] l).2 ++ t) := by unfold enL; simp [List.append_assoc]
  rw [← e] at hg
  have hd := gd_toolong most (enN (spl [] [] l).2 ++ t) (spl [] [] l).1 [] (enL l ++ t) (Leb.enc (spl [] [] l).1.length).length (by rw [e, List.drop_left, List.append_assoc]) (by simpa using Once.nil.spl l)
    (fun s hx => (spl_mem [] l s hx).elim (fun h => by cases h) (fun h => hs s h)) (by
      obtain ⟨s, hs1, hs2⟩ := hx
      obtain ⟨i, hi, rfl⟩ := List.getElem_of_mem hs1
      have := (spl_get [] l i _ (List.getElem?_eq_getElem hi)).2
      exact ⟨_, List.mem_of_getElem? this, hs2⟩)
  unfold get
  rw [if_neg (by omega), hg]
  simp only [ne_eq, not_true_eq_false, if_false, hd]
  simp
theorem nat_maps : ∀ {a b : List Nat}, a.map (fun (n : Nat) => (n : Int)) = b.map (fun (n : Nat) => (n : Int)) → a = b
  | [], [], _ => rfl
  | [], _ :: _, h => by cases h
  | _ :: _, [], h => by cases h
  | x :: a, y :: b, h => by
    rw [List.map_cons, List.map_cons] at h
    injection h with h1 h2
    rw [nat_maps h2, show x = y by omega]
/-- What can be got is put as just those bytes. -/
theorem get_good (b : List Nat) (n most : Int) (hb : ∀ x ∈ b, x < 256) (h : (get b n most).2.2 = 0) : ((get b n most).1.length : Int) = n ∧ (get b n most).2.1 ≤ b.length ∧ b.take (get b n most).2.1 = enL (get b n most).1 := by
  unfold get at h ⊢
  by_cases h0 : n < 0 ∨ 1048576 < n
  · rw [if_pos h0] at h; cases h
  · rw [if_neg h0] at h ⊢
    by_cases h1 : (gl b n).2.2 = 0
    · rw [if_neg (by simp [h1])] at h ⊢
      by_cases h2 : (gd b most (gl b n).1 [] (gl b n).2.1).2.2 = 0
      · rw [if_neg (by simp [h2])] at h ⊢
        obtain ⟨a1, a2, a3, a4, a5⟩ := gl_good b n hb h1
        obtain ⟨ds, c1, c2, c3, c4, c5, c6⟩ := gd_good b most hb (gl b n).1 [] (gl b n).2.1 a1 h2 Once.nil
        rw [List.nil_append] at c1 c3
        rw [c1] at h ⊢
        obtain ⟨N, g1, g2, g3, g4, g5⟩ := gn_good b ds hb n.toNat 0 [] _ c6 (Nat.zero_le _) h
        have hlen := jn_len ds 0 [] _ g2
        have hj : joi ds (N.map (fun (n : Nat) => (n : Int))) = some (gn b ds n.toNat 0 [] (gd b most (gl b n).1 [] (gl b n).2.1).2.1).1 := by
          unfold joi; rw [g2]; simp
        obtain ⟨s1, s2⟩ := spl_joi ds c3 _ _ hj
        have s3 : (spl [] [] (gn b ds n.toNat 0 [] (gd b most (gl b n).1 [] (gl b n).2.1).2.1).1).2 = N := by
          exact nat_maps s2
        refine ⟨by simp at hlen; omega, g5, ?_⟩
        unfold enL
        rw [s1, s3, c2]
        have e : b = (Leb.enc (gl b n).1 ++ enD ds ++ enN N) ++ b.drop (gn b ds n.toNat 0 [] (gd b most (gl b n).1 [] (gl b n).2.1).2.1).2.1 := by
          conv => lhs; rw [a2, c4, g3]
          simp [List.append_assoc]
        have el : (gn b ds n.toNat 0 [] (gd b most (gl b n).1 [] (gl b n).2.1).2.1).2.1 = (Leb.enc (gl b n).1 ++ enD ds ++ enN N).length := by
          rw [g4, c5, a3]; simp only [List.length_append]
        generalize b.drop _ = Z at e
        rw [el]
        generalize Leb.enc (gl b n).1 ++ enD ds ++ enN N = Y at *
        rw [e, List.take_left]
      · rw [if_pos h2] at h; exact absurd h h2
    · rw [if_pos h1] at h; exact absurd h h1
end Dc
end Go.Proofs.Ytenfjmdajlhfoaa
