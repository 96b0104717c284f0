/- Rows, plain: how they are checked, compared and picked; their keys, put together and taken apart. -/
import Derived.Test.YtanjdjiigfdnmaaGreatDoorClR
namespace Go.Proofs.YtanjdjiigfdnmaaGreatDoor.Rw
open Cl
set_option linter.unusedVariables false

/-- The first number that is not 0. -/
def fnz : List Int → Int
  | [] => 0
  | x :: t => if x ≠ 0 then x else fnz t
theorem fnz_drop {l : List Int} {k : Nat} {x : Int} (h : l[k]? = some x) : fnz (l.drop k) = if x ≠ 0 then x else fnz (l.drop (k + 1)) := by
  obtain ⟨hk, e⟩ := List.getElem?_eq_some_iff.1 h
  rw [List.drop_eq_getElem_cons hk, e]; rfl
theorem fnz_end {l : List Int} {k : Nat} (h : l.length ≤ k) : fnz (l.drop k) = 0 := by
  rw [List.drop_eq_nil_of_le h]; rfl

/-- Types of columns: may it be nothing; its kind. -/
abbrev Ty := Bool × Int
def chkL (ts : List Ty) (r : List C) : List Int := List.zipWith (fun (t : Ty) c => ((chk t.1 t.2 c : Nat) : Int)) ts r
def chkR (ts : List Ty) (r : List C) : Int := if r.length ≠ ts.length then 100 else fnz (chkL ts r)
/-- 1, 0, -1: how two numbers stand. -/
def c3 (a b : Nat) : Int := if a < b then -1 else if b < a then 1 else 0
def cmpL (a b : List C) : List Int := List.zipWith cmp a b
def cmps (a b : List C) : Int := if fnz (cmpL a b) ≠ 0 then fnz (cmpL a b) else c3 a.length b.length
theorem cmps_cons (a b : C) (l r : List C) : cmps (a :: l) (b :: r) = if cmp a b ≠ 0 then cmp a b else cmps l r := by
  have e : fnz (cmpL (a :: l) (b :: r)) = if cmp a b ≠ 0 then cmp a b else fnz (cmpL l r) := rfl
  unfold cmps
  rw [e]
  by_cases h : cmp a b = 0
  · simp [h, c3]
  · simp [h]
theorem cmps_nil : cmps [] [] = 0 := rfl
theorem cmps_nl (b : C) (r : List C) : cmps [] (b :: r) = -1 := by simp [cmps, cmpL, fnz, c3]
theorem cmps_ln (b : C) (r : List C) : cmps (b :: r) [] = 1 := by simp [cmps, cmpL, fnz, c3]
theorem cmps_range : ∀ a b : List C, -1 ≤ cmps a b ∧ cmps a b ≤ 1
  | [], [] => by rw [cmps_nil]; omega
  | [], _ :: _ => by rw [cmps_nl]; omega
  | _ :: _, [] => by rw [cmps_ln]; omega
  | a :: l, b :: r => by
    rw [cmps_cons]
    split
    · exact cmp_range a b
    · exact cmps_range l r
theorem cmps_neg : ∀ a b : List C, cmps a b = -cmps b a
  | [], [] => by rw [cmps_nil]; omega
  | [], _ :: _ => by rw [cmps_nl, cmps_ln]
  | _ :: _, [] => by rw [cmps_nl, cmps_ln]; omega
  | a :: l, b :: r => by
    have h := cmp_neg a b
    have k := cmps_neg l r
    rw [cmps_cons, cmps_cons]
    by_cases hz : cmp b a = 0
    · rw [if_neg (by omega), if_neg (by omega)]; exact k
    · rw [if_pos (by omega), if_pos (by omega)]; exact h
theorem cmps_zero : ∀ a b : List C, cmps a b = 0 ↔ a = b
  | [], [] => by simp [cmps_nil]
  | [], _ :: _ => by simp [cmps_nl]
  | _ :: _, [] => by simp [cmps_ln]
  | a :: l, b :: r => by
    rw [cmps_cons]
    have h := cmp_zero a b
    have k := cmps_zero l r
    by_cases hz : cmp a b = 0
    · rw [if_neg (by omega), k]; simp [h.1 hz]
    · rw [if_pos hz]
      constructor
      · intro e; exact absurd e hz
      · intro e; exact absurd (h.2 (List.cons.inj e).1) hz
theorem cmp_lt_trans (a b c : C) (h : cmp a b < 0) (k : cmp b c < 0) : cmp a c < 0 := by
  rcases cmp_cases a b with ⟨h1, l1⟩ | ⟨h1, _⟩ | ⟨h1, _⟩
  · rcases cmp_cases b c with ⟨k1, l2⟩ | ⟨k1, _⟩ | ⟨k1, _⟩
    · rcases cmp_cases a c with ⟨m1, _⟩ | ⟨_, m2⟩ | ⟨_, m2⟩
      · omega
      · subst m2; exact absurd (lt_trans l1 l2) (lt_irrefl a)
      · exact absurd (lt_trans (lt_trans l1 l2) m2) (lt_irrefl a)
    · omega
    · omega
  · omega
  · omega
theorem cmps_trans : ∀ a b c : List C, cmps a b ≤ 0 → cmps b c ≤ 0 → cmps a c ≤ 0
  | [], _, [] => fun _ _ => by rw [cmps_nil]; omega
  | [], _, _ :: _ => fun _ _ => by rw [cmps_nl]; omega
  | _ :: _, [], _ => fun h _ => by rw [cmps_ln] at h; omega
  | _ :: _, _ :: _, [] => fun _ h => by rw [cmps_ln] at h; omega
  | a :: l, b :: r, c :: s => by
    rw [cmps_cons, cmps_cons, cmps_cons]
    by_cases h1 : cmp a b = 0
    · obtain rfl := (cmp_zero a b).1 h1
      rw [if_neg (by omega)]
      by_cases h2 : cmp a c = 0
      · rw [if_neg (by omega), if_neg (by omega)]; exact cmps_trans l r s
      · rw [if_pos h2, if_pos h2]; intro _ h; exact h
    · rw [if_pos h1]
      by_cases h2 : cmp b c = 0
      · obtain rfl := (cmp_zero b c).1 h2
        rw [if_pos h1]; intro h _; exact h
      · rw [if_pos h2]
        intro h k
        have := cmp_lt_trans a b c (by omega) (by omega)
        rw [if_pos (by omega)]; omega

/-- Are all places of so many? -/
def okP (ps : List Int) (n : Nat) : Bool := ps.all fun p => decide (0 ≤ p ∧ p < (n : Int))
theorem okP_at {ps : List Int} {n : Nat} (h : okP ps n = true) {i : Nat} {p : Int} (hp : ps[i]? = some p) : 0 ≤ p ∧ p < (n : Int) := by
  unfold okP at h
  rw [List.all_eq_true] at h
  simpa using h p (List.mem_of_getElem? hp)
theorem okP_no {ps : List Int} {n i : Nat} {p : Int} (hp : ps[i]? = some p) (h : ¬ (0 ≤ p ∧ p < (n : Int))) : okP ps n = false := by
  cases e : okP ps n with
  | false => rfl
  | true => exact absurd (okP_at e hp) h
theorem okP_cons {p : Int} {ps : List Int} {n : Nat} : okP (p :: ps) n = true ↔ (0 ≤ p ∧ p < (n : Int)) ∧ okP ps n = true := by
  unfold okP; rw [List.all_cons]; simp
def cAt (r : List C) (p : Int) : C := r.getD p.toNat empty
def tAt (ts : List Ty) (p : Int) : Ty := ts.getD p.toNat (false, 0)
theorem cAt_some {r : List C} {p : Int} (h : 0 ≤ p ∧ p < (r.length : Int)) : r[p.toNat]? = some (cAt r p) := by
  unfold cAt
  rw [List.getD_eq_getElem?_getD, List.getElem?_eq_getElem (show p.toNat < r.length by omega)]; rfl
theorem tAt_some {r : List Ty} {p : Int} (h : 0 ≤ p ∧ p < (r.length : Int)) : r[p.toNat]? = some (tAt r p) := by
  unfold tAt
  rw [List.getD_eq_getElem?_getD, List.getElem?_eq_getElem (show p.toNat < r.length by omega)]; rfl
def pick (r : List C) (ps : List Int) : List C := ps.map (cAt r)
/-- A key. -/
def kAt (ts : List Ty) (r : List C) (p : Int) : List Nat := bts (tAt ts p).1 (tAt ts p).2 (cAt r p)
def key (ts : List Ty) (ps : List Int) (r : List C) : List Nat := ps.flatMap (kAt ts r)
/-- A key that is taken apart: the error, the cells, what is left. -/
def unk (ts : List Ty) : List Int → List Nat → Nat × List C × List Nat
  | [], l => (0, [], l)
  | p :: ps, l =>
    let r := unb (tAt ts p).1 (tAt ts p).2 l
    if r.2.2 ≠ 0 then (r.2.2, [], []) else
    let q := unk ts ps (l.drop r.2.1)
    if q.1 ≠ 0 then (q.1, [], []) else (0, r.1 :: q.2.1, q.2.2)
/-- What Unkey answers. -/
def unkR (ts : List Ty) (ps : List Int) (l : List Nat) : Nat × List C :=
  if okP ps ts.length = false then (6, []) else
  let q := unk ts ps l
  if q.1 ≠ 0 then (q.1, []) else if q.2.2 ≠ [] then (30, []) else (0, q.2.1)
def pickR (r : List C) (ps : List Int) : Nat × List C := if okP ps r.length = false then (6, []) else (0, pick r ps)
def keyR (ts : List Ty) (ps : List Int) (r : List C) : Int × List Nat :=
  if chkR ts r ≠ 0 then (chkR ts r, []) else if okP ps r.length = false then (6, []) else (0, key ts ps r)

theorem fnz_zero : ∀ {l : List Int}, fnz l = 0 → ∀ x ∈ l, x = 0
  | [], _, x, hx => by cases hx
  | y :: t, h, x, hx => by
    unfold fnz at h
    by_cases hy : y = 0
    · rw [if_neg (by omega)] at h
      rcases List.mem_cons.1 hx with rfl | hx
      · exact hy
      · exact fnz_zero h x hx
    · rw [if_pos hy] at h; exact absurd h hy
/-- A row that fits: each cell is of its column's type. -/
theorem chkR_ok {ts : List Ty} {r : List C} (h : chkR ts r = 0) : r.length = ts.length ∧ ∀ p : Int, 0 ≤ p ∧ p < (r.length : Int) → may (tAt ts p).2 = true ∧ of (tAt ts p).1 (tAt ts p).2 (cAt r p) = true := by
  unfold chkR at h
  by_cases hl : r.length = ts.length
  · rw [if_neg (by omega)] at h
    refine ⟨hl, fun p hp => ?_⟩
    have e : (chkL ts r)[p.toNat]? = some ((chk (tAt ts p).1 (tAt ts p).2 (cAt r p) : Nat) : Int) := by
      unfold chkL
      rw [List.getElem?_zipWith, tAt_some (by omega), cAt_some hp]
    have := fnz_zero h _ (List.mem_of_getElem? e)
    exact chk_ok (by omega)
  · rw [if_pos hl] at h; omega
theorem chkR_of {ts : List Ty} {r : List C} (hl : r.length = ts.length) (h : ∀ i : Nat, i < r.length → may (tAt ts i).2 = true ∧ of (tAt ts i).1 (tAt ts i).2 (cAt r i) = true) : chkR ts r = 0 := by
  unfold chkR
  rw [if_neg (by omega)]
  have : ∀ x ∈ chkL ts r, x = 0 := by
    intro x hx
    obtain ⟨i, hi, e⟩ := List.mem_iff_getElem.1 hx
    have hir : i < r.length := by unfold chkL at hi; rw [List.length_zipWith] at hi; omega
    have e' : (chkL ts r)[i]? = some ((chk (tAt ts i).1 (tAt ts i).2 (cAt r i) : Nat) : Int) := by
      unfold chkL
      rw [List.getElem?_zipWith, show ts[i]? = some (tAt ts i) from tAt_some (p := (i : Nat)) (by omega), show r[i]? = some (cAt r i) from cAt_some (p := (i : Nat)) (by omega)]
    obtain ⟨h1, h2⟩ := h i hir
    rw [List.getElem?_eq_getElem hi, e] at e'
    injection e' with e'
    rw [e']
    simp [chk, h1, h2]
  clear h hl
  revert this
  generalize chkL ts r = l
  induction l with
  | nil => intro _; rfl
  | cons y t ih =>
    intro h
    unfold fnz
    rw [if_neg (by have := h y (List.mem_cons_self ..); omega)]
    exact ih fun x hx => h x (List.mem_cons_of_mem _ hx)

theorem key_cons (ts : List Ty) (r : List C) (p : Int) (ps : List Int) : key ts (p :: ps) r = kAt ts r p ++ key ts ps r := rfl
/-- The stage's theorem: keys stand as the cells at their places do. -/
theorem key_less (ts : List Ty) (a b : List C) (ha : chkR ts a = 0) (hb : chkR ts b = 0) (ia : ∀ c ∈ a, I64 c.n) (ib : ∀ c ∈ b, I64 c.n) : ∀ ps : List Int, okP ps a.length = true →
    (Tp.less (key ts ps a) (key ts ps b) = decide (cmps (pick a ps) (pick b ps) < 0)) ∧ (key ts ps a = key ts ps b ↔ cmps (pick a ps) (pick b ps) = 0)
  | [], _ => by
    constructor
    · rfl
    · exact ⟨fun _ => rfl, fun _ => rfl⟩
  | p :: ps, hp => by
    obtain ⟨h1, h2⟩ := okP_cons.1 hp
    obtain ⟨la, oa⟩ := chkR_ok ha
    obtain ⟨lb, ob⟩ := chkR_ok hb
    obtain ⟨ka, fa⟩ := oa p h1
    obtain ⟨kb, fb⟩ := ob p (by omega)
    have na := ia _ (List.mem_of_getElem? (cAt_some h1))
    have nb := ib _ (List.mem_of_getElem? (cAt_some (r := b) (p := p) (by omega)))
    obtain ⟨l1, l2⟩ := key_less ts a b ha hb ia ib ps h2
    have ea : pick a (p :: ps) = cAt a p :: pick a ps := rfl
    have eb : pick b (p :: ps) = cAt b p :: pick b ps := rfl
    rw [key_cons, key_cons, ea, eb, cmps_cons]
    by_cases hc : cAt a p = cAt b p
    · have hz := (cmp_zero _ _).2 hc
      rw [if_neg (by omega)]
      unfold kAt
      rw [hc]
      exact ⟨(less_pre _ _ _).trans l1, by rw [List.append_cancel_left_eq]; exact l2⟩
    · have hz : cmp (cAt a p) (cAt b p) ≠ 0 := fun e => hc ((cmp_zero _ _).1 e)
      rw [if_pos hz]
      unfold kAt
      refine ⟨bts_less _ _ _ _ ka fa fb na nb hc _ _, ?_⟩
      constructor
      · intro e
        have e1 := bts_less _ _ _ _ ka fa fb na nb hc (key ts ps a) (key ts ps b)
        have e2 := bts_less _ _ _ _ ka fb fa nb na (Ne.symm hc) (key ts ps b) (key ts ps a)
        rw [e] at e1
        rw [← e] at e2
        have n1 := cmp_neg (cAt a p) (cAt b p)
        have irr : ∀ x : List Nat, Tp.less x x = false := fun x => by
          cases h : Tp.less x x with
          | false => rfl
          | true => have := less_asymm h; rw [h] at this; exact this
        rw [irr] at e1 e2
        have e1 := of_decide_eq_false e1.symm
        have e2 := of_decide_eq_false e2.symm
        omega
      · intro e; exact absurd e hz
/-- A key is taken apart into the cells of which it was put together. -/
theorem unk_key (ts : List Ty) (r : List C) (hr : chkR ts r = 0) (ir : ∀ c ∈ r, I64 c.n) : ∀ ps : List Int, okP ps r.length = true → unk ts ps (key ts ps r) = (0, pick r ps, [])
  | [], _ => rfl
  | p :: ps, hp => by
    obtain ⟨h1, h2⟩ := okP_cons.1 hp
    obtain ⟨la, oa⟩ := chkR_ok hr
    obtain ⟨ka, fa⟩ := oa p h1
    have na := ir _ (List.mem_of_getElem? (cAt_some h1))
    have e := unb_bts _ _ _ ka fa na (key ts ps r)
    have ih := unk_key ts r hr ir ps h2
    rw [key_cons]
    unfold unk kAt
    simp only [e, List.drop_left, ih]
    rfl
/-- Bytes that are taken apart are those of the cells. -/
theorem unk_good (ts : List Ty) : ∀ (ps : List Int) (l : List Nat) (r : List C) (z : List Nat), (∀ x ∈ l, x < 256) → unk ts ps l = (0, r, z) →
    r.length = ps.length ∧ (∀ (i : Nat) (p : Int) (c : C), ps[i]? = some p → r[i]? = some c → may (tAt ts p).2 = true ∧ of (tAt ts p).1 (tAt ts p).2 c = true ∧ I64 c.n) ∧
    l = (List.zipWith (fun p c => bts (tAt ts p).1 (tAt ts p).2 c) ps r).flatten ++ z
  | [], l, r, z, _, h => by
    unfold unk at h
    injection h with _ h
    injection h with h1 h2
    subst h1 h2
    exact ⟨rfl, fun i p c hi => by simp at hi, by simp⟩
  | p :: ps, l, r, z, hl, h => by
    unfold unk at h
    simp only at h
    obtain ⟨c, n, e, hu⟩ : ∃ c n e, unb (tAt ts p).1 (tAt ts p).2 l = (c, n, e) := ⟨_, _, _, rfl⟩
    rw [hu] at h
    simp only at h
    by_cases he : e = 0
    · subst he
      rw [if_neg (by omega)] at h
      obtain ⟨e2, r2, z2, h2⟩ : ∃ a b c, unk ts ps (l.drop n) = (a, b, c) := ⟨_, _, _, rfl⟩
      rw [h2] at h
      simp only at h
      by_cases he2 : e2 = 0
      · subst he2
        rw [if_neg (by omega)] at h
        injection h with _ h
        injection h with h3 h4
        subst h3 h4
        obtain ⟨g1, g2, g3, g4, g5⟩ := unb_good _ _ l hl c n hu
        obtain ⟨k1, k2, k3⟩ := unk_good ts ps (l.drop n) r2 z2 (fun x hx => hl x (List.mem_of_mem_drop hx)) h2
        refine ⟨by simp [k1], fun i q d hi hd => ?_, ?_⟩
        · cases i with
          | zero =>
            simp at hi hd
            subst hi hd
            exact ⟨g1, g2, g3⟩
          | succ i =>
            simp at hi hd
            exact k2 i q d hi hd
        · rw [List.zipWith_cons_cons, List.flatten_cons, List.append_assoc, ← k3, ← g5, List.take_append_drop]
      · rw [if_pos he2] at h; injection h with h; omega
    · rw [if_pos he] at h; injection h with h; omega
theorem unk_own (ts : List Ty) (l : List Nat) (r : List C) (hl : ∀ x ∈ l, x < 256) (h : unk ts ((List.range ts.length).map fun i => ((i : Nat) : Int)) l = (0, r, [])) :
    chkR ts r = 0 ∧ key ts ((List.range ts.length).map fun i => ((i : Nat) : Int)) r = l ∧ (∀ c ∈ r, I64 c.n) ∧ r.length = ts.length := by
  obtain ⟨h1, h2, h3⟩ := unk_good ts _ l r [] hl h
  have hlen : r.length = ts.length := by simpa using h1
  refine ⟨chkR_of hlen fun i hi => ?_, ?_, fun c hc => ?_, hlen⟩
  · obtain ⟨a, b, _⟩ := h2 i (i : Nat) (cAt r (i : Nat)) (by rw [List.getElem?_map, List.getElem?_range (by omega)]; rfl) (cAt_some (p := (i : Nat)) (by omega))
    exact ⟨a, b⟩
  · rw [h3, List.append_nil]
    unfold key
    rw [List.flatMap_def]
    congr 1
    apply List.ext_getElem?
    intro i
    rw [List.getElem?_map, List.getElem?_zipWith]
    by_cases hi : i < ts.length
    · rw [List.getElem?_map, List.getElem?_range hi]
      have := cAt_some (r := r) (p := (i : Nat)) (by omega)
      simp only [Int.toNat_natCast] at this
      rw [this]; rfl
    · rw [List.getElem?_map, List.getElem?_eq_none (l := List.range ts.length) (by simp; omega)]; rfl
  · obtain ⟨i, hi, e⟩ := List.mem_iff_getElem.1 hc
    exact (h2 i (i : Nat) c (by rw [List.getElem?_map, List.getElem?_range (by omega)]; rfl) (by rw [List.getElem?_eq_getElem hi, e])).2.2
/-- What is picked of what was picked. -/
theorem pick_pick (r : List C) (a b : List Int) (ha : okP a r.length = true) (hb : okP b a.length = true) : pick (pick r a) b = pick r (b.map fun q => a.getD q.toNat 0) := by
  unfold pick
  rw [List.map_map]
  apply List.map_congr_left
  intro q hq
  obtain ⟨i, hi, e⟩ := List.mem_iff_getElem.1 hq
  have h := okP_at hb (i := i) (p := q) (by rw [List.getElem?_eq_getElem hi, e])
  unfold cAt
  simp only [Function.comp]
  rw [List.getD_eq_getElem?_getD, List.getD_eq_getElem?_getD (l := a), List.getElem?_map, List.getElem?_eq_getElem (show q.toNat < a.length by omega)]
  rfl
/-- Steps of a key that is taken apart. -/
theorem unk_steps (ts : List Ty) : ∀ (ps : List Int) (l : List Nat), ∃ (m : Nat) (rest : Nat → List Nat) (out : Nat → C) (sz : Nat → Nat) (en : Nat), m ≤ ps.length ∧ rest 0 = l ∧
    (∀ i p, i < m → ps[i]? = some p → unb (tAt ts p).1 (tAt ts p).2 (rest i) = (out i, sz i, 0) ∧ rest (i + 1) = (rest i).drop (sz i)) ∧
    (∀ p, m < ps.length → ps[m]? = some p → en ≠ 0 ∧ (unb (tAt ts p).1 (tAt ts p).2 (rest m)).2.2 = en ∧ unk ts ps l = (en, [], [])) ∧
    (m = ps.length → unk ts ps l = (0, (List.range m).map out, rest m))
  | [], l => ⟨0, fun _ => l, fun _ => empty, fun _ => 0, 1, Nat.le_refl _, rfl, fun i p hi => by omega, fun p h => by simp at h, fun _ => rfl⟩
  | p :: ps, l => by
    obtain ⟨c, n, e, hu⟩ : ∃ c n e, unb (tAt ts p).1 (tAt ts p).2 l = (c, n, e) := ⟨_, _, _, rfl⟩
    by_cases he : e = 0
    · subst he
      obtain ⟨m, rest, out, sz, en, h1, h2, h3, h4, h5⟩ := unk_steps ts ps (l.drop n)
      refine ⟨m + 1, fun i => match i with | 0 => l | j + 1 => rest j, fun i => match i with | 0 => c | j + 1 => out j, fun i => match i with | 0 => n | j + 1 => sz j, en, by simp; omega, rfl, ?_, ?_, ?_⟩
      · intro i q hi hq
        cases i with
        | zero => simp at hq; subst hq; exact ⟨hu, h2⟩
        | succ i => simp at hq; exact h3 i q (by omega) hq
      · intro q hm hq
        simp at hq hm
        obtain ⟨a, b, d⟩ := h4 q hm hq
        refine ⟨a, b, ?_⟩
        unfold unk
        simp only [hu, d]
        rw [if_neg (by omega), if_pos a]
      · intro hm
        have d := h5 (by simpa using hm)
        unfold unk
        simp only [hu, d]
        rw [if_neg (by omega), if_neg (by omega), List.range_succ_eq_map, List.map_cons, List.map_map]
        rfl
    · refine ⟨0, fun _ => l, fun _ => empty, fun _ => 0, e, Nat.zero_le _, rfl, fun i p hi => by omega, fun q hm hq => ?_, fun h => by simp at h⟩
      simp at hq
      subst hq
      refine ⟨he, by rw [hu], ?_⟩
      unfold unk
      simp only [hu]
      rw [if_pos he]
end Go.Proofs.YtanjdjiigfdnmaaGreatDoor.Rw
