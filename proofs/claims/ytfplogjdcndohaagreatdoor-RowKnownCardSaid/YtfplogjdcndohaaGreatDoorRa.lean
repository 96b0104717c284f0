/- Several texts in one: RwF, RwG, RwK, RwM, RwP, RwU, RwW. -/
import Derived.Test.YtfplogjdcndohaaGreatDoorClR
import Derived.Test.YtfplogjdcndohaaGreatDoorClRet
import Derived.Test.YtfplogjdcndohaaGreatDoorGen
import Derived.OwnWalk
import Derived.Laws.OwnMore
import Derived.Test.YtfplogjdcndohaaGreatDoorSep
import Derived.Test.YtfplogjdcndohaaGreatDoorClDoB
import Derived.Test.YtfplogjdcndohaaGreatDoorClUnbB
import Derived.Test.YtfplogjdcndohaaGreatDoorClZc
import Derived.Test.YtfplogjdcndohaaGreatDoorQuietTail
import Derived.Lib.QuietBelow
import Derived.Lib.SliceRun
import Derived.Deep.RegionHeld3
import Derived.Test.YtfplogjdcndohaaGreatDoorShelfU
/- Rows, plain: how they are checked, compared and picked; their keys, put together and taken apart. -/
namespace Go.Proofs.YtfplogjdcndohaaGreatDoor.Rw
open Cl
set_option linter.unusedVariables false

/-- The first number that is not 0. -/
def fnz : List Int → Int
  | [] => 0
  | x :: t => if x ≠ 0 then x else fnz t
theorem fnz_drop {l : List Int} {k : Nat} {x : Int} (h : l[k]? = some x) : fnz (l.drop k) = if x ≠ 0 then x else fnz (l.drop (k + 1)) := by
  obtain ⟨hk, e⟩ := List.getElem?_eq_some_iff.1 h
  rw [List.drop_eq_getElem_cons hk, e]; rfl
theorem fnz_end {l : List Int} {k : Nat} (h : l.length ≤ k) : fnz (l.drop k) = 0 := by
  rw [List.drop_eq_nil_of_le h]; rfl

/-- Types of columns: may it be nothing; its kind. -/
abbrev Ty := Bool × Int
def chkL (ts : List Ty) (r : List C) : List Int := List.zipWith (fun (t : Ty) c => ((chk t.1 t.2 c : Nat) : Int)) ts r
def chkR (ts : List Ty) (r : List C) : Int := if r.length ≠ ts.length then 100 else fnz (chkL ts r)
/-- 1, 0, -1: how two numbers stand. -/
def c3 (a b : Nat) : Int := if a < b then -1 else if b < a then 1 else 0
def cmpL (a b : List C) : List Int := List.zipWith cmp a b
def cmps (a b : List C) : Int := if fnz (cmpL a b) ≠ 0 then fnz (cmpL a b) else c3 a.length b.length
theorem cmps_cons (a b : C) (l r : List C) : cmps (a :: l) (b :: r) = if cmp a b ≠ 0 then cmp a b else cmps l r := by
  have e : fnz (cmpL (a :: l) (b :: r)) = if cmp a b ≠ 0 then cmp a b else fnz (cmpL l r) := rfl
  unfold cmps
  rw [e]
  by_cases h : cmp a b = 0
  · simp [h, c3]
  · simp [h]
theorem cmps_nil : cmps [] [] = 0 := rfl
theorem cmps_nl (b : C) (r : List C) : cmps [] (b :: r) = -1 := by simp [cmps, cmpL, fnz, c3]
theorem cmps_ln (b : C) (r : List C) : cmps (b :: r) [] = 1 := by simp [cmps, cmpL, fnz, c3]
theorem cmps_range : ∀ a b : List C, -1 ≤ cmps a b ∧ cmps a b ≤ 1
  | [], [] => by rw [cmps_nil]; omega
  | [], _ :: _ => by rw [cmps_nl]; omega
  | _ :: _, [] => by rw [cmps_ln]; omega
  | a :: l, b :: r => by
    rw [cmps_cons]
    split
    · exact cmp_range a b
    · exact cmps_range l r
theorem cmps_neg : ∀ a b : List C, cmps a b = -cmps b a
  | [], [] => by rw [cmps_nil]; omega
  | [], _ :: _ => by rw [cmps_nl, cmps_ln]
  | _ :: _, [] => by rw [cmps_nl, cmps_ln]; omega
  | a :: l, b :: r => by
    have h := cmp_neg a b
    have k := cmps_neg l r
    rw [cmps_cons, cmps_cons]
    by_cases hz : cmp b a = 0
    · rw [if_neg (by omega), if_neg (by omega)]; exact k
    · rw [if_pos (by omega), if_pos (by omega)]; exact h
theorem cmps_zero : ∀ a b : List C, cmps a b = 0 ↔ a = b
  | [], [] => by simp [cmps_nil]
  | [], _ :: _ => by simp [cmps_nl]
  | _ :: _, [] => by simp [cmps_ln]
  | a :: l, b :: r => by
    rw [cmps_cons]
    have h := cmp_zero a b
    have k := cmps_zero l r
    by_cases hz : cmp a b = 0
    · rw [if_neg (by omega), k]; simp [h.1 hz]
    · rw [if_pos hz]
      constructor
      · intro e; exact absurd e hz
      · intro e; exact absurd (h.2 (List.cons.inj e).1) hz
theorem cmp_lt_trans (a b c : C) (h : cmp a b < 0) (k : cmp b c < 0) : cmp a c < 0 := by
  rcases cmp_cases a b with ⟨h1, l1⟩ | ⟨h1, _⟩ | ⟨h1, _⟩
  · rcases cmp_cases b c with ⟨k1, l2⟩ | ⟨k1, _⟩ | ⟨k1, _⟩
    · rcases cmp_cases a c with ⟨m1, _⟩ | ⟨_, m2⟩ | ⟨_, m2⟩
      · omega
      · subst m2; exact absurd (lt_trans l1 l2) (lt_irrefl a)
      · exact absurd (lt_trans (lt_trans l1 l2) m2) (lt_irrefl a)
    · omega
    · omega
  · omega
  · omega
theorem cmps_trans : ∀ a b c : List C, cmps a b ≤ 0 → cmps b c ≤ 0 → cmps a c ≤ 0
  | [], _, [] => fun _ _ => by rw [cmps_nil]; omega
  | [], _, _ :: _ => fun _ _ => by rw [cmps_nl]; omega
  | _ :: _, [], _ => fun h _ => by rw [cmps_ln] at h; omega
  | _ :: _, _ :: _, [] => fun _ h => by rw [cmps_ln] at h; omega
  | a :: l, b :: r, c :: s => by
    rw [cmps_cons, cmps_cons, cmps_cons]
    by_cases h1 : cmp a b = 0
    · obtain rfl := (cmp_zero a b).1 h1
      rw [if_neg (by omega)]
      by_cases h2 : cmp a c = 0
      · rw [if_neg (by omega), if_neg (by omega)]; exact cmps_trans l r s
      · rw [if_pos h2, if_pos h2]; intro _ h; exact h
    · rw [if_pos h1]
      by_cases h2 : cmp b c = 0
      · obtain rfl := (cmp_zero b c).1 h2
        rw [if_pos h1]; intro h _; exact h
      · rw [if_pos h2]
        intro h k
        have := cmp_lt_trans a b c (by omega) (by omega)
        rw [if_pos (by omega)]; omega

/-- Are all places of so many? -/
def okP (ps : List Int) (n : Nat) : Bool := ps.all fun p => decide (0 ≤ p ∧ p < (n : Int))
theorem okP_at {ps : List Int} {n : Nat} (h : okP ps n = true) {i : Nat} {p : Int} (hp : ps[i]? = some p) : 0 ≤ p ∧ p < (n : Int) := by
  unfold okP at h
  rw [List.all_eq_true] at h
  simpa using h p (List.mem_of_getElem? hp)
theorem okP_no {ps : List Int} {n i : Nat} {p : Int} (hp : ps[i]? = some p) (h : ¬ (0 ≤ p ∧ p < (n : Int))) : okP ps n = false := by
  cases e : okP ps n with
  | false => rfl
  | true => exact absurd (okP_at e hp) h
theorem okP_cons {p : Int} {ps : List Int} {n : Nat} : okP (p :: ps) n = true ↔ (0 ≤ p ∧ p < (n : Int)) ∧ okP ps n = true := by
  unfold okP; rw [List.all_cons]; simp
def cAt (r : List C) (p : Int) : C := r.getD p.toNat empty
def tAt (ts : List Ty) (p : Int) : Ty := ts.getD p.toNat (false, 0)
theorem cAt_some {r : List C} {p : Int} (h : 0 ≤ p ∧ p < (r.length : Int)) : r[p.toNat]? = some (cAt r p) := by
  unfold cAt
  rw [List.getD_eq_getElem?_getD, List.getElem?_eq_getElem (show p.toNat < r.length by omega)]; rfl
theorem tAt_some {r : List Ty} {p : Int} (h : 0 ≤ p ∧ p < (r.length : Int)) : r[p.toNat]? = some (tAt r p) := by
  unfold tAt
  rw [List.getD_eq_getElem?_getD, List.getElem?_eq_getElem (show p.toNat < r.length by omega)]; rfl
def pick (r : List C) (ps : List Int) : List C := ps.map (cAt r)
/-- A key. -/
def kAt (ts : List Ty) (r : List C) (p : Int) : List Nat := bts (tAt ts p).1 (tAt ts p).2 (cAt r p)
def key (ts : List Ty) (ps : List Int) (r : List C) : List Nat := ps.flatMap (kAt ts r)
/-- A key that is taken apart: the error, the cells, what is left. -/
def unk (ts : List Ty) : List Int → List Nat → Nat × List C × List Nat
  | [], l => (0, [], l)
  | p :: ps, l =>
    let r := unb (tAt ts p).1 (tAt ts p).2 l
    if r.2.2 ≠ 0 then (r.2.2, [], []) else
    let q := unk ts ps (l.drop r.2.1)
    if q.1 ≠ 0 then (q.1, [], []) else (0, r.1 :: q.2.1, q.2.2)
/-- What Unkey answers. -/
def unkR (ts : List Ty) (ps : List Int) (l : List Nat) : Nat × List C :=
  if okP ps ts.length = false then (6, []) else
  let q := unk ts ps l
  if q.1 ≠ 0 then (q.1, []) else if q.2.2 ≠ [] then (30, []) else (0, q.2.1)
def pickR (r : List C) (ps : List Int) : Nat × List C := if okP ps r.length = false then (6, []) else (0, pick r ps)
def keyR (ts : List Ty) (ps : List Int) (r : List C) : Int × List Nat :=
  if chkR ts r ≠ 0 then (chkR ts r, []) else if okP ps r.length = false then (6, []) else (0, key ts ps r)

theorem fnz_zero : ∀ {l : List Int}, fnz l = 0 → ∀ x ∈ l, x = 0
  | [], _, x, hx => by cases hx
  | y :: t, h, x, hx => by
    unfold fnz at h
    by_cases hy : y = 0
    · rw [if_neg (by omega)] at h
      rcases List.mem_cons.1 hx with rfl | hx
      · exact hy
      · exact fnz_zero h x hx
    · rw [if_pos hy] at h; exact absurd h hy
/-- A row that fits: each cell is of its column's type. -/
theorem chkR_ok {ts : List Ty} {r : List C} (h : chkR ts r = 0) : r.length = ts.length ∧ ∀ p : Int, 0 ≤ p ∧ p < (r.length : Int) → may (tAt ts p).2 = true ∧ of (tAt ts p).1 (tAt ts p).2 (cAt r p) = true := by
  unfold chkR at h
  by_cases hl : r.length = ts.length
  · rw [if_neg (by omega)] at h
    refine ⟨hl, fun p hp => ?_⟩
    have e : (chkL ts r)[p.toNat]? = some ((chk (tAt ts p).1 (tAt ts p).2 (cAt r p) : Nat) : Int) := by
      unfold chkL
      rw [List.getElem?_zipWith, tAt_some (by omega), cAt_some hp]
    have := fnz_zero h _ (List.mem_of_getElem? e)
    exact chk_ok (by omega)
  · rw [if_pos hl] at h; omega
theorem chkR_of {ts : List Ty} {r : List C} (hl : r.length = ts.length) (h : ∀ i : Nat, i < r.length → may (tAt ts i).2 = true ∧ of (tAt ts i).1 (tAt ts i).2 (cAt r i) = true) : chkR ts r = 0 := by
  unfold chkR
  rw [if_neg (by omega)]
  have : ∀ x ∈ chkL ts r, x = 0 := by
    intro x hx
    obtain ⟨i, hi, e⟩ := List.mem_iff_getElem.1 hx
    have hir : i < r.length := by unfold chkL at hi; rw [List.length_zipWith] at hi; omega
    have e' : (chkL ts r)[i]? = some ((chk (tAt ts i).1 (tAt ts i).2 (cAt r i) : Nat) : Int) := by
      unfold chkL
      rw [List.getElem?_zipWith, show ts[i]? = some (tAt ts i) from tAt_some (p := (i : Nat)) (by omega), show r[i]? = some (cAt r i) from cAt_some (p := (i : Nat)) (by omega)]
    obtain ⟨h1, h2⟩ := h i hir
    rw [List.getElem?_eq_getElem hi, e] at e'
    injection e' with e'
    rw [e']
    simp [chk, h1, h2]
  clear h hl
  revert this
  generalize chkL ts r = l
  induction l with
  | nil => intro _; rfl
  | cons y t ih =>
    intro h
    unfold fnz
    rw [if_neg (by have := h y (List.mem_cons_self ..); omega)]
    exact ih fun x hx => h x (List.mem_cons_of_mem _ hx)

theorem key_cons (ts : List Ty) (r : List C) (p : Int) (ps : List Int) : key ts (p :: ps) r = kAt ts r p ++ key ts ps r := rfl
/-- The stage's theorem: keys stand as the cells at their places do. -/
theorem key_less (ts : List Ty) (a b : List C) (ha : chkR ts a = 0) (hb : chkR ts b = 0) (ia : ∀ c ∈ a, I64 c.n) (ib : ∀ c ∈ b, I64 c.n) : ∀ ps : List Int, okP ps a.length = true →
    (Tp.less (key ts ps a) (key ts ps b) = decide (cmps (pick a ps) (pick b ps) < 0)) ∧ (key ts ps a = key ts ps b ↔ cmps (pick a ps) (pick b ps) = 0)
  | [], _ => by
    constructor
    · rfl
    · exact ⟨fun _ => rfl, fun _ => rfl⟩
  | p :: ps, hp => by
    obtain ⟨h1, h2⟩ := okP_cons.1 hp
    obtain ⟨la, oa⟩ := chkR_ok ha
    obtain ⟨lb, ob⟩ := chkR_ok hb
    obtain ⟨ka, fa⟩ := oa p h1
    obtain ⟨kb, fb⟩ := ob p (by omega)
    have na := ia _ (List.mem_of_getElem? (cAt_some h1))
    have nb := ib _ (List.mem_of_getElem? (cAt_some (r := b) (p := p) (by omega)))
    obtain ⟨l1, l2⟩ := key_less ts a b ha hb ia ib ps h2
    have ea : pick a (p :: ps) = cAt a p :: pick a ps := rfl
    have eb : pick b (p :: ps) = cAt b p :: pick b ps := rfl
    rw [key_cons, key_cons, ea, eb, cmps_cons]
    by_cases hc : cAt a p = cAt b p
    · have hz := (cmp_zero _ _).2 hc
      rw [if_neg (by omega)]
      unfold kAt
      rw [hc]
      exact ⟨(less_pre _ _ _).trans l1, by rw [List.append_cancel_left_eq]; exact l2⟩
    · have hz : cmp (cAt a p) (cAt b p) ≠ 0 := fun e => hc ((cmp_zero _ _).1 e)
      rw [if_pos hz]
      unfold kAt
      refine ⟨bts_less _ _ _ _ ka fa fb na nb hc _ _, ?_⟩
      constructor
      · intro e
        have e1 := bts_less _ _ _ _ ka fa fb na nb hc (key ts ps a) (key ts ps b)
        have e2 := bts_less _ _ _ _ ka fb fa nb na (Ne.symm hc) (key ts ps b) (key ts ps a)
        rw [e] at e1
        rw [← e] at e2
        have n1 := cmp_neg (cAt a p) (cAt b p)
        have irr : ∀ x : List Nat, Tp.less x x = false := fun x => by
          cases h : Tp.less x x with
          | false => rfl
          | true => have := less_asymm h; rw [h] at this; exact this
        rw [irr] at e1 e2
        have e1 := of_decide_eq_false e1.symm
        have e2 := of_decide_eq_false e2.symm
        omega
      · intro e; exact absurd e hz
/-- A key is taken apart into the cells of which it was put together. -/
theorem unk_key (ts : List Ty) (r : List C) (hr : chkR ts r = 0) (ir : ∀ c ∈ r, I64 c.n) : ∀ ps : List Int, okP ps r.length = true → unk ts ps (key ts ps r) = (0, pick r ps, [])
  | [], _ => rfl
  | p :: ps, hp => by
    obtain ⟨h1, h2⟩ := okP_cons.1 hp
    obtain ⟨la, oa⟩ := chkR_ok hr
    obtain ⟨ka, fa⟩ := oa p h1
    have na := ir _ (List.mem_of_getElem? (cAt_some h1))
    have e := unb_bts _ _ _ ka fa na (key ts ps r)
    have ih := unk_key ts r hr ir ps h2
    rw [key_cons]
    unfold unk kAt
    simp only [e, List.drop_left, ih]
    rfl
/-- Bytes that are taken apart are those of the cells. -/
theorem unk_good (ts : List Ty) : ∀ (ps : List Int) (l : List Nat) (r : List C) (z : List Nat), (∀ x ∈ l, x < 256) → unk ts ps l = (0, r, z) →
    r.length = ps.length ∧ (∀ (i : Nat) (p : Int) (c : C), ps[i]? = some p → r[i]? = some c → may (tAt ts p).2 = true ∧ of (tAt ts p).1 (tAt ts p).2 c = true ∧ I64 c.n) ∧
    l = (List.zipWith (fun p c => bts (tAt ts p).1 (tAt ts p).2 c) ps r).flatten ++ z
  | [], l, r, z, _, h => by
    unfold unk at h
    injection h with _ h
    injection h with h1 h2
    subst h1 h2
    exact ⟨rfl, fun i p c hi => by simp at hi, by simp⟩
  | p :: ps, l, r, z, hl, h => by
    unfold unk at h
    simp only at h
    obtain ⟨c, n, e, hu⟩ : ∃ c n e, unb (tAt ts p).1 (tAt ts p).2 l = (c, n, e) := ⟨_, _, _, rfl⟩
    rw [hu] at h
    simp only at h
    by_cases he : e = 0
    · subst he
      rw [if_neg (by omega)] at h
      obtain ⟨e2, r2, z2, h2⟩ : ∃ a b c, unk ts ps (l.drop n) = (a, b, c) := ⟨_, _, _, rfl⟩
      rw [h2] at h
      simp only at h
      by_cases he2 : e2 = 0
      · subst he2
        rw [if_neg (by omega)] at h
        injection h with _ h
        injection h with h3 h4
        subst h3 h4
        obtain ⟨g1, g2, g3, g4, g5⟩ := unb_good _ _ l hl c n hu
        obtain ⟨k1, k2, k3⟩ := unk_good ts ps (l.drop n) r2 z2 (fun x hx => hl x (List.mem_of_mem_drop hx)) h2
        refine ⟨by simp [k1], fun i q d hi hd => ?_, ?_⟩
        · cases i with
          | zero =>
            simp at hi hd
            subst hi hd
            exact ⟨g1, g2, g3⟩
          | succ i =>
            simp at hi hd
            exact k2 i q d hi hd
        · rw [List.zipWith_cons_cons, List.flatten_cons, List.append_assoc, ← k3, ← g5, List.take_append_drop]
      · rw [if_pos he2] at h; injection h with h; omega
    · rw [if_pos he] at h; injection h with h; omega
theorem unk_own (ts : List Ty) (l : List Nat) (r : List C) (hl : ∀ x ∈ l, x < 256) (h : unk ts ((List.range ts.length).map fun i => ((i : Nat) : Int)) l = (0, r, [])) :
    chkR ts r = 0 ∧ key ts ((List.range ts.length).map fun i => ((i : Nat) : Int)) r = l ∧ (∀ c ∈ r, I64 c.n) ∧ r.length = ts.length := by
  obtain ⟨h1, h2, h3⟩ := unk_good ts _ l r [] hl h
  have hlen : r.length = ts.length := by simpa using h1
  refine ⟨chkR_of hlen fun i hi => ?_, ?_, fun c hc => ?_, hlen⟩
  · obtain ⟨a, b, _⟩ := h2 i (i : Nat) (cAt r (i : Nat)) (by rw [List.getElem?_map, List.getElem?_range (by omega)]; rfl) (cAt_some (p := (i : Nat)) (by omega))
    exact ⟨a, b⟩
  · rw [h3, List.append_nil]
    unfold key
    rw [List.flatMap_def]
    congr 1
    apply List.ext_getElem?
    intro i
    rw [List.getElem?_map, List.getElem?_zipWith]
    by_cases hi : i < ts.length
    · rw [List.getElem?_map, List.getElem?_range hi]
      have := cAt_some (r := r) (p := (i : Nat)) (by omega)
      simp only [Int.toNat_natCast] at this
      rw [this]; rfl
    · rw [List.getElem?_map, List.getElem?_eq_none (l := List.range ts.length) (by simp; omega)]; rfl
  · obtain ⟨i, hi, e⟩ := List.mem_iff_getElem.1 hc
    exact (h2 i (i : Nat) c (by rw [List.getElem?_map, List.getElem?_range (by omega)]; rfl) (by rw [List.getElem?_eq_getElem hi, e])).2.2
/-- What is picked of what was picked. -/
theorem pick_pick (r : List C) (a b : List Int) (ha : okP a r.length = true) (hb : okP b a.length = true) : pick (pick r a) b = pick r (b.map fun q => a.getD q.toNat 0) := by
  unfold pick
  rw [List.map_map]
  apply List.map_congr_left
  intro q hq
  obtain ⟨i, hi, e⟩ := List.mem_iff_getElem.1 hq
  have h := okP_at hb (i := i) (p := q) (by rw [List.getElem?_eq_getElem hi, e])
  unfold cAt
  simp only [Function.comp]
  rw [List.getD_eq_getElem?_getD, List.getD_eq_getElem?_getD (l := a), List.getElem?_map, List.getElem?_eq_getElem (show q.toNat < a.length by omega)]
  rfl
/-- Steps of a key that is taken apart. -/
theorem unk_steps (ts : List Ty) : ∀ (ps : List Int) (l : List Nat), ∃ (m : Nat) (rest : Nat → List Nat) (out : Nat → C) (sz : Nat → Nat) (en : Nat), m ≤ ps.length ∧ rest 0 = l ∧
    (∀ i p, i < m → ps[i]? = some p → unb (tAt ts p).1 (tAt ts p).2 (rest i) = (out i, sz i, 0) ∧ rest (i + 1) = (rest i).drop (sz i)) ∧
    (∀ p, m < ps.length → ps[m]? = some p → en ≠ 0 ∧ (unb (tAt ts p).1 (tAt ts p).2 (rest m)).2.2 = en ∧ unk ts ps l = (en, [], [])) ∧
    (m = ps.length → unk ts ps l = (0, (List.range m).map out, rest m))
  | [], l => ⟨0, fun _ => l, fun _ => empty, fun _ => 0, 1, Nat.le_refl _, rfl, fun i p hi => by omega, fun p h => by simp at h, fun _ => rfl⟩
  | p :: ps, l => by
    obtain ⟨c, n, e, hu⟩ : ∃ c n e, unb (tAt ts p).1 (tAt ts p).2 l = (c, n, e) := ⟨_, _, _, rfl⟩
    by_cases he : e = 0
    · subst he
      obtain ⟨m, rest, out, sz, en, h1, h2, h3, h4, h5⟩ := unk_steps ts ps (l.drop n)
      refine ⟨m + 1, fun i => match i with | 0 => l | j + 1 => rest j, fun i => match i with | 0 => c | j + 1 => out j, fun i => match i with | 0 => n | j + 1 => sz j, en, by simp; omega, rfl, ?_, ?_, ?_⟩
      · intro i q hi hq
        cases i with
        | zero => simp at hq; subst hq; exact ⟨hu, h2⟩
        | succ i => simp at hq; exact h3 i q (by omega) hq
      · intro q hm hq
        simp at hq hm
        obtain ⟨a, b, d⟩ := h4 q hm hq
        refine ⟨a, b, ?_⟩
        unfold unk
        simp only [hu, d]
        rw [if_neg (by omega), if_pos a]
      · intro hm
        have d := h5 (by simpa using hm)
        unfold unk
        simp only [hu, d]
        rw [if_neg (by omega), if_neg (by omega), List.range_succ_eq_map, List.map_cons, List.map_map]
        rfl
    · refine ⟨0, fun _ => l, fun _ => empty, fun _ => 0, e, Nat.zero_le _, rfl, fun i p hi => by omega, fun q hm hq => ?_, fun h => by simp at h⟩
      simp at hq
      subst hq
      refine ⟨he, by rw [hu], ?_⟩
      unfold unk
      simp only [hu]
      rw [if_pos he]
end Go.Proofs.YtfplogjdcndohaaGreatDoor.Rw

/- Rows, columns, places and texts in memory; rows that are compared, copied and cut. -/
namespace Go.Proofs.YtfplogjdcndohaaGreatDoor
open Go.RowKit
set_option linter.unusedVariables false
set_option maxRecDepth 100000

/-- A cell's cells. -/
def clc (c : Cl.C) : List Value := [.bool c.u, .int .i64 c.n, .string c.s]
theorem clL : Gn.Lay clc 3 := ⟨fun _ => rfl, fun x v hv => by simp [clc] at hv; rcases hv with rfl | rfl | rfl <;> rfl, by omega⟩
def clz : Value := .agg #[.bool false, .int .i64 0, .string ⟨#[]⟩]
theorem clY : Gn.Ty 23 34 clz 3 32 := ⟨Tryz.underlying23, by kernel_rfl, by kernel_rfl, rfl, by omega⟩
def RdC (w : World) (B : Nat) (v : Value) (l : List Cl.C) : Prop := Gn.Rd clc 3 w B v l
def OwnC (w : World) (base : Nat) (v : Value) (l : List Cl.C) : Prop := Gn.Own clc 3 34 w base v l
theorem rdC_cells {W w : World} {B n c : Nat} {ad : Option Addr} {l : List Cl.C} (h : RdC W B (.slice ad n c) l) (hb : Below B W w) {i : Nat} {x : Cl.C} (hi : l[i]? = some x) :
    ∃ b off, ad = some ⟨b, off, none⟩ ∧ w.cell? ⟨b, off + i * 3, none⟩ = some (.bool x.u) ∧ w.cell? ⟨b, off + i * 3 + 1, none⟩ = some (.int .i64 x.n) ∧ w.cell? ⟨b, off + i * 3 + 2, none⟩ = some (.string x.s) := by
  obtain ⟨hl, e⟩ := List.getElem?_eq_some_iff.1 hi
  obtain ⟨b, off, rfl, _, hc⟩ := Gn.Rd.at h hb hl
  rw [e] at hc
  exact ⟨b, off, rfl, hc 0 _ rfl, hc 1 _ rfl, hc 2 _ rfl⟩
/-- A column's cells. -/
structure Co where
  id : Int
  nm : ByteArray
  k : Int
  u : Bool
  d : Cl.C
def coc (x : Co) : List Value := [.int .i64 x.id, .string x.nm, .int .i64 x.k, .bool x.u, .bool x.d.u, .int .i64 x.d.n, .string x.d.s]
theorem coL : Gn.Lay coc 7 := ⟨fun _ => rfl, fun x v hv => by simp [coc] at hv; rcases hv with rfl | rfl | rfl | rfl | rfl | rfl | rfl <;> rfl, by omega⟩
def coz : Value := .agg #[.int .i64 0, .string ⟨#[]⟩, .int .i64 0, .bool false, .bool false, .int .i64 0, .string ⟨#[]⟩]
theorem coY : Gn.Ty 22 56 coz 7 72 := ⟨Tryz.underlying22, by kernel_rfl, by kernel_rfl, rfl, by omega⟩
def RdK (w : World) (B : Nat) (v : Value) (l : List Co) : Prop := Gn.Rd coc 7 w B v l
def OwnK (w : World) (base : Nat) (v : Value) (l : List Co) : Prop := Gn.Own coc 7 56 w base v l
theorem rdK_type {W w : World} {B n c : Nat} {ad : Option Addr} {l : List Co} (h : RdK W B (.slice ad n c) l) (hb : Below B W w) {i : Nat} {x : Co} (hi : l[i]? = some x) :
    ∃ b off, ad = some ⟨b, off, none⟩ ∧ w.cell? ⟨b, off + i * 7 + 2, none⟩ = some (.int .i64 x.k) ∧ w.cell? ⟨b, off + i * 7 + 2 + 1, none⟩ = some (.bool x.u) := by
  obtain ⟨hl, e⟩ := List.getElem?_eq_some_iff.1 hi
  obtain ⟨b, off, rfl, _, hc⟩ := Gn.Rd.at h hb hl
  rw [e] at hc
  exact ⟨b, off, rfl, hc 2 _ rfl, hc 3 _ rfl⟩
/-- The types of columns. -/
def tys (l : List Co) : List Rw.Ty := l.map fun x => (x.u, x.k)
theorem tys_len (l : List Co) : (tys l).length = l.length := by simp [tys]
theorem tys_at {l : List Co} {i : Nat} {x : Co} (h : l[i]? = some x) : (tys l)[i]? = some (x.u, x.k) := by unfold tys; rw [List.getElem?_map, h]; rfl
/-- Places. -/
def inc (x : Int) : List Value := [.int .i64 x]
theorem inL : Gn.Lay inc 1 := ⟨fun _ => rfl, fun x v hv => by simp [inc] at hv; subst hv; rfl, by omega⟩
theorem inY : Gn.Ty 24 3 (.int .i64 0) 1 8 := ⟨Tryz.underlying24, by kernel_rfl, by kernel_rfl, rfl, by omega⟩
def RdI (w : World) (B : Nat) (v : Value) (l : List Int) : Prop := Gn.Rd inc 1 w B v l
def OwnI (w : World) (base : Nat) (v : Value) (l : List Int) : Prop := Gn.Own inc 1 3 w base v l
theorem rdI_cell {W w : World} {B n c : Nat} {ad : Option Addr} {l : List Int} (h : RdI W B (.slice ad n c) l) (hb : Below B W w) {i : Nat} {x : Int} (hi : l[i]? = some x) :
    ∃ b off, ad = some ⟨b, off, none⟩ ∧ w.cell? ⟨b, off + i, none⟩ = some (.int .i64 x) := by
  obtain ⟨hl, e⟩ := List.getElem?_eq_some_iff.1 hi
  obtain ⟨b, off, rfl, _, hc⟩ := Gn.Rd.at h hb hl
  rw [e] at hc
  refine ⟨b, off, rfl, ?_⟩
  have := hc 0 _ rfl
  simpa using this
/-- Texts. -/
def txc (x : ByteArray) : List Value := [.string x]
theorem txL : Gn.Lay txc 1 := ⟨fun _ => rfl, fun x v hv => by simp [txc] at hv; subst hv; rfl, by omega⟩
theorem txY : Gn.Ty 68 9 (.string ⟨#[]⟩) 1 16 := ⟨Tryz.underlying68, by kernel_rfl, by kernel_rfl, rfl, by omega⟩
def OwnT (w : World) (base : Nat) (v : Value) (l : List ByteArray) : Prop := Gn.Own txc 1 9 w base v l

theorem rd_one {α : Type} {enc : α → List Value} {k : Nat} (T : TypeId) (L : Gn.Lay enc k) (w : World) (x : α) (cs : Array Value) (h : cs = (enc x).toArray) : Gn.Rd enc k (w.alloc (.cells cs T)) (w.alloc (.cells cs T)).heap.size (.slice (some ⟨w.heap.size, 0, none⟩) 1 1) [x] :=
  Gn.Own.rd L (Gn.Own.lit (T := T) L w 0 [x] cs 1 1 (by rw [h]; simp [Gn.cells]) rfl rfl (by simp [maxLen]) (Nat.zero_le _))
/-- Rows, columns and places that lie as they were made. -/
theorem RdC.of {w : World} {base : Nat} {v : Value} {l : List Cl.C} (h : OwnC w base v l) : RdC w w.heap.size v l := Gn.Own.rd clL h
theorem RdK.of {w : World} {base : Nat} {v : Value} {l : List Co} (h : OwnK w base v l) : RdK w w.heap.size v l := Gn.Own.rd coL h
theorem RdI.of {w : World} {base : Nat} {v : Value} {l : List Int} (h : OwnI w base v l) : RdI w w.heap.size v l := Gn.Own.rd inL h
theorem RdC.later {w w' : World} {v : Value} {l : List Cl.C} (h : RdC w w.heap.size v l) (hb : Below w.heap.size w w') : RdC w' w'.heap.size v l := Gn.Rd.later h hb
theorem RdK.later {w w' : World} {v : Value} {l : List Co} (h : RdK w w.heap.size v l) (hb : Below w.heap.size w w') : RdK w' w'.heap.size v l := Gn.Rd.later h hb
theorem RdI.later {w w' : World} {v : Value} {l : List Int} (h : RdI w w.heap.size v l) (hb : Below w.heap.size w w') : RdI w' w'.heap.size v l := Gn.Rd.later h hb
theorem falseOf {b : Bool} {p : Prop} (h : b = true ↔ p) (n : ¬ p) : b = false := by
  cases b with
  | false => rfl
  | true => exact absurd (h.1 rfl) n

set_option maxHeartbeats 4000000 in
theorem eqRow (v1 v2 : Value) (l1 l2 : List Cl.C) (w : World) (h1 : RdC w w.heap.size v1 l1) (h2 : RdC w w.heap.size v2 l2) (hl : l1.length ≤ 1000000) (b : Bool) (hb : b = true ↔ l1 = l2) :
    Calls Tryz.prog 18 #[v1, v2] w fun e w' => e = .returned (.bool b) ∧ Below w.heap.size w w' := by
  have HR1 := Lib.hid h1
  have HR2 := Lib.hid h2
  have HB := Lib.hid hb
  obtain ⟨a1, c1, rfl, _⟩ := Gn.Rd.form h1
  obtain ⟨a2, c2, rfl, _⟩ := Gn.Rd.form h2
  clear h1 h2 hb
  by_cases hn : l1.length = l2.length
  · have hn' : ((l1.length : Int) != (l2.length : Nat)) = false := by simp; omega
    go_enter Tryz.func18, Tryz.ntmps18
    go_wp2_with fail
    go_loopw [5] (fun i wr => ∃ k : Nat, k ≤ l1.length ∧ i = .int .i64 (k : Nat) ∧ Hid (∀ j, j < k → l1[j]? = l2[j]?) ∧ Hid (Below w.heap.size w wr)) (fun i _ => l1.length - (intOf i).toNat)
    case atStart => exact ⟨0, by omega, by rfl, Lib.hid (fun j hj => by omega), Lib.hid (Below.refl _ _)⟩
    case round =>
      obtain ⟨k, hk, rfl, HE, HU⟩ := hrel
      by_cases hlt : k < l1.length
      · have hlt1 : (k : Int) < l1.length := by omega
        have hlt2 : (k : Int) < l2.length := by omega
        obtain ⟨x, hx⟩ : ∃ x, l1[k]? = some x := ⟨_, List.getElem?_eq_getElem hlt⟩
        obtain ⟨y, hy⟩ : ∃ y, l2[k]? = some y := ⟨_, List.getElem?_eq_getElem (by omega)⟩
        obtain ⟨b1, o1, rfl, p0, p1, p2⟩ := rdC_cells HR1.out HU.out.drew hx
        obtain ⟨b2, o2, rfl, q0, q1, q2⟩ := rdC_cells HR2.out HU.out.drew hy
        have heq := fun w => run_eqc x y w
        unfold cv at heq
        have HU2 := Lib.hid HU.out.drew
        by_cases hxy : x = y
        · have e1 : eqc x y = true := (eqc_iff x y).2 hxy
          rw [e1] at heq
          have HE2 := Lib.hid (show ∀ j, j < k + 1 → l1[j]? = l2[j]? from fun j hj => by
            rcases Nat.lt_succ_iff_lt_or_eq.1 hj with h | rfl
            · exact HE.out j h
            · rw [hx, hy, hxy])
          clear hx hy hxy e1 hn
          go_wp2_with fail
          go_region
          all_goals
            go_wp2_with fail
            go_roundw
            case rel => exact ⟨k + 1, by omega, by go_num, HE2, HU2⟩
            case measure => simp [intOf]; omega
        · have e1 : eqc x y = false := by
            cases he : eqc x y with
            | false => rfl
            | true => exact absurd ((eqc_iff x y).1 he) hxy
          rw [e1] at heq
          obtain rfl : b = false := falseOf HB.out (fun e => hxy (by rw [e, hy] at hx; injection hx with e; exact e.symm))
          clear hx hy hxy e1 hn
          go_wp2_with fail
          go_region
          all_goals
            go_wp2_with fail
            go_ret
            exact ⟨rfl, HU2.out⟩
      · have hlt1 : ¬ (k : Int) < l1.length := by omega
        have hbt : b = true := HB.out.2 (List.ext_getElem? fun j => by
          rcases Nat.lt_or_ge j k with h | h
          · exact HE.out j h
          · rw [List.getElem?_eq_none (by omega), List.getElem?_eq_none (by omega)])
        subst hbt
        clear hn
        go_wp2_with fail
        go_ret
        exact ⟨rfl, HU.out⟩
  · have hn' : ((l1.length : Int) != (l2.length : Nat)) = true := by simp; omega
    obtain rfl : b = false := falseOf HB.out (fun e => hn (by rw [e]))
    clear hn
    go_enter Tryz.func18, Tryz.ntmps18
    go_wp2_with fail
    go_ret
    exact ⟨rfl, Below.refl _ _⟩
set_option maxHeartbeats 4000000 in
theorem copyCols (v : Value) (l : List Co) (w : World) (h : RdK w w.heap.size v l) (hl : l.length ≤ 1000000) :
    Calls Tryz.prog 29 #[v] w fun e w' => ∃ v', e = .returned v' ∧ OwnK w' w.heap.size v' l ∧ Below w.heap.size w w' := by
  have HR := Lib.hid h
  have HO : Hid (OwnK w w.heap.size (.slice none 0 0) []) := Lib.hid (Gn.Own.nil _ _)
  clear h
  go_enter Tryz.func29, Tryz.ntmps29
  go_wp2_with (at_builtin
               refine Gn.wpList_app coL coY rfl (.tmp 4) (.tmp 5) rfl w.heap.size (.slice none 0 0) [] rfl HO.out v l rfl HR.out (by simp; omega) (Nat.le_refl _) ?_
               intro v1 w1 ho1 hg1 hl1 hn1)
  go_ret
  exact ⟨_, rfl, ho1, Gn.below_of_own HO.out hg1 (Nat.le_refl _)⟩
set_option maxHeartbeats 4000000 in
theorem copyInts (v : Value) (l : List Int) (w : World) (h : RdI w w.heap.size v l) (hl : l.length ≤ 1000000) :
    Calls Tryz.prog 32 #[v] w fun e w' => ∃ v', e = .returned v' ∧ OwnI w' w.heap.size v' l ∧ Below w.heap.size w w' := by
  have HR := Lib.hid h
  have HO : Hid (OwnI w w.heap.size (.slice none 0 0) []) := Lib.hid (Gn.Own.nil _ _)
  clear h
  go_enter Tryz.func32, Tryz.ntmps32
  go_wp2_with (at_builtin
               refine Gn.wpList_app inL inY rfl (.tmp 4) (.tmp 5) rfl w.heap.size (.slice none 0 0) [] rfl HO.out v l rfl HR.out (by simp; omega) (Nat.le_refl _) ?_
               intro v1 w1 ho1 hg1 hl1 hn1)
  go_ret
  exact ⟨_, rfl, ho1, Gn.below_of_own HO.out hg1 (Nat.le_refl _)⟩
/-- A slice's beginning. -/
theorem rd_to {α : Type} {enc : α → List Value} {k : Nat} {w : World} {B c m : Nat} {a : Option Addr} {l : List α} (h : Gn.Rd enc k w B (.slice a l.length c) l) (hm : m ≤ l.length) : Gn.Rd enc k w B (.slice a m c) (l.take m) := by
  obtain ⟨a', c', e, h1, h2, h3, h5⟩ := h
  injection e with e1 e2 e3
  subst e1 e3
  have hlen : (l.take m).length = m := by rw [List.length_take]; omega
  refine ⟨_, _, by rw [hlen], by rw [hlen]; omega, h2, h3, fun hp => ?_⟩
  obtain ⟨b, off, rfl, hb, hc⟩ := h5 (by omega)
  refine ⟨b, off, rfl, hb, fun i x j u hi hj => hc i x j u ?_ hj⟩
  rw [List.getElem?_take] at hi
  split at hi
  · exact hi
  · cases hi
set_option maxHeartbeats 4000000 in
theorem lColumns (v : Value) (l : List Co) (w : World) (h : RdK w w.heap.size v l) :
    Calls Tryz.prog 12 #[v] w fun e w' => ∃ v', e = .returned v' ∧ OwnK w' w.heap.size v' (l.take 40) ∧ Below w.heap.size w w' := by
  have hr := h
  obtain ⟨a, c, rfl, hc, _⟩ := Gn.Rd.form h
  have hml := Gn.Rd.len' h
  have hru := rd_to (m := (min (l.length : Int) 40).toNat) h (by omega)
  have e : l.take (min (l.length : Int) 40).toNat = l.take 40 := by
    rcases Nat.lt_or_ge l.length 40 with h | h
    · rw [List.take_of_length_le (by omega), List.take_of_length_le (by omega)]
    · congr 1; omega
  rw [e] at hru
  have HR := Lib.hid hru
  clear h hr hru e
  go_enter Tryz.func12, Tryz.ntmps12
  go_wp2_with fail
  refine (copyCols _ _ _ HR.out (by rw [List.length_take]; omega)).mono ?_
  rintro e w1 ⟨v1, rfl, ho, hb⟩
  have HO := Lib.hid ho
  have HB := Lib.hid hb
  clear ho hb
  go_wp2
  go_ret
  exact ⟨_, rfl, HO.out, HB.out⟩
set_option maxHeartbeats 4000000 in
theorem lFew (v : Value) (l : List Int) (w : World) (h : RdI w w.heap.size v l) :
    Calls Tryz.prog 13 #[v] w fun e w' => ∃ v', e = .returned v' ∧ OwnI w' w.heap.size v' (l.take 12) ∧ Below w.heap.size w w' := by
  have hr := h
  obtain ⟨a, c, rfl, hc, _⟩ := Gn.Rd.form h
  have hml := Gn.Rd.len' h
  have hru := rd_to (m := (min (l.length : Int) 12).toNat) h (by omega)
  have e : l.take (min (l.length : Int) 12).toNat = l.take 12 := by
    rcases Nat.lt_or_ge l.length 12 with h | h
    · rw [List.take_of_length_le (by omega), List.take_of_length_le (by omega)]
    · congr 1; omega
  rw [e] at hru
  have HR := Lib.hid hru
  clear h hr hru e
  go_enter Tryz.func13, Tryz.ntmps13
  go_wp2_with fail
  refine (copyInts _ _ _ HR.out (by rw [List.length_take]; omega)).mono ?_
  rintro e w1 ⟨v1, rfl, ho, hb⟩
  have HO := Lib.hid ho
  have HB := Lib.hid hb
  clear ho hb
  go_wp2
  go_ret
  exact ⟨_, rfl, HO.out, HB.out⟩
/-- A row that is cut. -/
def cutC (c : Cl.C) : Cl.C := ⟨c.u, c.n, c.s.extract 0 (min (c.s.size : Int) 1100).toNat⟩
theorem cutC_size (c : Cl.C) : (cutC c).s.size ≤ 1100 := by simp [cutC]; omega
def cutR (l : List Cl.C) : List Cl.C := (l.take 40).map cutC
theorem cutR_len (l : List Cl.C) : (cutR l).length ≤ 40 := by simp [cutR]; omega
theorem cutR_ok {l : List Cl.C} (h : ∀ c ∈ l, Cl.I64 c.n) : ∀ c ∈ cutR l, Cl.I64 c.n ∧ c.s.size ≤ 1100 := by
  intro c hc
  unfold cutR at hc
  obtain ⟨d, hd, rfl⟩ := List.mem_map.1 hc
  exact ⟨h d (List.mem_of_mem_take hd), cutC_size d⟩
theorem cutR_snoc {l : List Cl.C} {k : Nat} {x : Cl.C} (h : l[k]? = some x) (hk : k < 40) : ((l.take k).map cutC) ++ [cutC x] = (l.take (k + 1)).map cutC := by
  rw [List.take_add_one, h, List.map_append]; rfl
set_option maxHeartbeats 8000000 in
theorem lCutR (v : Value) (l : List Cl.C) (w : World) (h : RdC w w.heap.size v l) (hs : ∀ c ∈ l, c.s.size ≤ maxLen) :
    Calls Tryz.prog 14 #[v] w fun e w' => ∃ v', e = .returned v' ∧ OwnC w' w.heap.size v' (cutR l) ∧ Below w.heap.size w w' := by
  have HR := Lib.hid h
  have HS := Lib.hid hs
  have HL := Lib.hid (Gn.Rd.len' h)
  obtain ⟨a, c, rfl, hc, _⟩ := Gn.Rd.form h
  clear h hs
  go_enter Tryz.func14, Tryz.ntmps14
  go_wp2_with fail
  go_loopw [3, 4] (fun o i wr => ∃ k : Nat, k ≤ l.length ∧ k ≤ 40 ∧ i = .int .i64 (k : Nat) ∧ Hid (OwnC wr w.heap.size o ((l.take k).map cutC)) ∧ Hid (Below w.heap.size w wr)) (fun _ i _ => 40 - (intOf i).toNat)
  case atStart => exact ⟨0, by omega, by omega, by rfl, Lib.hid (Gn.Own.nil _ _), Lib.hid (Below.refl _ _)⟩
  case round =>
    obtain ⟨k, hk, hk40, rfl, HO, HU⟩ := hrel
    have hL := HL.out
    by_cases hlt : k < l.length
    · have hlt1 : (k : Int) < l.length := by omega
      by_cases h40 : k < 40
      · have hlt2 : (k : Int) < 40 := by omega
        obtain ⟨x, hx⟩ : ∃ x, l[k]? = some x := ⟨_, List.getElem?_eq_getElem hlt⟩
        obtain ⟨b1, o1, rfl, p0, p1, p2⟩ := rdC_cells HR.out HU.out hx
        have hm := HS.out x (List.mem_of_getElem? hx)
        have HX : Hid (((l.take k).map cutC) ++ [⟨x.u, x.n, x.s.extract 0 (min (x.s.size : Int) 1100).toNat⟩] = (l.take (k + 1)).map cutC) := Lib.hid (cutR_snoc hx h40)
        obtain ⟨xu, xn, xs⟩ := x
        simp only at p0 p1 p2 hm HX
        unfold maxLen at hm
        obtain ⟨s2, hs2⟩ : ∃ s2, xs.extract 0 (min (xs.size : Int) 1100).toNat = s2 := ⟨_, rfl⟩
        have hsl : ∀ w, (Instr.slice 9 (.string xs) none (some (.int .i64 (min (xs.size : Int) 1100))) none).run Tryz.prog w = .ok (.string s2) w := fun w => by
          rw [run_slice_string_to_if w 9 xs .i64 _ Tryz.underlying9, if_pos (by omega), hs2]
        rw [hs2] at HX
        clear hx hs2
        have HLN : Hid (((l.take k).map cutC).length + ([⟨xu, xn, s2⟩] : List Cl.C).length ≤ 100000000) := Lib.hid (by rw [List.length_map, List.length_take]; simp; omega)
        have HB1 := Lib.hid ((box_new wr (.cells #[.bool xu, .int .i64 xn, .string s2] 34)).alloc (by simp) (.cells #[.bool xu, .int .i64 xn, .string s2] 34))
        have HO2 := Lib.hid (Gn.Own.later HO.out HB1.out)
        have HR2 := Lib.hid (rd_one 34 clL (wr.alloc (.cells #[.bool xu, .int .i64 xn, .string s2] 34)) ⟨xu, xn, s2⟩ #[.bool xu, .int .i64 xn, .string s2] rfl)
        rw [show (wr.alloc (.cells #[.bool xu, .int .i64 xn, .string s2] 34)).heap.size = wr.heap.size + 1 by simp] at HR2
        have HU2 := Lib.hid (HU.out.trans (HB1.out.mono HU.out.size))
        have HSZ := Lib.hid HU2.out.size
        clear HU HO
        go_wp2_with (at_builtin
                     refine Gn.wpList_app clL clY rfl (.tmp 28) (.tmp 30) rfl w.heap.size _ ((l.take k).map cutC) rfl HO2.out _ [⟨xu, xn, s2⟩] rfl HR2.out HLN.out HSZ.out ?_
                     intro v1 w1 ho1 hg1 hl1 hn1
                     have HO3 := Lib.hid ho1
                     have HU3 := Lib.hid (HU2.out.trans (Gn.below_of_own HO2.out hg1 HSZ.out))
                     clear ho1 hg1 hl1 hn1)
        go_roundw
        case rel => exact ⟨k + 1, by omega, by omega, by go_num, Lib.hid (by rw [← HX.out]; exact HO3.out), HU3⟩
        case measure => simp [intOf]; omega
      · have hlt2 : ¬ (k : Int) < 40 := by omega
        obtain rfl : k = 40 := by omega
        go_wp2_with fail
        go_ret
        exact ⟨_, rfl, HO.out, HU.out⟩
    · have hlt1 : ¬ (k : Int) < l.length := by omega
      obtain rfl : k = l.length := by omega
      have e : l.take l.length = l.take 40 := by rw [List.take_of_length_le (Nat.le_refl _), List.take_of_length_le hk40]
      rw [e] at HO
      go_wp2_with fail
      go_ret
      exact ⟨_, rfl, HO.out, HU.out⟩
end Go.Proofs.YtfplogjdcndohaaGreatDoor

/- The generic functions of rows: cells gone through with a closure; what is got of places with a closure. -/
namespace Go.Proofs.YtfplogjdcndohaaGreatDoor
open Go.RowKit
set_option linter.unusedVariables false
set_option maxRecDepth 100000

set_option maxHeartbeats 4000000 in
theorem firstE (v : Value) (l : List Cl.C) (b : Nat) (ds : List Int) (w : World) (h : RdC w w.heap.size v l) (hd : ds.length = l.length) (hl : l.length ≤ 1000000)
    (hc : ∀ (i : Nat) (c : Cl.C) (d : Int) (w1 : World), l[i]? = some c → ds[i]? = some d → Below w.heap.size w w1 → Calls Tryz.prog 38 #[.int .i64 (i : Nat), cv c, .pointer (some ⟨b, 0, none⟩)] w1 fun e w2 => e = .returned (.int .i64 d) ∧ Below w1.heap.size w1 w2) :
    Calls Tryz.prog 37 #[v, .func (.func 38) #[] #[.pointer (some ⟨b, 0, none⟩)]] w fun e w' => e = .returned (.int .i64 (Rw.fnz ds)) ∧ Below w.heap.size w w' := by
  have HR := Lib.hid h
  have HC := Lib.hid hc
  have HD := Lib.hid hd
  obtain ⟨a, c, rfl, _⟩ := Gn.Rd.form h
  clear h hc hd
  go_enter Tryz.func37, Tryz.ntmps37
  go_wp2_with fail
  go_loopw [10] (fun i wr => ∃ k : Nat, k ≤ l.length ∧ i = .int .i64 (k : Nat) ∧ Hid (Rw.fnz (ds.drop k) = Rw.fnz ds) ∧ Hid (Below w.heap.size w wr)) (fun i _ => l.length - (intOf i).toNat)
  case atStart => exact ⟨0, by omega, by rfl, Lib.hid rfl, Lib.hid (Below.refl _ _)⟩
  case round =>
    obtain ⟨k, hk, rfl, HE, HU⟩ := hrel
    by_cases hlt : k < l.length
    · have hlt1 : (k : Int) < l.length := by omega
      obtain ⟨x, hx⟩ : ∃ x, l[k]? = some x := ⟨_, List.getElem?_eq_getElem hlt⟩
      obtain ⟨d, hdd⟩ : ∃ d, ds[k]? = some d := ⟨_, List.getElem?_eq_getElem (by rw [HD.out]; exact hlt)⟩
      obtain ⟨b1, o1, rfl, p0, p1, p2⟩ := rdC_cells HR.out HU.out hx
      have HK := Lib.hid (fun w1 hb => HC.out k x d w1 hx hdd hb)
      have HE2 := Lib.hid ((Rw.fnz_drop hdd).symm.trans HE.out)
      unfold cv at HK
      obtain ⟨xu, xn, xs⟩ := x
      simp only at p0 p1 p2 HK
      clear hx hdd HE HC
      have HU1 := Lib.hid (HU.out.alloc HU.out.size (.cells #[.bool xu, .int .i64 xn, .string xs] 34))
      by_cases hz : d = 0
      · subst hz
        rw [if_neg (by omega)] at HE2
        go_wp2_with fail
        ((with_reducible refine (HK.out _ HU1.out).mono ?_); rintro e w1 ⟨rfl, b1⟩)
        have HU2 := Lib.hid (HU1.out.trans (b1.mono HU1.out.size))
        clear b1 HU1 HK
        go_wp2_with fail
        go_roundw
        case rel => exact ⟨k + 1, by omega, by go_num, HE2, HU2⟩
        case measure => simp [intOf]; omega
      · rw [if_pos hz] at HE2
        have hz1 : (d != 0) = true := by simpa using hz
        go_wp2_with fail
        ((with_reducible refine (HK.out _ HU1.out).mono ?_); rintro e w1 ⟨rfl, b1⟩)
        have HU2 := Lib.hid (HU1.out.trans (b1.mono HU1.out.size))
        clear b1 HU1 HK
        go_wp2_with fail
        go_ret
        exact ⟨congrArg (fun z => Ending.returned (.int .i64 z)) HE2.out, HU2.out⟩
    · have hlt1 : ¬ (k : Int) < l.length := by omega
      have e : Rw.fnz ds = 0 := HE.out.symm.trans (Rw.fnz_end (by rw [HD.out]; omega))
      go_wp2_with fail
      go_ret
      exact ⟨rfl, HU.out⟩
set_option maxHeartbeats 4000000 in
theorem firstI (v : Value) (l : List Cl.C) (b : Nat) (ds : List Int) (w : World) (h : RdC w w.heap.size v l) (hd : ds.length = l.length) (hl : l.length ≤ 1000000)
    (hc : ∀ (i : Nat) (c : Cl.C) (d : Int) (w1 : World), l[i]? = some c → ds[i]? = some d → Below w.heap.size w w1 → Calls Tryz.prog 43 #[.int .i64 (i : Nat), cv c, .pointer (some ⟨b, 0, none⟩)] w1 fun e w2 => e = .returned (.int .i64 d) ∧ Below w1.heap.size w1 w2) :
    Calls Tryz.prog 42 #[v, .func (.func 43) #[] #[.pointer (some ⟨b, 0, none⟩)]] w fun e w' => e = .returned (.int .i64 (Rw.fnz ds)) ∧ Below w.heap.size w w' := by
  have HR := Lib.hid h
  have HC := Lib.hid hc
  have HD := Lib.hid hd
  obtain ⟨a, c, rfl, _⟩ := Gn.Rd.form h
  clear h hc hd
  go_enter Tryz.func42, Tryz.ntmps42
  go_wp2_with fail
  go_loopw [10] (fun i wr => ∃ k : Nat, k ≤ l.length ∧ i = .int .i64 (k : Nat) ∧ Hid (Rw.fnz (ds.drop k) = Rw.fnz ds) ∧ Hid (Below w.heap.size w wr)) (fun i _ => l.length - (intOf i).toNat)
  case atStart => exact ⟨0, by omega, by rfl, Lib.hid rfl, Lib.hid (Below.refl _ _)⟩
  case round =>
    obtain ⟨k, hk, rfl, HE, HU⟩ := hrel
    by_cases hlt : k < l.length
    · have hlt1 : (k : Int) < l.length := by omega
      obtain ⟨x, hx⟩ : ∃ x, l[k]? = some x := ⟨_, List.getElem?_eq_getElem hlt⟩
      obtain ⟨d, hdd⟩ : ∃ d, ds[k]? = some d := ⟨_, List.getElem?_eq_getElem (by rw [HD.out]; exact hlt)⟩
      obtain ⟨b1, o1, rfl, p0, p1, p2⟩ := rdC_cells HR.out HU.out hx
      have HK := Lib.hid (fun w1 hb => HC.out k x d w1 hx hdd hb)
      have HE2 := Lib.hid ((Rw.fnz_drop hdd).symm.trans HE.out)
      unfold cv at HK
      obtain ⟨xu, xn, xs⟩ := x
      simp only at p0 p1 p2 HK
      clear hx hdd HE HC
      have HU1 := Lib.hid (HU.out.alloc HU.out.size (.cells #[.bool xu, .int .i64 xn, .string xs] 34))
      by_cases hz : d = 0
      · subst hz
        rw [if_neg (by omega)] at HE2
        go_wp2_with fail
        ((with_reducible refine (HK.out _ HU1.out).mono ?_); rintro e w1 ⟨rfl, b1⟩)
        have HU2 := Lib.hid (HU1.out.trans (b1.mono HU1.out.size))
        clear b1 HU1 HK
        go_wp2_with fail
        go_roundw
        case rel => exact ⟨k + 1, by omega, by go_num, HE2, HU2⟩
        case measure => simp [intOf]; omega
      · rw [if_pos hz] at HE2
        have hz1 : (d != 0) = true := by simpa using hz
        go_wp2_with fail
        ((with_reducible refine (HK.out _ HU1.out).mono ?_); rintro e w1 ⟨rfl, b1⟩)
        have HU2 := Lib.hid (HU1.out.trans (b1.mono HU1.out.size))
        clear b1 HU1 HK
        go_wp2_with fail
        go_ret
        exact ⟨congrArg (fun z => Ending.returned (.int .i64 z)) HE2.out, HU2.out⟩
    · have hlt1 : ¬ (k : Int) < l.length := by omega
      have e : Rw.fnz ds = 0 := HE.out.symm.trans (Rw.fnz_end (by rw [HD.out]; omega))
      go_wp2_with fail
      go_ret
      exact ⟨rfl, HU.out⟩
set_option maxHeartbeats 4000000 in
theorem gatherC_no (v fv : Value) (ps : List Int) (many : Nat) (w : World) (h : RdI w w.heap.size v ps) (hl : ps.length ≤ 1000000) (hno : Rw.okP ps many = false) :
    Calls Tryz.prog 34 #[v, .int .i64 (many : Nat), fv] w fun e w' => e = .returned (.tuple #[.slice none 0 0, .int .i64 6]) ∧ Below w.heap.size w w' := by
  have HR := Lib.hid h
  have HN := Lib.hid hno
  obtain ⟨a, c, rfl, _⟩ := Gn.Rd.form h
  clear h hno
  go_enter Tryz.func34, Tryz.ntmps34
  go_wp2_with fail
  go_loopw [17] (fun i wr => ∃ k : Nat, k ≤ ps.length ∧ i = .int .i64 (k : Nat) ∧ Hid (∀ (j : Nat) p, j < k → ps[j]? = some p → 0 ≤ p ∧ p < (many : Int)) ∧ Hid (Below w.heap.size w wr)) (fun i _ => ps.length - (intOf i).toNat)
  case atStart => exact ⟨0, by omega, by rfl, Lib.hid (fun j p hj => by omega), Lib.hid (Below.refl _ _)⟩
  case round =>
    obtain ⟨k, hk, rfl, HE, HU⟩ := hrel
    by_cases hlt : k < ps.length
    · have hlt1 : (k : Int) < ps.length := by omega
      obtain ⟨p, hp⟩ : ∃ x, ps[k]? = some x := ⟨_, List.getElem?_eq_getElem hlt⟩
      obtain ⟨b1, o1, rfl, p0⟩ := rdI_cell HR.out HU.out hp
      by_cases h1 : p < 0
      · clear hp
        go_wp2_with fail
        go_ret2
        exact ⟨rfl, HU.out⟩
      · by_cases h2 : p < many
        · have h3 : ¬ p ≥ (many : Int) := by omega
          have HE2 : Hid (∀ (j : Nat) p, j < k + 1 → ps[j]? = some p → 0 ≤ p ∧ p < (many : Int)) := Lib.hid (fun j q hj hq => by
            rcases Nat.lt_succ_iff_lt_or_eq.1 hj with h | rfl
            · exact HE.out j q h hq
            · rw [hp] at hq; injection hq with hq; omega)
          clear hp
          go_wp2_with fail
          go_roundw
          case rel => exact ⟨k + 1, by omega, by go_num, HE2, HU⟩
          case measure => simp [intOf]; omega
        · have h3 : p ≥ (many : Int) := by omega
          clear hp
          go_wp2_with fail
          go_ret2
          exact ⟨rfl, HU.out⟩
    · exfalso
      have : Rw.okP ps many = true := by
        unfold Rw.okP
        rw [List.all_eq_true]
        intro p hp
        obtain ⟨j, hj, e⟩ := List.mem_iff_getElem.1 hp
        have := HE.out j p (by omega) (by rw [List.getElem?_eq_getElem hj, e])
        simpa using this
      rw [HN.out] at this
      cases this
set_option maxHeartbeats 4000000 in
theorem gatherS_no (v fv : Value) (ps : List Int) (many : Nat) (w : World) (h : RdI w w.heap.size v ps) (hl : ps.length ≤ 1000000) (hno : Rw.okP ps many = false) :
    Calls Tryz.prog 48 #[v, .int .i64 (many : Nat), fv] w fun e w' => e = .returned (.tuple #[.slice none 0 0, .int .i64 6]) ∧ Below w.heap.size w w' := by
  have HR := Lib.hid h
  have HN := Lib.hid hno
  obtain ⟨a, c, rfl, _⟩ := Gn.Rd.form h
  clear h hno
  go_enter Tryz.func48, Tryz.ntmps48
  go_wp2_with fail
  go_loopw [17] (fun i wr => ∃ k : Nat, k ≤ ps.length ∧ i = .int .i64 (k : Nat) ∧ Hid (∀ (j : Nat) p, j < k → ps[j]? = some p → 0 ≤ p ∧ p < (many : Int)) ∧ Hid (Below w.heap.size w wr)) (fun i _ => ps.length - (intOf i).toNat)
  case atStart => exact ⟨0, by omega, by rfl, Lib.hid (fun j p hj => by omega), Lib.hid (Below.refl _ _)⟩
  case round =>
    obtain ⟨k, hk, rfl, HE, HU⟩ := hrel
    by_cases hlt : k < ps.length
    · have hlt1 : (k : Int) < ps.length := by omega
      obtain ⟨p, hp⟩ : ∃ x, ps[k]? = some x := ⟨_, List.getElem?_eq_getElem hlt⟩
      obtain ⟨b1, o1, rfl, p0⟩ := rdI_cell HR.out HU.out hp
      by_cases h1 : p < 0
      · clear hp
        go_wp2_with fail
        go_ret2
        exact ⟨rfl, HU.out⟩
      · by_cases h2 : p < many
        · have h3 : ¬ p ≥ (many : Int) := by omega
          have HE2 : Hid (∀ (j : Nat) p, j < k + 1 → ps[j]? = some p → 0 ≤ p ∧ p < (many : Int)) := Lib.hid (fun j q hj hq => by
            rcases Nat.lt_succ_iff_lt_or_eq.1 hj with h | rfl
            · exact HE.out j q h hq
            · rw [hp] at hq; injection hq with hq; omega)
          clear hp
          go_wp2_with fail
          go_roundw
          case rel => exact ⟨k + 1, by omega, by go_num, HE2, HU⟩
          case measure => simp [intOf]; omega
        · have h3 : p ≥ (many : Int) := by omega
          clear hp
          go_wp2_with fail
          go_ret2
          exact ⟨rfl, HU.out⟩
    · exfalso
      have : Rw.okP ps many = true := by
        unfold Rw.okP
        rw [List.all_eq_true]
        intro p hp
        obtain ⟨j, hj, e⟩ := List.mem_iff_getElem.1 hp
        have := HE.out j p (by omega) (by rw [List.getElem?_eq_getElem hj, e])
        simpa using this
      rw [HN.out] at this
      cases this

/-- What lies while things are got: those that were got, then empty ones. -/
def outs {α : Type} (z : α) (out : Nat → α) (s k : Nat) : List α := (List.range k).map out ++ List.replicate (s - k) z
theorem outs_len {α : Type} (z : α) (out : Nat → α) (s k : Nat) (h : k ≤ s) : (outs z out s k).length = s := by simp [outs]; omega
theorem outs_set {α : Type} (z : α) (out : Nat → α) (s k : Nat) (h : k < s) : (outs z out s k).set k (out k) = outs z out s (k + 1) := by
  unfold outs
  rw [List.set_append_right _ _ (by simp), List.range_succ, List.map_append, List.append_assoc]
  congr 1
  rw [show s - k = s - (k + 1) + 1 by omega, List.replicate_succ]
  simp
theorem outs_none {α : Type} (z : α) (out : Nat → α) (s : Nat) : outs z out s 0 = List.replicate s z := by simp [outs]
theorem outs_all {α : Type} (z : α) (out : Nat → α) (s : Nat) : outs z out s s = (List.range s).map out := by simp [outs]
theorem clc_set3 : ∀ (l : List Cl.C) (i : Nat) (x : Cl.C), i < l.length → (((Gn.cells clc l).set (i * 3) (.bool x.u)).set (i * 3 + 1) (.int .i64 x.n)).set (i * 3 + 2) (.string x.s) = Gn.cells clc (l.set i x)
  | [], i, x, h => by simp at h
  | y :: t, 0, x, _ => rfl
  | y :: t, i + 1, x, h => by
    have ih := clc_set3 t i x (by simpa using h)
    rw [List.set_cons_succ, Gn.cells_cons, Gn.cells_cons, ← ih]
    rw [show (i + 1) * 3 = i * 3 + 3 by omega, show i * 3 + 3 + 1 = i * 3 + 1 + 3 by omega, show i * 3 + 3 + 2 = i * 3 + 2 + 3 by omega]
    rfl
theorem txc_set : ∀ (l : List ByteArray) (i : Nat) (x : ByteArray), i < l.length → (Gn.cells txc l).set i (.string x) = Gn.cells txc (l.set i x)
  | [], i, x, h => by simp at h
  | y :: t, 0, x, _ => rfl
  | y :: t, i + 1, x, h => by
    have ih := txc_set t i x (by simpa using h)
    rw [List.set_cons_succ, Gn.cells_cons, Gn.cells_cons, ← ih]
    rfl
theorem made_cells (z : Value) (n : Nat) (hz : 0 < z.cells.size) : (madeCells z.cells (n * z.cells.size)).toList = (List.replicate n z.cells.toList).flatten := by
  induction n with
  | zero => simp [madeCells]
  | succ n ih =>
    rw [List.replicate_succ', List.flatten_append, ← ih]
    apply List.ext_getElem?
    intro j
    have hl : ∀ m, (madeCells z.cells m).size = m := fun m => by simp [madeCells]
    by_cases hj : j < n * z.cells.size
    · rw [List.getElem?_append_left (by rw [Array.length_toList, hl]; exact hj), Array.getElem?_toList, Array.getElem?_toList, Array.getElem?_eq_getElem (by rw [hl, Nat.succ_mul]; omega), Array.getElem?_eq_getElem (by rw [hl]; exact hj)]
      simp [madeCells]
    · rw [List.getElem?_append_right (by rw [Array.length_toList, hl]; omega), Array.length_toList, hl]
      by_cases hj2 : j < (n + 1) * z.cells.size
      · have hlt : j - n * z.cells.size < z.cells.size := by rw [Nat.succ_mul] at hj2; omega
        have hm : j % z.cells.size = j - n * z.cells.size := by
          have e : j = (j - n * z.cells.size) + z.cells.size * n := by rw [Nat.mul_comm z.cells.size n]; omega
          calc j % z.cells.size = ((j - n * z.cells.size) + z.cells.size * n) % z.cells.size := congrArg (· % z.cells.size) e
            _ = (j - n * z.cells.size) % z.cells.size := Nat.add_mul_mod_self_left ..
            _ = j - n * z.cells.size := Nat.mod_eq_of_lt hlt
        rw [Array.getElem?_toList, Array.getElem?_eq_getElem (by rw [hl]; exact hj2)]
        simp [madeCells, hm, hlt]
      · rw [Array.getElem?_toList, Array.getElem?_eq_none (by rw [hl]; omega), List.getElem?_eq_none]
        simp
        rw [Nat.succ_mul] at hj2
        omega
theorem made_is {α : Type} {enc : α → List Value} {k : Nat} (L : Gn.Lay enc k) (z : Value) (x : α) (n : Nat) (hz : z.cells.size = k) (hx : z.cells.toList = enc x) : madeCells z.cells (n * k) = (Gn.cells enc (List.replicate n x)).toArray := by
  subst hz
  have h := made_cells z n L.pos
  rw [hx] at h
  rw [← Array.toArray_toList (xs := madeCells z.cells (n * z.cells.size)), h]
  congr 1
  simp [Gn.cells, List.flatMap_def]
theorem ownTouch {α : Type} {enc : α → List Value} {k : Nat} {T : TypeId} {S : Nat → Prop} {w w' : World} {base : Nat} {v : Value} {l : List α} (h : Gn.Own enc k T w base v l) (ht : Touch S w w') (hS : ∀ i, S i → i < base) : Gn.Own enc k T w' base v l := by
  obtain ⟨h0, h1⟩ := h
  refine ⟨h0, ?_⟩
  rcases h1 with h1 | ⟨g, cap, cur, rfl, hg, hh, r⟩
  · exact .inl h1
  · have hlt : g < w.heap.size := by
      rcases Nat.lt_or_ge g w.heap.size with hlt | hge
      · exact hlt
      · rw [Array.getElem?_eq_none hge] at hh; cases hh
    exact .inr ⟨g, cap, cur, rfl, hg, (ht.block g hlt (fun hs => by have := hS g hs; omega)).trans hh, r⟩
/-- A touch, and then what is new. -/
theorem touchOn {R : Nat → Prop} {w w1 w2 : World} (h : Touch R w w1) (hb : Below w.heap.size w1 w2) : Touch R w w2 :=
  h.trans (S' := fun i => w.heap.size ≤ i) ⟨hb.os, hb.tape, hb.output, hb.size, fun k hk hn => hb.block k (by omega)⟩ (fun i hi => .inr hi)
theorem make_run {S T : TypeId} {z : Value} {k nb : Nat} (Y : Gn.Ty S T z k nb) (s : Nat) (hk : k ≤ 100) (hs : s ≤ 100000) (w : World) :
    (Instr.makeSlice S (.int .i64 (s : Nat)) (.int .i64 (s : Nat))).run Tryz.prog w = .ok (.slice (some ⟨w.heap.size, 0, none⟩) s s) (w.alloc (.cells (madeCells z.cells (s * k)) T)) := by
  obtain ⟨i, hi, hz, hsz, hby⟩ := Y.parts
  have hnb := Y.nb
  have h1 : s * k ≤ 100000 * 100 := Nat.mul_le_mul hs hk
  have h2 : s * nb ≤ 100000 * 1000 := Nat.mul_le_mul hs hnb
  have h3 : nb * s ≤ 100000 * 1000 := by rw [Nat.mul_comm]; exact h2
  have h := run_makeSlice w S T i z Y.sl hi hz .i64 .i64 (s : Nat) (s : Nat) (by omega) (by omega) (by rw [hsz]; simp; omega) (by rw [hby]; omega) (by omega)
  simpa [hsz] using h
/-- A cell that was got is put in its place. -/
theorem putC {w : World} {base g s k : Nat} {out : Nat → Cl.C} {x : Cl.C} (h : OwnC w base (.slice (some ⟨g, 0, none⟩) s s) (outs Cl.empty out s k)) (hk : k < s) (hx : out k = x) :
    OwnC (((w.setCell ⟨g, k * 3, none⟩ (.bool x.u)).setCell ⟨g, k * 3 + 1, none⟩ (.int .i64 x.n)).setCell ⟨g, k * 3 + 2, none⟩ (.string x.s)) base (.slice (some ⟨g, 0, none⟩) s s) (outs Cl.empty out s (k + 1)) := by
  have hl := outs_len Cl.empty out s k (by omega)
  have hl2 := outs_len Cl.empty out s (k + 1) (by omega)
  unfold OwnC Gn.Own at h ⊢
  rw [hl] at h
  rw [hl2]
  have h3 := (((h.stored (k * 3) (.bool x.u)).1.stored (k * 3 + 1) (.int .i64 x.n)).1.stored (k * 3 + 2) (.string x.s)).1
  rw [clc_set3 _ _ _ (by omega), ← hx, outs_set _ _ _ _ hk] at h3
  rw [← hx]
  exact h3
theorem placesC {w : World} {base g s k : Nat} {out : Nat → Cl.C} (h : OwnC w base (.slice (some ⟨g, 0, none⟩) s s) (outs Cl.empty out s k)) (hk : k < s) :
    (∃ a b c, w.cell? ⟨g, k * 3, none⟩ = some a ∧ w.cell? ⟨g, k * 3 + 1, none⟩ = some b ∧ w.cell? ⟨g, k * 3 + 2, none⟩ = some c) ∧ w.frozen? ⟨g, k * 3, none⟩ = false ∧ w.frozen? ⟨g, k * 3 + 1, none⟩ = false ∧ w.frozen? ⟨g, k * 3 + 2, none⟩ = false := by
  have hl := outs_len Cl.empty out s k (by omega)
  have hc := Gn.cells_len clL (outs Cl.empty out s k)
  unfold OwnC Gn.Own at h
  rw [hl] at h hc
  have q : ∀ j, j < s * 3 → ∃ a, w.cell? ⟨g, j, none⟩ = some a := fun j hj => ⟨_, (h.cellAt j hj).trans (List.getElem?_eq_getElem (by rw [hc]; exact hj))⟩
  obtain ⟨a, ha⟩ := q (k * 3) (by omega)
  obtain ⟨b, hb⟩ := q (k * 3 + 1) (by omega)
  obtain ⟨c, hc⟩ := q (k * 3 + 2) (by omega)
  exact ⟨⟨a, b, c, ha, hb, hc⟩, h.frozenAt _, h.frozenAt _, h.frozenAt _⟩
theorem putT {w : World} {base g s k : Nat} {out : Nat → ByteArray} {x : ByteArray} (h : OwnT w base (.slice (some ⟨g, 0, none⟩) s s) (outs ⟨#[]⟩ out s k)) (hk : k < s) (hx : out k = x) :
    OwnT (w.setCell ⟨g, k, none⟩ (.string x)) base (.slice (some ⟨g, 0, none⟩) s s) (outs ⟨#[]⟩ out s (k + 1)) := by
  have hl := outs_len ⟨#[]⟩ out s k (by omega)
  have hl2 := outs_len ⟨#[]⟩ out s (k + 1) (by omega)
  unfold OwnT Gn.Own at h ⊢
  rw [hl] at h
  rw [hl2]
  have h3 := (h.stored k (.string x)).1
  rw [txc_set _ _ _ (by omega), ← hx, outs_set _ _ _ _ hk] at h3
  rw [← hx]
  exact h3
theorem placesT {w : World} {base g s k : Nat} {out : Nat → ByteArray} (h : OwnT w base (.slice (some ⟨g, 0, none⟩) s s) (outs ⟨#[]⟩ out s k)) (hk : k < s) : (∃ a, w.cell? ⟨g, k, none⟩ = some a) ∧ w.frozen? ⟨g, k, none⟩ = false := by
  have hl := outs_len ⟨#[]⟩ out s k (by omega)
  have hc := Gn.cells_len txL (outs ⟨#[]⟩ out s k)
  unfold OwnT Gn.Own at h
  rw [hl] at h hc
  exact ⟨⟨_, (h.cellAt k (by omega)).trans (List.getElem?_eq_getElem (by rw [hc]; omega))⟩, h.frozenAt _⟩
set_option maxHeartbeats 8000000 in
theorem gatherPick (R : Nat → Prop) (B0 : Nat) (v : Value) (ps : List Int) (many b0 : Nat) (J : Nat → World → Prop) (out : Nat → Cl.C) (m : Nat) (en : Int) (w : World)
    (h : RdI w B0 v ps) (hB : B0 ≤ w.heap.size) (hR : ∀ i, R i → B0 ≤ i ∧ i < w.heap.size) (hl : ps.length ≤ 100000) (hok : Rw.okP ps many = true) (hm : m ≤ ps.length)
    (h0 : J 0 w) (hJ : ∀ i w1 w2, J i w1 → w.heap.size ≤ w1.heap.size → Below w.heap.size w1 w2 → J i w2)
    (hs : ∀ (i : Nat) (p : Int) (w1 : World), i < m → ps[i]? = some p → J i w1 → w.heap.size ≤ w1.heap.size → Calls Tryz.prog 35 #[.int .i64 p, .pointer (some ⟨b0, 0, none⟩)] w1 fun e w2 => e = .returned (.tuple #[cv (out i), .int .i64 0]) ∧ J (i + 1) w2 ∧ Touch R w1 w2)
    (hf : ∀ (p : Int) (w1 : World), m < ps.length → ps[m]? = some p → J m w1 → w.heap.size ≤ w1.heap.size → en ≠ 0 ∧ Calls Tryz.prog 35 #[.int .i64 p, .pointer (some ⟨b0, 0, none⟩)] w1 fun e w2 => (∃ c : Cl.C, e = .returned (.tuple #[cv (c), .int .i64 en])) ∧ Touch R w1 w2) :
    Calls Tryz.prog 34 #[v, .int .i64 (many : Nat), .func (.func 35) #[] #[.pointer (some ⟨b0, 0, none⟩)]] w fun e w' =>
      (m < ps.length → e = .returned (.tuple #[.slice none 0 0, .int .i64 en])) ∧ (m = ps.length → ∃ u, e = .returned (.tuple #[u, .int .i64 0]) ∧ OwnC w' w.heap.size u ((List.range m).map out) ∧ J m w') ∧ Touch R w w' := by
  have HR := Lib.hid h
  have HO := Lib.hid hok
  have HJ := Lib.hid hJ
  have H0 := Lib.hid h0
  have HS := Lib.hid hs
  have HF := Lib.hid hf
  have HRR := Lib.hid hR
  have hmk := fun w => make_run clY ps.length (by omega) hl w
  obtain ⟨a, c, rfl, _⟩ := Gn.Rd.form h
  clear h hok hJ h0 hs hf hR
  go_enter Tryz.func34, Tryz.ntmps34
  go_wp2_with fail
  go_loopw [17] (fun i wr => ∃ k : Nat, k ≤ ps.length ∧ i = .int .i64 (k : Nat) ∧ Hid (Below w.heap.size w wr)) (fun i _ => ps.length - (intOf i).toNat)
  case atStart => exact ⟨0, by omega, by rfl, Lib.hid (Below.refl _ _)⟩
  case round =>
    obtain ⟨k, hk, rfl, HU⟩ := hrel
    by_cases hlt : k < ps.length
    · have hlt1 : (k : Int) < ps.length := by omega
      obtain ⟨p, hp⟩ : ∃ x, ps[k]? = some x := ⟨_, List.getElem?_eq_getElem hlt⟩
      obtain ⟨b1, o1, rfl, p0⟩ := rdI_cell HR.out (HU.out.mono hB) hp
      obtain ⟨h1, h2⟩ := Rw.okP_at HO.out hp
      have h3 : ¬ p < 0 := by omega
      have h4 : ¬ p ≥ (many : Int) := by omega
      clear hp h1 h2
      go_wp2_with fail
      go_roundw
      case rel => exact ⟨k + 1, by omega, by go_num, HU⟩
      case measure => simp [intOf]; omega
    · have hlt1 : ¬ (k : Int) < ps.length := by omega
      obtain ⟨gA, hgA⟩ : ∃ gA, wr.heap.size = gA := ⟨_, rfl⟩
      have HX := Lib.hid (Gn.Own.lit (T := 34) clL wr w.heap.size (List.replicate ps.length Cl.empty) (madeCells clz.cells (ps.length * 3)) ps.length ps.length (made_is clL clz Cl.empty ps.length rfl rfl) (by simp) rfl (by simp [maxLen]; omega) HU.out.size)
      have HU1 := Lib.hid (HU.out.alloc HU.out.size (.cells (madeCells clz.cells (ps.length * 3)) 34))
      generalize madeCells clz.cells (ps.length * 3) = M at *
      go_wp2_with fail
      rw [hgA] at HX
      have HJ0 := Lib.hid (HJ.out 0 _ _ H0.out (Nat.le_refl _) HU1.out)
      have HT0 := Lib.hid (Touch.of_below (S := R) HU1.out)
      generalize wr.alloc (.cells M 34) = w0 at *
      clear hmk HU HU1 hgA
      have hgB : w.heap.size ≤ gA := (Gn.Own.lt HX.out gA rfl).1
      go_loopw [34] (fun i wx => ∃ k : Nat, k ≤ m ∧ i = .int .i64 (k : Nat) ∧ Hid (J k wx) ∧ Hid (OwnC wx w.heap.size (.slice (some ⟨gA, 0, none⟩) ps.length ps.length) (outs Cl.empty out ps.length k)) ∧ Hid (Touch R w wx)) (fun i _ => ps.length - (intOf i).toNat)
      case atStart => exact ⟨0, by omega, by rfl, HJ0, Lib.hid (by rw [outs_none]; exact HX.out), HT0⟩
      case round =>
        obtain ⟨k2, hk2, rfl, HJk, HOk, HTk⟩ := hrel
        clear HJ0 HX HT0 hlt hlt1 hk
        by_cases hlt : k2 < ps.length
        · have hlt1 : (k2 : Int) < ps.length := by omega
          obtain ⟨p, hp⟩ : ∃ x, ps[k2]? = some x := ⟨_, List.getElem?_eq_getElem hlt⟩
          obtain ⟨b1, o1, rfl, p0⟩ := rdI_cell HR.out (HTk.out.below hB (fun i hi => (HRR.out i hi).1)) hp
          have HSZ := Lib.hid HTk.out.size
          by_cases hm2 : k2 < m
          · have HK := Lib.hid (HS.out k2 p wr hm2 hp HJk.out HSZ.out)
            obtain ⟨x, hx⟩ : ∃ x, out k2 = x := ⟨_, rfl⟩
            rw [hx] at HK
            unfold cv at HK
            obtain ⟨xu, xn, xs⟩ := x
            simp only at HK
            clear hp
            go_wp2_with fail
            ((with_reducible refine (HK.out).mono ?_); rintro e w1 ⟨rfl, hj1, ht1⟩)
            have HO2 := Lib.hid (Gn.Own.later (ownTouch HOk.out ht1 (fun i hi => (HRR.out i hi).2)) (box_new w1 (.cells #[.bool xu, .int .i64 xn, .string xs] 34)))
            have HZ1 := Lib.hid (Nat.le_trans HSZ.out ht1.size)
            have HT1 := Lib.hid (HTk.out.trans ht1 (fun i hi => .inl hi))
            have HJ1 := Lib.hid hj1
            obtain ⟨⟨c0, c1, c2, q0, q1, q2⟩, f0, f1, f2⟩ := placesC HO2.out (by omega)
            have HP := Lib.hid (putC HO2.out hlt hx)
            have HB2 := Lib.hid (((((Below.refl w.heap.size w1).alloc HZ1.out (.cells #[.bool xu, .int .i64 xn, .string xs] 34)).setCell (p := ⟨gA, k2 * 3, none⟩) hgB (.bool xu)).setCell (p := ⟨gA, k2 * 3 + 1, none⟩) hgB (.int .i64 xn)).setCell (p := ⟨gA, k2 * 3 + 2, none⟩) hgB (.string xs))
            have HJ2 := Lib.hid (HJ.out (k2 + 1) _ _ HJ1.out HZ1.out HB2.out)
            have HT2 := Lib.hid (touchOn HT1.out HB2.out)
            clear hj1 ht1 HJ1 HT1 HK HO2 HOk HTk HJk HB2 hx
            go_wp2_with fail
            go_roundw
            case rel => exact ⟨k2 + 1, by omega, by go_num, HJ2, HP, HT2⟩
            case measure => simp [intOf]; omega
          · obtain rfl : k2 = m := by omega
            obtain ⟨hne, hcc⟩ := HF.out p wr (by omega) hp HJk.out HSZ.out
            have hne1 : (en != 0) = true := by simpa using hne
            have HK := Lib.hid hcc
            clear hp hcc hne
            unfold cv at HK
            go_wp2_with fail
            ((with_reducible refine (HK.out).mono ?_); rintro e w1 ⟨⟨⟨xu, xn, xs⟩, rfl⟩, ht1⟩)
            have HT2 := Lib.hid ((HTk.out.trans ht1 (fun i hi => .inl hi)).alloc (.cells #[.bool xu, .int .i64 xn, .string xs] 34))
            clear ht1 HK
            go_wp2_with fail
            go_ret2
            exact ⟨fun _ => rfl, fun h => absurd h (by omega), HT2.out⟩
        · have hlt1 : ¬ (k2 : Int) < ps.length := by omega
          have hme : k2 = m := by omega
          have hml : m = ps.length := by omega
          rw [show outs Cl.empty out ps.length k2 = (List.range m).map out by rw [← outs_all Cl.empty out m, hme, hml]] at HOk
          rw [hme] at HJk
          clear hme
          subst hml
          go_wp2_with fail
          go_ret2
          exact ⟨⟨_, rfl, HOk.out, HJk.out⟩, HTk.out⟩
set_option maxHeartbeats 8000000 in
theorem gatherUn (R : Nat → Prop) (B0 : Nat) (v : Value) (ps : List Int) (many b0 b1 : Nat) (J : Nat → World → Prop) (out : Nat → Cl.C) (m : Nat) (en : Int) (w : World)
    (h : RdI w B0 v ps) (hB : B0 ≤ w.heap.size) (hR : ∀ i, R i → B0 ≤ i ∧ i < w.heap.size) (hl : ps.length ≤ 100000) (hok : Rw.okP ps many = true) (hm : m ≤ ps.length)
    (h0 : J 0 w) (hJ : ∀ i w1 w2, J i w1 → w.heap.size ≤ w1.heap.size → Below w.heap.size w1 w2 → J i w2)
    (hs : ∀ (i : Nat) (p : Int) (w1 : World), i < m → ps[i]? = some p → J i w1 → w.heap.size ≤ w1.heap.size → Calls Tryz.prog 53 #[.int .i64 p, .pointer (some ⟨b0, 0, none⟩), .pointer (some ⟨b1, 0, none⟩)] w1 fun e w2 => e = .returned (.tuple #[cv (out i), .int .i64 0]) ∧ J (i + 1) w2 ∧ Touch R w1 w2)
    (hf : ∀ (p : Int) (w1 : World), m < ps.length → ps[m]? = some p → J m w1 → w.heap.size ≤ w1.heap.size → en ≠ 0 ∧ Calls Tryz.prog 53 #[.int .i64 p, .pointer (some ⟨b0, 0, none⟩), .pointer (some ⟨b1, 0, none⟩)] w1 fun e w2 => (∃ c : Cl.C, e = .returned (.tuple #[cv (c), .int .i64 en])) ∧ Touch R w1 w2) :
    Calls Tryz.prog 34 #[v, .int .i64 (many : Nat), .func (.func 53) #[] #[.pointer (some ⟨b0, 0, none⟩), .pointer (some ⟨b1, 0, none⟩)]] w fun e w' =>
      (m < ps.length → e = .returned (.tuple #[.slice none 0 0, .int .i64 en])) ∧ (m = ps.length → ∃ u, e = .returned (.tuple #[u, .int .i64 0]) ∧ OwnC w' w.heap.size u ((List.range m).map out) ∧ J m w') ∧ Touch R w w' := by
  have HR := Lib.hid h
  have HO := Lib.hid hok
  have HJ := Lib.hid hJ
  have H0 := Lib.hid h0
  have HS := Lib.hid hs
  have HF := Lib.hid hf
  have HRR := Lib.hid hR
  have hmk := fun w => make_run clY ps.length (by omega) hl w
  obtain ⟨a, c, rfl, _⟩ := Gn.Rd.form h
  clear h hok hJ h0 hs hf hR
  go_enter Tryz.func34, Tryz.ntmps34
  go_wp2_with fail
  go_loopw [17] (fun i wr => ∃ k : Nat, k ≤ ps.length ∧ i = .int .i64 (k : Nat) ∧ Hid (Below w.heap.size w wr)) (fun i _ => ps.length - (intOf i).toNat)
  case atStart => exact ⟨0, by omega, by rfl, Lib.hid (Below.refl _ _)⟩
  case round =>
    obtain ⟨k, hk, rfl, HU⟩ := hrel
    by_cases hlt : k < ps.length
    · have hlt1 : (k : Int) < ps.length := by omega
      obtain ⟨p, hp⟩ : ∃ x, ps[k]? = some x := ⟨_, List.getElem?_eq_getElem hlt⟩
      obtain ⟨b1, o1, rfl, p0⟩ := rdI_cell HR.out (HU.out.mono hB) hp
      obtain ⟨h1, h2⟩ := Rw.okP_at HO.out hp
      have h3 : ¬ p < 0 := by omega
      have h4 : ¬ p ≥ (many : Int) := by omega
      clear hp h1 h2
      go_wp2_with fail
      go_roundw
      case rel => exact ⟨k + 1, by omega, by go_num, HU⟩
      case measure => simp [intOf]; omega
    · have hlt1 : ¬ (k : Int) < ps.length := by omega
      obtain ⟨gA, hgA⟩ : ∃ gA, wr.heap.size = gA := ⟨_, rfl⟩
      have HX := Lib.hid (Gn.Own.lit (T := 34) clL wr w.heap.size (List.replicate ps.length Cl.empty) (madeCells clz.cells (ps.length * 3)) ps.length ps.length (made_is clL clz Cl.empty ps.length rfl rfl) (by simp) rfl (by simp [maxLen]; omega) HU.out.size)
      have HU1 := Lib.hid (HU.out.alloc HU.out.size (.cells (madeCells clz.cells (ps.length * 3)) 34))
      generalize madeCells clz.cells (ps.length * 3) = M at *
      go_wp2_with fail
      rw [hgA] at HX
      have HJ0 := Lib.hid (HJ.out 0 _ _ H0.out (Nat.le_refl _) HU1.out)
      have HT0 := Lib.hid (Touch.of_below (S := R) HU1.out)
      generalize wr.alloc (.cells M 34) = w0 at *
      clear hmk HU HU1 hgA
      have hgB : w.heap.size ≤ gA := (Gn.Own.lt HX.out gA rfl).1
      go_loopw [34] (fun i wx => ∃ k : Nat, k ≤ m ∧ i = .int .i64 (k : Nat) ∧ Hid (J k wx) ∧ Hid (OwnC wx w.heap.size (.slice (some ⟨gA, 0, none⟩) ps.length ps.length) (outs Cl.empty out ps.length k)) ∧ Hid (Touch R w wx)) (fun i _ => ps.length - (intOf i).toNat)
      case atStart => exact ⟨0, by omega, by rfl, HJ0, Lib.hid (by rw [outs_none]; exact HX.out), HT0⟩
      case round =>
        obtain ⟨k2, hk2, rfl, HJk, HOk, HTk⟩ := hrel
        clear HJ0 HX HT0 hlt hlt1 hk
        by_cases hlt : k2 < ps.length
        · have hlt1 : (k2 : Int) < ps.length := by omega
          obtain ⟨p, hp⟩ : ∃ x, ps[k2]? = some x := ⟨_, List.getElem?_eq_getElem hlt⟩
          obtain ⟨b1, o1, rfl, p0⟩ := rdI_cell HR.out (HTk.out.below hB (fun i hi => (HRR.out i hi).1)) hp
          have HSZ := Lib.hid HTk.out.size
          by_cases hm2 : k2 < m
          · have HK := Lib.hid (HS.out k2 p wr hm2 hp HJk.out HSZ.out)
            obtain ⟨x, hx⟩ : ∃ x, out k2 = x := ⟨_, rfl⟩
            rw [hx] at HK
            unfold cv at HK
            obtain ⟨xu, xn, xs⟩ := x
            simp only at HK
            clear hp
            go_wp2_with fail
            ((with_reducible refine (HK.out).mono ?_); rintro e w1 ⟨rfl, hj1, ht1⟩)
            have HO2 := Lib.hid (Gn.Own.later (ownTouch HOk.out ht1 (fun i hi => (HRR.out i hi).2)) (box_new w1 (.cells #[.bool xu, .int .i64 xn, .string xs] 34)))
            have HZ1 := Lib.hid (Nat.le_trans HSZ.out ht1.size)
            have HT1 := Lib.hid (HTk.out.trans ht1 (fun i hi => .inl hi))
            have HJ1 := Lib.hid hj1
            obtain ⟨⟨c0, c1, c2, q0, q1, q2⟩, f0, f1, f2⟩ := placesC HO2.out (by omega)
            have HP := Lib.hid (putC HO2.out hlt hx)
            have HB2 := Lib.hid (((((Below.refl w.heap.size w1).alloc HZ1.out (.cells #[.bool xu, .int .i64 xn, .string xs] 34)).setCell (p := ⟨gA, k2 * 3, none⟩) hgB (.bool xu)).setCell (p := ⟨gA, k2 * 3 + 1, none⟩) hgB (.int .i64 xn)).setCell (p := ⟨gA, k2 * 3 + 2, none⟩) hgB (.string xs))
            have HJ2 := Lib.hid (HJ.out (k2 + 1) _ _ HJ1.out HZ1.out HB2.out)
            have HT2 := Lib.hid (touchOn HT1.out HB2.out)
            clear hj1 ht1 HJ1 HT1 HK HO2 HOk HTk HJk HB2 hx
            go_wp2_with fail
            go_roundw
            case rel => exact ⟨k2 + 1, by omega, by go_num, HJ2, HP, HT2⟩
            case measure => simp [intOf]; omega
          · obtain rfl : k2 = m := by omega
            obtain ⟨hne, hcc⟩ := HF.out p wr (by omega) hp HJk.out HSZ.out
            have hne1 : (en != 0) = true := by simpa using hne
            have HK := Lib.hid hcc
            clear hp hcc hne
            unfold cv at HK
            go_wp2_with fail
            ((with_reducible refine (HK.out).mono ?_); rintro e w1 ⟨⟨⟨xu, xn, xs⟩, rfl⟩, ht1⟩)
            have HT2 := Lib.hid ((HTk.out.trans ht1 (fun i hi => .inl hi)).alloc (.cells #[.bool xu, .int .i64 xn, .string xs] 34))
            clear ht1 HK
            go_wp2_with fail
            go_ret2
            exact ⟨fun _ => rfl, fun h => absurd h (by omega), HT2.out⟩
        · have hlt1 : ¬ (k2 : Int) < ps.length := by omega
          have hme : k2 = m := by omega
          have hml : m = ps.length := by omega
          rw [show outs Cl.empty out ps.length k2 = (List.range m).map out by rw [← outs_all Cl.empty out m, hme, hml]] at HOk
          rw [hme] at HJk
          clear hme
          subst hml
          go_wp2_with fail
          go_ret2
          exact ⟨⟨_, rfl, HOk.out, HJk.out⟩, HTk.out⟩
set_option maxHeartbeats 8000000 in
theorem gatherKey (R : Nat → Prop) (B0 : Nat) (v : Value) (ps : List Int) (many b0 b1 : Nat) (J : Nat → World → Prop) (out : Nat → ByteArray) (m : Nat) (en : Int) (w : World)
    (h : RdI w B0 v ps) (hB : B0 ≤ w.heap.size) (hR : ∀ i, R i → B0 ≤ i ∧ i < w.heap.size) (hl : ps.length ≤ 100000) (hok : Rw.okP ps many = true) (hm : m ≤ ps.length)
    (h0 : J 0 w) (hJ : ∀ i w1 w2, J i w1 → w.heap.size ≤ w1.heap.size → Below w.heap.size w1 w2 → J i w2)
    (hs : ∀ (i : Nat) (p : Int) (w1 : World), i < m → ps[i]? = some p → J i w1 → w.heap.size ≤ w1.heap.size → Calls Tryz.prog 49 #[.int .i64 p, .pointer (some ⟨b0, 0, none⟩), .pointer (some ⟨b1, 0, none⟩)] w1 fun e w2 => e = .returned (.tuple #[.string (out i), .int .i64 0]) ∧ J (i + 1) w2 ∧ Touch R w1 w2)
    (hf : ∀ (p : Int) (w1 : World), m < ps.length → ps[m]? = some p → J m w1 → w.heap.size ≤ w1.heap.size → en ≠ 0 ∧ Calls Tryz.prog 49 #[.int .i64 p, .pointer (some ⟨b0, 0, none⟩), .pointer (some ⟨b1, 0, none⟩)] w1 fun e w2 => (∃ c : ByteArray, e = .returned (.tuple #[.string (c), .int .i64 en])) ∧ Touch R w1 w2) :
    Calls Tryz.prog 48 #[v, .int .i64 (many : Nat), .func (.func 49) #[] #[.pointer (some ⟨b0, 0, none⟩), .pointer (some ⟨b1, 0, none⟩)]] w fun e w' =>
      (m < ps.length → e = .returned (.tuple #[.slice none 0 0, .int .i64 en])) ∧ (m = ps.length → ∃ u, e = .returned (.tuple #[u, .int .i64 0]) ∧ OwnT w' w.heap.size u ((List.range m).map out) ∧ J m w') ∧ Touch R w w' := by
  have HR := Lib.hid h
  have HO := Lib.hid hok
  have HJ := Lib.hid hJ
  have H0 := Lib.hid h0
  have HS := Lib.hid hs
  have HF := Lib.hid hf
  have HRR := Lib.hid hR
  have hmk := fun w => make_run txY ps.length (by omega) hl w
  obtain ⟨a, c, rfl, _⟩ := Gn.Rd.form h
  clear h hok hJ h0 hs hf hR
  go_enter Tryz.func48, Tryz.ntmps48
  go_wp2_with fail
  go_loopw [17] (fun i wr => ∃ k : Nat, k ≤ ps.length ∧ i = .int .i64 (k : Nat) ∧ Hid (Below w.heap.size w wr)) (fun i _ => ps.length - (intOf i).toNat)
  case atStart => exact ⟨0, by omega, by rfl, Lib.hid (Below.refl _ _)⟩
  case round =>
    obtain ⟨k, hk, rfl, HU⟩ := hrel
    by_cases hlt : k < ps.length
    · have hlt1 : (k : Int) < ps.length := by omega
      obtain ⟨p, hp⟩ : ∃ x, ps[k]? = some x := ⟨_, List.getElem?_eq_getElem hlt⟩
      obtain ⟨b1, o1, rfl, p0⟩ := rdI_cell HR.out (HU.out.mono hB) hp
      obtain ⟨h1, h2⟩ := Rw.okP_at HO.out hp
      have h3 : ¬ p < 0 := by omega
      have h4 : ¬ p ≥ (many : Int) := by omega
      clear hp h1 h2
      go_wp2_with fail
      go_roundw
      case rel => exact ⟨k + 1, by omega, by go_num, HU⟩
      case measure => simp [intOf]; omega
    · have hlt1 : ¬ (k : Int) < ps.length := by omega
      obtain ⟨gA, hgA⟩ : ∃ gA, wr.heap.size = gA := ⟨_, rfl⟩
      have HX := Lib.hid (Gn.Own.lit (T := 9) txL wr w.heap.size (List.replicate ps.length ⟨#[]⟩) (madeCells (Value.string ⟨#[]⟩).cells (ps.length * 1)) ps.length ps.length (made_is txL (Value.string ⟨#[]⟩) ⟨#[]⟩ ps.length rfl rfl) (by simp) rfl (by simp [maxLen]; omega) HU.out.size)
      have HU1 := Lib.hid (HU.out.alloc HU.out.size (.cells (madeCells (Value.string ⟨#[]⟩).cells (ps.length * 1)) 9))
      generalize madeCells (Value.string ⟨#[]⟩).cells (ps.length * 1) = M at *
      go_wp2_with fail
      rw [hgA] at HX
      have HJ0 := Lib.hid (HJ.out 0 _ _ H0.out (Nat.le_refl _) HU1.out)
      have HT0 := Lib.hid (Touch.of_below (S := R) HU1.out)
      generalize wr.alloc (.cells M 9) = w0 at *
      clear hmk HU HU1 hgA
      have hgB : w.heap.size ≤ gA := (Gn.Own.lt HX.out gA rfl).1
      go_loopw [34] (fun i wx => ∃ k : Nat, k ≤ m ∧ i = .int .i64 (k : Nat) ∧ Hid (J k wx) ∧ Hid (OwnT wx w.heap.size (.slice (some ⟨gA, 0, none⟩) ps.length ps.length) (outs ⟨#[]⟩ out ps.length k)) ∧ Hid (Touch R w wx)) (fun i _ => ps.length - (intOf i).toNat)
      case atStart => exact ⟨0, by omega, by rfl, HJ0, Lib.hid (by rw [outs_none]; exact HX.out), HT0⟩
      case round =>
        obtain ⟨k2, hk2, rfl, HJk, HOk, HTk⟩ := hrel
        clear HJ0 HX HT0 hlt hlt1 hk
        by_cases hlt : k2 < ps.length
        · have hlt1 : (k2 : Int) < ps.length := by omega
          obtain ⟨p, hp⟩ : ∃ x, ps[k2]? = some x := ⟨_, List.getElem?_eq_getElem hlt⟩
          obtain ⟨b1, o1, rfl, p0⟩ := rdI_cell HR.out (HTk.out.below hB (fun i hi => (HRR.out i hi).1)) hp
          have HSZ := Lib.hid HTk.out.size
          by_cases hm2 : k2 < m
          · have HK := Lib.hid (HS.out k2 p wr hm2 hp HJk.out HSZ.out)
            obtain ⟨x, hx⟩ : ∃ x, out k2 = x := ⟨_, rfl⟩
            rw [hx] at HK
            skip
            clear hp
            go_wp2_with fail
            ((with_reducible refine (HK.out).mono ?_); rintro e w1 ⟨rfl, hj1, ht1⟩)
            have HO2 := Lib.hid (ownTouch HOk.out ht1 (fun i hi => (HRR.out i hi).2))
            have HZ1 := Lib.hid (Nat.le_trans HSZ.out ht1.size)
            have HT1 := Lib.hid (HTk.out.trans ht1 (fun i hi => .inl hi))
            have HJ1 := Lib.hid hj1
            obtain ⟨⟨c0, q0⟩, f0⟩ := placesT HO2.out (by omega)
            have HP := Lib.hid (putT HO2.out hlt hx)
            have HB2 := Lib.hid ((Below.refl w.heap.size w1).setCell (p := ⟨gA, k2, none⟩) hgB (.string x))
            have HJ2 := Lib.hid (HJ.out (k2 + 1) _ _ HJ1.out HZ1.out HB2.out)
            have HT2 := Lib.hid (touchOn HT1.out HB2.out)
            clear hj1 ht1 HJ1 HT1 HK HO2 HOk HTk HJk HB2 hx
            go_wp2_with fail
            go_roundw
            case rel => exact ⟨k2 + 1, by omega, by go_num, HJ2, HP, HT2⟩
            case measure => simp [intOf]; omega
          · obtain rfl : k2 = m := by omega
            obtain ⟨hne, hcc⟩ := HF.out p wr (by omega) hp HJk.out HSZ.out
            have hne1 : (en != 0) = true := by simpa using hne
            have HK := Lib.hid hcc
            clear hp hcc hne
            skip
            go_wp2_with fail
            ((with_reducible refine (HK.out).mono ?_); rintro e w1 ⟨⟨x, rfl⟩, ht1⟩)
            have HT2 := Lib.hid (HTk.out.trans ht1 (fun i hi => .inl hi))
            clear ht1 HK
            go_wp2_with fail
            go_ret2
            exact ⟨fun _ => rfl, fun h => absurd h (by omega), HT2.out⟩
        · have hlt1 : ¬ (k2 : Int) < ps.length := by omega
          have hme : k2 = m := by omega
          have hml : m = ps.length := by omega
          rw [show outs ⟨#[]⟩ out ps.length k2 = (List.range m).map out by rw [← outs_all ⟨#[]⟩ out m, hme, hml]] at HOk
          rw [hme] at HJk
          clear hme
          subst hml
          go_wp2_with fail
          go_ret2
          exact ⟨⟨_, rfl, HOk.out, HJk.out⟩, HTk.out⟩
end Go.Proofs.YtfplogjdcndohaaGreatDoor

/- The functions of rows: the closures that look at a place; Check, Compare, Same, Copy, Pick, Key. -/
namespace Go.Proofs.YtfplogjdcndohaaGreatDoor
open Go.RowKit Go.Sort
set_option linter.unusedVariables false
set_option maxRecDepth 100000

set_option maxHeartbeats 4000000 in
theorem clCheck (b : Nat) (kv : Value) (ks : List Co) (w : World) (T : TA w) (hk : RdK w w.heap.size kv ks) (hb : Blk w b 22 [kv]) (i : Nat) (x : Co) (hx : ks[i]? = some x) (c : Cl.C) (hi : Cl.I64 c.n) (hm : c.s.size ≤ 1000000) (d0 : Int) (hd : ((Cl.chk x.u x.k c : Nat) : Int) = d0) :
    Calls Tryz.prog 38 #[.int .i64 (i : Nat), cv c, .pointer (some ⟨b, 0, none⟩)] w fun e w' => e = .returned (.int .i64 d0) ∧ Below w.heap.size w w' := by
  obtain ⟨a, cc, rfl, _⟩ := Gn.Rd.form hk
  have hlt : i < ks.length := (List.getElem?_eq_some_iff.1 hx).1
  have hlt1 : (i : Int) < ks.length := by omega
  have K := Lib.hid (fun w T => checks x.u x.k c w T hi hm _ rfl)
  have HB := Lib.hid (box_new w (.cells (cvc c) 34))
  obtain ⟨kb, ko, rfl, p0, p1⟩ := rdK_type hk HB.out hx
  have hb0 := (Blk.later hb HB.out).cell 0
  have hc := (CV.new w c.u c.n c.s).lie
  have HT := Lib.hid (T.later HB.out)
  rw [← hd]
  clear hx hk hb hi hm T hd
  obtain ⟨cu, cn, cs⟩ := c
  unfold cv cvc at *
  unfold tv at K
  simp only at *
  go_enter Tryz.func38, Tryz.ntmps38
  go_wp2_with fail
  generalize w.alloc (.cells #[.bool cu, .int .i64 cn, .string cs] 34) = wb at *
  obtain ⟨c0, c1, c2⟩ := hc
  have q0 := fun d os => cell_regrown (show wb.cell? ⟨b, 0, none⟩ = some (.slice (some ⟨kb, ko, none⟩) ks.length cc) from hb0) d os
  have q1 := fun d os => cell_regrown p0 d os
  have q2 := fun d os => cell_regrown p1 d os
  have q3 := fun d os => cell_regrown c0 d os
  have q4 := fun d os => cell_regrown c1 d os
  have q5 := fun d os => cell_regrown c2 d os
  have Q := Lib.hid (fun d os => Calls.regrown_of (K.out _ (HT.out.later (below_regrown wb d os))))
  clear hb0 p0 p1 c0 c1 c2 K HT
  refine wp_region_quiet_below (by kernel_rfl) (by kernel_rfl) ?_
  iterate 8 (quiet_step (first | with_reducible exact Q.out _ _))
  refine wpQuiet_nil ?_
  intro _ hw'
  obtain ⟨⟨dq, osq⟩, hw''⟩ := hw'
  subst hw''
  go_wp2_with fail
  go_ret
  exact ⟨rfl, up HB.out (below_regrown wb dq osq)⟩
set_option maxHeartbeats 4000000 in
theorem clCompare (b : Nat) (rv : Value) (r : List Cl.C) (w : World) (hk : RdC w w.heap.size rv r) (hb : Blk w b 23 [rv]) (i : Nat) (x : Cl.C) (hx : r[i]? = some x) (c : Cl.C) (d0 : Int) (hd : Cl.cmp c x = d0) :
    Calls Tryz.prog 43 #[.int .i64 (i : Nat), cv c, .pointer (some ⟨b, 0, none⟩)] w fun e w' => e = .returned (.int .i64 d0) ∧ Below w.heap.size w w' := by
  obtain ⟨a, cc, rfl, _⟩ := Gn.Rd.form hk
  have hlt : i < r.length := (List.getElem?_eq_some_iff.1 hx).1
  have hlt1 : (i : Int) < r.length := by omega
  have K := Lib.hid (fun w => cCompare c x w _ hd)
  have HB := Lib.hid (box_new w (.cells (cvc c) 34))
  obtain ⟨kb, ko, rfl, p0, p1, p2⟩ := rdC_cells hk HB.out hx
  have hb0 := (Blk.later hb HB.out).cell 0
  have hc := (CV.new w c.u c.n c.s).lie
  clear hx hk hb hd
  obtain ⟨cu, cn, cs⟩ := c
  obtain ⟨xu, xn, xs⟩ := x
  unfold cv cvc at *
  simp only at *
  go_enter Tryz.func43, Tryz.ntmps43
  go_wp2_with fail
  generalize w.alloc (.cells #[.bool cu, .int .i64 cn, .string cs] 34) = wb at *
  obtain ⟨c0, c1, c2⟩ := hc
  have q0 := fun d os => cell_regrown (show wb.cell? ⟨b, 0, none⟩ = some (.slice (some ⟨kb, ko, none⟩) r.length cc) from hb0) d os
  have q1 := fun d os => cell_regrown p0 d os
  have q2 := fun d os => cell_regrown p1 d os
  have q6 := fun d os => cell_regrown p2 d os
  have q3 := fun d os => cell_regrown c0 d os
  have q4 := fun d os => cell_regrown c1 d os
  have q5 := fun d os => cell_regrown c2 d os
  have Q := Lib.hid (fun d os => Calls.regrown_of (K.out (grow (redrawn wb d) os)))
  clear hb0 p0 p1 p2 c0 c1 c2 K
  refine wp_region_quiet_below (by kernel_rfl) (by kernel_rfl) ?_
  iterate 7 (quiet_step (first | with_reducible exact Q.out _ _))
  refine wpQuiet_nil ?_
  intro _ hw'
  obtain ⟨⟨dq, osq⟩, hw''⟩ := hw'
  subst hw''
  go_wp2_with fail
  go_ret
  exact ⟨rfl, up HB.out (below_regrown wb dq osq)⟩
set_option maxHeartbeats 4000000 in
theorem clPick (b : Nat) (rv : Value) (r : List Cl.C) (w : World) (B : Nat) (W : World) (hk : RdC W B rv r) (hB : Below B W w) (hBw : B ≤ w.heap.size) (hb : Blk w b 23 [rv]) (p : Int) (hp : 0 ≤ p ∧ p < (r.length : Int)) :
    Calls Tryz.prog 35 #[.int .i64 p, .pointer (some ⟨b, 0, none⟩)] w fun e w' => e = .returned (.tuple #[cv (Rw.cAt r p), .int .i64 0]) ∧ Below w.heap.size w w' := by
  obtain ⟨i, rfl⟩ : ∃ i : Nat, p = i := ⟨p.toNat, by omega⟩
  obtain ⟨a, cc, rfl, _⟩ := Gn.Rd.form hk
  have hlt1 : (i : Int) < r.length := hp.2
  have hx := Rw.cAt_some hp
  rw [Int.toNat_natCast] at hx
  have HB := Lib.hid (box_new w (.cells #[.bool false, .int .i64 0, .string ⟨#[]⟩] 34))
  have HX := Lib.hid (CV.new w false 0 ⟨#[]⟩)
  obtain ⟨kb, ko, rfl, p0, p1, p2⟩ := rdC_cells hk (hB.trans (HB.out.mono hBw)) hx
  have hb0 : (w.alloc (.cells #[.bool false, .int .i64 0, .string ⟨#[]⟩] 34)).cell? ⟨b, 0, none⟩ = some (.slice (some ⟨kb, ko, none⟩) r.length cc) := (Blk.later hb HB.out).cell 0
  clear hx hk hb hp hB
  generalize Rw.cAt r (i : Nat) = x at *
  obtain ⟨xu, xn, xs⟩ := x
  simp only at p0 p1 p2
  have HP := Lib.hid (CV.new w xu xn xs)
  have HB2 := Lib.hid (box_new w (.cells #[.bool xu, .int .i64 xn, .string xs] 34))
  go_enter Tryz.func35, Tryz.ntmps35
  go_wp2_with fail
  exact bodyPost_ret (ret2 rfl _ _ w.heap.size ⟨xu, xn, xs⟩ rfl HP.out.heap) rfl ⟨rfl, HB2.out⟩
set_option maxHeartbeats 4000000 in
theorem clKey (b b2 : Nat) (kv rv : Value) (ks : List Co) (r : List Cl.C) (w : World) (T : TA w) (B : Nat) (W : World) (hk : RdK W B kv ks) (hr : RdC W B rv r) (hB : Below B W w) (hBw : B ≤ w.heap.size) (hb : Blk w b 22 [kv]) (hb2 : Blk w b2 23 [rv])
    (p : Int) (hp : 0 ≤ p ∧ p < (r.length : Int)) (hl : r.length = ks.length) (hi : ∀ c ∈ r, Cl.I64 c.n) (hm : ∀ c ∈ r, c.s.size ≤ 1000000) (x : ByteArray) (hc : Cl.chk (Rw.tAt (tys ks) p).1 (Rw.tAt (tys ks) p).2 (Rw.cAt r p) = 0) (hx : str (Rw.kAt (tys ks) r p) = x) :
    Calls Tryz.prog 49 #[.int .i64 p, .pointer (some ⟨b, 0, none⟩), .pointer (some ⟨b2, 0, none⟩)] w fun e w' => e = .returned (.tuple #[.string x, .int .i64 0]) ∧ Below w.heap.size w w' := by
  obtain ⟨i, rfl⟩ : ∃ i : Nat, p = i := ⟨p.toNat, by omega⟩
  obtain ⟨a, cc, rfl, _⟩ := Gn.Rd.form hr
  obtain ⟨a', cc', rfl, _⟩ := Gn.Rd.form hk
  have hlt1 : (i : Int) < r.length := hp.2
  have hlt2 : (i : Int) < ks.length := by omega
  have hrx := Rw.cAt_some hp
  rw [Int.toNat_natCast] at hrx
  obtain ⟨t, ht⟩ : ∃ t, ks[i]? = some t := ⟨_, List.getElem?_eq_getElem (by omega)⟩
  have htt : Rw.tAt (tys ks) (i : Nat) = (t.u, t.k) := by
    have h1 := Rw.tAt_some (r := tys ks) (p := (i : Nat)) (by rw [tys_len]; omega)
    rw [Int.toNat_natCast, tys_at ht] at h1
    injection h1 with h1; exact h1.symm
  have hmem := List.mem_of_getElem? hrx
  have K := Lib.hid (fun w T => bitss t.u t.k (Rw.cAt r (i : Nat)) w T (hi _ hmem) (hm _ hmem) 0 (by rw [htt] at hc; exact hc) x (by rw [if_pos rfl, ← hx]; unfold Rw.kAt; rw [htt]))
  obtain ⟨kb, ko, rfl, p0, p1, p2⟩ := rdC_cells hr hB hrx
  obtain ⟨lb, lo, rfl, s0, s1⟩ := rdK_type hk hB ht
  have hb0 : w.cell? ⟨b2, 0, none⟩ = some (.slice (some ⟨kb, ko, none⟩) r.length cc) := hb2.cell 0
  have hb1 : w.cell? ⟨b, 0, none⟩ = some (.slice (some ⟨lb, lo, none⟩) ks.length cc') := hb.cell 0
  have HT := Lib.hid T
  clear hrx hk hr hb hb2 hp hB hmem hi hm hc hx htt ht T
  generalize Rw.cAt r (i : Nat) = c at *
  obtain ⟨cu, cn, cs⟩ := c
  unfold cv tv at K
  simp only at *
  go_enter Tryz.func49, Tryz.ntmps49
  go_wp2_with fail
  have q0 := fun d os => cell_regrown p0 d os
  have q1 := fun d os => cell_regrown p1 d os
  have q2 := fun d os => cell_regrown p2 d os
  have q3 := fun d os => cell_regrown s0 d os
  have q4 := fun d os => cell_regrown s1 d os
  have q5 := fun d os => cell_regrown hb0 d os
  have q6 := fun d os => cell_regrown hb1 d os
  have Q := Lib.hid (fun d os => Calls.regrown_of (K.out _ (HT.out.later (below_regrown w d os))))
  clear hb0 hb1 p0 p1 p2 s0 s1 K HT
  refine wp_region_quiet_below (by kernel_rfl) (by kernel_rfl) ?_
  iterate 14 (quiet_step (first | with_reducible exact Q.out _ _))
  refine wpQuiet_nil ?_
  intro _ hw'
  obtain ⟨⟨dq, osq⟩, hw''⟩ := hw'
  subst hw''
  go_wp2_with fail
  go_ret2
  exact ⟨rfl, below_regrown w dq osq⟩
/-- Copy. -/
theorem run_clone (v : Value) (l : List Cl.C) (w : World) (h : RdC w w.heap.size v l) (hl : l.length ≤ 1000000) :
    Calls Tryz.prog 33 #[v] w fun e w' => ∃ v', e = .returned v' ∧ OwnC w' w.heap.size v' l ∧ Below w.heap.size w w' := by
  obtain ⟨a, cc, rfl, _, _, hn⟩ := Gn.Rd.form h
  have HR := Lib.hid (Gn.Rd.later h (box_new w (.cells #[] 34)))
  have HO : Hid (OwnC (w.alloc (.cells #[] 34)) w.heap.size (.slice (some ⟨w.heap.size, 0, none⟩) 0 0) []) := Lib.hid (Gn.Own.lit clL w w.heap.size [] #[] 0 0 rfl rfl rfl (by simp [maxLen]) (Nat.le_refl _))
  have HU := Lib.hid (box_new w (.cells #[] 34))
  cases a with
  | none =>
    have hc0 := hn rfl
    subst hc0
    have hl0 : l = [] := by
      obtain ⟨_, _, e, h1, _⟩ := h
      injection e with _ _ e
      exact List.eq_nil_of_length_eq_zero (by omega)
    subst hl0
    have qT : ∀ w, (binOp .eql 23 (.slice none 0 0) (.slice none 0 0)).run Tryz.prog w = .ok (.bool true) w := fun w => Lib.run_eql_slice_nil w 23 34 none 0 0 0 0 Tryz.underlying23
    clear h HR HO HU
    rw [List.length_nil]
    go_enter Tryz.func33, Tryz.ntmps33
    go_wp2_with fail
    go_ret
    exact ⟨_, rfl, Gn.Own.nil _ _, Below.refl _ _⟩
  | some ad =>
    have qT : ∀ w, (binOp .eql 23 (.slice (some ad) l.length cc) (.slice none 0 0)).run Tryz.prog w = .ok (.bool false) w := fun w => Lib.run_eql_slice_nil w 23 34 (some ad) _ cc 0 0 Tryz.underlying23
    clear h
    go_enter Tryz.func33, Tryz.ntmps33
    go_wp2_with (at_builtin
                 refine Gn.wpList_app clL clY rfl (.tmp 5) (.tmp 6) rfl w.heap.size _ [] rfl HO.out _ l rfl HR.out (by simp; omega) HU.out.size ?_
                 intro v1 w1 ho1 hg1 hl1 hn1)
    go_ret
    exact ⟨_, rfl, ho1, HU.out.trans ((Gn.below_of_own HO.out hg1 HU.out.size))⟩
set_option maxHeartbeats 4000000 in
theorem rowCopy (v : Value) (l : List Cl.C) (w : World) (h : RdC w w.heap.size v l) (hl : l.length ≤ 1000000) :
    Calls Tryz.prog 15 #[v] w fun e w' => ∃ v', e = .returned v' ∧ OwnC w' w.heap.size v' l ∧ Below w.heap.size w w' := by
  have HR := Lib.hid h
  clear h
  go_enter Tryz.func15, Tryz.ntmps15
  go_wp2_with fail
  ((with_reducible refine (run_clone v l _ HR.out hl).mono ?_); rintro e w1 ⟨v1, rfl, ho, hb⟩)
  have HO := Lib.hid ho
  have HB := Lib.hid hb
  clear ho hb
  go_wp2_with fail
  go_ret
  exact ⟨_, rfl, HO.out, HB.out⟩
/-- Check. -/
theorem chkL_at {ks : List Co} {r : List Cl.C} {i : Nat} {c : Cl.C} {d : Int} (hc : r[i]? = some c) (hd : (Rw.chkL (tys ks) r)[i]? = some d) : ∃ x, ks[i]? = some x ∧ ((Cl.chk x.u x.k c : Nat) : Int) = d := by
  unfold Rw.chkL at hd
  rw [List.getElem?_zipWith, hc] at hd
  cases hk : ks[i]? with
  | none =>
    have : (tys ks)[i]? = none := by unfold tys; rw [List.getElem?_map, hk]; rfl
    rw [this] at hd; cases hd
  | some x =>
    rw [tys_at hk] at hd
    injection hd with hd
    exact ⟨x, rfl, hd⟩
set_option maxHeartbeats 4000000 in
theorem rowCheck (kv rv : Value) (ks : List Co) (r : List Cl.C) (w : World) (T : TA w) (hk : RdK w w.heap.size kv ks) (hr : RdC w w.heap.size rv r) (hl : r.length ≤ 1000000) (hi : ∀ c ∈ r, Cl.I64 c.n) (hm : ∀ c ∈ r, c.s.size ≤ 1000000) (d : Int) (hd : Rw.chkR (tys ks) r = d) :
    Calls Tryz.prog 19 #[kv, rv] w fun e w' => e = .returned (.int .i64 d) ∧ Below w.heap.size w w' := by
  have HB := Lib.hid (box_new w (.cells #[kv] 22))
  have HX := Lib.hid (Blk.new w 22 #[kv])
  have HT := Lib.hid (T.later HB.out)
  have HK := Lib.hid (hk.later HB.out)
  have HR := Lib.hid (hr.later HB.out)
  have HI := Lib.hid hi
  have HM := Lib.hid hm
  obtain ⟨a, cc, rfl, _⟩ := Gn.Rd.form hk
  obtain ⟨a', cc', rfl, _⟩ := Gn.Rd.form hr
  have h0 : (w.alloc (.cells #[.slice a ks.length cc] 22)).cell? ⟨w.heap.size, 0, none⟩ = some (.slice a ks.length cc) := HX.out.cell 0
  have hlk := Gn.Rd.len' hk
  clear hk hr T hi hm
  by_cases hn : r.length = ks.length
  · have hn1 : ((r.length : Int) != (ks.length : Nat)) = false := by simp; omega
    have e : Rw.fnz (Rw.chkL (tys ks) r) = d := by
      unfold Rw.chkR at hd
      rw [tys_len, if_neg (by omega)] at hd
      exact hd
    have HE := Lib.hid e
    have HL := Lib.hid (show (Rw.chkL (tys ks) r).length = r.length by unfold Rw.chkL; rw [List.length_zipWith, tys_len]; omega)
    clear hd e hn
    go_enter Tryz.func19, Tryz.ntmps19
    go_wp2_with fail
    generalize w.alloc (.cells #[.slice a ks.length cc] 22) = wb at *
    ((with_reducible refine (firstE _ r w.heap.size (Rw.chkL (tys ks) r) _ HR.out HL.out hl (fun i c d w1 hc hdd hb1 => ?_)).mono ?_))
    · obtain ⟨x, hx, he⟩ := chkL_at hc hdd
      exact clCheck w.heap.size _ ks w1 (HT.out.later hb1) (HK.out.later hb1) (Blk.later HX.out hb1) i x hx c (HI.out c (List.mem_of_getElem? hc)) (HM.out c (List.mem_of_getElem? hc)) d he
    rintro e w1 ⟨rfl, b1⟩
    have HB2 := Lib.hid (up HB.out b1)
    clear b1
    go_wp2_with fail
    go_ret
    exact ⟨congrArg (fun z => Ending.returned (.int .i64 z)) HE.out, HB2.out⟩
  · have hn1 : ((r.length : Int) != (ks.length : Nat)) = true := by simp; omega
    have e : d = 100 := by
      unfold Rw.chkR at hd
      rw [tys_len, if_pos hn] at hd
      exact hd.symm
    subst e
    clear hd
    go_enter Tryz.func19, Tryz.ntmps19
    go_wp2_with fail
    go_ret
    exact ⟨rfl, HB.out⟩
/-- Compare. -/
theorem nan_int (x : Int) (w : World) : Calls Tryz.prog 62 #[.int .i64 x] w fun e w' => e = .returned (.bool false) ∧ w = w' := by
  go_enter Tryz.func62, Tryz.ntmps62
  go_wp2
  go_ret
  exact ⟨rfl, rfl⟩
set_option maxHeartbeats 1000000 in
theorem cmp_int (x y c : Int) (w : World) (hc : Wd.cmp x y = c) : Calls Tryz.prog 46 #[.int .i64 x, .int .i64 y] w fun e w' => e = .returned (.int .i64 c) ∧ w = w' := by
  have HC := Lib.hid hc
  clear hc
  by_cases h1 : x < y
  · go_enter Tryz.func46, Tryz.ntmps46
    go_wp2_with fail
    ((with_reducible refine (nan_int x _).mono ?_); rintro e w' ⟨rfl, rfl⟩)
    go_wp2_with fail
    ((with_reducible refine (nan_int y _).mono ?_); rintro e w' ⟨rfl, rfl⟩)
    go_wp2
    go_ret
    exact ⟨by rw [← HC.out, Wd.cmp_lt _ _ h1]; rfl, rfl⟩
  · by_cases h2 : y < x
    · go_enter Tryz.func46, Tryz.ntmps46
      go_wp2_with fail
      ((with_reducible refine (nan_int x _).mono ?_); rintro e w' ⟨rfl, rfl⟩)
      go_wp2_with fail
      ((with_reducible refine (nan_int y _).mono ?_); rintro e w' ⟨rfl, rfl⟩)
      go_wp2
      go_ret
      exact ⟨by rw [← HC.out, Wd.cmp_gt _ _ h2]; rfl, rfl⟩
    · obtain rfl : x = y := by omega
      go_enter Tryz.func46, Tryz.ntmps46
      go_wp2_with fail
      ((with_reducible refine (nan_int x _).mono ?_); rintro e w' ⟨rfl, rfl⟩)
      go_wp2_with fail
      ((with_reducible refine (nan_int x _).mono ?_); rintro e w' ⟨rfl, rfl⟩)
      go_wp2
      go_ret
      exact ⟨by rw [← HC.out, Wd.cmp_eq]; rfl, rfl⟩
theorem cmpL_at {a b : List Cl.C} {i : Nat} {c : Cl.C} {d : Int} (hc : a[i]? = some c) (hd : (Rw.cmpL a b)[i]? = some d) : ∃ x, b[i]? = some x ∧ Cl.cmp c x = d := by
  unfold Rw.cmpL at hd
  rw [List.getElem?_zipWith, hc] at hd
  cases hk : b[i]? with
  | none => rw [hk] at hd; cases hd
  | some x =>
    rw [hk] at hd
    injection hd with hd
    exact ⟨x, rfl, hd⟩
theorem c3_wd (a b : Nat) : Wd.cmp (a : Int) (b : Int) = Rw.c3 a b := by
  unfold Wd.cmp Rw.c3
  by_cases h1 : a < b
  · rw [if_pos h1]; simp [h1]
  · by_cases h2 : b < a
    · rw [if_neg h1, if_pos h2]; simp; omega
    · rw [if_neg h1, if_neg h2]; simp; omega
set_option maxHeartbeats 4000000 in
theorem rowCompare (av bv : Value) (a b : List Cl.C) (w : World) (ha : RdC w w.heap.size av a) (hb : RdC w w.heap.size bv b) (hl : a.length ≤ 1000000) (d : Int) (hd : Rw.cmps a b = d) :
    Calls Tryz.prog 22 #[av, bv] w fun e w' => e = .returned (.int .i64 d) ∧ Below w.heap.size w w' := by
  have HB := Lib.hid (box_new w (.cells #[bv] 23))
  have HX := Lib.hid (Blk.new w 23 #[bv])
  have HK := Lib.hid (hb.later HB.out)
  have HR := Lib.hid (ha.later HB.out)
  obtain ⟨ad, cc, rfl, _⟩ := Gn.Rd.form ha
  obtain ⟨bd, cc', rfl, _⟩ := Gn.Rd.form hb
  have h0 : (w.alloc (.cells #[.slice bd b.length cc'] 23)).cell? ⟨w.heap.size, 0, none⟩ = some (.slice bd b.length cc') := HX.out.cell 0
  have hlb := Gn.Rd.len' hb
  have hrc : RdC (w.alloc (.cells #[.slice bd b.length cc'] 23)) (w.alloc (.cells #[.slice bd b.length cc'] 23)).heap.size (.slice ad (min (a.length : Int) b.length).toNat cc) (a.take (min (a.length : Int) b.length).toNat) := rd_to (m := (min (a.length : Int) b.length).toNat) HR.out (by omega)
  have HC := Lib.hid hrc
  clear hrc
  have HL := Lib.hid (show (Rw.cmpL a b).length = (a.take (min (a.length : Int) b.length).toNat).length by unfold Rw.cmpL; rw [List.length_zipWith, List.length_take]; omega)
  have HD := Lib.hid hd
  clear ha hb hd
  go_enter Tryz.func22, Tryz.ntmps22
  go_wp2_with fail
  generalize w.alloc (.cells #[.slice bd b.length cc'] 23) = wb at *
  ((with_reducible refine (firstI _ (a.take (min (a.length : Int) b.length).toNat) w.heap.size (Rw.cmpL a b) wb HC.out HL.out (by rw [List.length_take]; omega) (fun i c d w1 hc hdd hb1 => ?_)).mono ?_))
  · have hci : a[i]? = some c := by
      rw [List.getElem?_take] at hc
      split at hc
      · exact hc
      · cases hc
    obtain ⟨x, hx, he⟩ := cmpL_at hci hdd
    exact clCompare w.heap.size _ b w1 (HK.out.later hb1) (Blk.later HX.out hb1) i x hx c d he
  rintro e w1 ⟨rfl, b1⟩
  have HB2 := Lib.hid (up HB.out b1)
  have h1 : w1.cell? ⟨w.heap.size, 0, none⟩ = some (.slice bd b.length cc') := (Blk.later HX.out b1).cell 0
  have HCI := Lib.hid (fun w => cmp_int (a.length : Int) (b.length : Int) (Rw.c3 a.length b.length) w (c3_wd _ _))
  have HF := Lib.hid (show fst2 (Rw.fnz (Rw.cmpL a b)) (Rw.c3 a.length b.length) = d from HD.out)
  have BL := Blk.new w1 3 #[.int .i64 (Rw.fnz (Rw.cmpL a b)), .int .i64 (Rw.c3 a.length b.length)]
  have H3 := Lib.hid (HB2.out.trans ((box_new w1 (.cells #[.int .i64 (Rw.fnz (Rw.cmpL a b)), .int .i64 (Rw.c3 a.length b.length)] 3)).mono HB2.out.size))
  have HO := Lib.hid (or2 w1.heap.size 2 _ _ _ (BL.cell 0) (BL.cell 1))
  clear b1 h0 HC HL HD HX HK HR HB BL
  generalize Rw.fnz (Rw.cmpL a b) = x at *
  generalize Rw.c3 a.length b.length = y at *
  go_wp2_with fail
  ((with_reducible refine (HCI.out _).mono ?_); rintro e w2 ⟨rfl, rfl⟩)
  go_wp2_with fail
  ((with_reducible refine (HO.out).mono ?_); rintro e w2 ⟨rfl, rfl⟩)
  go_wp2_with fail
  go_ret
  exact ⟨congrArg (fun z => Ending.returned (.int .i64 z)) HF.out, H3.out⟩
set_option maxHeartbeats 400000 in
theorem rowSame (av bv : Value) (a b : List Cl.C) (w : World) (ha : RdC w w.heap.size av a) (hb : RdC w w.heap.size bv b) (hl : a.length ≤ 1000000) (d : Bool) (hd : d = true ↔ a = b) :
    Calls Tryz.prog 24 #[av, bv] w fun e w' => e = .returned (.bool d) ∧ Below w.heap.size w w' := by
  have HC := Lib.hid (rowCompare av bv a b w ha hb hl _ rfl)
  have hz := Rw.cmps_zero a b
  obtain ⟨ad, cc, rfl, _⟩ := Gn.Rd.form ha
  obtain ⟨bd, cc', rfl, _⟩ := Gn.Rd.form hb
  have hla := Gn.Rd.len' ha
  have hlb := Gn.Rd.len' hb
  clear ha hb
  by_cases hn : a.length = b.length
  · have hn1 : ((a.length : Int) == (b.length : Nat)) = true := by simp; omega
    clear hn
    have hdz : decide (Rw.cmps a b = 0) = d := by rw [Bool.eq_iff_iff, decide_eq_true_eq, hz]; exact hd.symm
    have HD := Lib.hid hdz
    clear hz hd hdz
    generalize Rw.cmps a b = x at *
    go_enter Tryz.func24, Tryz.ntmps24
    go_wp2_with fail
    ((with_reducible refine (HC.out).mono ?_); rintro e w2 ⟨rfl, b2⟩)
    go_wp2_with fail
    go_ret
    exact ⟨congrArg Ending.returned (congrArg Value.bool HD.out), b2⟩
  · have hn1 : ((a.length : Int) == (b.length : Nat)) = false := by simp; omega
    obtain rfl : d = false := falseOf hd (fun e => hn (by rw [e]))
    clear hn hz hd HC
    go_enter Tryz.func24, Tryz.ntmps24
    go_wp2_with fail
    go_ret
    exact ⟨rfl, Below.refl _ _⟩
end Go.Proofs.YtfplogjdcndohaaGreatDoor

/- Unkey's closure: a cell is taken off what is left. -/
namespace Go.Proofs.YtfplogjdcndohaaGreatDoor
open Go.RowKit Go.Sort
set_option linter.unusedVariables false
set_option maxRecDepth 100000

/-- What lies where Unkey's closure looks. -/
def UK (kb sb : Nat) (kv : Value) (x : ByteArray) (lb lo : Nat) (k : Int) (u : Bool) (w : World) : Prop :=
  w.cell? ⟨kb, 0, none⟩ = some kv ∧ w.cell? ⟨sb, 0, none⟩ = some (.string x) ∧ w.cell? ⟨lb, lo, none⟩ = some (.int .i64 k) ∧ w.cell? ⟨lb, lo + 1, none⟩ = some (.bool u)
theorem UK.later {kb sb : Nat} {kv : Value} {x : ByteArray} {lb lo : Nat} {k : Int} {u : Bool} {w w' : World} (h : UK kb sb kv x lb lo k u w) (hb : Below w.heap.size w w') : UK kb sb kv x lb lo k u w' := by
  obtain ⟨h1, h2, h3, h4⟩ := h
  exact ⟨(hb.cell (block_lt_of_cell h1)).trans h1, (hb.cell (block_lt_of_cell h2)).trans h2, (hb.cell (block_lt_of_cell h3)).trans h3, (hb.cell (block_lt_of_cell h4)).trans h4⟩
theorem blk_past {w : World} {g h : Nat} {t : TypeId} {cs : List Value} (hb : Blk w g t cs) (hn : ¬ g = h) (j : Nat) (v : Value) : Blk (w.setCell ⟨h, j, none⟩ v) g t cs := by
  unfold Blk at hb ⊢
  rw [heap_setCell_other _ _ _ _ (by simpa using hn)]
  exact hb
set_option maxHeartbeats 8000000 in
theorem clUnkey (kb sb : Nat) (kv : Value) (ks : List Co) (x : ByteArray) (w W : World) (B : Nat) (T : TA w) (hk : RdK W B kv ks) (hB : Below B W w) (hb : Blk w kb 22 [kv]) (hs : Blk w sb 9 [.string x])
    (hm : x.size ≤ 100000) (p : Int) (hp : 0 ≤ p ∧ p < (ks.length : Int)) (c : Cl.C) (n e : Nat) (hu : Cl.unb (Rw.tAt (tys ks) p).1 (Rw.tAt (tys ks) p).2 (bl x) = (c, n, e)) (hn : n ≤ x.size) :
    Calls Tryz.prog 53 #[.int .i64 p, .pointer (some ⟨kb, 0, none⟩), .pointer (some ⟨sb, 0, none⟩)] w fun y w' => y = .returned (.tuple #[cv c, .int .i64 (e : Nat)]) ∧
      (∃ z, Blk w' sb 9 [.string z] ∧ bl z = (bl x).drop n ∧ z.size ≤ x.size) ∧ Touch (fun i => i = sb) w w' := by
  obtain ⟨i, rfl⟩ : ∃ i : Nat, p = i := ⟨p.toNat, by omega⟩
  obtain ⟨a, cc, rfl, _⟩ := Gn.Rd.form hk
  have hlt1 : (i : Int) < ks.length := hp.2
  obtain ⟨t, ht⟩ : ∃ t, ks[i]? = some t := ⟨_, List.getElem?_eq_getElem (by omega)⟩
  have htt : Rw.tAt (tys ks) (i : Nat) = (t.u, t.k) := by
    have h1 := Rw.tAt_some (r := tys ks) (p := (i : Nat)) (by rw [tys_len]; omega)
    rw [Int.toNat_natCast, tys_at ht] at h1
    injection h1 with h1; exact h1.symm
  rw [htt] at hu
  obtain ⟨lb, lo, rfl, s0, s1⟩ := rdK_type hk hB ht
  obtain ⟨z, hz⟩ : ∃ z, x.extract n x.size = z := ⟨_, rfl⟩
  have hzl : bl z = (bl x).drop n := by
    rw [← hz, bl_extract, List.take_of_length_le]
    rw [List.length_drop, bl_length]; exact Nat.le_refl _
  have hzs : z.size ≤ x.size := by rw [← hz]; simp
  have hsl : ∀ w, (Instr.slice 9 (.string x) (some (.int .i64 (n : Nat))) none none).run Tryz.prog w = .ok (.string z) w := fun w => by
    rw [run_slice_string_from_if w 9 x .i64 (n : Nat) Tryz.underlying9, if_pos (by omega)]
    simp only [Int.toNat_natCast, hz]
  have U0 : UK kb sb (.slice (some ⟨lb, lo, none⟩) ks.length cc) x lb (lo + i * 7 + 2) t.k t.u w := ⟨hb.cell 0, hs.cell 0, s0, s1⟩
  have HB := Lib.hid (box_new w (.cells #[.bool false, .int .i64 0, .string ⟨#[]⟩] 34))
  have U1 := U0.later HB.out
  have X1 := Lib.hid (CV.new w false 0 ⟨#[]⟩)
  have S1 := Lib.hid (Blk.later hs HB.out)
  have hsb := Blk.lt hs
  have K := Lib.hid (fun w T => unbits t.u t.k x w T hm (c, n, e) hu)
  have HT := Lib.hid (T.later HB.out)
  have HZ := Lib.hid (And.intro hzl hzs)
  clear hk hB hb hs hp hu htt ht s0 s1 U0 T hm hz hzl hzs
  obtain ⟨cu, cn, cs⟩ := c
  obtain ⟨tid, tnm, tk, tu, td⟩ := t
  unfold UbPost tv cv at K
  unfold cv
  simp only at K U1 ⊢
  go_enter Tryz.func53, Tryz.ntmps53
  go_wp2_with fail
  obtain ⟨ga, hg0⟩ : ∃ g, w.heap.size = g := ⟨_, rfl⟩
  rw [hg0] at X1
  simp only [hg0]
  generalize hwb : w.alloc (.cells #[.bool false, .int .i64 0, .string ⟨#[]⟩] 34) = wb at *
  obtain ⟨u0, u1, u2, u3⟩ := U1
  have UU := Lib.hid (show UK kb sb (.slice (some ⟨lb, lo, none⟩) ks.length cc) x lb (lo + i * 7 + 2) tk tu wb from ⟨u0, u1, u2, u3⟩)
  have SK := Lib.hid (fun w1 (hb : Below wb.heap.size wb w1) => (⟨hb, UU.out.later hb⟩ : Below wb.heap.size wb w1 ∧ UK kb sb (.slice (some ⟨lb, lo, none⟩) ks.length cc) x lb (lo + i * 7 + 2) tk tu w1))
  have C1 := Lib.hid (fun w1 (hb : Below wb.heap.size wb w1) => (K.out w1 (HT.out.later hb)).mono (fun e' w' h => (⟨h.1, up hb h.2, h.2⟩ : e' = _ ∧ Below wb.heap.size wb w' ∧ Below w1.heap.size w1 w')))
  have XN := Lib.hid (fun w' (hb : Below (wb.alloc (.cells #[.bool false, .int .i64 0, .string ⟨#[]⟩] 34)).drew.heap.size (wb.alloc (.cells #[.bool false, .int .i64 0, .string ⟨#[]⟩] 34)).drew w') =>
    ((show CV (wb.alloc (.cells #[.bool false, .int .i64 0, .string ⟨#[]⟩] 34)).drew wb.heap.size ⟨false, 0, ⟨#[]⟩⟩ from CV.new wb false 0 ⟨#[]⟩).later hb))
  go_region_held3 (fun w' => Below wb.heap.size wb w' ∧ (w'.cell? ⟨kb, 0, none⟩ = some (.slice (some ⟨lb, lo, none⟩) ks.length cc) ∧ w'.cell? ⟨sb, 0, none⟩ = some (.string x) ∧ w'.cell? ⟨lb, lo + i * 7 + 2, none⟩ = some (.int .i64 tk) ∧ w'.cell? ⟨lb, lo + i * 7 + 2 + 1, none⟩ = some (.bool tu)))
    (first | exact SK.out _ (Below.refl _ _).drew | exact SK.out _ (Below.refl _ _) | exact SK.out _ HA.out | exact SK.out _ (up_new _ _) | exact SK.out _ (up (Below.refl _ _).drew (up_new _ _)) | exact SK.out _ (up HA.out (up_new _ _)) | exact SK.out _ (put_below HA.out.size (up HA.out (up_new _ _)) _ _ _) | exact SK.out _ (put_below (Nat.le_refl _) HA.out _ _ _) | fail "keep")
    ((first
      | (go_at_call 54; (with_reducible refine (C1.out _ (Below.refl _ _).drew).mono ?_); rintro e wA ⟨rfl, hA, hN⟩; have HA := Lib.hid hA; clear hA hN)
      | (go_at_call 54; (with_reducible refine (C1.out _ (up_new _ _).drew).mono ?_); rintro e wA ⟨rfl, hA, hN⟩; have XA := Lib.hid (XN.out _ hN); obtain ⟨m0, m1, m2⟩ := XA.out.lie; obtain ⟨g0, g1, g2⟩ := XA.out.free; have HA := Lib.hid hA; clear hA hN)))
  · rename_i hHeld; clear hHeld
    have BL := Lib.hid (up HA.out (up_new wA (.cells #[.bool cu, .int .i64 cn, .string cs] 34)))
    have Z8 := Lib.hid (CV.new wA cu cn cs)
    have hAs := HA.out.size
    generalize wA.alloc (.cells #[.bool cu, .int .i64 cn, .string cs] 34) = wE at *
    obtain ⟨gz, hgz⟩ : ∃ g, wA.heap.size = g := ⟨_, rfl⟩
    rw [hgz] at Z8 hAs
    simp only [hgz]
    clear hgz HA
    have HE := Lib.hid (up HB.out BL.out)
    have S8 := Lib.hid (Blk.later S1.out BL.out)
    have X8 := Lib.hid (X1.out.later BL.out)
    have hsz := BL.out.size
    have hwbs : w.heap.size < wb.heap.size := by rw [← hwb]; simp
    clear BL SK C1 XN UU S1 X1 K HT
    obtain ⟨z0, z1, z2⟩ := Z8.out.lie
    obtain ⟨x0, x1, x2⟩ := X8.out.lie
    obtain ⟨f0, f1, f2⟩ := X8.out.free
    have s0 : wE.cell? ⟨sb, 0, none⟩ = some (.string x) := S8.out.cell 0
    have sf := S8.out.frozen 0
    have n1 : ¬ sb = gz := by omega
    have n2 : ¬ gz = sb := by omega
    have n3 : ¬ sb = ga := by omega
    have n4 : ¬ ga = sb := by omega
    have n5 : ¬ gz = ga := by omega
    have n6 : ¬ ga = gz := by omega
    simp only at z0 z1 z2
    go_wp2_with fail
    have S9 := Lib.hid (blk_past (blk_past (blk_past (show Blk (wE.setCell ⟨sb, 0, none⟩ (.string z)) sb 9 [.string z] from Blk.put S8.out 0 (.string z)) n3 0 (.bool cu)) n3 1 (.int .i64 cn)) n3 2 (.string cs))
    have X9 := Lib.hid (CV.put (show CV (wE.setCell ⟨sb, 0, none⟩ (.string z)) ga ⟨false, 0, ⟨#[]⟩⟩ from blk_past X8.out n4 0 (.string z)) cu cn cs)
    have hga : w.heap.size ≤ ga := by omega
    have HT := Lib.hid (touchOn ((Touch.of_below (S := fun i => i = sb) HE.out).setCell (p := ⟨sb, 0, none⟩) rfl (.string z)) ((((Below.refl w.heap.size (wE.setCell ⟨sb, 0, none⟩ (.string z))).setCell (p := ⟨ga, 0, none⟩) hga (.bool cu)).setCell (p := ⟨ga, 1, none⟩) hga (.int .i64 cn)).setCell (p := ⟨ga, 2, none⟩) hga (.string cs)))
    exact bodyPost_ret (ret2 rfl _ _ ga ⟨cu, cn, cs⟩ rfl X9.out.heap) rfl ⟨rfl, ⟨z, S9.out, HZ.out.1, HZ.out.2⟩, HT.out⟩
  · rename_i hHeld; clear hHeld
    have BL := Lib.hid (put_below (Nat.le_refl _) HA.out (.bool cu) (.int .i64 cn) (.string cs))
    have Z8 := Lib.hid (XA.out.put cu cn cs)
    clear XA m0 m1 m2 g0 g1 g2 HA
    generalize ((wA.setCell ⟨wb.heap.size, 0, none⟩ (.bool cu)).setCell ⟨wb.heap.size, 1, none⟩ (.int .i64 cn)).setCell ⟨wb.heap.size, 2, none⟩ (.string cs) = wE at *
    obtain ⟨gz, hgz⟩ : ∃ g, wb.heap.size = g := ⟨_, rfl⟩
    have hAs : wb.heap.size ≤ gz := by omega
    rw [hgz] at Z8
    simp only [hgz]
    have HE := Lib.hid (up HB.out BL.out)
    have S8 := Lib.hid (Blk.later S1.out BL.out)
    have X8 := Lib.hid (X1.out.later BL.out)
    have hsz := BL.out.size
    have hwbs : w.heap.size < wb.heap.size := by rw [← hwb]; simp
    clear BL SK C1 XN UU S1 X1 K HT
    obtain ⟨z0, z1, z2⟩ := Z8.out.lie
    obtain ⟨x0, x1, x2⟩ := X8.out.lie
    obtain ⟨f0, f1, f2⟩ := X8.out.free
    have s0 : wE.cell? ⟨sb, 0, none⟩ = some (.string x) := S8.out.cell 0
    have sf := S8.out.frozen 0
    have n1 : ¬ sb = gz := by omega
    have n2 : ¬ gz = sb := by omega
    have n3 : ¬ sb = ga := by omega
    have n4 : ¬ ga = sb := by omega
    have n5 : ¬ gz = ga := by omega
    have n6 : ¬ ga = gz := by omega
    simp only at z0 z1 z2
    go_wp2_with fail
    have S9 := Lib.hid (blk_past (blk_past (blk_past (show Blk (wE.setCell ⟨sb, 0, none⟩ (.string z)) sb 9 [.string z] from Blk.put S8.out 0 (.string z)) n3 0 (.bool cu)) n3 1 (.int .i64 cn)) n3 2 (.string cs))
    have X9 := Lib.hid (CV.put (show CV (wE.setCell ⟨sb, 0, none⟩ (.string z)) ga ⟨false, 0, ⟨#[]⟩⟩ from blk_past X8.out n4 0 (.string z)) cu cn cs)
    have hga : w.heap.size ≤ ga := by omega
    have HT := Lib.hid (touchOn ((Touch.of_below (S := fun i => i = sb) HE.out).setCell (p := ⟨sb, 0, none⟩) rfl (.string z)) ((((Below.refl w.heap.size (wE.setCell ⟨sb, 0, none⟩ (.string z))).setCell (p := ⟨ga, 0, none⟩) hga (.bool cu)).setCell (p := ⟨ga, 1, none⟩) hga (.int .i64 cn)).setCell (p := ⟨ga, 2, none⟩) hga (.string cs)))
    exact bodyPost_ret (ret2 rfl _ _ ga ⟨cu, cn, cs⟩ rfl X9.out.heap) rfl ⟨rfl, ⟨z, S9.out, HZ.out.1, HZ.out.2⟩, HT.out⟩
end Go.Proofs.YtfplogjdcndohaaGreatDoor

/- Pick, Key, Unkey. -/
namespace Go.Proofs.YtfplogjdcndohaaGreatDoor
open Go.RowKit Go.Sort
set_option linter.unusedVariables false
set_option maxRecDepth 100000

theorem range_pick (r : List Cl.C) (ps : List Int) : (List.range ps.length).map (fun i => Rw.cAt r (ps.getD i 0)) = Rw.pick r ps := by
  unfold Rw.pick
  apply List.ext_getElem?
  intro j
  rw [List.getElem?_map, List.getElem?_map]
  by_cases hj : j < ps.length
  · rw [List.getElem?_range hj, List.getElem?_eq_getElem hj]
    simp [List.getD_eq_getElem?_getD, List.getElem?_eq_getElem hj]
  · rw [List.getElem?_eq_none (by simp; omega), List.getElem?_eq_none (by omega)]; rfl
theorem getD_at {ps : List Int} {i : Nat} {p : Int} (h : ps[i]? = some p) : ps.getD i 0 = p := by rw [List.getD_eq_getElem?_getD, h]; rfl
/-- What answers cells and an error. -/
def RowPost (w : World) (r : Nat × List Cl.C) (e : Ending) (w' : World) : Prop := ∃ u, e = .returned (.tuple #[u, .int .i64 (r.1 : Nat)]) ∧ OwnC w' w.heap.size u r.2 ∧ Below w.heap.size w w'
set_option maxHeartbeats 4000000 in
theorem rowPick (rv pv : Value) (r : List Cl.C) (ps : List Int) (w : World) (hr : RdC w w.heap.size rv r) (hp : RdI w w.heap.size pv ps) (hl : ps.length ≤ 100000) (a : Nat × List Cl.C) (ha : Rw.pickR r ps = a) :
    Calls Tryz.prog 16 #[rv, pv] w fun e w' => RowPost w a e w' := by
  have HB := Lib.hid (box_new w (.cells #[rv] 23))
  have HX := Lib.hid (Blk.new w 23 #[rv])
  have HR := Lib.hid (hr.later HB.out)
  have HP := Lib.hid (hp.later HB.out)
  obtain ⟨ad, cc, rfl, _⟩ := Gn.Rd.form hr
  have h0 : (w.alloc (.cells #[.slice ad r.length cc] 23)).cell? ⟨w.heap.size, 0, none⟩ = some (.slice ad r.length cc) := HX.out.cell 0
  clear hr hp
  go_enter Tryz.func16, Tryz.ntmps16
  go_wp2_with fail
  generalize hwb : w.alloc (.cells #[.slice ad r.length cc] 23) = wb at *
  by_cases hok : Rw.okP ps r.length = false
  · obtain rfl : a = (6, []) := by rw [← ha]; unfold Rw.pickR; rw [if_pos hok]
    clear ha
    ((with_reducible refine (gatherC_no pv _ ps r.length wb HP.out (by omega) hok).mono ?_); rintro e w1 ⟨rfl, b1⟩)
    have HB2 := Lib.hid (up HB.out b1)
    clear b1
    go_wp2_with fail
    go_ret2
    exact ⟨_, rfl, Gn.Own.nil _ _, HB2.out⟩
  · have hok1 : Rw.okP ps r.length = true := by cases h : Rw.okP ps r.length with | false => exact absurd h hok | true => rfl
    obtain rfl : a = (0, Rw.pick r ps) := by rw [← ha]; unfold Rw.pickR; rw [if_neg hok]
    clear ha
    ((with_reducible refine (gatherPick (fun _ => False) wb.heap.size pv ps r.length w.heap.size (fun _ w1 => Below wb.heap.size wb w1) (fun i => Rw.cAt r (ps.getD i 0)) ps.length 1 wb HP.out (Nat.le_refl _) (fun _ h => h.elim) hl hok1 (Nat.le_refl _)
      (Below.refl _ _) (fun _ w1 w2 h _ hb => h.trans hb) (fun i p w1 hi hpi hj hz => ?_) (fun p w1 h => absurd h (by omega))).mono ?_))
    · rw [getD_at hpi]
      exact (clPick w.heap.size _ r w1 wb.heap.size wb HR.out hj hz (by
        have := HX.out
        exact (hj.block w.heap.size (Blk.lt this)).trans this) p (Rw.okP_at hok1 hpi)).mono fun e w2 ⟨h1, h2⟩ => ⟨h1, hj.trans (h2.mono hz), Touch.of_below h2⟩
    rintro e w1 ⟨-, h2, ht⟩
    obtain ⟨u, rfl, ho, hj⟩ := h2 rfl
    rw [range_pick] at ho
    have HO := Lib.hid (Gn.Own.lower ho HB.out.size)
    have HB2 := Lib.hid (up HB.out hj)
    clear h2 ht ho hj
    go_wp2_with fail
    go_ret2
    exact ⟨_, rfl, HO.out, HB2.out⟩
theorem join_none : ∀ l : List (List UInt8), Lib.join l [] = l.flatten
  | [] => rfl
  | x :: t => by rw [Lib.join_cons]; simp [Lib.joinTail]
theorem join_key (ts : List Rw.Ty) (r : List Cl.C) (ps : List Int) : (⟨(Lib.join ((ps.map fun p => str (Rw.kAt ts r p)).map (·.data.toList)) (⟨#[]⟩ : ByteArray).data.toList).toArray⟩ : ByteArray) = str (Rw.key ts ps r) := by
  rw [show ((⟨#[]⟩ : ByteArray).data.toList) = [] from rfl, join_none]
  induction ps with
  | nil => rfl
  | cons p t ih =>
    rw [List.map_cons, List.map_cons, List.flatten_cons, Rw.key_cons, str_append, ← ih]
    apply ByteArray.ext
    simp
/-- The row's key; the error. -/
theorem own_cells {w : World} {base : Nat} {u : Value} {l : List ByteArray} (h : OwnT w base u l) : (u = .slice none 0 0 ∧ l = []) ∨ ∃ g c, u = .slice (some ⟨g, 0, none⟩) l.length c ∧ g < w.heap.size ∧ l.length ≤ c ∧ ∀ (j : Nat) x, l[j]? = some x → w.cell? ⟨g, 0 + j, none⟩ = some (.string x) := by
  have hh := h
  obtain ⟨h0, h1⟩ := hh
  rcases h1 with ⟨rfl, hn⟩ | ⟨g, cap, cur, rfl, hg, hh, h2, h3, h4, h5⟩
  · exact .inl ⟨rfl, List.eq_nil_of_length_eq_zero hn⟩
  · refine .inr ⟨g, cap, rfl, ?_, h2, fun j x hx => ?_⟩
    · rcases Nat.lt_or_ge g w.heap.size with hlt | hge
      · exact hlt
      · rw [Array.getElem?_eq_none hge] at hh; cases hh
    · have hj : j < l.length := (List.getElem?_eq_some_iff.1 hx).1
      have e := World.ownsRow.cellAt (w := w) (base := base) (e := 9) (size := 1) (n := l.length) (cap := cap) (xs := Gn.cells txc l) h j (by omega)
      have c := Gn.cells_get txL l j x 0 hx (by omega)
      rw [Nat.zero_add, e]
      simpa [txc] using c
theorem joins (w : World) (base : Nat) (u : Value) (ts : List Rw.Ty) (r : List Cl.C) (ps : List Int) (h : OwnT w base u (ps.map fun p => str (Rw.kAt ts r p))) (hl : (Rw.key ts ps r).length ≤ 1000000) (hn : ps.length ≤ 100000) (x : ByteArray) (hx : str (Rw.key ts ps r) = x) :
    Calls Tryz.prog 51 #[u, .string ⟨#[]⟩] w fun e w' => e = .returned (.string x) ∧ Below w.heap.size w w' := by
  subst hx
  rcases own_cells h with ⟨rfl, hz⟩ | ⟨g, c, rfl, hg, hc, hcells⟩
  · have : ps = [] := by simpa using hz
    subst this
    exact (Tryz.strings_Join_none none 0 ⟨#[]⟩ w).mono fun e w' ⟨h1, h2⟩ => ⟨h1, by rw [h2]; exact Below.refl _ _⟩
  · have hk := join_key ts r ps
    have hlen : (Lib.join ((ps.map fun p => str (Rw.kAt ts r p)).map (·.data.toList)) (⟨#[]⟩ : ByteArray).data.toList).length = (Rw.key ts ps r).length := by
      have := congrArg ByteArray.size hk
      rw [str_size] at this
      rw [← this]
      simp [ByteArray.size]
    exact (Tryz.strings_Join g 0 c (ps.map fun p => str (Rw.kAt ts r p)) ⟨#[]⟩ w hcells hg (by rw [List.length_map]; omega) hc (by rw [hlen]; omega)).mono fun e w' ⟨h1, h2⟩ => ⟨by rw [h1, hk], h2⟩
theorem range_key (ts : List Rw.Ty) (r : List Cl.C) (ps : List Int) : (List.range ps.length).map (fun i => str (Rw.kAt ts r (ps.getD i 0))) = ps.map fun p => str (Rw.kAt ts r p) := by
  apply List.ext_getElem?
  intro j
  rw [List.getElem?_map, List.getElem?_map]
  by_cases hj : j < ps.length
  · rw [List.getElem?_range hj, List.getElem?_eq_getElem hj]
    simp [List.getD_eq_getElem?_getD, List.getElem?_eq_getElem hj]
  · rw [List.getElem?_eq_none (by simp; omega), List.getElem?_eq_none (by omega)]; rfl
set_option maxHeartbeats 4000000 in
theorem rowKey (kv pv rv : Value) (ks : List Co) (ps : List Int) (r : List Cl.C) (w : World) (T : TA w) (hk : RdK w w.heap.size kv ks) (hp : RdI w w.heap.size pv ps) (hr : RdC w w.heap.size rv r) (hl : ps.length ≤ 100000) (hrl : r.length ≤ 1000000) (hi : ∀ c ∈ r, Cl.I64 c.n) (hm : ∀ c ∈ r, c.s.size ≤ 1000000)
    (hkl : (Rw.key (tys ks) ps r).length ≤ 1000000) (a : Int × List Nat) (ha : Rw.keyR (tys ks) ps r = a) (x : ByteArray) (hx : str a.2 = x) :
    Calls Tryz.prog 25 #[kv, pv, rv] w fun e w' => e = .returned (.tuple #[.string x, .int .i64 a.1]) ∧ Below w.heap.size w w' := by
  have b1 := box_new w (.cells #[kv] 22)
  have b2 := box_new (w.alloc (.cells #[kv] 22)) (.cells #[rv] 23)
  have HB := Lib.hid (up b1 b2)
  have HX := Lib.hid (Blk.later (Blk.new w 22 #[kv]) b2)
  have HY := Blk.new (w.alloc (.cells #[kv] 22)) 23 #[rv]
  rw [show (w.alloc (.cells #[kv] 22)).heap.size = w.heap.size + 1 by simp] at HY
  have HY := Lib.hid HY
  have HT := Lib.hid (T.later HB.out)
  have HK := Lib.hid (hk.later HB.out)
  have HR := Lib.hid (hr.later HB.out)
  have HP := Lib.hid (hp.later HB.out)
  obtain ⟨ka, kc, rfl, _⟩ := Gn.Rd.form hk
  obtain ⟨ra, rc, rfl, _⟩ := Gn.Rd.form hr
  have h0 : ((w.alloc (.cells #[.slice ka ks.length kc] 22)).alloc (.cells #[.slice ra r.length rc] 23)).cell? ⟨w.heap.size, 0, none⟩ = some (.slice ka ks.length kc) := HX.out.cell 0
  have h1 : ((w.alloc (.cells #[.slice ka ks.length kc] 22)).alloc (.cells #[.slice ra r.length rc] 23)).cell? ⟨w.heap.size + 1, 0, none⟩ = some (.slice ra r.length rc) := HY.out.cell 0
  have HI := Lib.hid hi
  have HM := Lib.hid hm
  have HL := Lib.hid hkl
  have HXX := Lib.hid hx
  have HA := Lib.hid ha
  clear ha
  obtain ⟨d, hd⟩ : ∃ d, Rw.chkR (tys ks) r = d := ⟨_, rfl⟩
  clear hk hr hp b1 b2 T hi hm hkl hx
  have HC := Lib.hid (rowCheck _ _ ks r _ HT.out HK.out HR.out hrl HI.out HM.out d hd)
  have HDD := Lib.hid hd
  clear hd
  go_enter Tryz.func25, Tryz.ntmps25
  go_wp2_with fail
  generalize hwb : (w.alloc (.cells #[.slice ka ks.length kc] 22)).alloc (.cells #[.slice ra r.length rc] 23) = wb at *
  have hsz : wb.heap.size = w.heap.size + 2 := by rw [← hwb]; simp
  ((with_reducible refine (HC.out).mono ?_); rintro e w1 ⟨rfl, b1⟩)
  have HB1 := Lib.hid b1
  have q0 : w1.cell? ⟨w.heap.size, 0, none⟩ = some (.slice ka ks.length kc) := (b1.cell (block_lt_of_cell h0)).trans h0
  have q1 : w1.cell? ⟨w.heap.size + 1, 0, none⟩ = some (.slice ra r.length rc) := (b1.cell (block_lt_of_cell h1)).trans h1
  clear b1 HC h0 h1
  by_cases hc : d = 0
  · subst hc
    have HCC := HDD
    have HB2 := Lib.hid (up HB.out HB1.out)
    have HK1 := Lib.hid (HK.out.later HB1.out)
    have HR1 := Lib.hid (HR.out.later HB1.out)
    have HP1 := Lib.hid (HP.out.later HB1.out)
    have HX1 := Lib.hid (Blk.later HX.out HB1.out)
    have HY1 := Lib.hid (Blk.later HY.out HB1.out)
    have HT1 := Lib.hid (HT.out.later HB1.out)
    clear HK HR HP HX HY HT HB HB1 hwb hsz HDD
    go_wp2_with fail
    by_cases hok : Rw.okP ps r.length = false
    · obtain rfl : a = (6, []) := by rw [← HA.out]; unfold Rw.keyR; rw [if_neg (by rw [HCC.out]; simp), if_pos hok]
      obtain rfl : x = ⟨#[]⟩ := HXX.out.symm
      ((with_reducible refine (gatherS_no pv _ ps r.length w1 HP1.out (by omega) hok).mono ?_); rintro e w2 ⟨rfl, b2⟩)
      have HB3 := Lib.hid (up HB2.out b2)
      clear b2
      go_wp2_with fail
      ((with_reducible refine (Tryz.strings_Join_none none 0 ⟨#[]⟩ w2).mono ?_); rintro e w3 ⟨rfl, rfl⟩)
      go_wp2_with fail
      go_ret2
      exact ⟨rfl, HB3.out⟩
    · have hok1 : Rw.okP ps r.length = true := by cases h : Rw.okP ps r.length with | false => exact absurd h hok | true => rfl
      obtain rfl : a = (0, Rw.key (tys ks) ps r) := by rw [← HA.out]; unfold Rw.keyR; rw [if_neg (by rw [HCC.out]; simp), if_neg hok]
      obtain ⟨hrk, hall⟩ := Rw.chkR_ok HCC.out
      rw [tys_len] at hrk
      ((with_reducible refine (gatherKey (fun _ => False) w1.heap.size pv ps r.length w.heap.size (w.heap.size + 1) (fun _ w2 => Below w1.heap.size w1 w2) (fun i => str (Rw.kAt (tys ks) r (ps.getD i 0))) ps.length 1 w1 HP1.out (Nat.le_refl _) (fun _ h => h.elim) hl hok1 (Nat.le_refl _)
        (Below.refl _ _) (fun _ w1 w2 h _ hb => h.trans hb) (fun i p w2 hi hpi hj hz => ?_) (fun p w1 h => absurd h (by omega))).mono ?_))
      · rw [getD_at hpi]
        have hpr := Rw.okP_at hok1 hpi
        obtain ⟨g1, g2⟩ := hall p hpr
        have hX := HX1.out
        have hY := HY1.out
        exact (clKey w.heap.size (w.heap.size + 1) _ _ ks r w2 (HT1.out.later hj) w1.heap.size w1 HK1.out HR1.out hj hz ((hj.block _ (Blk.lt hX)).trans hX) ((hj.block _ (Blk.lt hY)).trans hY) p hpr hrk HI.out HM.out _ (by simp [Cl.chk, g1, g2]) rfl).mono fun e w3 ⟨h1, h2⟩ => ⟨h1, hj.trans (h2.mono hz), Touch.of_below h2⟩
      rintro e w2 ⟨-, h2, ht⟩
      obtain ⟨u, rfl, ho, hj⟩ := h2 rfl
      rw [range_key] at ho
      have HJ := Lib.hid (joins w2 _ u (tys ks) r ps ho HL.out hl x HXX.out)
      have HB3 := Lib.hid (up HB2.out hj)
      clear h2 ht ho hj
      go_wp2_with fail
      ((with_reducible refine (HJ.out).mono ?_); rintro e w3 ⟨rfl, b3⟩)
      have HB4 := Lib.hid (up HB3.out b3)
      clear b3
      go_wp2_with fail
      go_ret2
      exact ⟨rfl, HB4.out⟩
  · obtain rfl : a = (d, []) := by rw [← HA.out]; unfold Rw.keyR; rw [HDD.out, if_pos hc]
    obtain rfl : x = ⟨#[]⟩ := HXX.out.symm
    have hne : (d != 0) = true := by simpa using hc
    have HB2 := Lib.hid (up HB.out HB1.out)
    clear hc HA HDD
    go_wp2_with fail
    go_ret2
    exact ⟨rfl, HB2.out⟩
theorem bl_lt (s : ByteArray) : ∀ x ∈ bl s, x < 256 := bl_byte s
set_option maxHeartbeats 4000000 in
theorem rowUnkey (kv pv : Value) (s : ByteArray) (ks : List Co) (ps : List Int) (w : World) (T : TA w) (hk : RdK w w.heap.size kv ks) (hp : RdI w w.heap.size pv ps) (hl : ps.length ≤ 100000) (hm : s.size ≤ 100000) (a : Nat × List Cl.C) (ha : Rw.unkR (tys ks) ps (bl s) = a) :
    Calls Tryz.prog 27 #[kv, pv, .string s] w fun e w' => RowPost w a e w' := by
  have b1 := box_new w (.cells #[kv] 22)
  have b2 := box_new (w.alloc (.cells #[kv] 22)) (.cells #[.string s] 9)
  have HB := Lib.hid (up b1 b2)
  have HX := Lib.hid (Blk.later (Blk.new w 22 #[kv]) b2)
  have HY := Blk.new (w.alloc (.cells #[kv] 22)) 9 #[.string s]
  rw [show (w.alloc (.cells #[kv] 22)).heap.size = w.heap.size + 1 by simp] at HY
  have HY := Lib.hid HY
  have HT := Lib.hid (fun w1 (hb : Below w.heap.size w w1) => T.later hb)
  have HK := Lib.hid hk
  have hp1 : RdI ((w.alloc (.cells #[kv] 22)).alloc (.cells #[.string s] 9)) w.heap.size pv ps := Gn.Rd.below hp HB.out (Nat.le_refl _)
  have HP := Lib.hid hp1
  have HPL := Lib.hid (hp.later HB.out)
  obtain ⟨ka, kc, rfl, _⟩ := Gn.Rd.form hk
  have h0 : ((w.alloc (.cells #[.slice ka ks.length kc] 22)).alloc (.cells #[.string s] 9)).cell? ⟨w.heap.size, 0, none⟩ = some (.slice ka ks.length kc) := HX.out.cell 0
  have HA := Lib.hid ha
  have htl := tys_len ks
  clear hk hp hp1 b1 b2 T ha
  go_enter Tryz.func27, Tryz.ntmps27
  go_wp2_with fail
  generalize hwb : (w.alloc (.cells #[.slice ka ks.length kc] 22)).alloc (.cells #[.string s] 9) = wb at *
  have hsz : wb.heap.size = w.heap.size + 2 := by rw [← hwb]; simp
  clear hwb
  by_cases hok : Rw.okP ps ks.length = false
  · obtain rfl : a = (6, []) := by rw [← HA.out]; unfold Rw.unkR; rw [htl, if_pos hok]
    ((with_reducible refine (gatherC_no pv _ ps ks.length wb HPL.out (by omega) hok).mono ?_); rintro e w1 ⟨rfl, b1⟩)
    have HB2 := Lib.hid (up HB.out b1)
    clear b1 h0
    go_wp2_with fail
    go_ret2
    exact ⟨_, rfl, Gn.Own.nil _ _, HB2.out⟩
  · have hok1 : Rw.okP ps ks.length = true := by cases h : Rw.okP ps ks.length with | false => exact absurd h hok | true => rfl
    have hA2 : Rw.unkR (tys ks) ps (bl s) = (let q := Rw.unk (tys ks) ps (bl s); if q.1 ≠ 0 then (q.1, []) else if q.2.2 ≠ [] then (30, []) else (0, q.2.1)) := by
      unfold Rw.unkR; rw [htl, if_neg hok]
    obtain ⟨m, rest, out, sz, en, h1, h2, h3, h4, h5⟩ := Rw.unk_steps (tys ks) ps (bl s)
    ((with_reducible refine (gatherUn (fun i => i = w.heap.size + 1) w.heap.size pv ps ks.length w.heap.size (w.heap.size + 1)
      (fun i w1 => (∃ x, Blk w1 (w.heap.size + 1) 9 [.string x] ∧ bl x = rest i ∧ x.size ≤ s.size) ∧ Below w.heap.size w w1 ∧ Blk w1 w.heap.size 22 [.slice ka ks.length kc]) out m (en : Nat) wb HP.out HB.out.size
      (fun i hi => by omega) hl hok1 h1 ⟨⟨s, HY.out, h2.symm, Nat.le_refl _⟩, HB.out, HX.out⟩ (fun i w1 w2 hj hz hb => ?_) (fun i p w1 hi hpi hj hz => ?_) (fun p w1 hi hpi hj hz => ?_)).mono ?_))
    · obtain ⟨⟨x, y1, y2, y3⟩, y4, y5⟩ := hj
      exact ⟨⟨x, (hb.block _ (by omega)).trans y1, y2, y3⟩, y4.trans (hb.mono (by omega)), (hb.block _ (by omega)).trans y5⟩
    · obtain ⟨⟨x, y1, y2, y3⟩, y4, y5⟩ := hj
      obtain ⟨g1, g2⟩ := h3 i p hi hpi
      have hpr := Rw.okP_at hok1 hpi
      have g3 := Cl.unb_good _ _ _ (by rw [← y2]; exact bl_lt x) _ _ g1
      refine (clUnkey w.heap.size (w.heap.size + 1) _ ks x w1 w w.heap.size (HT.out w1 y4) HK.out y4 y5 y1 (by omega) p hpr (out i) (sz i) 0 (by rw [y2]; exact g1) (by have := g3.2.2.2.1; rw [← y2, bl_length] at this; exact this)).mono ?_
      rintro e w2 ⟨rfl, ⟨z, z1, z2, z3⟩, ht⟩
      exact ⟨rfl, ⟨⟨z, z1, by rw [z2, y2, g2], by omega⟩, y4.trans (ht.below y4.size (fun i hi => by omega)), Blk.touch y5 ht (by omega)⟩, ht⟩
    · obtain ⟨⟨x, y1, y2, y3⟩, y4, y5⟩ := hj
      obtain ⟨g1, g2, g3⟩ := h4 p hi hpi
      have hpr := Rw.okP_at hok1 hpi
      obtain ⟨c, n, e, hu⟩ : ∃ c n e, Cl.unb (Rw.tAt (tys ks) p).1 (Rw.tAt (tys ks) p).2 (rest m) = (c, n, e) := ⟨_, _, _, rfl⟩
      rw [hu] at g2
      simp only at g2
      subst g2
      obtain ⟨_, hn0⟩ := Cl.unb_err _ _ _ _ _ _ hu g1
      refine ⟨by omega, (clUnkey w.heap.size (w.heap.size + 1) _ ks x w1 w w.heap.size (HT.out w1 y4) HK.out y4 y5 y1 (by omega) p hpr c n e (by rw [y2]; exact hu) (by omega)).mono ?_⟩
      rintro y w2 ⟨rfl, _, ht⟩
      exact ⟨⟨c, rfl⟩, ht⟩
    rintro e w1 ⟨hA, hE, ht⟩
    have HB1 := Lib.hid (HB.out.trans (ht.below HB.out.size (fun i hi => by omega)))
    rcases Nat.lt_or_ge m ps.length with hlt | hge
    · obtain ⟨p, hp⟩ : ∃ p, ps[m]? = some p := ⟨_, List.getElem?_eq_getElem hlt⟩
      obtain ⟨g1, g2, g3⟩ := h4 p hlt hp
      obtain rfl : a = (en, []) := by rw [← HA.out, hA2, g3]; simp [g1]
      obtain rfl := hA hlt
      have hne : ((en : Int) == 0) = false := by simp; exact g1
      clear hA hE ht h3 h4 h5 hA2 hp g2 g3 h0
      go_wp2_with fail
      go_ret2
      exact ⟨_, rfl, Gn.Own.nil _ _, HB1.out⟩
    · obtain ⟨u, rfl, ho, ⟨x, y1, y2, y3⟩, y4, y5⟩ := hE (by omega)
      have h6 := h5 (by omega)
      have HO := Lib.hid (Gn.Own.lower ho (show w.heap.size ≤ wb.heap.size by omega))
      have q0 : w1.cell? ⟨w.heap.size + 1, 0, none⟩ = some (.string x) := y1.cell 0
      by_cases hx : x = ⟨#[]⟩
      · subst hx
        obtain rfl : a = (0, (List.range m).map out) := by rw [← HA.out, hA2, h6, ← y2]; simp; rfl
        clear hA hE ht h3 h4 h5 hA2 h0 y1 y2 y3 y4 y5 ho h6
        go_wp2_with fail
        go_ret2
        exact ⟨_, rfl, HO.out, HB1.out⟩
      · have hxn : bl x ≠ [] := fun e => hx (bl_inj (e.trans rfl))
        have hxe : x.toList.isEmpty = false := by rw [bl_empty]; exact decide_eq_false hxn
        obtain rfl : a = (30, []) := by
          rw [← HA.out, hA2, h6, ← y2]
          simp [hxn]
        clear hxn hA hE ht h3 h4 h5 hA2 h0 y1 y2 y3 y4 y5 ho h6
        go_wp2_with fail
        go_ret2
        exact ⟨_, rfl, Gn.Own.nil _ _, HB1.out⟩
end Go.Proofs.YtfplogjdcndohaaGreatDoor

/- The law's own: the chapter's columns; does Unkey answer that? -/
namespace Go.Proofs.YtfplogjdcndohaaGreatDoor
open Go.RowKit Go.Sort
set_option linter.unusedVariables false
set_option maxRecDepth 100000

def k3 : List Co := [⟨0, ⟨#[]⟩, 2, false, Cl.empty⟩, ⟨0, ⟨#[]⟩, 4, true, Cl.empty⟩, ⟨0, ⟨#[]⟩, 1, false, Cl.empty⟩]
def k3c : Array Value := #[.int .i64 0, .string ⟨#[]⟩, .int .i64 2, .bool false, .bool false, .int .i64 0, .string ⟨#[]⟩, .int .i64 0, .string ⟨#[]⟩, .int .i64 4, .bool true, .bool false, .int .i64 0, .string ⟨#[]⟩, .int .i64 0, .string ⟨#[]⟩, .int .i64 1, .bool false, .bool false, .int .i64 0, .string ⟨#[]⟩]
theorem own_k3 (w : World) : OwnK (w.alloc (.cells k3c 56)) w.heap.size (.slice (some ⟨w.heap.size, 0, none⟩) 3 3) k3 := Gn.Own.lit coL w w.heap.size k3 _ 3 3 rfl rfl rfl (by simp [maxLen, k3]) (Nat.le_refl _)
set_option maxHeartbeats 4000000 in
theorem lThree (w : World) : Calls Tryz.prog 30 #[] w fun e w' => ∃ a c, e = .returned (.slice a 3 c) ∧ RdK w' w'.heap.size (.slice a 3 c) k3 ∧ Below w.heap.size w w' := by
  have HO := Lib.hid (RdK.of (own_k3 w))
  have HB := Lib.hid (box_new w (.cells k3c 56))
  unfold k3c at HO HB
  go_enter Tryz.func30, Tryz.ntmps30
  go_wp2_with fail
  go_ret
  exact ⟨_, _, rfl, HO.out, HB.out⟩
theorem RowPost.form {w w' : World} {r : Nat × List Cl.C} {e : Ending} (h : RowPost w r e w') : ∃ a c, e = .returned (.tuple #[.slice a r.2.length c, .int .i64 (r.1 : Nat)]) ∧ RdC w' w'.heap.size (.slice a r.2.length c) r.2 ∧ Below w.heap.size w w' := by
  obtain ⟨u, rfl, ho, hb⟩ := h
  have hr := RdC.of ho
  obtain ⟨a, c, rfl, _⟩ := Gn.Rd.form hr
  exact ⟨a, c, rfl, hr, hb⟩
set_option maxHeartbeats 4000000 in
theorem lUnkeys (pv wv : Value) (ps : List Int) (s : ByteArray) (e0 : Nat) (want : List Cl.C) (w : World) (T : TA w) (hp : RdI w w.heap.size pv ps) (hw : RdC w w.heap.size wv want) (hl : ps.length ≤ 100) (hm : s.size ≤ 100000)
    (ha : Rw.unkR (tys k3) ps (bl s) = (e0, want)) : Calls Tryz.prog 41 #[pv, .string s, .int .i64 (e0 : Nat), wv] w fun e w' => e = .returned (.bool true) ∧ Below w.heap.size w w' := by
  have HP := Lib.hid hp
  have HW := Lib.hid hw
  have HT := Lib.hid T
  have HA := Lib.hid ha
  clear hp hw T ha
  go_enter Tryz.func41, Tryz.ntmps41
  go_wp2_with fail
  ((with_reducible refine (lThree _).mono ?_); rintro e w1 ⟨a, c, rfl, hk, b1⟩)
  have HK := Lib.hid hk
  have HB := Lib.hid b1
  clear hk b1
  go_wp2_with fail
  ((with_reducible refine (rowUnkey _ pv s k3 ps w1 (HT.out.later HB.out) HK.out (HP.out.later HB.out) (by omega) hm _ HA.out).mono ?_); rintro e w2 h)
  obtain ⟨a2, c2, rfl, hr, b2⟩ := h.form
  have HR := Lib.hid hr
  have HB2 := Lib.hid (up HB.out b2)
  have HW2 := Lib.hid (HW.out.later HB2.out)
  clear h hr b2
  have hlen : want.length ≤ 1000000 := by
    have := HA.out
    unfold Rw.unkR at this
    split at this
    · injection this with _ h; rw [← h]; simp
    · simp only at this
      split at this
      · injection this with _ h; rw [← h]; simp
      · split at this
        · injection this with _ h; rw [← h]; simp
        · injection this with _ h
          rw [← h]
          have : ∀ (ps : List Int) (l : List Nat), (Rw.unk (tys k3) ps l).2.1.length ≤ ps.length := by
            intro ps
            induction ps with
            | nil => intro l; exact Nat.le_refl _
            | cons p t ih =>
              intro l
              unfold Rw.unk
              simp only
              split
              · exact Nat.zero_le _
              · split
                · exact Nat.zero_le _
                · have := ih (l.drop (Cl.unb (Rw.tAt (tys k3) p).1 (Rw.tAt (tys k3) p).2 l).2.1)
                  simp only [List.length_cons]
                  omega
          have := this ps (bl s)
          omega
  have he1 : ((e0 : Int) == (e0 : Nat)) = true := by simp
  go_wp2_with fail
  ((with_reducible refine (eqRow _ wv want want w2 HR.out HW2.out hlen true (by simp)).mono ?_); rintro e w3 ⟨rfl, b3⟩)
  have HB3 := Lib.hid (up HB2.out b3)
  clear b3
  go_wp2_with fail
  go_ret
  exact ⟨by simp, HB3.out⟩
end Go.Proofs.YtfplogjdcndohaaGreatDoor
