/- Tapes, plainly: nodes one behind the other, and the forests that they lay flat; no program. -/
import Derived.Test.YtanjdjiigfdnmaaGreatDoorStr
namespace Go.Proofs.YtanjdjiigfdnmaaGreatDoor.Tp
open Go.Lib
set_option linter.unusedVariables false

/-- A node. -/
structure Nd where
  kind : Int
  key : ByteArray
  n : Int
  s : ByteArray
  size : Int
/-- Values one behind the other, each with its parts. -/
inductive Fo where
  | nil
  | node (kind : Int) (key : ByteArray) (n : Int) (s : ByteArray) (kids rest : Fo)

def flat : Fo → List Nd
  | .nil => []
  | .node k y n s c r => ⟨k, y, n, s, 1 + ((flat c).length : Nat)⟩ :: (flat c ++ flat r)
def sz (F : Fo) : Nat := (flat F).length
@[simp] theorem flat_nil : flat .nil = [] := rfl
@[simp] theorem sz_nil : sz .nil = 0 := rfl
theorem flat_node (k : Int) (y : ByteArray) (n : Int) (s : ByteArray) (c r : Fo) : flat (.node k y n s c r) = ⟨k, y, n, s, 1 + (sz c : Nat)⟩ :: (flat c ++ flat r) := rfl
theorem sz_node (k : Int) (y : ByteArray) (n : Int) (s : ByteArray) (c r : Fo) : sz (.node k y n s c r) = 1 + sz c + sz r := by
  simp [sz, flat]; omega
theorem sz_zero {F : Fo} (h : sz F = 0) : F = .nil := by
  cases F with
  | nil => rfl
  | node k y n s c r => rw [sz_node] at h; omega
def app : Fo → Fo → Fo
  | .nil, G => G
  | .node k y n s c r, G => .node k y n s c (app r G)
theorem app_nil : ∀ F, app F .nil = F
  | .nil => rfl
  | .node k y n s c r => by rw [app, app_nil r]
theorem app_assoc : ∀ F G H, app (app F G) H = app F (app G H)
  | .nil, _, _ => rfl
  | .node k y n s c r, G, H => by simp only [app]; rw [app_assoc r G H]
theorem flat_app : ∀ F G, flat (app F G) = flat F ++ flat G
  | .nil, _ => rfl
  | .node k y n s c r, G => by simp only [app, flat]; rw [flat_app r G]; simp
theorem sz_app (F G : Fo) : sz (app F G) = sz F + sz G := by simp [sz, flat_app]
def keys : Fo → List ByteArray
  | .nil => []
  | .node _ y _ _ _ r => y :: keys r
theorem keys_app : ∀ F G, keys (app F G) = keys F ++ keys G
  | .nil, _ => rfl
  | .node k y n s c r, G => by simp only [app, keys]; rw [keys_app r G]; rfl
def dep : Fo → Nat
  | .nil => 0
  | .node _ _ _ _ c r => max (1 + dep c) (dep r)
theorem dep_app : ∀ F G, dep (app F G) = max (dep F) (dep G)
  | .nil, _ => by simp [app, dep]
  | .node k y n s c r, G => by simp only [app, dep]; rw [dep_app r G]; omega

/-- The fields that a kind has, but for the size. -/
def hf (k n : Int) (s : ByteArray) : Prop :=
  ((k = 1 ∨ k = 2 ∨ k = 3) ∧ n = 0 ∧ s.size = 0) ∨ (k = 4 ∧ s.size = 0) ∨ (k = 5 ∧ n = 0 ∧ Utf.vld (bl s) = true) ∨ ((k = 6 ∨ k = 7) ∧ n = 0 ∧ s.size = 0)
/-- The keys that parts may have. -/
def ko (k : Int) (ys : List ByteArray) : Prop :=
  if k = 7 then (∀ y ∈ ys, Utf.vld (bl y) = true) ∧ ys.Nodup else ∀ y ∈ ys, y.size = 0
def good : Fo → Prop
  | .nil => True
  | .node k y n s c r => hf k n s ∧ (k ≤ 5 → c = .nil) ∧ ko k (keys c) ∧ good c ∧ good r
theorem good_app : ∀ F G, good (app F G) ↔ good F ∧ good G
  | .nil, _ => by simp [app, good]
  | .node k y n s c r, G => by simp only [app, good]; rw [good_app r G]; simp [and_assoc]
theorem hf_kind {k n : Int} {s : ByteArray} (h : hf k n s) : 1 ≤ k ∧ k ≤ 7 := by
  unfold hf at h; omega
theorem ko_nil (k : Int) : ko k [] := by unfold ko; split <;> simp
theorem ko_append {k : Int} {a b : List ByteArray} (h : ko k (a ++ b)) : ko k a ∧ ko k b := by
  unfold ko at h ⊢
  split at h
  · rename_i e
    rw [if_pos e, if_pos e]
    exact ⟨⟨fun y hy => h.1 y (List.mem_append_left _ hy), (List.nodup_append.1 h.2).1⟩, ⟨fun y hy => h.1 y (List.mem_append_right _ hy), (List.nodup_append.1 h.2).2.1⟩⟩
  · rename_i e
    rw [if_neg e, if_neg e]
    exact ⟨fun y hy => h y (List.mem_append_left _ hy), fun y hy => h y (List.mem_append_right _ hy)⟩
/-- One key more. -/
def k1 (k : Int) (a : List ByteArray) (y : ByteArray) : Prop := if k = 7 then Utf.vld (bl y) = true ∧ y ∉ a else y.size = 0
theorem ko_snoc (k : Int) (a : List ByteArray) (y : ByteArray) : ko k (a ++ [y]) ↔ ko k a ∧ k1 k a y := by
  unfold ko k1
  split
  · simp only [List.mem_append, List.mem_singleton, List.nodup_append, List.nodup_cons, List.not_mem_nil, not_false_eq_true, List.nodup_nil, and_true, true_and]
    constructor
    · rintro ⟨h1, h2, h3⟩
      exact ⟨⟨fun z hz => h1 z (.inl hz), h2⟩, h1 y (.inr rfl), fun hy => h3 y hy y rfl rfl⟩
    · rintro ⟨⟨h1, h2⟩, h3, h4⟩
      refine ⟨fun z hz => hz.elim (h1 z) (fun e => e ▸ h3), h2, fun z hz x hx e => ?_⟩
      subst e; subst hx; exact h4 hz
  · simp only [List.mem_append, List.mem_singleton]
    exact ⟨fun h => ⟨fun z hz => h z (.inl hz), h y (.inr rfl)⟩, fun h z hz => hz.elim (h.1 z) (fun e => e ▸ h.2)⟩

/-- A forest that lies at a place. -/
def At (l : List Nd) (a : Nat) (F : Fo) : Prop := flat F <+: l.drop a
theorem At.len {l : List Nd} {a : Nat} {F : Fo} (h : At l a F) : sz F ≤ l.length - a := by
  have := h.length_le
  rwa [List.length_drop] at this
theorem At.nil (l : List Nd) (a : Nat) : At l a .nil := by simp [At]
theorem at_node {l : List Nd} {a : Nat} {k : Int} {y : ByteArray} {n : Int} {s : ByteArray} {c r : Fo} :
    At l a (.node k y n s c r) ↔ l[a]? = some ⟨k, y, n, s, 1 + (sz c : Nat)⟩ ∧ At l (a + 1) c ∧ At l (a + 1 + sz c) r := by
  unfold At
  rw [flat_node]
  have hd : l.drop (a + 1 + sz c) = (l.drop (a + 1)).drop (sz c) := by rw [List.drop_drop]
  constructor
  · rintro ⟨t, ht⟩
    rw [List.cons_append, List.append_assoc] at ht
    have h0 : l[a]? = some ⟨k, y, n, s, 1 + (sz c : Nat)⟩ := by
      have := congrArg (fun x => x[0]?) ht
      simpa [List.getElem?_drop] using this.symm
    have h1 : l.drop (a + 1) = flat c ++ (flat r ++ t) := by
      have := congrArg (List.drop 1) ht
      rw [List.drop_drop] at this
      simpa using this.symm
    refine ⟨h0, ⟨_, h1.symm⟩, ?_⟩
    rw [hd, h1]
    refine ⟨t, ?_⟩
    unfold sz
    rw [List.drop_left]
  · rintro ⟨h0, ⟨t, ht⟩, h2⟩
    rw [hd, ← ht] at h2
    unfold sz at h2
    rw [List.drop_left] at h2
    obtain ⟨u, rfl⟩ := h2
    refine ⟨u, ?_⟩
    have ha : a < l.length := (List.getElem?_eq_some_iff.1 h0).1
    rw [List.drop_eq_getElem_cons ha, ← ht, (List.getElem?_eq_some_iff.1 h0).2]
    simp
theorem at_app {l : List Nd} {a : Nat} : ∀ {F G : Fo}, At l a (app F G) ↔ At l a F ∧ At l (a + sz F) G := by
  intro F
  induction F generalizing a with
  | nil => intro G; simp [app, At.nil]
  | node k y n s c r ihc ihr =>
    intro G
    rw [app, at_node, at_node, ihr, sz_node]
    rw [show a + 1 + sz c + sz r = a + (1 + sz c + sz r) by omega]
    simp [and_assoc]
/-- Of two forests at one place the longer one begins with the other. -/
theorem at_begins {l : List Nd} {a : Nat} : ∀ {F G : Fo}, At l a F → At l a G → sz F ≤ sz G → ∃ R, G = app F R := by
  intro F
  induction F generalizing a with
  | nil => intro G _ _ _; exact ⟨G, rfl⟩
  | node k y n s c r ihc ihr =>
    intro G hF hG hle
    cases G with
    | nil => rw [sz_node] at hle; simp at hle
    | node k' y' n' s' c' r' =>
      rw [at_node] at hF hG
      obtain ⟨h0, hc, hr⟩ := hF
      obtain ⟨h0', hc', hr'⟩ := hG
      rw [h0] at h0'
      injection h0' with e
      injection e with e1 e2 e3 e4 e5
      have e6 : sz c = sz c' := by omega
      subst e1 e2 e3 e4
      obtain ⟨R, rfl⟩ := ihc hc hc' (by omega)
      rw [sz_app] at e6
      have : R = .nil := sz_zero (by omega)
      subst this
      rw [app_nil] at hr' hle ⊢
      rw [sz_node, sz_node] at hle
      obtain ⟨R, rfl⟩ := ihr hr hr' (by omega)
      exact ⟨R, rfl⟩
theorem at_one {l : List Nd} {a : Nat} {F G : Fo} (hF : At l a F) (hG : At l a G) (h : sz F = sz G) : F = G := by
  obtain ⟨R, rfl⟩ := at_begins hF hG (by omega)
  rw [sz_app] at h
  have : R = .nil := sz_zero (by omega)
  subst this
  rw [app_nil]
theorem at_flat (F : Fo) : At (flat F) 0 F := by unfold At; simp
theorem flat_inj {F G : Fo} (h : flat F = flat G) : F = G := by
  refine at_one (at_flat F) (h ▸ at_flat G) ?_
  unfold sz; rw [h]

/-- A value that stands at a place, in so much room. -/
def Val (l : List Nd) (a m : Nat) (F : Fo) : Prop := (∃ k y n s c, F = .node k y n s c .nil) ∧ At l a F ∧ good F ∧ sz F ≤ m
def Vp (l : List Nd) (a m : Nat) : Prop := ∃ F, Val l a m F
theorem val_one {l : List Nd} {a m m' : Nat} {F G : Fo} (hF : Val l a m F) (hG : Val l a m' G) : F = G := by
  obtain ⟨⟨k, y, n, s, c, rfl⟩, aF, _, _⟩ := hF
  obtain ⟨⟨k', y', n', s', c', rfl⟩, aG, _, _⟩ := hG
  have h1 := (at_node.1 aF).1
  have h2 := (at_node.1 aG).1
  rw [h1] at h2
  injection h2 with e
  injection e with e1 e2 e3 e4 e5
  exact at_one aF aG (by rw [sz_node, sz_node]; omega)
/-- What a value's first node tells. -/
theorem vp_head {l : List Nd} {a m : Nat} {x : Nd} (h : Vp l a m) (hx : l[a]? = some x) : hf x.kind x.n x.s ∧ 1 ≤ x.size ∧ x.size ≤ m ∧ (x.kind ≤ 5 → x.size = 1) := by
  obtain ⟨F, ⟨k, y, n, s, c, rfl⟩, hA, hG, hm⟩ := h
  have h0 := (at_node.1 hA).1
  rw [hx] at h0
  injection h0 with e
  subst e
  obtain ⟨g1, g2, _⟩ := hG
  rw [sz_node] at hm
  simp only [sz_nil] at hm
  refine ⟨g1, by show (1:Int) ≤ 1 + _; omega, by show (1:Int) + _ ≤ _; omega, fun h => ?_⟩
  have := g2 h
  subst this
  simp
/-- A value without parts. -/
theorem vp_leaf {l : List Nd} {a m : Nat} {x : Nd} (hx : l[a]? = some x) (h : hf x.kind x.n x.s) (h1 : x.size = 1) (hm : 1 ≤ m) : Val l a m (.node x.kind x.key x.n x.s .nil .nil) := by
  refine ⟨⟨_, _, _, _, _, rfl⟩, at_node.2 ⟨?_, At.nil _ _, At.nil _ _⟩, ⟨h, fun _ => rfl, ko_nil _, trivial, trivial⟩, by rw [sz_node]; simp; omega⟩
  rw [hx]
  cases x; simp at h1 ⊢; exact h1
/-- A value of its parts. -/
theorem vp_kids {l : List Nd} {a m : Nat} {x : Nd} {C : Fo} (hx : l[a]? = some x) (h : hf x.kind x.n x.s) (h5 : x.kind ≤ 5 → x.size = 1) (hC : At l (a + 1) C) (hs : x.size = 1 + (sz C : Nat)) (hk : ko x.kind (keys C)) (hg : good C) (hm : x.size ≤ m) :
    Val l a m (.node x.kind x.key x.n x.s C .nil) := by
  refine ⟨⟨_, _, _, _, _, rfl⟩, at_node.2 ⟨?_, hC, At.nil _ _⟩, ⟨h, fun hk => ?_, hk, hg, trivial⟩, by rw [sz_node]; simp; omega⟩
  · rw [hx]
    cases x; simp at hs ⊢; exact hs
  · have := h5 hk
    exact sz_zero (by omega)
/-- Some of the parts are known: what comes next is a value, and its key may stand there. -/
theorem vp_next {l : List Nd} {a m : Nat} {x : Nd} {C : Fo} (hv : Vp l a m) (hx : l[a]? = some x) (hC : At l (a + 1) C) (hlt : 1 + (sz C : Nat) < x.size) :
    ∃ z, l[a + 1 + sz C]? = some z ∧ k1 x.kind (keys C) z.key ∧ Vp l (a + 1 + sz C) (x.size.toNat - 1 - sz C) := by
  obtain ⟨F, ⟨k, y, n, s, c, rfl⟩, hA, ⟨g1, g2, g3, g4, g5⟩, hm⟩ := hv
  obtain ⟨h0, hc, _⟩ := at_node.1 hA
  rw [hx] at h0
  injection h0 with e
  subst e
  simp only at hlt ⊢
  obtain ⟨R, rfl⟩ := at_begins hC hc (by omega)
  rw [sz_app] at hlt
  cases R with
  | nil => simp at hlt
  | node k2 y2 n2 s2 c2 r2 =>
    rw [at_app] at hc
    obtain ⟨_, hR⟩ := hc
    obtain ⟨hz, hc2, hr2⟩ := at_node.1 hR
    rw [keys_app, keys] at g3
    have g3' : ko k ((keys C ++ [y2]) ++ keys r2) := by simpa using g3
    rw [good_app] at g4
    obtain ⟨_, q1, q2, q3, q4, q5⟩ := g4
    refine ⟨_, hz, ((ko_snoc _ _ _).1 (ko_append g3').1).2, .node k2 y2 n2 s2 c2 .nil, ⟨_, _, _, _, _, rfl⟩, at_node.2 ⟨hz, hc2, At.nil _ _⟩, ⟨q1, q2, q3, q4, trivial⟩, ?_⟩
    rw [sz_node, sz_app, sz_node]
    simp only [sz_nil]
    omega
end Go.Proofs.YtanjdjiigfdnmaaGreatDoor.Tp
