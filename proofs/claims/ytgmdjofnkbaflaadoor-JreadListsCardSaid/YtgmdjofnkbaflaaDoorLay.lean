/- What was read so far is the text of what is open: plainly; so what is read is the text of a value. -/
import Derived.Test.YtgmdjofnkbaflaaDoorInv
namespace Go.Proofs.YtgmdjofnkbaflaaDoor.Jr
open Go.Lib
set_option linter.unusedVariables false

def opb (k : Int) : Nat := if k = 7 then 123 else 91
def Bl (b : List Nat) : Prop := ∀ c ∈ b, blank c = true
theorem Bl.append {a b : List Nat} (h : Bl a) (k : Bl b) : Bl (a ++ b) := fun x hx => (List.mem_append.1 hx).elim (h x) (k x)
theorem Bl.nil : Bl [] := fun x hx => by simp at hx
/-- A value may come, below that key, behind this text. -/
def Rdy : List Fr → ByteArray → List Nat → Prop
  | [], y, pre => Bl pre ∧ y = ⟨#[]⟩
  | f :: r, y, pre => (f.kind = 6 ∨ f.kind = 7) ∧ (f.kind = 7 → f.had = Tp.keys f.done ++ [y]) ∧ ∃ pre1 P c0 q, pre = pre1 ++ (opb f.kind :: (P ++ (c0 ++ q))) ∧ Parts f.kind P f.done ∧ Comma f.done c0 ∧ Keyed f.kind q y ∧ (f.kind = 7 → y ∉ Tp.keys f.done) ∧ Rdy r f.key pre1
/-- Values stand behind each other. -/
def Lay : List Fr → Fo → List Nat → Prop
  | [], R, pre => ∃ b1 p b2, Bl b1 ∧ Bl b2 ∧ pre = b1 ++ (p ++ b2) ∧ Val p R
  | f :: r, _, pre => (f.kind = 6 ∨ f.kind = 7) ∧ (f.kind = 7 → f.had = Tp.keys f.done) ∧ ∃ pre1 P, pre = pre1 ++ (opb f.kind :: P) ∧ Parts f.kind P f.done ∧ Rdy r f.key pre1
theorem parts_blank {k : Int} {P b : List Nat} {C : Fo} (h : Parts k P C) (hb : Bl b) : Parts k (P ++ b) C := by
  refine ⟨h.byte.append (blank_byte hb), fun t tail y r ha hs hy hst h1 h2 => ?_⟩
  have A := h.go t (b ++ tail) y r ha (by rw [hs, List.append_assoc]) ((blank_byte hb).append hy) (fun hC => stop_blank hb (hst hC)) h1 h2
  have B := among_blanks (among_to t P.length (b ++ tail) k y C r) hb rfl
  refine A.trans (B.trans (To.same (congrArg skip ?_)))
  simp [toParts]
  omega
theorem comma_blank {C : Fo} {P c0 b : List Nat} {k : Int} (hP : Parts k P C) (hc : Comma C c0) (hb : Bl b) : ∃ P' c0', Parts k P' C ∧ Comma C c0' ∧ P ++ (c0 ++ b) = P' ++ c0' := by
  rcases hc with ⟨rfl, rfl⟩ | ⟨hC, b', h1, rfl⟩
  · exact ⟨P ++ b, [], parts_blank hP hb, .inl ⟨rfl, rfl⟩, by simp⟩
  · exact ⟨P, 44 :: (b' ++ b), hP, .inr ⟨hC, b' ++ b, Bl.append h1 hb, rfl⟩, by simp⟩
theorem rdy_blank {op : List Fr} {y : ByteArray} {pre b : List Nat} (h : Rdy op y pre) (hb : Bl b) : Rdy op y (pre ++ b) := by
  cases op with
  | nil => exact ⟨h.1.append hb, h.2⟩
  | cons f r =>
    obtain ⟨h1, h2, pre1, P, c0, q, rfl, hP, hc, hq, hn, hr⟩ := h
    rcases hq.is with ⟨e, rfl, ey⟩ | ⟨e, lit, say, b1, b2, hl, rfl, ey, k1, k2⟩
    · obtain ⟨P', c0', hP', hc', e'⟩ := comma_blank hP hc hb
      refine ⟨h1, h2, pre1, P', c0', [], ?_, hP', hc', ⟨.inl ⟨e, rfl, ey⟩⟩, hn, hr⟩
      rw [← List.append_assoc P', ← e']
      simp
    · refine ⟨h1, h2, pre1, P, c0, lit ++ (b1 ++ 58 :: (b2 ++ b)), by simp, hP, hc, ⟨.inr ⟨e, lit, say, b1, b2 ++ b, hl, rfl, ey, k1, Bl.append k2 hb⟩⟩, hn, hr⟩
theorem lay_blank {op : List Fr} {R : Fo} {pre b : List Nat} (h : Lay op R pre) (hb : Bl b) : Lay op R (pre ++ b) := by
  cases op with
  | nil =>
    obtain ⟨b1, p, b2, h1, h2, rfl, hV⟩ := h
    exact ⟨b1, p, b2 ++ b, h1, h2.append hb, by simp, hV⟩
  | cons f r =>
    obtain ⟨h1, h2, pre1, P, rfl, hP, hr⟩ := h
    exact ⟨h1, h2, pre1, P ++ b, by simp, parts_blank hP hb, hr⟩
theorem rdy_val {op : List Fr} {y : ByteArray} {pre p : List Nat} {V : Fo} (h : Rdy op y pre) (hV : Val p V) :
    Lay (place (withKey y V) op .nil).1 (place (withKey y V) op .nil).2 (pre ++ p) ∧ ∀ f r, (place (withKey y V) op .nil).1 = f :: r → f.done ≠ .nil := by
  cases op with
  | nil =>
    obtain ⟨h1, rfl⟩ := h
    refine ⟨⟨pre, p, [], h1, Bl.nil, by simp, ?_⟩, fun f r e => by simp [place] at e⟩
    show Val p (Tp.app .nil (withKey ⟨#[]⟩ V))
    rw [withKey_one hV.one]
    exact hV
  | cons f r =>
    obtain ⟨h1, h2, pre1, P, c0, q, rfl, hP, hc, hq, hn, hr⟩ := h
    have A := parts_snoc (b := []) hP hc hq hV (by simp) hn
    refine ⟨⟨h1, fun e => ?_, pre1, P ++ (c0 ++ (q ++ (p ++ []))), by simp, A, hr⟩, fun g r' e => ?_⟩
    · show f.had = Tp.keys (Tp.app f.done (withKey y V))
      rw [Tp.keys_app, one_keys hV.one, h2 e]
    · simp only [place, List.cons.injEq] at e
      obtain ⟨rfl, _⟩ := e
      intro e
      have e : Tp.app f.done (withKey y V) = .nil := e
      have := congrArg Tp.sz e
      rw [Tp.sz_app, withKey_sz, Tp.sz_nil] at this
      have := one_sz hV.one
      omega
structure IInv (l : List Nat) (t : St) : Prop where
  byte : Byte t.s
  nil : (t.op ≠ [] ∨ t.nx ≠ .behind) → t.root = .nil
  lay : ∃ pre, l = pre ++ t.s ∧ match t.nx with
    | .value => Rdy t.op t.key pre
    | .part => (∃ f r, t.op = f :: r ∧ f.done = .nil) ∧ Lay t.op t.root pre ∧ t.key = ⟨#[]⟩
    | .key => ∃ f r, t.op = f :: r ∧ f.kind = 7 ∧ f.had = Tp.keys f.done ∧ t.key = ⟨#[]⟩ ∧ ∃ pre1 P c0, pre = pre1 ++ (opb f.kind :: (P ++ c0)) ∧ Parts f.kind P f.done ∧ Comma f.done c0 ∧ Rdy r f.key pre1
    | .colon => ∃ f r, t.op = f :: r ∧ f.kind = 7 ∧ f.had = Tp.keys f.done ++ [t.key] ∧ t.key ∉ Tp.keys f.done ∧ ∃ pre1 P c0 lit say b1, pre = pre1 ++ (opb f.kind :: (P ++ (c0 ++ (lit ++ b1)))) ∧ Parts f.kind P f.done ∧ Comma f.done c0 ∧ Lit lit say ∧ t.key = str say ∧ Bl b1 ∧ Rdy r f.key pre1
    | .behind => Lay t.op t.root pre ∧ t.key = ⟨#[]⟩ ∧ ∀ f r, t.op = f :: r → f.done ≠ .nil
theorem take_nb (s : List Nat) : Bl (s.take (nb s)) := by
  induction s with
  | nil => exact fun x hx => by simp at hx
  | cons c s ih =>
    unfold nb
    split
    · rename_i h
      rw [List.take_succ_cons]
      intro x hx
      rcases List.mem_cons.1 hx with rfl | hx
      · exact h
      · exact ih x hx
    · exact fun x hx => by simp at hx
theorem iinv_skip {l : List Nat} {t : St} (h : IInv l t) : IInv l (skip t) := by
  obtain ⟨h1, h2, pre, h3, h4⟩ := h
  have hb := take_nb t.s
  refine ⟨fun x hx => h1 x (List.mem_of_mem_drop hx), h2, pre ++ t.s.take (nb t.s), by show l = _ ++ t.s.drop (nb t.s); rw [List.append_assoc, List.take_append_drop]; exact h3, ?_⟩
  generalize t.s.take (nb t.s) = b at hb
  show match t.nx with
    | .value => Rdy t.op t.key (pre ++ b)
    | .part => (∃ f r, t.op = f :: r ∧ f.done = .nil) ∧ Lay t.op t.root (pre ++ b) ∧ t.key = ⟨#[]⟩
    | .key => ∃ f r, t.op = f :: r ∧ f.kind = 7 ∧ f.had = Tp.keys f.done ∧ t.key = ⟨#[]⟩ ∧ ∃ pre1 P c0, pre ++ b = pre1 ++ (opb f.kind :: (P ++ c0)) ∧ Parts f.kind P f.done ∧ Comma f.done c0 ∧ Rdy r f.key pre1
    | .colon => ∃ f r, t.op = f :: r ∧ f.kind = 7 ∧ f.had = Tp.keys f.done ++ [t.key] ∧ t.key ∉ Tp.keys f.done ∧ ∃ pre1 P c0 lit say b1, pre ++ b = pre1 ++ (opb f.kind :: (P ++ (c0 ++ (lit ++ b1)))) ∧ Parts f.kind P f.done ∧ Comma f.done c0 ∧ Lit lit say ∧ t.key = str say ∧ Bl b1 ∧ Rdy r f.key pre1
    | .behind => Lay t.op t.root (pre ++ b) ∧ t.key = ⟨#[]⟩ ∧ ∀ f r, t.op = f :: r → f.done ≠ .nil
  split at h4
  · exact rdy_blank h4 hb
  · exact ⟨h4.1, lay_blank h4.2.1 hb, h4.2.2⟩
  · obtain ⟨f, r, a1, a2, a3, a4, pre1, P, c0, rfl, hP, hc, hr⟩ := h4
    obtain ⟨P', c0', hP', hc', e'⟩ := comma_blank hP hc hb
    exact ⟨f, r, a1, a2, a3, a4, pre1, P', c0', by rw [← e']; simp, hP', hc', hr⟩
  · obtain ⟨f, r, a1, a2, a3, a4, pre1, P, c0, lit, say, b1, rfl, hP, hc, hl, hk, hb1, hr⟩ := h4
    exact ⟨f, r, a1, a2, a3, a4, pre1, P, c0, lit, say, b1 ++ b, by simp, hP, hc, hl, hk, hb1.append hb, hr⟩
  · exact ⟨lay_blank h4.1 hb, h4.2⟩
def IRes (l : List Nat) (t : St) : St ⊕ Res → Prop
  | .inl u => IInv l u
  | .inr (.ok F) => ∃ b1 p b2, Bl b1 ∧ Bl b2 ∧ l = b1 ++ (p ++ b2) ∧ Val p F
  | .inr (.err ..) => True
/-- A value of one node. -/
theorem leaf_inv2 {l : List Nat} {t : St} {m : Nat} {k n : Int} {x : ByteArray} (h : IInv l t) (hv : t.nx = .value) (hV : Val (t.s.take m) (nd1 k ⟨#[]⟩ n x .nil)) : IRes l t (.inl (leaf t m k n x)) := by
  obtain ⟨h1, h2, pre, h3, h4⟩ := h
  rw [hv] at h4
  simp only at h4
  have hR : t.root = .nil := h2 (.inr (by rw [hv]; decide))
  obtain ⟨k1, k2⟩ := rdy_val h4 hV
  refine ⟨fun x hx => h1 x (List.mem_of_mem_drop hx), fun hh => ?_, pre ++ t.s.take m, ?_, ?_⟩
  · rcases hh with hh | hh
    · show (place _ t.op t.root).2 = .nil
      cases ho : t.op with
      | nil => have hh : (place (nd1 k t.key n x .nil) t.op t.root).1 ≠ [] := hh; rw [ho] at hh; exact absurd rfl hh
      | cons f r => exact hR
    · exact absurd rfl hh
  · show l = _ ++ t.s.drop m
    rw [List.append_assoc, List.take_append_drop]; exact h3
  · show Lay (place (nd1 k t.key n x .nil) t.op t.root).1 (place (nd1 k t.key n x .nil) t.op t.root).2 _ ∧ (⟨#[]⟩ : ByteArray) = ⟨#[]⟩ ∧ ∀ f r, (place (nd1 k t.key n x .nil) t.op t.root).1 = f :: r → f.done ≠ .nil
    rw [hR]
    exact ⟨k1, rfl, k2⟩
theorem opn_inv2 {l : List Nat} {t : St} {k : Int} (h : IInv l t) (hv : t.nx = .value) (hk : k = 6 ∨ k = 7) (hh : hd t.s = opb k) : IRes l t (.inl (opn t k)) := by
  obtain ⟨h1, h2, pre, h3, h4⟩ := h
  rw [hv] at h4
  simp only at h4
  have hR : t.root = .nil := h2 (.inr (by rw [hv]; decide))
  have es : t.s = opb k :: t.s.drop 1 := by
    cases hs : t.s with
    | nil => rw [hs] at hh; unfold opb at hh; simp at hh; split at hh <;> omega
    | cons c s => rw [hs] at hh; have hh : c = opb k := hh; subst hh; rfl
  refine ⟨fun x hx => h1 x (List.mem_of_mem_drop hx), fun _ => hR, pre ++ [opb k], ?_, ⟨_, _, rfl, rfl⟩, ⟨hk, fun _ => rfl, pre, [], rfl, parts_nil k (by simp), h4⟩, rfl⟩
  show l = _ ++ t.s.drop 1
  rw [List.append_assoc, List.singleton_append, ← es]; exact h3
theorem cls_inv2 {l : List Nat} {t : St} {f : Fr} {r : List Fr} {pre : List Nat} (h1 : Byte t.s) (h3 : l = pre ++ t.s) (hR : t.root = .nil) (ho : t.op = f :: r) (hL : Lay t.op t.root pre) (hk : t.key = ⟨#[]⟩) (hh : hd t.s = endOf f.kind) : IRes l t (.inl (cls t)) := by
  rw [ho] at hL
  obtain ⟨a1, a2, pre1, P, rfl, hP, hr⟩ := hL
  have hV := val_open a1 hP
  obtain ⟨k1, k2⟩ := rdy_val hr hV
  have es : t.s = endOf f.kind :: t.s.drop 1 := by
    cases hs : t.s with
    | nil => rw [hs] at hh; unfold endOf at hh; simp at hh; split at hh <;> omega
    | cons c s => rw [hs] at hh; have hh : c = endOf f.kind := hh; subst hh; rfl
  unfold cls
  rw [ho]
  refine ⟨fun x hx => h1 x (List.mem_of_mem_drop hx), fun hh => ?_, pre1 ++ (opb f.kind :: (P ++ [endOf f.kind])), ?_, ?_⟩
  · rcases hh with hh | hh
    · show (place _ r t.root).2 = .nil
      cases hr2 : r with
      | nil => have hh : (place (nd1 f.kind f.key 0 ⟨#[]⟩ f.done) r t.root).1 ≠ [] := hh; rw [hr2] at hh; exact absurd rfl hh
      | cons => exact hR
    · exact absurd rfl hh
  · show l = _ ++ t.s.drop 1
    rw [h3]
    conv => lhs; rw [es]
    simp
  · show Lay (place (nd1 f.kind f.key 0 ⟨#[]⟩ f.done) r t.root).1 (place (nd1 f.kind f.key 0 ⟨#[]⟩ f.done) r t.root).2 _ ∧ t.key = ⟨#[]⟩ ∧ ∀ g r', (place (nd1 f.kind f.key 0 ⟨#[]⟩ f.done) r t.root).1 = g :: r' → g.done ≠ .nil
    rw [hR]
    exact ⟨k1, hk, k2⟩
theorem ahead_inv2 {l : List Nat} {t : St} {f : Fr} {r : List Fr} {pre c0 : List Nat} {m : Nat} (h1 : Byte t.s) (h3 : l = pre ++ t.s) (hR : t.root = .nil) (ho : t.op = f :: r) (hL : Lay t.op t.root pre) (hk : t.key = ⟨#[]⟩) (hc : Comma f.done c0) (hs : t.s = c0 ++ t.s.drop m) : IRes l t (.inl (go t m (ahead t.op))) := by
  rw [ho] at hL
  obtain ⟨a1, a2, pre1, P, rfl, hP, hr⟩ := hL
  have ea : ahead t.op = if f.kind = 7 then .key else .value := by rw [ho]; rfl
  refine ⟨fun x hx => h1 x (List.mem_of_mem_drop hx), fun _ => hR, pre1 ++ (opb f.kind :: (P ++ c0)), ?_, ?_⟩
  · show l = _ ++ t.s.drop m
    rw [h3]
    conv => lhs; rw [hs]
    simp
  · by_cases e : f.kind = 7
    · rw [if_pos e] at ea
      have e1 : (go t m (ahead t.op)).nx = .key := ea
      rw [e1]
      exact ⟨f, r, ho, e, a2 e, hk, pre1, P, c0, rfl, hP, hc, hr⟩
    · rw [if_neg e] at ea
      have e1 : (go t m (ahead t.op)).nx = .value := ea
      rw [e1]
      show Rdy t.op t.key _
      rw [ho, hk]
      exact ⟨a1, fun h => absurd h e, pre1, P, c0, [], by simp, hP, hc, ⟨.inl ⟨e, rfl, rfl⟩⟩, fun h => absurd h e, hr⟩
theorem wd_full : ∀ (w s : List Nat), wd w s = w.length → s.take w.length = w
  | [], s, _ => by simp
  | c :: w, s, h => by
    unfold wd at h
    split at h
    · rename_i h1
      cases s with
      | nil => exact absurd rfl h1.2
      | cons a s =>
        have h2 : a = c := h1.1
        subst h2
        have : wd w s = w.length := by simpa using h
        simp [wd_full w s this]
    · simp at h
theorem word_inv2 {l : List Nat} {t : St} {w : List Nat} {k : Int} (h : IInv l t) (hv : t.nx = .value) (hV : Val w (nd1 k ⟨#[]⟩ 0 ⟨#[]⟩ .nil)) : IRes l t (word t w k) := by
  unfold word
  split
  · rename_i e
    exact leaf_inv2 h hv (by rw [wd_full w t.s e]; exact hV)
  · trivial
theorem step_inv2 {l : List Nat} {t : St} (h : IInv l t) : IRes l t (stepS t) := by
  obtain ⟨h1, h2, pre, h3, h4⟩ := id h
  unfold stepS
  cases hnx : t.nx with
  | value =>
    simp only
    unfold stepV
    split
    · trivial
    split
    · trivial
    split
    · trivial
    unfold valueB
    split
    · exact word_inv2 h hnx (val_word (.inl ⟨rfl, rfl⟩))
    split
    · exact word_inv2 h hnx (val_word (.inr (.inl ⟨rfl, rfl⟩)))
    split
    · exact word_inv2 h hnx (val_word (.inr (.inr ⟨rfl, rfl⟩)))
    split
    · unfold text
      obtain ⟨u, n, x, hu⟩ : ∃ u n x, Utf.unq t.s = (u, n, x) := ⟨_, _, _, rfl⟩
      rw [hu]
      split
      · trivial
      · rename_i hx
        have hx : x = 0 := by simpa using hx
        subst hx
        exact leaf_inv2 h hnx (val_text (lit_take h1 hu).1)
    split
    · rename_i e
      exact opn_inv2 h hnx (.inl rfl) e
    split
    · rename_i e
      exact opn_inv2 h hnx (.inr rfl) e
    unfold number
    split
    · trivial
    split
    · rename_i e hf
      obtain ⟨m, b, hs⟩ : ∃ m b, scan t.s = (m, b) := ⟨_, _, rfl⟩
      rw [hs] at e ⊢
      have e : b = true := by simpa using e
      subst e
      exact leaf_inv2 h hnx (val_num (num_take hs hf).1)
    · trivial
  | part =>
    rw [hnx] at h4
    simp only at h4 ⊢
    obtain ⟨⟨f', r', ho', hd⟩, hL, hk⟩ := h4
    unfold stepP
    split
    · trivial
    · rename_i f r ho
      obtain ⟨rfl, rfl⟩ : f = f' ∧ r = r' := by rw [ho] at ho'; injection ho' with e1 e2; exact ⟨e1, e2⟩
      have hR : t.root = .nil := h2 (.inl (by rw [ho]; simp))
      split
      · rename_i e
        exact cls_inv2 h1 h3 hR ho hL hk e
      · exact ahead_inv2 (c0 := []) h1 h3 hR ho hL hk (.inl ⟨hd, rfl⟩) rfl
  | key =>
    rw [hnx] at h4
    simp only at h4 ⊢
    obtain ⟨f', r', ho', hk7, hhad, hk, pre1, P, c0, rfl, hP, hc, hr⟩ := h4
    unfold stepK
    split
    · trivial
    · rename_i f r ho
      obtain ⟨rfl, rfl⟩ : f = f' ∧ r = r' := by rw [ho] at ho'; injection ho' with e1 e2; exact ⟨e1, e2⟩
      have hR : t.root = .nil := h2 (.inl (by rw [ho]; simp))
      split
      · trivial
      obtain ⟨u, n, x, hu⟩ : ∃ u n x, Utf.unq t.s = (u, n, x) := ⟨_, _, _, rfl⟩
      rw [hu]
      split
      · trivial
      split
      · trivial
      rename_i hx hin
      have hx : x = 0 := by simpa using hx
      subst hx
      rw [hhad] at hin
      obtain ⟨hl, hle⟩ := lit_take h1 hu
      refine ⟨fun x hx => h1 x (List.mem_of_mem_drop hx), fun _ => hR, pre1 ++ (opb f.kind :: (P ++ (c0 ++ (t.s.take n ++ [])))), ?_, _, _, rfl, hk7, ?_, hin, pre1, P, c0, t.s.take n, u, [], rfl, hP, hc, hl, rfl, Bl.nil, hr⟩
      · show l = _ ++ t.s.drop n
        rw [h3]
        conv => lhs; rw [← List.take_append_drop n t.s]
        simp
      · show f.had ++ [str u] = Tp.keys f.done ++ [str u]
        rw [hhad]
  | colon =>
    rw [hnx] at h4
    simp only at h4 ⊢
    obtain ⟨f, r, ho, hk7, hhad, hin, pre1, P, c0, lit, say, b1, rfl, hP, hc, hl, hk, hb1, hr⟩ := h4
    have hR : t.root = .nil := h2 (.inl (by rw [ho]; simp))
    unfold stepC
    split
    · trivial
    · rename_i e
      have e : hd t.s = 58 := by simpa using e
      have es : t.s = 58 :: t.s.drop 1 := by
        cases hs : t.s with
        | nil => rw [hs] at e; simp at e
        | cons c s => rw [hs] at e; have e : c = 58 := e; subst e; rfl
      refine ⟨fun x hx => h1 x (List.mem_of_mem_drop hx), fun _ => hR, pre1 ++ (opb f.kind :: (P ++ (c0 ++ (lit ++ (b1 ++ 58 :: []))))), ?_, ?_⟩
      · show l = _ ++ t.s.drop 1
        rw [h3]
        conv => lhs; rw [es]
        simp
      · show Rdy t.op t.key _
        rw [ho]
        exact ⟨.inr hk7, fun _ => hhad, pre1, P, c0, _, rfl, hP, hc, ⟨.inr ⟨hk7, lit, say, b1, [], hl, rfl, hk, hb1, by simp⟩⟩, fun _ => hin, hr⟩
  | behind =>
    rw [hnx] at h4
    simp only at h4 ⊢
    obtain ⟨hL, hk, hne⟩ := h4
    unfold stepB
    split
    · rename_i ho
      split
      · rename_i hs
        rw [ho] at hL
        obtain ⟨b1, p, b2, k1, k2, k3, k4⟩ := hL
        refine ⟨b1, p, b2, k1, k2, ?_, k4⟩
        rw [h3, hs, List.append_nil, k3]
      · trivial
    · rename_i f r ho
      have hR : t.root = .nil := h2 (.inl (by rw [ho]; simp))
      split
      · rename_i e
        exact cls_inv2 h1 h3 hR ho hL hk e
      split
      · trivial
      · rename_i e
        have e : hd t.s = 44 := by simpa using e
        have es : t.s = [44] ++ t.s.drop 1 := by
          cases hs : t.s with
          | nil => rw [hs] at e; simp at e
          | cons c s => rw [hs] at e; have e : c = 44 := e; subst e; rfl
        exact ahead_inv2 h1 h3 hR ho hL hk (.inr ⟨hne f r ho, [], by simp, rfl⟩) es
theorem steps_inv2 {l : List Nat} {t u : St} (h : IInv l t) (hs : Steps t u) : IInv l u := by
  induction hs with
  | refl => exact h
  | next h1 _ ih =>
    have := step_inv2 (iinv_skip h)
    unfold step at h1
    rw [h1] at this
    exact ih this
/-- What is read is the text of a value, between blanks. -/
theorem reads_inv {l : List Nat} {F : Fo} (hl : Byte l) (h : Reads l (.ok F)) : ∃ b1 p b2, Bl b1 ∧ Bl b2 ∧ l = b1 ++ (p ++ b2) ∧ Val p F := by
  unfold Reads at h
  split at h
  · cases h
  · obtain ⟨u, h1, h2⟩ := h
    have hi : IInv l (init l) := ⟨hl, fun _ => rfl, [], rfl, by simp [init, Rdy, Bl]⟩
    have := step_inv2 (iinv_skip (steps_inv2 hi h1))
    unfold step at h2
    rw [h2] at this
    exact this
end Go.Proofs.YtgmdjofnkbaflaaDoor.Jr
