/- What is read may be: plain. -/
import Derived.Test.YtgmdjofnkbaflaaDoorZj
import Derived.Test.YtgmdjofnkbaflaaDoorCheck
namespace Go.Proofs.YtgmdjofnkbaflaaDoor
open Go.RowKit
set_option linter.unusedVariables false
set_option maxRecDepth 100000

/-- A value's key fits where it comes. -/
def Jr.Kfit : List Jr.Fr → ByteArray → Prop
  | [], y => y.size = 0
  | f :: _, y => (f.kind = 6 ∧ y.size = 0) ∨ (f.kind = 7 ∧ f.had = Tp.keys f.done ++ [y] ∧ Utf.vld (bl y) = true ∧ y ∉ Tp.keys f.done)
/-- No key is waiting. -/
def Jr.Rest : List Jr.Fr → Prop
  | [] => True
  | f :: _ => f.kind = 7 → f.had = Tp.keys f.done
def Jr.OpOk : List Jr.Fr → Prop
  | [] => True
  | f :: r => (f.kind = 6 ∨ f.kind = 7) ∧ Tp.good f.done ∧ Tp.ko f.kind (Tp.keys f.done) ∧ r.length + 1 + Tp.dep f.done ≤ 64 ∧ Jr.Kfit r f.key ∧ Jr.OpOk r
/-- A whole value. -/
def Jr.Whole (R : Fo) : Prop := (∃ k y n s c, R = .node k y n s c .nil ∧ y.size = 0) ∧ Tp.good R ∧ Tp.dep R ≤ 64
/-- Texts and numbers fit. -/
def Jr.Fit (x : Nd) : Prop := x.key.size ≤ maxLen ∧ (-9223372036854775808 ≤ x.n ∧ x.n ≤ 9223372036854775807) ∧ x.s.size ≤ maxLen
structure Jr.MInv (N : Nat) (t : Jr.St) : Prop where
  op : Jr.OpOk t.op
  fit : ∀ x ∈ Jr.zf id t.op t.root, Jr.Fit x
  key : t.key.size ≤ maxLen
  at_ : t.at_ + t.s.length = N
  byte : ∀ x ∈ t.s, x < 256
  cnt : Jr.cnt t.op t.root ≤ 4000
  nx : match t.nx with
    | .value => Jr.Kfit t.op t.key ∧ t.root = .nil
    | .part => t.op ≠ [] ∧ t.key.size = 0 ∧ Jr.Rest t.op ∧ t.root = .nil
    | .key => t.op ≠ [] ∧ Jr.Rest t.op ∧ t.root = .nil
    | .colon => t.op ≠ [] ∧ Jr.Kfit t.op t.key ∧ t.root = .nil
    | .behind => t.key.size = 0 ∧ Jr.Rest t.op ∧ (t.op = [] → Jr.Whole t.root) ∧ (t.op ≠ [] → t.root = .nil)
theorem place_ok {op : List Jr.Fr} {R : Fo} {k n : Int} {y x : ByteArray} {c : Fo} (ho : Jr.OpOk op) (hk : Jr.Kfit op y) (hh : Tp.hf k n x) (hc : k ≤ 5 → c = .nil) (hko : Tp.ko k (Tp.keys c)) (hg : Tp.good c) (hd : op.length + (1 + Tp.dep c) ≤ 64) (hR : R = .nil) :
    Jr.OpOk (Jr.place (.node k y n x c .nil) op R).1 ∧ Jr.Rest (Jr.place (.node k y n x c .nil) op R).1 ∧ ((Jr.place (.node k y n x c .nil) op R).1 = [] → Jr.Whole (Jr.place (.node k y n x c .nil) op R).2) ∧ ((Jr.place (.node k y n x c .nil) op R).1 ≠ [] → (Jr.place (.node k y n x c .nil) op R).2 = .nil) := by
  subst hR
  have gT : Tp.good (.node k y n x c .nil) := ⟨hh, hc, hko, hg, trivial⟩
  cases op with
  | nil =>
    refine ⟨trivial, trivial, fun _ => ⟨⟨k, y, n, x, c, rfl, hk⟩, gT, ?_⟩, fun h => absurd rfl h⟩
    show max (1 + Tp.dep c) 0 ≤ 64
    simp at hd
    omega
  | cons f r =>
    obtain ⟨h1, h2, h3, h4, h5, h6⟩ := ho
    have ek : Tp.keys (Tp.app f.done (.node k y n x c .nil)) = Tp.keys f.done ++ [y] := by rw [Tp.keys_app]; rfl
    have a3 : Tp.ko f.kind (Tp.keys (Tp.app f.done (.node k y n x c .nil))) := by
      rw [ek, Tp.ko_snoc]
      refine ⟨h3, ?_⟩
      unfold Tp.k1
      rcases hk with ⟨e, hy⟩ | ⟨e, _, hv, hn⟩
      · rw [if_neg (by omega)]; exact hy
      · rw [if_pos e]; exact ⟨hv, hn⟩
    have a4 : r.length + 1 + Tp.dep (Tp.app f.done (.node k y n x c .nil)) ≤ 64 := by
      rw [Tp.dep_app]
      show r.length + 1 + max _ (max (1 + Tp.dep c) 0) ≤ 64
      simp at hd
      omega
    have a5 : f.kind = 7 → f.had = Tp.keys (Tp.app f.done (.node k y n x c .nil)) := by
      intro e
      rw [ek]
      rcases hk with ⟨e6, _⟩ | ⟨_, hh, _⟩
      · omega
      · exact hh
    have aO : Jr.OpOk ({ f with done := Tp.app f.done (.node k y n x c .nil) } :: r) := ⟨h1, (Tp.good_app _ _).2 ⟨h2, gT⟩, a3, a4, h5, h6⟩
    exact ⟨aO, a5, fun h => by simp [Jr.place] at h, fun _ => rfl⟩
theorem init_inv (l : List Nat) (hb : ∀ x ∈ l, x < 256) : Jr.MInv l.length (Jr.init l) :=
  ⟨trivial, fun x hx => by simp [Jr.init, Jr.zf] at hx, Nat.zero_le _, by simp [Jr.init], hb, Nat.zero_le _, ⟨rfl, rfl⟩⟩
theorem nd_le : ∀ s : List Nat, Jr.nd s ≤ s.length
  | [] => by simp [Jr.nd]
  | c :: t => by have := nd_le t; unfold Jr.nd; split <;> simp <;> omega
theorem hd_len {s : List Nat} (h : Jr.hd s ≠ 0) : 0 < s.length := by
  cases s with
  | nil => exact absurd rfl h
  | cons c t => simp
theorem wd_le : ∀ (W s : List Nat), Jr.wd W s ≤ s.length
  | [], s => by simp [Jr.wd]
  | c :: W, s => by
    have := wd_le W (s.drop 1)
    unfold Jr.wd
    split
    · rename_i h
      have : 0 < s.length := by cases s with
        | nil => exact absurd rfl h.2
        | cons c t => simp
      simp only [List.length_drop] at *
      omega
    · omega
theorem scan_le (s : List Nat) : (Jr.scan s).1 ≤ s.length := by
  have e1 : Jr.nP1 s ≤ s.length := by
    unfold Jr.nP1 Jr.nSg
    split
    · rename_i h; have := hd_len (s := s) (by omega); omega
    · omega
  have e2 : Jr.nP2 s ≤ s.length := by
    unfold Jr.nP2 Jr.nIn
    have := nd_le (s.drop (Jr.nP1 s))
    rw [List.length_drop] at this
    split
    · rename_i h; have := hd_len (s := s.drop (Jr.nP1 s)) (by omega); rw [List.length_drop] at this; omega
    · omega
  have e3 : Jr.nP3 s ≤ s.length := by
    unfold Jr.nP3 Jr.nFr
    have := nd_le ((s.drop (Jr.nP2 s)).drop 1)
    rw [List.length_drop, List.length_drop] at this
    split
    · rename_i h; have := hd_len (s := s.drop (Jr.nP2 s)) (by omega); rw [List.length_drop] at this; omega
    · omega
  have e4 : Jr.nP4 s ≤ s.length := by
    unfold Jr.nP4 Jr.nEh
    split
    · rename_i h
      have h1 := hd_len (s := s.drop (Jr.nP3 s)) (by rcases h with h | h <;> omega)
      rw [List.length_drop] at h1
      unfold Jr.nPm
      split
      · rename_i h2
        have h3 := hd_len (s := (s.drop (Jr.nP3 s)).drop 1) (by rcases h2 with h | h <;> omega)
        rw [List.length_drop, List.length_drop] at h3
        omega
      · omega
    · omega
  have e5 : Jr.nP5 s ≤ s.length := by
    unfold Jr.nP5 Jr.nEd
    split
    · rename_i h
      have := nd_le ((s.drop (Jr.nP3 s)).drop (Jr.nEh (s.drop (Jr.nP3 s))))
      rw [List.length_drop, List.length_drop] at this
      have e : Jr.nP4 s = Jr.nP3 s + Jr.nEh (s.drop (Jr.nP3 s)) := rfl
      omega
    · omega
  unfold Jr.scan
  split
  · exact e1
  split
  · exact e3
  split
  · exact e4
  · exact e5
theorem skip_inv {N : Nat} {t : Jr.St} (h : Jr.MInv N t) : Jr.MInv N (Jr.skip t) :=
  ⟨h.op, h.fit, h.key, by have := h.at_; have := Jr.nb_le t.s; show t.at_ + _ + (t.s.drop _).length = N; rw [List.length_drop]; omega, fun x hx => h.byte x (List.mem_of_mem_drop hx), h.cnt, h.nx⟩
/-- A step keeps it. -/
theorem leaf_inv {N m : Nat} {t : Jr.St} {k n : Int} {x : ByteArray} (h : Jr.MInv N t) (hnx : t.nx = .value) (hh : Tp.hf k n x) (hn : -9223372036854775808 ≤ n ∧ n ≤ 9223372036854775807) (hx : x.size ≤ maxLen) (hm : m ≤ t.s.length) (hd : t.op.length < 64) (hc : Jr.cnt t.op t.root < 4000) : Jr.MInv N (Jr.leaf t m k n x) := by
  have hv := h.nx
  rw [hnx] at hv
  obtain ⟨h1, h2⟩ := hv
  obtain ⟨p1, p2, p3, p4⟩ := place_ok (c := .nil) h.op h1 hh (fun _ => rfl) (Tp.ko_nil k) trivial (by show t.op.length + (1 + 0) ≤ 64; omega) h2
  refine ⟨p1, ?_, Nat.zero_le _, ?_, fun z hz => h.byte z (List.mem_of_mem_drop hz), ?_, ⟨rfl, p2, p3, p4⟩⟩
  · intro z hz
    have hz : z ∈ Jr.zf id (Jr.place (Jr.nd1 k t.key n x .nil) t.op t.root).1 (Jr.place (Jr.nd1 k t.key n x .nil) t.op t.root).2 := hz
    rw [Jr.place_zf] at hz
    rcases List.mem_append.1 hz with hz | hz
    · exact h.fit z hz
    · have e : z = ⟨k, t.key, n, x, 1⟩ := by
        unfold Jr.nd1 at hz
        rw [Tp.flat_node] at hz
        simpa using hz
      subst e
      exact ⟨h.key, hn, hx⟩
  · have := h.at_
    show t.at_ + m + (t.s.drop m).length = N
    rw [List.length_drop]; omega
  · show Jr.cnt (Jr.place _ t.op t.root).1 (Jr.place _ t.op t.root).2 ≤ 4000
    rw [Jr.place_cnt]
    unfold Jr.nd1
    rw [Tp.sz_node, Tp.sz_nil]
    omega
theorem opn_inv {N : Nat} {t : Jr.St} {k : Int} (h : Jr.MInv N t) (hnx : t.nx = .value) (hk : k = 6 ∨ k = 7) (hl : 0 < t.s.length) (hd : t.op.length < 64) (hc : Jr.cnt t.op t.root < 4000) : Jr.MInv N (Jr.opn t k) := by
  have hv := h.nx
  rw [hnx] at hv
  obtain ⟨h1, h2⟩ := hv
  have aO : Jr.OpOk (⟨k, t.key, [], .nil⟩ :: t.op) := ⟨hk, trivial, Tp.ko_nil k, by show t.op.length + 1 + 0 ≤ 64; omega, h1, h.op⟩
  refine ⟨aO, ?_, Nat.zero_le _, ?_, fun z hz => h.byte z (List.mem_of_mem_drop hz), by show Jr.cnt t.op t.root + (1 + 0) ≤ 4000; omega, ⟨by simp [Jr.opn], rfl, fun _ => rfl, h2⟩⟩
  · intro z hz
    have hz : z ∈ Jr.zf id t.op t.root ++ [⟨k, t.key, 0, ⟨#[]⟩, 0⟩] := hz
    rcases List.mem_append.1 hz with hz | hz
    · exact h.fit z hz
    · have e : z = ⟨k, t.key, 0, ⟨#[]⟩, 0⟩ := by simpa using hz
      subst e
      exact ⟨h.key, ⟨by show (-9223372036854775808 : Int) ≤ 0; omega, by show (0 : Int) ≤ 9223372036854775807; omega⟩, Nat.zero_le _⟩
  · have := h.at_
    show t.at_ + 1 + (t.s.drop 1).length = N
    rw [List.length_drop]; omega
theorem cls_inv {N : Nat} {t : Jr.St} {f : Jr.Fr} {r : List Jr.Fr} (h : Jr.MInv N t) (ho : t.op = f :: r) (hy : t.key.size = 0) (hr : Jr.Rest t.op) (hR : t.root = .nil) (hl : 0 < t.s.length) : Jr.MInv N (Jr.cls t) := by
  have hop := h.op
  rw [ho] at hop hr
  obtain ⟨a1, a2, a3, a4, a5, a6⟩ := hop
  obtain ⟨p1, p2, p3, p4⟩ := place_ok (x := ⟨#[]⟩) (n := 0) a6 a5 (.inr (.inr (.inr ⟨a1, rfl, rfl⟩))) (fun e => by omega) a3 a2 (by omega) hR
  unfold Jr.cls
  rw [ho]
  refine ⟨p1, ?_, h.key, ?_, fun z hz => h.byte z (List.mem_of_mem_drop hz), ?_, ⟨hy, p2, p3, p4⟩⟩
  · intro z hz
    have hz : z ∈ Jr.zf id (Jr.place (Jr.nd1 f.kind f.key 0 ⟨#[]⟩ f.done) r t.root).1 (Jr.place (Jr.nd1 f.kind f.key 0 ⟨#[]⟩ f.done) r t.root).2 := hz
    have hf := h.fit
    rw [ho] at hf
    have hf : ∀ x ∈ Jr.zf id r t.root ++ ⟨id f.kind, f.key, 0, ⟨#[]⟩, 0⟩ :: Tp.flat f.done, Jr.Fit x := hf
    rw [Jr.place_zf] at hz
    rcases List.mem_append.1 hz with hz | hz
    · exact hf z (List.mem_append_left _ hz)
    · unfold Jr.nd1 at hz
      rw [Tp.flat_node] at hz
      rcases List.mem_cons.1 hz with e | hz
      · have := hf ⟨id f.kind, f.key, 0, ⟨#[]⟩, 0⟩ (List.mem_append_right _ (List.mem_cons_self ..))
        rw [e]
        exact this
      · have hz : z ∈ Tp.flat f.done := by simpa using hz
        exact hf z (List.mem_append_right _ (List.mem_cons_of_mem _ hz))
  · have := h.at_
    show t.at_ + 1 + (t.s.drop 1).length = N
    rw [List.length_drop]; omega
  · show Jr.cnt (Jr.place _ r t.root).1 (Jr.place _ r t.root).2 ≤ 4000
    rw [Jr.place_cnt]
    unfold Jr.nd1
    rw [Tp.sz_node, Tp.sz_nil]
    have hc := h.cnt
    rw [ho] at hc
    have hc : Jr.cnt r t.root + (1 + Tp.sz f.done) ≤ 4000 := hc
    omega
theorem go_inv {N m : Nat} {t : Jr.St} {f : Jr.Fr} {r : List Jr.Fr} (h : Jr.MInv N t) (ho : t.op = f :: r) (hy : t.key.size = 0) (hr : Jr.Rest t.op) (hR : t.root = .nil) (hm : m ≤ t.s.length) : Jr.MInv N (Jr.go t m (Jr.ahead t.op)) := by
  refine ⟨h.op, h.fit, h.key, ?_, fun z hz => h.byte z (List.mem_of_mem_drop hz), h.cnt, ?_⟩
  · have := h.at_
    show t.at_ + m + (t.s.drop m).length = N
    rw [List.length_drop]; omega
  · have hop := h.op
    rw [ho] at hop
    have ea : Jr.ahead t.op = if f.kind = 7 then .key else .value := by rw [ho]; rfl
    rcases hop.1 with e | e
    · rw [if_neg (by omega)] at ea
      have e1 : (Jr.go t m (Jr.ahead t.op)).nx = .value := ea
      rw [e1]
      refine ⟨?_, hR⟩
      show Jr.Kfit t.op t.key
      rw [ho]
      exact .inl ⟨e, hy⟩
    · rw [if_pos e] at ea
      have e1 : (Jr.go t m (Jr.ahead t.op)).nx = .key := ea
      rw [e1]
      exact ⟨by show t.op ≠ []; rw [ho]; simp, hr, hR⟩
def Jr.MRes (N : Nat) (r : Jr.St ⊕ Jr.Res) : Prop := match r with
  | .inl u => Jr.MInv N u
  | .inr (.ok F) => Jr.Whole F ∧ (∀ x ∈ Tp.flat F, Jr.Fit x) ∧ Tp.sz F ≤ 4000
  | .inr (.err a _) => a ≤ N
theorem err_res {N a : Nat} {e : Int} (h : a ≤ N) : Jr.MRes N (.inr (.err a e)) := h
theorem word_res {N : Nat} {t : Jr.St} (h : Jr.MInv N t) (hnx : t.nx = .value) (hd : t.op.length < 64) (hc : Jr.cnt t.op t.root < 4000) (W : List Nat) (k : Int) (hk : k = 1 ∨ k = 2 ∨ k = 3) : Jr.MRes N (Jr.word t W k) := by
  have h1 := wd_le W t.s
  have h2 := h.at_
  unfold Jr.word
  split
  · rename_i e
    exact leaf_inv h hnx (.inl ⟨hk, rfl, rfl⟩) ⟨by omega, by omega⟩ (Nat.zero_le _) (by omega) hd hc
  · exact err_res (by omega)
theorem step_res {N : Nat} {t : Jr.St} (hN : N ≤ 1000000) (h : Jr.MInv N t) (hok : Jr.Ok t) : Jr.MRes N (Jr.stepS t) := by
  have h2 := h.at_
  have hv := h.nx
  unfold Jr.stepS
  cases hnx : t.nx with
  | value =>
    simp only
    unfold Jr.stepV
    split
    · exact err_res (by omega)
    split
    · exact err_res (by omega)
    split
    · exact err_res (by omega)
    rename_i hc hd
    have hc : Jr.cnt t.op t.root < 4000 := by omega
    have hd : t.op.length < 64 := by omega
    unfold Jr.valueB
    split
    · exact word_res h hnx hd hc _ _ (by omega)
    split
    · exact word_res h hnx hd hc _ _ (by omega)
    split
    · exact word_res h hnx hd hc _ _ (by omega)
    split
    · obtain ⟨l, n, x, hu⟩ : ∃ l n x, Utf.unq t.s = (l, n, x) := ⟨_, _, _, rfl⟩
      unfold Jr.text
      rw [hu]
      split
      · exact err_res (by omega)
      · rename_i hx
        have hx : x = 0 := by simpa using hx
        subst hx
        obtain ⟨g1, g2, g3, g4, _⟩ := unq_fine h.byte hu
        exact leaf_inv h hnx (.inr (.inr (.inl ⟨rfl, rfl, by rw [bl_str l g2]; exact g1⟩))) ⟨by omega, by omega⟩ (by show (str l).size ≤ maxLen; rw [str_size]; unfold maxLen; omega) (show n ≤ _ by omega) hd hc
    split
    · rename_i e
      exact opn_inv h hnx (.inl rfl) (hd_len (by omega)) hd hc
    split
    · rename_i e
      exact opn_inv h hnx (.inr rfl) (hd_len (by omega)) hd hc
    have h3 := scan_le t.s
    unfold Jr.number
    split
    · exact err_res (by omega)
    split
    · rename_i hf
      exact leaf_inv h hnx (.inr (.inl ⟨rfl, rfl⟩)) hf.2 (Nat.zero_le _) h3 hd hc
    · exact err_res (by omega)
  | part =>
    rw [hnx] at hv
    obtain ⟨v1, v2, v3, v4⟩ := hv
    simp only
    unfold Jr.stepP
    split
    · exact err_res (by omega)
    · rename_i f r ho
      split
      · rename_i e
        have := (endOf_ne f.kind).1
        exact cls_inv h ho v2 v3 v4 (hd_len (by omega))
      · exact go_inv h ho v2 v3 v4 (Nat.zero_le _)
  | key =>
    rw [hnx] at hv
    obtain ⟨v1, v3, v4⟩ := hv
    obtain ⟨f', r', ho', hk7⟩ := hok.1 hnx
    simp only
    unfold Jr.stepK
    split
    · exact err_res (by omega)
    · rename_i f r ho
      obtain ⟨rfl, rfl⟩ : f = f' ∧ r = r' := by rw [ho] at ho'; injection ho' with e1 e2; exact ⟨e1, e2⟩
      split
      · exact err_res (by omega)
      obtain ⟨l, n, x, hu⟩ : ∃ l n x, Utf.unq t.s = (l, n, x) := ⟨_, _, _, rfl⟩
      rw [hu]
      split
      · exact err_res (by omega)
      split
      · exact err_res (by omega)
      rename_i hx hin
      have hx : x = 0 := by simpa using hx
      subst hx
      obtain ⟨g1, g2, g3, g4, _⟩ := unq_fine h.byte hu
      have hop := h.op
      have hf := h.fit
      rw [ho] at hop hf v3
      have e7 : f.had = Tp.keys f.done := v3 hk7
      have hcn := h.cnt
      rw [ho] at hcn
      have hop2 : Jr.OpOk ({ f with had := f.had ++ [str l] } :: r) := hop
      refine ⟨hop2, hf, ?_, ?_, fun z hz => h.byte z (List.mem_of_mem_drop hz), hcn, ⟨by simp, .inr ⟨hk7, ?_, ?_, ?_⟩, v4⟩⟩
      · show (str l).size ≤ maxLen
        rw [str_size]; unfold maxLen; omega
      · show t.at_ + n + (t.s.drop n).length = N
        rw [List.length_drop]; omega
      · show f.had ++ [str l] = Tp.keys f.done ++ [str l]
        rw [e7]
      · show Utf.vld (bl (str l)) = true
        rw [bl_str l g2]; exact g1
      · show str l ∉ Tp.keys f.done
        rw [← e7]; exact hin
  | colon =>
    rw [hnx] at hv
    obtain ⟨v1, v3, v4⟩ := hv
    simp only
    unfold Jr.stepC
    split
    · exact err_res (by omega)
    · rename_i e
      have := hd_len (s := t.s) (by omega)
      exact ⟨h.op, h.fit, h.key, by show t.at_ + 1 + (t.s.drop 1).length = N; rw [List.length_drop]; omega, fun z hz => h.byte z (List.mem_of_mem_drop hz), h.cnt, ⟨v3, v4⟩⟩
  | behind =>
    rw [hnx] at hv
    obtain ⟨v1, v2, v3, v4⟩ := hv
    simp only
    unfold Jr.stepB
    split
    · rename_i ho
      split
      · have hf := h.fit
        have hc := h.cnt
        rw [ho] at hf hc
        exact ⟨v3 ho, hf, hc⟩
      · exact err_res (by omega)
    · rename_i f r ho
      have v4 := v4 (by rw [ho]; simp)
      split
      · rename_i e
        have := (endOf_ne f.kind).1
        exact cls_inv h ho v1 v2 v4 (hd_len (by omega))
      split
      · exact err_res (by omega)
      · have := hd_len (s := t.s) (by omega)
        exact go_inv h ho v1 v2 v4 (by omega)
theorem steps_inv {N : Nat} {t u : Jr.St} (hN : N ≤ 1000000) (h : Jr.MInv N t) (hok : Jr.Ok t) (hs : Jr.Steps t u) : Jr.MInv N u ∧ Jr.Ok u := by
  induction hs with
  | refl t => exact ⟨h, hok⟩
  | next h1 _ ih =>
    have k1 := step_res hN (skip_inv h) hok
    have k2 := step_ok (skip_inv h).byte
    unfold Jr.step at h1
    rw [h1] at k1 k2
    exact ih k1 k2.1
theorem reads_res {l : List Nat} {r : Jr.Res} (hl : l.length ≤ 1000000) (hb : ∀ x ∈ l, x < 256) (h : Jr.Reads l r) : Jr.MRes l.length (.inr r) := by
  unfold Jr.Reads at h
  rw [if_neg (by omega)] at h
  obtain ⟨u, h1, h2⟩ := h
  obtain ⟨k1, k2⟩ := steps_inv hl (init_inv l hb) (Jr.Ok.plain (by simp [Jr.init]) (by simp [Jr.init])) h1
  have := step_res hl (skip_inv k1) k2
  unfold Jr.step at h2
  rwa [h2] at this
theorem size_fit : ∀ (F : Fo) (x : Nd), x ∈ Tp.flat F → 0 ≤ x.size ∧ x.size ≤ (Tp.sz F : Nat)
  | .nil, x, h => by simp at h
  | .node k y n s c r, x, h => by
    rw [Tp.flat_node] at h
    rw [Tp.sz_node]
    rcases List.mem_cons.1 h with rfl | h
    · show (0 : Int) ≤ 1 + (Tp.sz c : Nat) ∧ (1 + (Tp.sz c : Nat) : Int) ≤ _
      omega
    · rcases List.mem_append.1 h with h | h
      · have := size_fit c x h; omega
      · have := size_fit r x h; omega
theorem kind_fit : ∀ (F : Fo) (x : Nd), Tp.good F → x ∈ Tp.flat F → 1 ≤ x.kind ∧ x.kind ≤ 7
  | .nil, x, _, h => by simp at h
  | .node k y n s c r, x, hg, h => by
    obtain ⟨g1, _, _, g4, g5⟩ := hg
    rw [Tp.flat_node] at h
    rcases List.mem_cons.1 h with rfl | h
    · exact Tp.hf_kind g1
    · rcases List.mem_append.1 h with h | h
      · exact kind_fit c x g4 h
      · exact kind_fit r x g5 h
/-- What is read may be. -/
theorem whole_may {F : Fo} (h : Jr.Whole F) (hf : ∀ x ∈ Tp.flat F, Jr.Fit x) (hs : Tp.sz F ≤ 4000) : chk (Tp.flat F) = 0 ∧ ∀ x ∈ Tp.flat F, Nok x := by
  obtain ⟨h1, h2, h3⟩ := h
  refine ⟨(may_chk (F := F) ⟨hs, ⟨h1, h2, rfl⟩, h3⟩).1, fun x hx => ?_⟩
  have a := size_fit F x hx
  have b := kind_fit F x h2 hx
  obtain ⟨f1, f2, f3⟩ := hf x hx
  exact ⟨⟨by omega, by omega⟩, f1, f2, f3, ⟨by omega, by omega⟩⟩
end Go.Proofs.YtgmdjofnkbaflaaDoor
