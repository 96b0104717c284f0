/- TapeSorted: the walk. What is sorted is sorted as it is, plainly. -/
import Derived.Test.YteklcfimafplbaaDoorWorks
import Derived.Test.YteklcfimafplbaaDoorDrawn
import Derived.BigQuiet
namespace Go.Proofs.YteklcfimafplbaaDoor.Tp
open Go.RowKit
set_option linter.unusedVariables false

theorem trs_sT : ∀ F, trs (sT F) = (trs F).map sT
  | .nil => rfl
  | .node k y n s c r => by
    rw [sT]
    simp only [trs, List.map_cons]
    rw [trs_sT r, sT]
    rfl
theorem sT_cat : ∀ ts : List Fo, sT (cat ts) = cat (ts.map sT)
  | [] => rfl
  | T :: ts => by
    show sT (app T (cat ts)) = app (sT T) (cat (ts.map sT))
    rw [sT_app, sT_cat ts]
theorem map_fix {l : List Fo} (h : l.map sT = l) : ∀ T ∈ l, sT T = T := by
  intro T hT
  obtain ⟨i, hi, e⟩ := List.getElem_of_mem hT
  have h2 := congrArg (fun l => l[i]?) h
  simp only [List.getElem?_map, List.getElem?_eq_getElem hi, Option.map_some] at h2
  rw [e] at h2
  injection h2
theorem sT_idem : ∀ F, good F → sT (sT F) = sT F
  | .nil, _ => rfl
  | .node k y n s c r, hg => by
    obtain ⟨_, _, hko, hgc, hgr⟩ := hg
    have ihc := sT_idem c hgc
    have ihr := sT_idem r hgr
    rw [sT, sT, ihr]
    congr 1
    by_cases hk : k = 7
    · rw [if_pos hk, if_pos hk]
      have hnd : ((trs (sT c)).map kyo).Nodup := by
        rw [← keys_trs, sT_keys]
        unfold ko at hko
        rw [if_pos hk] at hko
        exact hko.2
      have hfix : ∀ T ∈ srtL (trs (sT c)), sT T = T := by
        intro T hT
        refine map_fix ?_ T ((srtL_perm _).mem_iff.1 hT)
        rw [← trs_sT, ihc]
      have hmap : (srtL (trs (sT c))).map sT = srtL (trs (sT c)) := by
        rw [List.map_congr_left hfix]
        simp
      rw [sT_cat, hmap, trs_cat _ (srt_single (sT c))]
      congr 1
      have hn2 : ((srtL (trs (sT c))).map kyo).Nodup := (((srtL_perm (trs (sT c))).map kyo).nodup_iff).2 hnd
      exact (srtL_eq hn2 (List.Perm.refl _) (srtL_rise _ hnd)).symm
    · rw [if_neg hk, if_neg hk]
      exact ihc
/-- The members of what is sorted stand by rising keys. -/
theorem sT_rise (c : Fo) (h : ko 7 (keys c)) : Rise (trs (cat (srtL (trs (sT c))))) := by
  rw [trs_cat _ (srt_single (sT c))]
  refine srtL_rise _ ?_
  rw [← keys_trs, sT_keys]
  unfold ko at h
  rw [if_pos rfl] at h
  exact h.2
/-- Every object's members stand by rising keys. -/
def rs : Fo → Prop
  | .nil => True
  | .node k y n s c r => (k = 7 → Rise (trs c)) ∧ rs c ∧ rs r
theorem rs_app : ∀ F G, rs (app F G) ↔ rs F ∧ rs G
  | .nil, _ => by simp [app, rs]
  | .node k y n s c r, G => by simp only [app, rs]; rw [rs_app r G]; simp [and_assoc]
theorem rs_cat : ∀ ts, rs (cat ts) ↔ ∀ T ∈ ts, rs T
  | [] => by simp [cat, rs]
  | T :: ts => by rw [cat, rs_app, rs_cat ts]; simp
theorem rs_srt {F : Fo} (h : rs F) : rs (cat (srtL (trs F))) := by
  rw [rs_cat]
  have h2 : rs (cat (trs F)) := by rw [cat_trs]; exact h
  rw [rs_cat] at h2
  exact fun T hT => h2 T ((srtL_perm _).mem_iff.1 hT)
theorem rs_sT : ∀ F, good F → rs (sT F)
  | .nil, _ => trivial
  | .node k y n s c r, ⟨_, _, g3, g4, g5⟩ => by
    rw [sT]
    refine ⟨fun h => ?_, ?_, rs_sT r g5⟩
    · subst h
      rw [if_pos rfl]
      exact sT_rise c g3
    · split
      · exact rs_srt (rs_sT c g4)
      · exact rs_sT c g4
/-- Every node may be. -/
def fk : Fo → Prop
  | .nil => True
  | .node k y n s c r => Nok ⟨k, y, n, s, 1 + (sz c : Nat)⟩ ∧ fk c ∧ fk r
theorem fk_iff : ∀ F, fk F ↔ ∀ x ∈ flat F, Nok x
  | .nil => by simp [fk]
  | .node k y n s c r => by
    rw [fk, flat_node, fk_iff c, fk_iff r]
    constructor
    · rintro ⟨h1, h2, h3⟩ x hx
      rcases List.mem_cons.1 hx with rfl | hx
      · exact h1
      · rcases List.mem_append.1 hx with hx | hx
        · exact h2 x hx
        · exact h3 x hx
    · exact fun h => ⟨h _ (List.mem_cons_self ..), fun x hx => h x (List.mem_cons_of_mem _ (List.mem_append_left _ hx)), fun x hx => h x (List.mem_cons_of_mem _ (List.mem_append_right _ hx))⟩
theorem fk_app : ∀ F G, fk (app F G) ↔ fk F ∧ fk G
  | .nil, _ => by simp [app, fk]
  | .node k y n s c r, G => by simp only [app, fk]; rw [fk_app r G]; simp [and_assoc]
theorem fk_cat : ∀ ts, fk (cat ts) ↔ ∀ T ∈ ts, fk T
  | [] => by simp [cat, fk]
  | T :: ts => by rw [cat, fk_app, fk_cat ts]; simp
theorem fk_srt {F : Fo} (h : fk F) : fk (cat (srtL (trs F))) := by
  rw [fk_cat]
  have h2 : fk (cat (trs F)) := by rw [cat_trs]; exact h
  rw [fk_cat] at h2
  exact fun T hT => h2 T ((srtL_perm _).mem_iff.1 hT)
theorem fk_sT : ∀ F, fk F → fk (sT F)
  | .nil, _ => trivial
  | .node k y n s c r, ⟨g1, g2, g3⟩ => by
    rw [sT]
    have e : sz (if k = 7 then cat (srtL (trs (sT c))) else sT c) = sz c := by
      split
      · rw [cat_srt_sz, sT_sz]
      · rw [sT_sz]
    refine ⟨by rw [e]; exact g1, ?_, fk_sT r g3⟩
    split
    · exact fk_srt (fk_sT c g2)
    · exact fk_sT c g2
theorem sT_ok {F : Fo} (h : ∀ x ∈ flat F, Nok x) : ∀ x ∈ flat (sT F), Nok x := (fk_iff _).1 (fk_sT F ((fk_iff F).2 h))
/-- Two members, one behind the other. -/
theorem rise_two {D R : Fo} {k k' : Int} {y y' : ByteArray} {n n' : Int} {s s' : ByteArray} {c c' : Fo} (h : Rise (trs (app D (.node k y n s c (.node k' y' n' s' c' R))))) : ly y y' = true := by
  unfold Rise at h
  rw [trs_app] at h
  have h2 := (List.pairwise_append.1 h).2.1
  rw [trs, trs, List.pairwise_cons] at h2
  exact h2.1 _ (List.mem_cons_self ..)
end Go.Proofs.YteklcfimafplbaaDoor.Tp
namespace Go.Proofs.YteklcfimafplbaaDoor
open Go.RowKit
set_option linter.unusedVariables false
set_option maxRecDepth 100000

/-- At each place of a forest a value stands; the members of objects by rising keys. -/
theorem sub_rs {l : List Nd} : ∀ (F : Fo) (a i : Nat), Tp.At l a F → Tp.good F → Tp.rs F → i < Tp.sz F → ∃ k y n s c, Tp.At l (a + i) (.node k y n s c .nil) ∧ Tp.good (.node k y n s c .nil) ∧ Tp.dep (.node k y n s c .nil) ≤ Tp.dep F ∧ (k = 7 → Tp.Rise (Tp.trs c))
  | .nil, a, i, _, _, _, h => by simp at h
  | .node k y n s c r, a, i, hA, hg, hs, h => by
    obtain ⟨h0, hc, hr⟩ := Tp.at_node.1 hA
    obtain ⟨g1, g2, g3, g4, g5⟩ := hg
    obtain ⟨s1, s2, s3⟩ := hs
    rw [Tp.sz_node] at h
    rcases (show i = 0 ∨ (1 ≤ i ∧ i < 1 + Tp.sz c) ∨ 1 + Tp.sz c ≤ i by omega) with e | e | e
    · subst e
      exact ⟨k, y, n, s, c, Tp.at_node.2 ⟨h0, hc, Tp.At.nil _ _⟩, ⟨g1, g2, g3, g4, trivial⟩, by simp [Tp.dep]; omega, s1⟩
    · obtain ⟨k', y', n', s', c', q1, q2, q3, q4⟩ := sub_rs c (a + 1) (i - 1) hc g4 s2 (by omega)
      rw [show a + 1 + (i - 1) = a + i by omega] at q1
      exact ⟨k', y', n', s', c', q1, q2, by simp only [Tp.dep] at q3 ⊢; omega, q4⟩
    · obtain ⟨k', y', n', s', c', q1, q2, q3, q4⟩ := sub_rs r (a + 1 + Tp.sz c) (i - (1 + Tp.sz c)) hr g5 s3 (by omega)
      rw [show a + 1 + Tp.sz c + (i - (1 + Tp.sz c)) = a + i by omega] at q1
      exact ⟨k', y', n', s', c', q1, q2, by simp only [Tp.dep] at q3 ⊢; omega, q4⟩
theorem DOk.sorted {F : Fo} (h : DOk F) : DOk (Tp.sT F) := by
  obtain ⟨k, n, s, c, rfl⟩ := h.root
  refine ⟨⟨k, n, s, _, by rw [Tp.sT]; rfl⟩, Tp.sT_good _ h.good, by rw [Tp.sT_sz]; exact h.sz, by rw [Tp.sT_dep]; exact h.dep, Tp.sT_ok h.ok⟩

theorem split_at : ∀ (c : Fo) (p : Nat), p ≤ (Tp.keys c).length → ∃ D R, c = Tp.app D R ∧ (Tp.keys D).length = p
  | c, 0, _ => ⟨.nil, c, rfl, rfl⟩
  | .nil, p + 1, h => by simp [Tp.keys] at h
  | .node k y n s c r, p + 1, h => by
    obtain ⟨D, R, e, l⟩ := split_at r p (by simpa [Tp.keys] using h)
    exact ⟨.node k y n s c D, R, by rw [e]; rfl, by simp [Tp.keys, l]⟩
/-- Two members, one behind the other: where they stand, and their keys. -/
theorem two_places {X : List Nd} {k n : Int} {y s : ByteArray} {c : Fo} {p L : Nat} (hX : Tp.At X 0 (.node k y n s c .nil)) (hL : (Tp.keys c).length = L) (h : p + 1 < L) :
    ∃ (P Q : Nat) (a b : Nd), (plcs 1 c)[p]? = some (P : Int) ∧ (plcs 1 c)[p + 1]? = some (Q : Int) ∧ P < Q ∧ X[P]? = some a ∧ X[Q]? = some b ∧ (Tp.Rise (Tp.trs c) → Tp.ly a.key b.key = true) := by
  obtain ⟨D, R0, e0, hD⟩ := split_at c p (by omega)
  obtain ⟨ka, ya, na, sa, ca, R1, rfl⟩ := keys_split e0 p hD.symm (by omega)
  have e1 := e0
  rw [app_step] at e1
  have hD1 : (Tp.keys (Tp.app D (.node ka ya na sa ca .nil))).length = p + 1 := by rw [Tp.keys_app, List.length_append, hD]; rfl
  obtain ⟨kb, yb, nb, sb, cb, R, rfl⟩ := keys_split e1 (p + 1) hD1.symm (by omega)
  have h1 := (Tp.at_node.1 hX).2.1
  have p0 := plcs_at 1 D ka ya na sa ca (.node kb yb nb sb cb R)
  have p1 := plcs_at 1 (Tp.app D (.node ka ya na sa ca .nil)) kb yb nb sb cb R
  rw [← e0, hD] at p0
  rw [← e1, hD1] at p1
  have h2 := h1
  rw [e0, Tp.at_app] at h2
  have h3 := Tp.at_node.1 h2.2
  have h4 := Tp.at_node.1 h3.2.2
  refine ⟨_, _, ⟨ka, ya, na, sa, 1 + (Tp.sz ca : Nat)⟩, ⟨kb, yb, nb, sb, 1 + (Tp.sz cb : Nat)⟩, p0, p1, ?_, ?_, ?_, fun hr => ?_⟩
  · rw [Tp.sz_app, Tp.sz_node]; omega
  · have := h3.1
    rw [Nat.zero_add] at this
    exact this
  · have := h4.1
    rw [Tp.sz_app, Tp.sz_node, Tp.sz_nil, show 1 + (Tp.sz D + (1 + Tp.sz ca + 0)) = 0 + 1 + Tp.sz D + 1 + Tp.sz ca by omega]
    exact this
  · rw [e0] at hr
    exact Tp.rise_two hr
theorem keep5 {w w' : World} {b off L c q : Nat} {l : List Nd} {x : Nd} (hR : RdN w w.heap.size (.slice (some ⟨b, off, none⟩) L c) l) (hx : l[q]? = some x) (hb : Below w.heap.size w w') :
    w'.cell? ⟨b, off + q * 5, none⟩ = some (.int .i64 x.kind) ∧ w'.cell? ⟨b, off + q * 5 + 1, none⟩ = some (.string x.key) ∧ w'.cell? ⟨b, off + q * 5 + 2, none⟩ = some (.int .i64 x.n) ∧ w'.cell? ⟨b, off + q * 5 + 3, none⟩ = some (.string x.s) ∧ w'.cell? ⟨b, off + q * 5 + 4, none⟩ = some (.int .i64 x.size) := by
  obtain ⟨b', off', e, h⟩ := rdN_cells hR hb hx
  obtain ⟨rfl, rfl⟩ : b = b' ∧ off = off' := by injection e with e; injection e with e1 e2; exact ⟨e1, e2⟩
  exact h
theorem keepI {w w' : World} {b off L c q : Nat} {l : List Int} {x : Int} (hR : RdI w w.heap.size (.slice (some ⟨b, off, none⟩) L c) l) (hx : l[q]? = some x) (hb : Below w.heap.size w w') :
    w'.cell? ⟨b, off + q, none⟩ = some (.int .i64 x) := by
  obtain ⟨b', off', e, h⟩ := rdI_cell hR hb hx
  obtain ⟨rfl, rfl⟩ : b = b' ∧ off = off' := by injection e with e; injection e with e1 e2; exact ⟨e1, e2⟩
  exact h
theorem flat_ok {l : List Nd} (hl : ∀ x ∈ l, Nok x) {a : Nat} {F : Fo} (h : Tp.At l a F) : ∀ x ∈ Tp.flat F, Nok x := fun x hx => hl x (List.mem_of_mem_drop (h.subset hx))
theorem cut_ok {k n : Int} {s y : ByteArray} {c : Fo} (h : ∀ x ∈ Tp.flat (.node k y n s c .nil), Nok x) : ∀ x ∈ cutF k n s c, Nok x := by
  intro x hx
  unfold cutF at hx
  rw [Tp.flat_node] at hx h
  rcases List.mem_cons.1 hx with rfl | hx
  · have := h _ (List.mem_cons_self ..)
    exact ⟨this.1, Nat.zero_le _, this.2.2⟩
  · exact h x (List.mem_cons_of_mem _ hx)
theorem keys_le : ∀ F : Fo, (Tp.keys F).length ≤ Tp.sz F
  | .nil => by simp [Tp.keys]
  | .node k y n s c r => by
    have := keys_le r
    rw [Tp.sz_node]
    simp only [Tp.keys, List.length_cons]
    omega

set_option maxHeartbeats 40000000 in
theorem tapeSorted (sv : Value) (ns : List Int) (W : World) (h : RdI W W.heap.size sv ns) (hok : ∀ x ∈ ns, -9223372036854775808 ≤ x ∧ x ≤ 9223372036854775807) (T : Tab W) :
    Calls Tryd.prog 3 #[.agg #[sv]] W fun e w' => e = .returned (.bool true) ∧ Below W.heap.size W w' := by
  obtain ⟨sa, sc, rfl, _⟩ := Gn.Rd.form h
  obtain ⟨N, hN⟩ : ∃ N, ns.length = N := ⟨_, rfl⟩
  rw [hN] at h ⊢
  obtain ⟨wa, hwa⟩ : ∃ wa, wa = W.alloc (.cells #[.slice sa N sc] 24) := ⟨_, rfl⟩
  have HBA : Hid (Below W.heap.size W wa) := Lib.hid (by rw [hwa]; exact up_new W _)
  have CD := Lib.hid (drawnC (.slice sa N sc) ns wa (Gn.Rd.later h HBA.out) hok (T.later HBA.out))
  have HT := Lib.hid T
  rw [hwa] at CD
  clear h hok T hN
  go_enter Tryd.func3, Tryd.ntmps3
  go_wp2_with fail
  ((with_reducible refine (CD.out).mono ?_); rintro e w2 ⟨v, F, rfl, ho, hd, b⟩)
  rw [← hwa] at b ho
  have HB2 := Lib.hid (up HBA.out b)
  have HDK := Lib.hid hd
  have HDS := Lib.hid hd.sorted
  have HR := Lib.hid (Gn.Own.rd ndL ho)
  obtain ⟨n, hn⟩ : ∃ n, Tp.sz F = n := ⟨_, rfl⟩
  have hnf : (Tp.flat F).length = n := by rw [flat_sz]; exact hn
  obtain ⟨va, vc, rfl⟩ := form_n HR.out n hnf
  have CS := Lib.hid (sorted _ _ w2 HR.out hd.ok (HT.out.later HB2.out) _ (.inl ⟨F, hd.may, rfl⟩))
  have HRS := Lib.hid (Tp.rs_sT F hd.good)
  have HNF := Lib.hid hnf
  have HN := Lib.hid hn
  clear b ho hd hwa CD hn hnf
  go_wp2_with fail
  ((with_reducible refine (CS.out).mono ?_); rintro e w3 ⟨u, rfl, ho, b⟩)
  have HB3 := Lib.hid (up HB2.out b)
  have HRU := Lib.hid (Gn.Own.rd ndL ho)
  obtain ⟨G, hG⟩ : ∃ G, G = Tp.sT F := ⟨_, rfl⟩
  have HGI : Hid (Tp.sT G = G) := Lib.hid (by rw [hG]; exact Tp.sT_idem F HDK.out.good)
  have HGD : Hid (Tp.dep G = Tp.dep F) := Lib.hid (by rw [hG]; exact Tp.sT_dep F)
  have HGF := Lib.hid hG
  rw [← hG] at HDS HRS HRU
  have hgn : Tp.sz G = n := by rw [hG, Tp.sT_sz]; exact HN.out
  have hnf : (Tp.flat G).length = n := by rw [flat_sz]; exact hgn
  obtain ⟨ua, uc, rfl⟩ := form_n HRU.out n hnf
  have HGN := Lib.hid hgn
  have HGL := Lib.hid hnf
  have HRT := Lib.hid (Gn.Rd.later HR.out b)
  have HTU := Lib.hid (HT.out.later HB3.out)
  have hn301 : n ≤ 301 := by rw [← HN.out]; exact HDK.out.sz
  have hd7 : Tp.dep F ≤ 7 := HDK.out.dep
  have K1 := Lib.hid (fun (wb : World) (hb : Below w3.heap.size w3 wb) => check _ _ wb (Gn.Rd.later HRU.out hb) HDS.out.ok (HTU.out.later hb) 0 (may_chk HDS.out.may).1)
  obtain ⟨d, hdd⟩ : ∃ d, Tp.dep F = d := ⟨_, rfl⟩
  have K2 := Lib.hid (fun (wb : World) (hb : Below w3.heap.size w3 wb) => deepOf _ _ wb (Gn.Rd.later HRU.out hb) HDS.out.ok (HTU.out.later hb) d (by rw [(may_chk HDS.out.may).2, HGD.out]; exact hdd))
  have K3 := Lib.hid (fun (wb : World) (hb : Below w3.heap.size w3 wb) => deepOf _ _ wb (Gn.Rd.later HRT.out hb) HDK.out.ok (HTU.out.later hb) d (by rw [(may_chk HDK.out.may).2]; exact hdd))
  have K4 := Lib.hid (fun (wb : World) (hb : Below w3.heap.size w3 wb) => same _ _ _ _ wb (Gn.Rd.later HRT.out hb) (Gn.Rd.later HRU.out hb) HDK.out.ok HDS.out.ok (HTU.out.later hb) (Tp.flat G) (Tp.flat G) (.inl ⟨F, HDK.out.may, by rw [HGF.out]⟩) (.inl ⟨G, HDS.out.may, by rw [HGI.out]⟩) true ⟨fun _ => ⟨by
    have h1 := HGL.out
    have h2 : 1 ≤ Tp.sz G := by obtain ⟨k, n', s, c, e⟩ := HDS.out.root; rw [e, Tp.sz_node]; omega
    rw [HGN.out] at h2
    intro e0
    rw [e0] at h1
    simp at h1
    omega, rfl⟩, fun _ => rfl⟩)
  have K5 := Lib.hid (fun (wb : World) (hb : Below w3.heap.size w3 wb) => sorted _ _ wb (Gn.Rd.later HRU.out hb) HDS.out.ok (HTU.out.later hb) (Tp.flat G) (.inl ⟨G, HDS.out.may, by rw [HGI.out]⟩))
  have K6 := Lib.hid (fun (v6 : Value) (wb : World) (hb : Below w3.heap.size w3 wb) (h6 : RdN wb wb.heap.size v6 (Tp.flat G)) => lawEq _ _ _ _ wb h6 (Gn.Rd.later HRU.out hb) (by rw [HGL.out]; omega) true ⟨fun _ => rfl, fun _ => rfl⟩)
  have KP := Lib.hid (fun (wb : World) (hb : Below w3.heap.size w3 wb) (i : Int) (hi : -9223372036854775808 ≤ i ∧ i ≤ 9223372036854775807) (r : List Nd) (hr : PartIs (Tp.flat G) i r) => part _ _ wb (Gn.Rd.later HRU.out hb) HDS.out.ok (HTU.out.later hb) i hi r hr)
  have KW := Lib.hid (fun (wb : World) (hb : Below w3.heap.size w3 wb) => works wb (HTU.out.later hb))
  clear b ho hG hgn hnf CS hd7 hdd
  go_wp2_with fail
  ((with_reducible refine (K1.out _ (Below.refl _ _)).mono ?_); rintro e w4 ⟨rfl, b⟩)
  have HX4 := Lib.hid b
  clear b
  go_wp2_with fail
  ((with_reducible refine (K2.out _ HX4.out).mono ?_); rintro e w5 ⟨rfl, b⟩)
  have HX5 := Lib.hid (up HX4.out b)
  clear b
  go_wp2_with fail
  ((with_reducible refine (K3.out _ HX5.out).mono ?_); rintro e w6 ⟨rfl, b⟩)
  have HX6 := Lib.hid (up HX5.out b)
  clear b
  go_wp2_with fail
  ((with_reducible refine (K4.out _ HX6.out).mono ?_); rintro e w7 ⟨rfl, b⟩)
  have HX7 := Lib.hid (up HX6.out b)
  clear b
  go_wp2_with fail
  ((with_reducible refine (K5.out _ HX7.out).mono ?_); rintro e w8 ⟨v8, rfl, ho8, b⟩)
  have HX8 := Lib.hid (up HX7.out b)
  have HR8 : Hid (RdN w8 w8.heap.size v8 (Tp.flat G)) := Lib.hid (Gn.Own.rd ndL ho8)
  obtain ⟨va8, vc8, rfl⟩ := form_n HR8.out n HGL.out
  clear b ho8
  go_wp2_with fail
  ((with_reducible refine (K6.out _ _ HX8.out HR8.out).mono ?_); rintro e w9 ⟨rfl, b⟩)
  have HX9 := Lib.hid (up HX8.out b)
  clear b K1 K2 K3 K4 K5 K6
  go_wp2_with fail
  go_loopw [6] (fun i wx => ∃ (k : Nat), i = .int .i64 (k : Nat) ∧ k ≤ n ∧ Hid (Below w3.heap.size w3 wx)) (fun i _ => n - (intOf i).toNat)
  case atStart => exact ⟨0, by rfl, by omega, HX9⟩
  case round =>
    obtain ⟨i, rfl, hi, HX⟩ := hrel
    by_cases hlt : i < n
    · have hlt1 : (i : Int) < n := by omega
      have hA0 : Tp.At (Tp.flat G) 0 G := Tp.at_flat G
      obtain ⟨k, y, nn, s, c, hAt, hg, hdp, hrise⟩ := sub_rs G 0 i hA0 HDS.out.good HRS.out (by rw [HGN.out]; exact hlt)
      rw [Nat.zero_add] at hAt
      have hAl := Tp.At.len hAt
      rw [Tp.sz_node, Tp.sz_nil, HGL.out] at hAl
      have hcs : 1 + Tp.sz c ≤ n := by omega
      have hcd : 1 + Tp.dep c ≤ 64 := by have := HDS.out.dep; simp only [Tp.dep] at hdp; omega
      have hx := (Tp.at_node.1 hAt).1
      obtain ⟨X, hX⟩ : ∃ X, X = cutF k nn s c := ⟨_, rfl⟩
      have HXM : Hid (May X (.node k ⟨#[]⟩ nn s c .nil)) := Lib.hid (by rw [hX]; exact cut_may hg (by omega) hcd)
      have HXL : Hid (X.length = 1 + Tp.sz c) := Lib.hid (by rw [hX]; show Tp.sz _ = _; rw [Tp.sz_node, Tp.sz_nil]; omega)
      have okX : ∀ x ∈ X, Nok x := by rw [hX]; exact cut_ok (flat_ok HDS.out.ok hAt)
      have CP := Lib.hid (KP.out wr HX.out (i : Int) (by omega) X (.inl ⟨i, k, y, nn, s, c, rfl, (may_chk HDS.out.may).1, HDS.out.may.1, hAt, hX⟩))
      have HXE := Lib.hid hX
      have HXI := Lib.hid hx
      have HRI := Lib.hid hrise
      clear hA0 hAt hg hdp hX hAl hx hrise
      go_wp2_with fail
      ((with_reducible refine (CP.out).mono ?_); rintro e a1 ⟨x, rfl, ho, b⟩)
      have HA1 := Lib.hid (up HX.out b)
      have HRX := Lib.hid (Gn.Own.rd ndL ho)
      obtain ⟨m, hm⟩ : ∃ m, X.length = m := ⟨_, rfl⟩
      have hmc : m = 1 + Tp.sz c := by rw [← hm]; exact HXL.out
      obtain ⟨xa, xc, rfl⟩ : ∃ a c, x = .slice a m c := form_n HRX.out m hm
      have KK := Lib.hid (kids _ X a1 HRX.out okX (HTU.out.later HA1.out) (plcs 1 c) (.inl ⟨k, ⟨#[]⟩, nn, s, c, HXM.out, rfl⟩))
      have HMC := Lib.hid hmc
      clear b ho CP hm hmc
      go_wp2_with fail
      ((with_reducible refine (KK.out).mono ?_); rintro e a3 ⟨vk, rfl, hok, b⟩)
      have HA3 := Lib.hid (up HA1.out b)
      replace HRX := Lib.hid (Gn.Rd.later HRX.out b)
      have HRK := Lib.hid (Gn.Own.rd inL hok)
      obtain ⟨L, hL⟩ : ∃ L, (plcs 1 c).length = L := ⟨_, rfl⟩
      obtain ⟨ka, kc, rfl⟩ : ∃ a c, vk = .slice a L c := by
        obtain ⟨a, c', e', _⟩ := Gn.Rd.form HRK.out
        exact ⟨a, c', by rw [← hL]; exact e'⟩
      have hLk : (Tp.keys c).length = L := by rw [← plcs_keys 1 c]; exact hL
      have hL301 : L ≤ 301 := by have := keys_le c; omega
      have HLK := Lib.hid hLk
      obtain ⟨b0, off, rfl, _, _, _, _, x4⟩ := rdN_cells HRU.out HA3.out HXI.out
      simp only at x4
      have q0 : ((m : Int) == 0) = false := by have := HMC.out; simp; omega
      have q1 : ((m : Int) != 1 + (Tp.sz c : Nat)) = false := by have := HMC.out; simp; omega
      clear b hok KK hL hLk
      go_wp2_with fail
      go_loopw [9] (fun jv wx => ∃ (q : Nat), jv = .int .i64 (q : Nat) ∧ 1 ≤ q ∧ q ≤ 302 ∧ Hid (Below a3.heap.size a3 wx)) (fun jv _ => 400 - (intOf jv).toNat)
      case atStart => exact ⟨1, by rfl, by omega, by omega, Lib.hid (Below.refl _ _)⟩
      case round =>
        obtain ⟨q, rfl, hq1, hq2, HB⟩ := hrel
        by_cases hlt : q < L
        · obtain ⟨p, hp⟩ : ∃ p, q = p + 1 := ⟨q - 1, by omega⟩
          have hlt1 : (q : Int) < L := by omega
          have hlt0 : (p : Int) < L := by omega
          have wp : IntKind.i64.wrap ((q : Int) - 1) = (p : Int) := by rw [IntWalk.i64_in _ ⟨by omega, by omega⟩]; omega
          rw [hp] at hlt
          obtain ⟨P, Q, na, nb, e1, e2, hPQ, x1, x2, hly⟩ := two_places (X := X) (by have := Tp.at_flat (.node k ⟨#[]⟩ nn s c .nil); rw [HXM.out.2.1.2.2] at this; exact this) HLK.out hlt
          have hQm : Q < m := by have := (List.getElem?_eq_some_iff.1 x2).1; have := HXL.out; have := HMC.out; omega
          have HRXB := Lib.hid (Gn.Rd.later HRX.out HB.out)
          have HRKB := Lib.hid (Gn.Rd.later HRK.out HB.out)
          obtain ⟨kb, ko, rfl, _⟩ := rdI_cell HRKB.out (Below.refl _ _) e1
          obtain ⟨xb, xo, rfl, _⟩ := rdN_cells HRXB.out (Below.refl _ _) x1
          have c0 : ∀ n, (wr.drewN n).cell? ⟨kb, ko + p, none⟩ = some (.int .i64 (P : Nat)) := fun n => keepI HRKB.out e1 (below_drewN (Below.refl _ _) n)
          have c1 : ∀ n, (wr.drewN n).cell? ⟨kb, ko + q, none⟩ = some (.int .i64 (Q : Nat)) := fun n => by rw [hp]; exact keepI HRKB.out e2 (below_drewN (Below.refl _ _) n)
          have x0 : X[0]? = some ⟨k, ⟨#[]⟩, nn, s, 1 + (Tp.sz c : Nat)⟩ := by rw [HXE.out]; rfl
          have z0 : ∀ n, (wr.drewN n).cell? ⟨xb, xo, none⟩ = some (.int .i64 k) := fun n => by
            have := (keep5 HRXB.out x0 (below_drewN (Below.refl _ _) n)).1
            simpa using this
          have z1 : ∀ n, (wr.drewN n).cell? ⟨xb, xo + P * 5 + 1, none⟩ = some (.string na.key) := fun n => (keep5 HRXB.out x1 (below_drewN (Below.refl _ _) n)).2.1
          have z2 : ∀ n, (wr.drewN n).cell? ⟨xb, xo + Q * 5 + 1, none⟩ = some (.string nb.key) := fun n => (keep5 HRXB.out x2 (below_drewN (Below.refl _ _) n)).2.1
          have hm0 : (0 : Int) < m := by omega
          have hm00 : 0 < m := by omega
          have hm000 : ¬ m = 0 := by omega
          have hP : (P : Int) < m := by omega
          have hQ : (Q : Int) < m := by omega
          have d0 : decide ((P : Int) < 0) = false := by simp
          have d1 : ¬ m ≤ Q := by omega
          have d2 : ¬ Q ≤ P := by omega
          have HBN := Lib.hid (fun n => below_drewN HB.out n)
          obtain ⟨ya, hya⟩ : ∃ ya, na.key = ya := ⟨_, rfl⟩
          obtain ⟨yb, hyb⟩ : ∃ yb, nb.key = yb := ⟨_, rfl⟩
          rw [hya] at z1 hly
          rw [hyb] at z2 hly
          have HRI2 := Lib.hid (fun (h7 : k = 7) => hly (HRI.out h7))
          clear e1 e2 x1 x2 x0 hya hyb hly hp hlt
          by_cases h7 : k = 7
          · have t7 : ((k : Int) == 7) = true := by simpa using h7
            have hl7 : Op.bytesLess ya.toList yb.toList = true := by
              have := HRI2.out h7
              rw [Tp.less_bl]; exact this
            clear h7
            go_wp2_with fail
            go_quiet (fail)
            have HBQ := Lib.hid (HBN.out nq)
            go_wp2_with fail
            go_roundw
            case rel => exact ⟨q + 1, by go_num, by omega, by omega, HBQ⟩
            case measure => simp [intOf]; omega
          · have t7 : ((k : Int) == 7) = false := by simpa using h7
            clear h7
            go_wp2_with fail
            go_quiet (fail)
            have HBQ := Lib.hid (HBN.out nq)
            go_wp2_with fail
            go_roundw
            case rel => exact ⟨q + 1, by go_num, by omega, by omega, HBQ⟩
            case measure => simp [intOf]; omega
        · have hlt1 : ¬ (q : Int) < L := by omega
          have HEND := Lib.hid (up HA3.out HB.out)
          go_wp2_with fail
          go_roundw
          case rel => exact ⟨i + 1, by go_num, by omega, HEND⟩
          case measure => simp [intOf]; omega
    · have hlt1 : ¬ (i : Int) < n := by omega
      go_wp2_with fail
      ((with_reducible refine (KW.out _ HX.out).mono ?_); rintro e a14 ⟨rfl, b⟩)
      have HX14 := Lib.hid (up HB3.out (up HX.out b))
      clear b
      go_wp2_with fail
      go_ret
      exact ⟨rfl, HX14.out⟩
end Go.Proofs.YteklcfimafplbaaDoor
