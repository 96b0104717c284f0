/- Several texts in one: Few8, Fq, KnownW8, ShowsW. -/
import Derived.Test.YtgmdjofnkbaflaaGreatDoorFew
import Derived.Test.YtgmdjofnkbaflaaGreatDoorMake
import Derived.Test.YtgmdjofnkbaflaaGreatDoorZs
import Derived.Test.YtgmdjofnkbaflaaGreatDoorRshow
import Derived.Test.YtgmdjofnkbaflaaGreatDoorRsame
import Derived.BigRegion
import Derived.Test.YtgmdjofnkbaflaaGreatDoorZk
import Derived.Lib.Repeat
/- law 08: few: nodes, 60 at most, of short texts. -/
namespace Go.Proofs.YtgmdjofnkbaflaaGreatDoor
open Go.RowKit
set_option linter.unusedVariables false
set_option maxRecDepth 100000

/-- A text that is cut. -/
def clip (K : Int) (s : ByteArray) : ByteArray := s.extract 0 (min (s.size : Int) K).toNat
theorem clip_size (K : Int) (s : ByteArray) (h0 : 0 ≤ K) : ((clip K s).size : Int) ≤ K := by
  unfold clip
  rw [ByteArray.size_extract]
  omega
theorem clip_run (K : Int) (hK : 0 ≤ K) (s0 : ByteArray) (w : World) : (Instr.slice 9 (.string s0) none (some (.int .i64 (min (s0.size : Int) K))) none).run Tryz.prog w = .ok (.string (clip K s0)) w := by
  rw [run_slice_string_to_if w 9 s0 .i64 _ Tryz.underlying9, if_pos (by omega)]
  rfl
def clipN (x : Nd) : Nd := ⟨x.kind, clip 40 x.key, x.n, clip 60 x.s, x.size⟩
def fewL (l : List Nd) : List Nd := (l.take 60).map clipN
theorem fewL_len (l : List Nd) : (fewL l).length ≤ 60 := by unfold fewL; simp; omega
theorem fewL_ok (l : List Nd) (h : ∀ x ∈ l, Nok x) : ∀ x ∈ fewL l, Nok x := by
  intro x hx
  obtain ⟨y, hy, rfl⟩ := List.mem_map.1 hx
  obtain ⟨h1, h2, h3, h4, h5⟩ := h y (List.mem_of_mem_take hy)
  have a1 := clip_size 40 y.key (by omega)
  have a2 := clip_size 60 y.s (by omega)
  exact ⟨h1, by simp only [clipN]; unfold maxLen; omega, h3, by simp only [clipN]; unfold maxLen; omega, h5⟩

set_option maxHeartbeats 4000000 in
theorem few (v : Value) (l : List Nd) (w : World) (h : RdN w w.heap.size v l) (hok : ∀ x ∈ l, Nok x) :
    Calls Tryz.prog 64 #[v] w fun e w' => MkPost w (fewL l) e w' := by
  have hll := Gn.Rd.len' h
  obtain ⟨ad, cp, rfl, _⟩ := Gn.Rd.form h
  obtain ⟨u, hu, hr⟩ := Gn.cut_to ndY w w.heap.size ad l l.length cp (min l.length 60) h rfl (by omega)
  rw [show ((min l.length 60 : Nat) : Int) = min (l.length : Int) 60 by omega] at hu
  obtain ⟨L, hL⟩ : ∃ L, l.take (min l.length 60) = L := ⟨_, rfl⟩
  rw [hL] at hr
  have hLe : l.take 60 = L := by
    rw [← hL]
    rcases Nat.le_total l.length 60 with h | h
    · rw [Nat.min_eq_left h, List.take_of_length_le h, List.take_of_length_le (Nat.le_refl _)]
    · rw [Nat.min_eq_right h]
  have hLl : L.length ≤ 60 := by rw [← hLe, List.length_take]; omega
  have HF : Hid (fewL l = L.map clipN) := Lib.hid (by unfold fewL; rw [hLe])
  have HK : Hid (∀ x ∈ L, Nok x) := Lib.hid (fun x hx => hok x (by rw [← hLe] at hx; exact List.mem_of_mem_take hx))
  have C := Lib.hid (rcopy u L w hr (by omega))
  clear h hr hok hL hLe
  go_enter Tryz.func64, Tryz.ntmps64
  go_wp2_with fail
  ((with_reducible refine (C.out).mono ?_); rintro e w2 ⟨s, rfl, ho, b2⟩)
  have HO := Lib.hid ho
  have HB := Lib.hid b2
  obtain ⟨ag, cg, rfl, _⟩ := Gn.Rd.form (Gn.Own.rd ndL ho)
  clear ho b2 hu C hll
  go_wp2_with fail
  go_loopw [3] (fun i wr => ∃ (k : Nat) (lk : List Nd), i = .int .i64 (k : Nat) ∧ k ≤ L.length ∧ Hid (lk.length = L.length ∧ lk = (L.take k).map clipN ++ L.drop k ∧ OwnN wr w.heap.size (.slice ag L.length cg) lk) ∧ Hid (Below w.heap.size w wr)) (fun i _ => L.length - (intOf i).toNat)
  case atStart => exact ⟨0, L, by rfl, by omega, Lib.hid ⟨rfl, by simp, HO.out⟩, HB⟩
  case round =>
    obtain ⟨k, lk, rfl, hk, HL, HU⟩ := hrel
    by_cases hlt : k < L.length
    · have hlt1 : (k : Int) < L.length := by omega
      have hkl : k < lk.length := by rw [HL.out.1]; exact hlt
      obtain ⟨x, hx⟩ : ∃ x, lk[k]? = some x := ⟨_, List.getElem?_eq_getElem hkl⟩
      have hxL : L[k]? = some x := by
        have e := HL.out.2.1
        rw [e, List.getElem?_append_right (by simp; omega)] at hx
        simpa [Nat.min_eq_left hk] using hx
      have hNk := HK.out x (List.mem_of_getElem? hxL)
      have hsz1 := hNk.2.1
      have hsz2 := hNk.2.2.2.1
      obtain ⟨g, rfl⟩ := own_addr HL.out.2.2 (by omega)
      obtain ⟨b, o, e, p0, p1, p2, p3, p4⟩ := rdN_cells (HL.out.1 ▸ Gn.Own.rd ndL HL.out.2.2) (Below.refl _ _) hx
      obtain ⟨rfl, rfl⟩ : g = b ∧ 0 = o := by injection e with e; injection e with e1 e2; exact ⟨e1, e2⟩
      simp only [Nat.zero_add] at p0 p1 p2 p3 p4
      have hf := own_melt HL.out.2.2 HL.out.1
      have d1 : ∀ n, (wr.drewN n).cell? ⟨g, k * 5 + 1, none⟩ = some (.string x.key) := fun n => p1
      have d3 : ∀ n, (wr.drewN n).cell? ⟨g, k * 5 + 3, none⟩ = some (.string x.s) := fun n => p3
      have df : ∀ n j, (wr.drewN n).frozen? ⟨g, j, none⟩ = false := fun n j => hf j
      have q1 := fun w => clip_run 40 (by omega) x.key w
      have q3 := fun w => clip_run 60 (by omega) x.s w
      have hgt : ∀ y : Nd, (lk.set k y)[k]? = some y := fun y => by rw [List.getElem?_set_self hkl]
      have HW : Hid ((lk.set k (clipN x)).length = L.length ∧ lk.set k (clipN x) = (L.take (k + 1)).map clipN ++ L.drop (k + 1) ∧ OwnN ((wr.setCell ⟨g, k * 5 + 1, none⟩ (.string (clip 40 x.key))).setCell ⟨g, k * 5 + 3, none⟩ (.string (clip 60 x.s))) w.heap.size (.slice (some ⟨g, 0, none⟩) L.length cg) (lk.set k (clipN x))) := Lib.hid (by
        have h1 := own_put (m := 1) (u := .string (clip 40 x.key)) (x' := ⟨x.kind, clip 40 x.key, x.n, x.s, x.size⟩) HL.out.2.2 HL.out.1 hx rfl (by omega)
        have h2 := own_put (m := 3) (u := .string (clip 60 x.s)) (x' := clipN x) h1 (by rw [List.length_set]; exact HL.out.1) (hgt _) rfl (by omega)
        rw [List.set_set] at h2
        refine ⟨by rw [List.length_set]; exact HL.out.1, ?_, h2⟩
        rw [HL.out.2.1, List.set_append_right (h := by simp; omega), List.length_map, List.length_take, Nat.min_eq_left hk, Nat.sub_self, List.take_succ_eq_append_getElem hlt, List.map_append]
        have hd : L.drop k = x :: L.drop (k + 1) := by
          rw [List.drop_eq_getElem_cons hlt]
          congr 1
          have := (List.getElem?_eq_some_iff.1 hxL).2
          exact this
        rw [hd, List.set_cons_zero, (List.getElem?_eq_some_iff.1 hxL).2]
        simp)
      have HG : Hid (w.heap.size ≤ g) := Lib.hid (Gn.Own.lt HL.out.2.2 g rfl).1
      unfold maxLen at hsz1 hsz2
      clear hx hxL e hkl hNk p0 p2 p4 hgt
      go_wp2_with fail
      go_region
      all_goals
        go_wp2_with fail
        go_region
        all_goals
          go_wp2_with fail
          go_roundw
          case rel => exact ⟨k + 1, _, by go_num, by omega, Lib.hid HW.out, Lib.hid ((HU.out.setCell (p := ⟨g, k * 5 + 1, none⟩) HG.out _).setCell (p := ⟨g, k * 5 + 3, none⟩) HG.out _).drew.drew⟩
          case measure => simp [intOf]; omega
    · have hlt1 : ¬ (k : Int) < L.length := by omega
      have HD : Hid (lk = fewL l) := Lib.hid (by
        rw [HF.out, HL.out.2.1, List.take_of_length_le (by omega), List.drop_of_length_le (by omega), List.append_nil])
      go_wp2_with fail
      go_ret
      exact ⟨_, rfl, by rw [← HD.out]; exact HL.out.1 ▸ HL.out.2.2, HU.out⟩
end Go.Proofs.YtgmdjofnkbaflaaGreatDoor

/- What is so of every node is so of every node when sorted. -/
namespace Go.Proofs.YtgmdjofnkbaflaaGreatDoor.Tp
open Go.RowKit
set_option linter.unusedVariables false

/-- What every node is. -/
def fq (P : Nd → Prop) : Fo → Prop
  | .nil => True
  | .node k y n s c r => P ⟨k, y, n, s, 1 + (sz c : Nat)⟩ ∧ fq P c ∧ fq P r
theorem fq_iff {P : Nd → Prop} : ∀ F, fq P F ↔ ∀ x ∈ flat F, P x
  | .nil => by simp [fq]
  | .node k y n s c r => by
    rw [fq, flat_node, fq_iff c, fq_iff r]
    constructor
    · rintro ⟨h1, h2, h3⟩ x hx
      rcases List.mem_cons.1 hx with rfl | hx
      · exact h1
      · rcases List.mem_append.1 hx with hx | hx
        · exact h2 x hx
        · exact h3 x hx
    · exact fun h => ⟨h _ (List.mem_cons_self ..), fun x hx => h x (List.mem_cons_of_mem _ (List.mem_append_left _ hx)), fun x hx => h x (List.mem_cons_of_mem _ (List.mem_append_right _ hx))⟩
theorem fq_app {P : Nd → Prop} : ∀ F G, fq P (app F G) ↔ fq P F ∧ fq P G
  | .nil, _ => by simp [app, fq]
  | .node k y n s c r, G => by simp only [app, fq]; rw [fq_app r G]; simp [and_assoc]
theorem fq_cat {P : Nd → Prop} : ∀ ts, fq P (cat ts) ↔ ∀ T ∈ ts, fq P T
  | [] => by simp [cat, fq]
  | T :: ts => by rw [cat, fq_app, fq_cat ts]; simp
theorem fq_srt {P : Nd → Prop} {F : Fo} (h : fq P F) : fq P (cat (srtL (trs F))) := by
  rw [fq_cat]
  have h2 : fq P (cat (trs F)) := by rw [cat_trs]; exact h
  rw [fq_cat] at h2
  exact fun T hT => h2 T ((srtL_perm _).mem_iff.1 hT)
theorem fq_sT {P : Nd → Prop} : ∀ F, fq P F → fq P (sT F)
  | .nil, _ => trivial
  | .node k y n s c r, ⟨g1, g2, g3⟩ => by
    rw [sT]
    have e : sz (if k = 7 then cat (srtL (trs (sT c))) else sT c) = sz c := by
      split
      · rw [cat_srt_sz, sT_sz]
      · rw [sT_sz]
    refine ⟨by rw [e]; exact g1, ?_, fq_sT r g3⟩
    split
    · exact fq_srt (fq_sT c g2)
    · exact fq_sT c g2
theorem sT_all {P : Nd → Prop} {F : Fo} (h : ∀ x ∈ flat F, P x) : ∀ x ∈ flat (sT F), P x := (fq_iff _).1 (fq_sT F ((fq_iff F).2 h))
end Go.Proofs.YtgmdjofnkbaflaaGreatDoor.Tp

/- The reference's Show and Canon; JshowShows: the walk. -/
namespace Go.Proofs.YtgmdjofnkbaflaaGreatDoor
open Go.RowKit
set_option linter.unusedVariables false
set_option maxRecDepth 100000

/-- Few nodes, of short texts. -/
structure FewI (l : List Nd) : Prop where
  len : l.length ≤ 60
  txt : ∀ x ∈ l, x.key.size ≤ 40 ∧ x.s.size ≤ 60
  ok : ∀ x ∈ l, Nok x
theorem FewI.tok {l : List Nd} (h : FewI l) : TOk l := fun x hx => by have := h.txt x hx; exact ⟨by omega, by omega⟩
theorem few_i (l : List Nd) (h : ∀ x ∈ l, Nok x) : FewI (fewL l) := by
  refine ⟨fewL_len l, fun x hx => ?_, fewL_ok l h⟩
  obtain ⟨y, hy, rfl⟩ := List.mem_map.1 hx
  have a1 := clip_size 40 y.key (by omega)
  have a2 := clip_size 60 y.s (by omega)
  exact ⟨by simp only [clipN]; omega, by simp only [clipN]; omega⟩
theorem FewI.small {l : List Nd} {F : Fo} (h : FewI l) (hM : May l F) : Jr.Small 40 60 F := by
  have e : Tp.flat F = l := hM.2.1.2.2
  intro x hx
  rw [e] at hx
  exact ⟨(h.txt x hx).1, (h.txt x hx).2, (h.ok x hx).2.2.1⟩
theorem FewI.short {l : List Nd} {F : Fo} (h : FewI l) (hM : May l F) : (Jr.shv F).length ≤ 37440 := by
  have h2 := h.small hM
  have e : Tp.sz F = l.length := by rw [← show Tp.flat F = l from hM.2.1.2.2]; rfl
  have h3 := h.len
  obtain ⟨_, ⟨⟨k, y, n, s, c, rfl, hy⟩, _⟩, _⟩ := hM
  have := Jr.shv_le h2
  omega
/-- The nodes of 60 at most are a tape, or none for one reason. -/
theorem FewI.chk {l : List Nd} (h : FewI l) : chk l = 0 ∨ chk l = 60 := by
  have h1 := h.len
  rcases chk_is l with ⟨h0, _, _⟩ | ⟨_, _, e, _⟩ | ⟨_, ⟨F, hR, hd⟩, _, _⟩ | ⟨_, e, _⟩
  · omega
  · exact .inr e
  · have h2 := dep_sz F
    have h3 : Tp.sz F = l.length := by rw [← hR.2.2]; rfl
    omega
  · exact .inl e
theorem FewI.sorted {l : List Nd} {F : Fo} (h : FewI l) (hM : May l F) : FewI (Tp.flat (Tp.sT F)) ∧ May (Tp.flat (Tp.sT F)) (Tp.sT F) := by
  have e : Tp.flat F = l := hM.2.1.2.2
  have hl : (Tp.flat (Tp.sT F)).length = l.length := by
    show Tp.sz _ = _
    rw [Tp.sT_sz, ← e]
    rfl
  refine ⟨⟨by rw [hl]; exact h.len, Tp.sT_all (P := fun x => x.key.size ≤ 40 ∧ x.s.size ≤ 60) (by rw [e]; exact h.txt), Tp.sT_all (P := Nok) (by rw [e]; exact h.ok)⟩, by rw [hl]; exact hM.1, ?_, by rw [Tp.sT_dep]; exact hM.2.2⟩
  obtain ⟨⟨k, y, n, s, c, rfl, hy⟩, hg, _⟩ := hM.2.1
  exact ⟨⟨k, y, n, s, _, by rw [Tp.sT]; rfl, hy⟩, Tp.sT_good _ hg, rfl⟩
theorem FewI.asked {l : List Nd} {k : Int} {y : ByteArray} {n : Int} {s : ByteArray} {c : Fo} (h : FewI l) (hM : May l (.node k y n s c .nil)) : ShI k y n s c := by
  have e : Tp.flat (.node k y n s c .nil) = l := hM.2.1.2.2
  have h2 := h.short hM
  refine ⟨hM.2.1.2.1, fun x hx => (h.ok x (by rw [← e]; exact hx)).2.2.1, fun x hx => by have := h.txt x (by rw [← e]; exact hx); omega, ?_, ?_⟩
  · have h3 := hM.1
    rw [← e] at h3
    have h4 : Tp.sz (.node k y n s c .nil) ≤ 4000 := h3
    rw [Tp.sz_node] at h4
    omega
  · have h3 : (Jr.one k n s (Jr.shp k true c)).length ≤ 37440 := h2
    omega

set_option maxHeartbeats 8000000 in
theorem rShowC (v : Value) (l : List Nd) (w : World) (h : RdN w w.heap.size v l) (hf : FewI l) (x : List Nat) (e : Int) (hx : ShIs l x e) :
    Calls Tryz.prog 66 #[v] w fun r w' => r = .returned (.tuple #[.string (str x), .int .i64 e]) ∧ Below w.heap.size w w' := by
  have HR := Lib.hid h
  have HF := Lib.hid hf
  have hll := Gn.Rd.len' h
  rcases hx with ⟨h0, rfl, rfl⟩ | ⟨F, hM, hx⟩
  · have CK := Lib.hid (rcheck v l w h hf.ok _ rfl)
    have hne : (chk l != 0) = true := by simpa using h0
    have HZ : Hid (⟨#[]⟩ = str []) := Lib.hid rfl
    obtain ⟨va, vc, rfl, _⟩ := Gn.Rd.form h
    clear h hf h0
    generalize chk l = ec at *
    go_enter Tryz.func66, Tryz.ntmps66
    go_wp2_with fail
    ((with_reducible refine (CK.out).mono ?_); rintro r w2 ⟨rfl, b⟩)
    have HB := Lib.hid b
    clear b CK
    go_wp2_with fail
    go_ret2
    exact ⟨by rw [← HZ.out]; rfl, HB.out⟩
  · have hsh := hf.short hM
    obtain ⟨rfl, rfl⟩ : e = 0 ∧ x = Jr.shv F := by
      rcases hx with ⟨_, h2, h3⟩ | ⟨h1, _⟩
      · exact ⟨h2, h3⟩
      · omega
    have CK := Lib.hid (rcheck v l w h hf.ok 0 (may_chk hM).1)
    have hM' := hM
    obtain ⟨_, ⟨⟨k, y, n, s, c, rfl, hy⟩, hg, hfl⟩, _⟩ := hM'
    have CS := Lib.hid (fun (wx : World) (hb : Below w.heap.size w wx) => rshown_all (Tp.sz c) k y n s c v wx (Nat.le_refl _) (hf.asked hM) (by rw [hfl]; exact Gn.Rd.later HR.out hb))
    obtain ⟨z, hz⟩ : ∃ z, str (Jr.shv (.node k y n s c .nil)) = z := ⟨_, rfl⟩
    have hz1 : str (Jr.one k n s (Jr.shp k true c)) = z := hz
    have hzs : z.size ≤ 37440 := by rw [← hz, str_size]; exact hsh
    rw [hz1] at CS
    rw [hz]
    obtain ⟨N, hN⟩ : ∃ N, l.length = N := ⟨_, rfl⟩
    have HN := Lib.hid hN
    have hN60 : N ≤ 60 := by rw [← hN]; exact hf.len
    obtain ⟨va, vc, rfl⟩ := rd_form h N hN
    have hbig : ¬ (1048576 : Int) < z.size := by omega
    clear h hf hM hx hsh hz hz1 hy hg hfl hN
    go_enter Tryz.func66, Tryz.ntmps66
    go_wp2_with fail
    ((with_reducible refine (CK.out).mono ?_); rintro r w2 ⟨rfl, b⟩)
    have HB := Lib.hid b
    clear b CK
    go_wp2_with fail
    go_loopw [5, 6] (fun mv iv wr => ∃ q M : Nat, mv = .int .i64 (M : Nat) ∧ iv = .int .i64 (q : Nat) ∧ q ≤ N ∧ M ≤ 100 * q ∧ Hid (Below w.heap.size w wr)) (fun _ iv _ => N - (intOf iv).toNat)
    case atStart => exact ⟨0, 0, by rfl, by rfl, by omega, by omega, HB⟩
    case round =>
      obtain ⟨q, M, rfl, rfl, hq, hMq, HU⟩ := hrel
      by_cases hlt : q < N
      · have hlt1 : (q : Int) < N := by omega
        obtain ⟨x, hx⟩ : ∃ x, l[q]? = some x := ⟨_, List.getElem?_eq_getElem (by rw [HN.out]; exact hlt)⟩
        obtain ⟨hk, hs⟩ := HF.out.txt x (List.mem_of_getElem? hx)
        obtain ⟨b0, off, rfl, p0, p1, p2, p3, p4⟩ := rdN_cells HR.out HU.out hx
        have d1 : ∀ m, (wr.drewN m).cell? ⟨b0, off + q * 5 + 1, none⟩ = some (.string x.key) := fun m => p1
        have d3 : ∀ m, (wr.drewN m).cell? ⟨b0, off + q * 5 + 3, none⟩ = some (.string x.s) := fun m => p3
        have h1 : ¬ (1048576 : Int) < x.s.size := by omega
        have h2 : ¬ (1048576 : Int) < x.key.size := by omega
        have h3 : ¬ (1048576 : Int) < (M : Nat) := by omega
        have HU2 := Lib.hid HU.out.drew
        clear hx
        go_wp2_with fail
        go_region
        all_goals
          go_wp2_with fail
          go_roundw
          case rel => exact ⟨q + 1, M + x.s.size + x.key.size, by go_num, by go_num, by omega, by omega, HU2⟩
          case measure => simp [intOf]; omega
      · have hlt1 : ¬ (q : Int) < N := by omega
        have C3 := Lib.hid (CS.out wr HU.out)
        clear CS
        go_wp2_with fail
        ((with_reducible refine (C3.out).mono ?_); rintro r w3 ⟨rfl, b⟩)
        have HB3 := Lib.hid (up HU.out b)
        clear b C3
        go_wp2_with fail
        go_ret2
        exact ⟨rfl, HB3.out⟩
/-- What Canon answers. -/
structure CanI (l : List Nd) (x : List Nat) (e : Int) : Prop where
  is : (chk l ≠ 0 ∧ e = 60 ∧ x = []) ∨ ∃ F, May l F ∧ ShIs (Tp.flat (Tp.sT F)) x e
set_option maxHeartbeats 8000000 in
theorem rCanonC (v : Value) (l : List Nd) (w : World) (h : RdN w w.heap.size v l) (hf : FewI l) (x : List Nat) (e : Int) (hx : CanI l x e) :
    Calls Tryz.prog 67 #[v] w fun r w' => r = .returned (.tuple #[.string (str x), .int .i64 e]) ∧ Below w.heap.size w w' := by
  have HR := Lib.hid h
  obtain ⟨va, vc, rfl, _⟩ := Gn.Rd.form h
  rcases hx.is with ⟨h0, rfl, rfl⟩ | ⟨F, hM, hx⟩
  · have h60 : chk l = 60 := by rcases hf.chk with h | h; exact absurd h h0; exact h
    have CK := Lib.hid (rcheck _ l w h hf.ok 60 h60)
    have HZ : Hid (⟨#[]⟩ = str []) := Lib.hid rfl
    clear h hf h0 h60 hx
    go_enter Tryz.func67, Tryz.ntmps67
    go_wp2_with fail
    ((with_reducible refine (CK.out).mono ?_); rintro r w2 ⟨rfl, b⟩)
    have HB := Lib.hid b
    clear b CK
    go_wp2_with fail
    go_ret2
    exact ⟨by rw [← HZ.out]; rfl, HB.out⟩
  · have CK := Lib.hid (rcheck _ l w h hf.ok 0 (may_chk hM).1)
    have CT := Lib.hid (fun (wx : World) (hb : Below w.heap.size w wx) => rsortedC _ l wx (Gn.Rd.later HR.out hb) hf.ok _ (.inl ⟨F, hM, rfl⟩))
    have CS := Lib.hid (fun (u : Value) (wx : World) (hu : RdN wx wx.heap.size u (Tp.flat (Tp.sT F))) => rShowC u _ wx hu (hf.sorted hM).1 x e hx)
    clear h hf hx hM
    go_enter Tryz.func67, Tryz.ntmps67
    go_wp2_with fail
    ((with_reducible refine (CK.out).mono ?_); rintro r w2 ⟨rfl, b⟩)
    have HB := Lib.hid b
    clear b CK
    go_wp2_with fail
    ((with_reducible refine (CT.out _ HB.out).mono ?_); rintro r w3 ⟨u, rfl, ho, b⟩)
    have HB3 := Lib.hid (up HB.out b)
    have C3 := Lib.hid (CS.out u w3 (Gn.Own.rd ndL ho))
    clear b ho CS CT
    go_wp2_with fail
    ((with_reducible refine (C3.out).mono ?_); rintro r w4 ⟨rfl, b⟩)
    have HB4 := Lib.hid (up HB3.out b)
    clear b C3
    go_wp2_with fail
    go_ret2
    exact ⟨rfl, HB4.out⟩
theorem can_ex {l : List Nd} (h : FewI l) : ∃ x e, CanI l x e ∧ ∃ r, SortIs l r ∧ (∀ z ∈ r, Nok z) ∧ TOk r ∧ ShIs r x e := by
  by_cases h0 : chk l = 0
  · obtain ⟨F, hM, _⟩ := may_of h0
    have h2 := (h.sorted hM).1
    obtain ⟨x, e, hx⟩ := sh_ex (Tp.flat (Tp.sT F))
    exact ⟨x, e, ⟨.inr ⟨F, hM, hx⟩⟩, _, .inl ⟨F, hM, rfl⟩, h2.ok, h2.tok, hx⟩
  · exact ⟨[], 60, ⟨.inl ⟨h0, rfl, rfl⟩⟩, [], .inr ⟨h0, rfl⟩, by simp, fun x hx => by simp at hx, nil_sh⟩

set_option maxHeartbeats 8000000 in
theorem jshowShows (v : Value) (l0 : List Nd) (W : World) (h : RdN W W.heap.size v l0) (hok : ∀ x ∈ l0, Nok x) (T : Tab W) (TP : TabP W) :
    Calls Tryz.prog 29 #[v] W fun e w' => e = .returned (.bool true) ∧ Below W.heap.size W w' := by
  have HT := Lib.hid T
  have HTP := Lib.hid TP
  have CF := Lib.hid (few v l0 W h hok)
  have hf := few_i l0 hok
  obtain ⟨va, vc, rfl, _⟩ := Gn.Rd.form h
  obtain ⟨l, hl⟩ : ∃ l, fewL l0 = l := ⟨_, rfl⟩
  rw [hl] at CF hf
  have HF := Lib.hid hf
  obtain ⟨x, e, hx⟩ := sh_ex l
  obtain ⟨x', e', hc, r, hr, hr1, hr2, hr3⟩ := can_ex hf
  have KC := Lib.hid (fun (u : Value) (wx : World) (hu : RdN wx wx.heap.size u l) => rcopy u l wx hu (by have := HF.out.len; omega))
  have K1 := Lib.hid (fun (u : Value) (wx : World) (hb : Below W.heap.size W wx) (hu : RdN wx wx.heap.size u l) => showC u l wx hu HF.out.ok HF.out.tok (HT.out.later hb) (HTP.out.later hb) x e hx)
  have K2 := Lib.hid (fun (u : Value) (wx : World) (hu : RdN wx wx.heap.size u l) => rShowC u l wx hu HF.out x e hx)
  have K3 := Lib.hid (fun (u : Value) (wx : World) (hb : Below W.heap.size W wx) (hu : RdN wx wx.heap.size u l) => canonC u l r wx hu HF.out.ok (HT.out.later hb) (HTP.out.later hb) hr hr1 hr2 x' e' hr3)
  have K4 := Lib.hid (fun (u : Value) (wx : World) (hu : RdN wx wx.heap.size u l) => rCanonC u l wx hu HF.out x' e' hc)
  have KE := Lib.hid (fun (u u' : Value) (wx : World) (hu : RdN wx wx.heap.size u l) (hu' : RdN wx wx.heap.size u' l) => rEq u u' l l wx hu hu' (by have := HF.out.len; omega) true ⟨fun _ => rfl, fun _ => rfl⟩)
  have KW := Lib.hid (fun (wx : World) (hb : Below W.heap.size W wx) => works8 wx (HT.out.later hb) (HTP.out.later hb))
  have q1 : ((str x).toList == (str x).toList) = true := by simp
  have q2 : ((str x').toList == (str x').toList) = true := by simp
  have q3 : (e == e) = true := by simp
  have q4 : (e' == e') = true := by simp
  clear h hok T TP hf hx hc hr hr1 hr2 hr3 hl
  generalize str x = z at *
  generalize str x' = z' at *
  go_enter Tryz.func29, Tryz.ntmps29
  go_wp2_with fail
  ((with_reducible refine (CF.out).mono ?_); rintro r w1 ⟨t, rfl, ho, b⟩)
  have HB1 := Lib.hid b
  have HT1 := Lib.hid (Gn.Own.rd ndL ho)
  have C2 := Lib.hid (KC.out t w1 HT1.out)
  clear b ho CF KC
  go_wp2_with fail
  ((with_reducible refine (C2.out).mono ?_); rintro r w2 ⟨u, rfl, ho, b⟩)
  have HB2 := Lib.hid (up HB1.out b)
  have HT2 := Lib.hid (Gn.Rd.later HT1.out b)
  have HU2 := Lib.hid (Gn.Own.rd ndL ho)
  have C3 := Lib.hid (K1.out t w2 HB2.out HT2.out)
  clear b ho C2 K1 HT1
  go_wp2_with fail
  ((with_reducible refine (C3.out).mono ?_); rintro r w3 ⟨rfl, b⟩)
  have HB3 := Lib.hid (up HB2.out b)
  have HT3 := Lib.hid (Gn.Rd.later HT2.out b)
  have HU3 := Lib.hid (Gn.Rd.later HU2.out b)
  have C4 := Lib.hid (K2.out u w3 HU3.out)
  clear b C3 K2 HT2 HU2
  go_wp2_with fail
  ((with_reducible refine (C4.out).mono ?_); rintro r w4 ⟨rfl, b⟩)
  have HB4 := Lib.hid (up HB3.out b)
  have HT4 := Lib.hid (Gn.Rd.later HT3.out b)
  have HU4 := Lib.hid (Gn.Rd.later HU3.out b)
  have C5 := Lib.hid (K3.out t w4 HB4.out HT4.out)
  clear b C4 K3 HT3 HU3
  go_wp2_with fail
  ((with_reducible refine (C5.out).mono ?_); rintro r w5 ⟨rfl, b⟩)
  have HB5 := Lib.hid (up HB4.out b)
  have HT5 := Lib.hid (Gn.Rd.later HT4.out b)
  have HU5 := Lib.hid (Gn.Rd.later HU4.out b)
  have C6 := Lib.hid (K4.out u w5 HU5.out)
  clear b C5 K4 HT4 HU4
  go_wp2_with fail
  ((with_reducible refine (C6.out).mono ?_); rintro r w6 ⟨rfl, b⟩)
  have HB6 := Lib.hid (up HB5.out b)
  have HT6 := Lib.hid (Gn.Rd.later HT5.out b)
  have HU6 := Lib.hid (Gn.Rd.later HU5.out b)
  have C7 := Lib.hid (KE.out t u w6 HT6.out HU6.out)
  clear b C6 KE HT5 HU5
  go_wp2_with fail
  ((with_reducible refine (C7.out).mono ?_); rintro r w7 ⟨rfl, b⟩)
  have HB7 := Lib.hid (up HB6.out b)
  have HT7 := Lib.hid (Gn.Rd.later HT6.out b)
  have HU7 := Lib.hid (Gn.Rd.later HU6.out b)
  have C8 := Lib.hid (KW.out w7 HB7.out)
  clear b C7 KW HT6 HU6
  go_wp2_with fail
  ((with_reducible refine (C8.out).mono ?_); rintro r w8 ⟨rfl, b⟩)
  have HB8 := Lib.hid (up HB7.out b)
  clear b C8
  go_wp2_with fail
  go_ret
  exact ⟨rfl, HB8.out⟩
end Go.Proofs.YtgmdjofnkbaflaaGreatDoor

/- JshowKnown: the walk. -/
namespace Go.Proofs.YtgmdjofnkbaflaaGreatDoor
open Go.RowKit
set_option linter.unusedVariables false
set_option maxRecDepth 100000

def reps (b : UInt8) (c : Nat) : ByteArray := ⟨(Lib.repeatL (⟨#[b]⟩ : ByteArray).data.toList c).toArray⟩
theorem bl_arr8 (l : List UInt8) : bl ⟨l.toArray⟩ = l.map UInt8.toNat := by unfold bl; simp
theorem reps_bl (b : UInt8) (c : Nat) : bl (reps b c) = List.replicate c b.toNat := by
  unfold reps
  rw [bl_arr8]
  induction c with
  | zero => rfl
  | succ c ih =>
    show ([b] ++ Lib.repeatL _ c).map UInt8.toNat = _
    rw [List.map_append, ih, List.replicate_succ]; rfl
theorem rep8 (b : UInt8) (c : Nat) (z : Int) (hz : z = (c : Nat)) (h : 2 ≤ c) (h1 : c ≤ 2000000) (w : World) : Calls Tryz.prog 17 #[.string ⟨#[b]⟩, .int .i64 z] w fun e w' => e = .returned (.string (reps b c)) ∧ Below w.heap.size w w' := by
  subst hz
  exact Tryz.strings_Repeat_main ⟨#[b]⟩ c w h (by omega) (by show 1 * c ≤ _; omega) (by show 0 < 1; decide)
theorem rep_vld (b : UInt8) (c : Nat) (h : b.toNat < 128) : Utf.vld (bl (reps b c)) = true := by
  rw [reps_bl]
  have e : Utf.encs (List.replicate c b.toNat) = List.replicate c b.toNat := by
    induction c with
    | zero => rfl
    | succ c ih =>
      rw [List.replicate_succ]
      show Utf.enc b.toNat ++ Utf.encs _ = _
      rw [ih, Utf.enc_low _ h]
      rfl
  have := Utf.vld_encs (List.replicate c b.toNat) [] (fun r hr => by rw [(List.mem_replicate.1 hr).2]; unfold Utf.isr; omega)
  rw [List.append_nil, e] at this
  rw [this]
  rfl
theorem rep_size (b : UInt8) (c : Nat) : (reps b c).size = c := by rw [← bl_length, reps_bl, List.length_replicate]
def txF (s : ByteArray) : Fo := .node 5 ⟨#[]⟩ 0 s .nil .nil
theorem tx_may (s : ByteArray) (hv : Utf.vld (bl s) = true) : May [nd1 5 0 s] (txF s) :=
  ⟨by show 1 ≤ 4000; decide, ⟨⟨5, ⟨#[]⟩, 0, s, .nil, rfl, rfl⟩, ⟨.inr (.inr (.inl ⟨rfl, rfl, hv⟩)), fun _ => rfl, Tp.ko_nil 5, trivial, trivial⟩, rfl⟩, by show 1 ≤ 64; decide⟩
theorem tx_ok (s : ByteArray) (hs : s.size ≤ 2000000) : (∀ x ∈ [nd1 5 0 s], Nok x) ∧ TOk [nd1 5 0 s] := by
  constructor
  · intro x hx
    rw [List.mem_singleton.1 hx]
    exact ⟨by simp only [nd1]; omega, Nat.zero_le _, by simp only [nd1]; omega, by show s.size ≤ _; unfold maxLen; omega, by simp only [nd1]; omega⟩
  · intro x hx
    rw [List.mem_singleton.1 hx]
    exact ⟨Nat.zero_le _, by show s.size ≤ _; omega⟩
theorem escs_rep (x m : Nat) (h : (Utf.escB x).length = m) : ∀ c, (Utf.escs (List.replicate c x)).length = c * m
  | 0 => by simp [Utf.escs]
  | c + 1 => by
    rw [List.replicate_succ, Utf.escs_cons, List.length_append, escs_rep x m h c, h, Nat.add_mul]
    omega
theorem tx_len (b : UInt8) (c m : Nat) (h : (Utf.escB b.toNat).length = m) : (Jr.shv (txF (reps b c))).length = c * m + 2 := by
  show (Jr.one 5 0 (reps b c) _).length = _
  unfold Jr.one Utf.tidy
  rw [reps_bl]
  simp [escs_rep b.toNat m h c]
theorem tx_fit (s : ByteArray) (hv : Utf.vld (bl s) = true) (h : (Jr.shv (txF s)).length ≤ 1048576) : ShIs [nd1 5 0 s] (Jr.shv (txF s)) 0 := .inr ⟨txF s, tx_may s hv, .inl ⟨h, rfl, rfl⟩⟩
theorem tx_big (s : ByteArray) (hv : Utf.vld (bl s) = true) (h : 1048576 < (Jr.shv (txF s)).length) : ShIs [nd1 5 0 s] [] 5 := .inr ⟨txF s, tx_may s hv, .inr ⟨h, rfl, rfl⟩⟩
theorem tx_sort (s : ByteArray) (hv : Utf.vld (bl s) = true) : SortIs [nd1 5 0 s] [nd1 5 0 s] := .inl ⟨txF s, tx_may s hv, rfl⟩
/-- Two texts in a list. -/
def twoF (s : ByteArray) : Fo := .node 6 ⟨#[]⟩ 0 ⟨#[]⟩ (mkC [⟨#[]⟩, ⟨#[]⟩] [txF s, txF s]) .nil
theorem two_root (s : ByteArray) : ∀ F ∈ [txF s, txF s], Root F := fun F hF => by
  simp at hF
  subst hF
  exact ⟨5, 0, s, .nil, rfl⟩
theorem two_good (s : ByteArray) (hv : Utf.vld (bl s) = true) : Tp.good (mkC [⟨#[]⟩, ⟨#[]⟩] [txF s, txF s]) := (mk_is [⟨#[]⟩, ⟨#[]⟩] [txF s, txF s] rfl (two_root s)).good (fun F hF => by
  simp at hF
  subst hF
  exact (tx_may s hv).2.1.2.1)
theorem two_ko (s : ByteArray) : Tp.ko 6 (Tp.keys (mkC [⟨#[]⟩, ⟨#[]⟩] [txF s, txF s])) := by
  unfold Tp.ko
  rw [if_neg (by decide)]
  intro y hy
  simp [mkC, txF, Tp.keys] at hy
  subst hy
  rfl
theorem two_join (s : ByteArray) (hv : Utf.vld (bl s) = true) : JoinIs 6 [⟨#[]⟩, ⟨#[]⟩] [[nd1 5 0 s], [nd1 5 0 s]] (Tp.flat (twoF s)) 0 := by
  have hM := mk_is [⟨#[]⟩, ⟨#[]⟩] [txF s, txF s] rfl (two_root s)
  have h1 : Tp.sz (mkC [⟨#[]⟩, ⟨#[]⟩] [txF s, txF s]) = 2 := rfl
  have h2 : Tp.dep (mkC [⟨#[]⟩, ⟨#[]⟩] [txF s, txF s]) = 1 := rfl
  have := join_is (.inl rfl) (two_good s hv) (two_ko s) (by omega) (by omega) (r := Tp.flat (twoF s)) (x := 0) (.inl ⟨by omega, by omega, rfl, rfl⟩)
  rw [hM.keys, hM.cks] at this
  exact this
theorem two_may (s : ByteArray) (hv : Utf.vld (bl s) = true) : May (Tp.flat (twoF s)) (twoF s) :=
  ⟨by show 3 ≤ 4000; decide, ⟨⟨6, ⟨#[]⟩, 0, ⟨#[]⟩, _, rfl, rfl⟩, ⟨.inr (.inr (.inr ⟨.inl rfl, rfl, rfl⟩)), fun h => by omega, two_ko s, two_good s hv, trivial⟩, rfl⟩, by show 2 ≤ 64; decide⟩
theorem two_ok (s : ByteArray) (hs : s.size ≤ 2000000) : (∀ x ∈ Tp.flat (twoF s), Nok x) ∧ TOk (Tp.flat (twoF s)) := by
  have e : Tp.flat (twoF s) = [⟨6, ⟨#[]⟩, 0, ⟨#[]⟩, 3⟩, nd1 5 0 s, nd1 5 0 s] := rfl
  obtain ⟨h1, h2⟩ := tx_ok s hs
  rw [e]
  constructor
  · intro x hx
    simp only [List.mem_cons, List.not_mem_nil, or_false] at hx
    rcases hx with rfl | rfl | rfl
    · exact ⟨by decide, Nat.zero_le _, by decide, Nat.zero_le _, by decide⟩
    · exact h1 _ (List.mem_singleton.2 rfl)
    · exact h1 _ (List.mem_singleton.2 rfl)
  · intro x hx
    simp only [List.mem_cons, List.not_mem_nil, or_false] at hx
    rcases hx with rfl | rfl | rfl
    · exact ⟨Nat.zero_le _, Nat.zero_le _⟩
    · exact h2 _ (List.mem_singleton.2 rfl)
    · exact h2 _ (List.mem_singleton.2 rfl)
theorem two_len (s : ByteArray) : (Jr.shv (twoF s)).length = 2 * (Jr.shv (txF s)).length + 3 := by
  show (Jr.one 6 0 ⟨#[]⟩ (Jr.shp 6 true (mkC [⟨#[]⟩, ⟨#[]⟩] [txF s, txF s]))).length = _
  have e : Jr.shp 6 true (mkC [⟨#[]⟩, ⟨#[]⟩] [txF s, txF s]) = Jr.shv (txF s) ++ (44 :: Jr.shv (txF s)) := by
    simp [mkC, txF, Jr.shp, Jr.shv, Jr.comma, Jr.keyT]
  rw [e]
  unfold Jr.one
  simp
  omega
theorem two_big (s : ByteArray) (hv : Utf.vld (bl s) = true) (h : 524288 < (Jr.shv (txF s)).length) : ShIs (Tp.flat (twoF s)) [] 5 := .inr ⟨twoF s, two_may s hv, .inr ⟨by rw [two_len]; omega, rfl, rfl⟩⟩
theorem rdN_lit8 (w : World) (l : List Nd) (cs : Array Value) (n : Nat) (hcs : cs = (Gn.cells ndc l).toArray) (hn : n = l.length) (hm : l.length ≤ maxLen) : RdN (w.alloc (.cells cs 28)) (w.alloc (.cells cs 28)).heap.size (.slice (some ⟨w.heap.size, 0, none⟩) n n) l :=
  Gn.Own.rd ndL (Gn.Own.lit (T := 28) ndL w w.heap.size l cs n n hcs hn rfl hm (Nat.le_refl _))
theorem rdS_two (w : World) (a : Option Addr) (n c : Nat) (l : List Nd) (h : RdN w w.heap.size (.slice a n c) l) (hok : ∀ x ∈ l, Nok x) : RdS (w.alloc (.cells #[.slice a n c, .slice a n c] 22)) (w.alloc (.cells #[.slice a n c, .slice a n c] 22)).heap.size (.slice (some ⟨w.heap.size, 0, none⟩) 2 2) [(⟨a, n, c⟩ : Sl), ⟨a, n, c⟩] [l, l] :=
  ⟨Gn.Own.rd slL (Gn.Own.lit (T := 22) slL w w.heap.size [(⟨a, n, c⟩ : Sl), ⟨a, n, c⟩] _ 2 2 rfl rfl rfl (by unfold maxLen; simp) (Nat.le_refl _)), rfl, fun i s l' h1 h2 => by
    have e1 : s = ⟨a, n, c⟩ ∧ l' = l := by
      match i with
      | 0 => simp at h1 h2; exact ⟨h1.symm, h2.symm⟩
      | 1 => simp at h1 h2; exact ⟨h1.symm, h2.symm⟩
      | i + 2 => simp at h1
    obtain ⟨rfl, rfl⟩ := e1
    exact ⟨Gn.Rd.later h (up_new w _), hok⟩⟩
def endsL : List Int := [-9223372036854775808, -9223372036854775807, -10, -9, -1, 0, 1, 9, 10, 99, 100, 9223372036854775807]
theorem ends_ok : ∀ x ∈ endsL, -9223372036854775808 ≤ x ∧ x ≤ 9223372036854775807 := by decide
/-- What is shown of nodes with a kind, a text, a name of one byte. -/
theorem node_ok (k : Int) (y : ByteArray) (s : ByteArray) (z : Int) (hk : 0 ≤ k ∧ k ≤ 255) (hy : y.size ≤ 1) (hs : s.size ≤ 1) (hz : 0 ≤ z ∧ z ≤ 3) : Nok ⟨k, y, 0, s, z⟩ :=
  ⟨by simp only; omega, by show y.size ≤ _; unfold maxLen; omega, by simp only; omega, by show s.size ≤ _; unfold maxLen; omega, by simp only; omega⟩

set_option maxHeartbeats 40000000 in
theorem jshowKnown (W : World) (T : Tab W) (TP : TabP W) :
    Calls Tryz.prog 11 #[] W fun e w' => e = .returned (.bool true) ∧ Below W.heap.size W w' := by
  have HT := Lib.hid T
  have HTP := Lib.hid TP
  have KS := Lib.hid (fun (v : Value) (l : List Nd) (wx : World) (hb : Below W.heap.size W wx) (h : RdN wx wx.heap.size v l) (hok : ∀ x ∈ l, Nok x) => jshowShows v l wx h hok (HT.out.later hb) (HTP.out.later hb))
  have ES : (W.alloc (.cells #[.int .i64 (-9223372036854775808), .int .i64 (-9223372036854775807), .int .i64 (-10), .int .i64 (-9), .int .i64 (-1), .int .i64 0, .int .i64 1, .int .i64 9, .int .i64 10, .int .i64 99, .int .i64 100, .int .i64 9223372036854775807] 2)) = W.alloc (.cells (endsL.map (fun x => Value.int .i64 x)).toArray 2) := rfl
  clear T TP
  obtain ⟨wa, hwa⟩ : ∃ wa, wa = W.alloc (.cells (endsL.map (fun x => Value.int .i64 x)).toArray 2) := ⟨_, rfl⟩
  have HBA : Hid (Below W.heap.size W wa) := Lib.hid (by rw [hwa]; exact up_new W _)
  have HBK : Hid (Blk wa W.heap.size 2 (endsL.map (fun x => Value.int .i64 x))) := Lib.hid (by
    have := Blk.new W 2 (endsL.map (fun x => Value.int .i64 x)).toArray
    rw [hwa]
    simpa using this)
  rw [← hwa] at ES
  replace ES := Lib.hid ES
  clear hwa
  go_enter Tryz.func11, Tryz.ntmps11
  go_wp2_with fail
  rw [ES.out]
  clear ES
  go_loopw [2] (fun i wr => ∃ q : Nat, q ≤ 12 ∧ i = .int .i64 (q : Nat) ∧ Hid (Below wa.heap.size wa wr)) (fun i _ => 12 - (intOf i).toNat)
  case atStart => exact ⟨0, by omega, by rfl, Lib.hid (Below.refl _ _)⟩
  case round =>
    obtain ⟨q, hq, rfl, HU⟩ := hrel
    by_cases hlt : q < 12
    · have hlt' : (q : Int) < 12 := by omega
      have hc := (HBK.out.later HU.out).cell q
      obtain ⟨x, hx⟩ : ∃ x, endsL[q]? = some x := ⟨_, List.getElem?_eq_getElem (by simpa [endsL] using hlt)⟩
      have HX := Lib.hid (ends_ok x (List.mem_of_getElem? hx))
      rw [List.getElem?_map, hx] at hc
      simp only [Option.map_some] at hc
      have CM := Lib.hid (mkNum x wr)
      clear hx
      go_wp2_with fail
      ((with_reducible refine (CM.out).mono ?_); rintro e w3 ⟨v, rfl, ho, b⟩)
      have HU3 := Lib.hid (up HU.out b)
      have C3 := Lib.hid (KS.out v _ w3 (up HBA.out HU3.out) (Gn.Own.rd ndL ho) (nok_one 4 x ⟨#[]⟩ (by decide) HX.out (by decide)).1)
      clear b ho CM hc
      go_wp2_with fail
      ((with_reducible refine (C3.out).mono ?_); rintro e w4 ⟨rfl, b⟩)
      have HU4 := Lib.hid (up HU3.out b)
      clear b C3
      go_wp2_with fail
      go_roundw
      case rel => exact ⟨q + 1, by omega, by go_num, HU4⟩
      case measure => simp [intOf]; omega
    · have hlt' : ¬ (q : Int) < 12 := by omega
      have HW := Lib.hid (up HBA.out HU.out)
      clear HBK HBA HU
      go_wp2_with fail
      go_loopw [3] (fun i ww => ∃ c : Nat, c ≤ 256 ∧ i = .int .i64 c ∧ Hid (Below W.heap.size W ww)) (fun i _ => 256 - (intOf i).toNat)
      case atStart => exact ⟨0, by omega, by rfl, HW⟩
      case round =>
        clear HW
        obtain ⟨c, hc, rfl, HB⟩ := hrel
        by_cases hlt2 : c < 256
        · skip
          have hlt2' : (c : Int) < 256 := by omega
          have cv := run_str (wr.alloc (.cells #[.int .u8 (c : Int)] 5)) _ _ [c] (rd_lit wr [c] #[.int .u8 (c : Int)] 1 rfl rfl (by simp) (by simp; omega))
          have HB1 : Hid (Below W.heap.size W (wr.alloc (.cells #[.int .u8 (c : Int)] 5))) := Lib.hid (up HB.out (up_new wr (.cells #[.int .u8 (c : Int)] 5)))
          have hbs : (str [c]).size = 1 := str_size [c]
          generalize str [c] = b at *
          clear HB
          have N1 := Lib.hid (KS.out (.slice (some ⟨wr.heap.size + 1, 0, none⟩) 1 1) [(⟨5, ⟨#[]⟩, 0, b, 1⟩ : Nd)] ((wr.alloc (.cells #[.int .u8 (c : Int)] 5)).alloc (.cells #[.int .i64 5, .string ⟨#[]⟩, .int .i64 0, .string b, .int .i64 1] 28)) (up HB1.out (up_new _ _)) (by have h := rdN_lit8 (wr.alloc (.cells #[.int .u8 (c : Int)] 5)) [(⟨5, ⟨#[]⟩, 0, b, 1⟩ : Nd)] #[.int .i64 5, .string ⟨#[]⟩, .int .i64 0, .string b, .int .i64 1] 1 rfl rfl (by unfold maxLen; simp); rw [World.size_alloc wr] at h; exact h) (by
            intro x hx
            simp only [List.mem_cons, List.not_mem_nil, or_false] at hx
            subst hx; exact node_ok _ _ _ _ (by omega) (by decide) (by omega) (by omega)))
          go_wp2_with fail
          ((with_reducible refine (N1.out).mono ?_); rintro e w2 ⟨rfl, bb⟩)
          have HB2 := Lib.hid (up (up HB1.out (up_new _ _)) bb)
          clear bb N1
          clear cv
          have N2 := Lib.hid (KS.out _ [(⟨7, ⟨#[]⟩, 0, ⟨#[]⟩, 2⟩ : Nd), ⟨1, b, 0, ⟨#[]⟩, 1⟩] (w2.alloc (.cells #[.int .i64 7, .string ⟨#[]⟩, .int .i64 0, .string ⟨#[]⟩, .int .i64 2, .int .i64 1, .string b, .int .i64 0, .string ⟨#[]⟩, .int .i64 1] 28)) (up HB2.out (up_new _ _)) (rdN_lit8 w2 [(⟨7, ⟨#[]⟩, 0, ⟨#[]⟩, 2⟩ : Nd), ⟨1, b, 0, ⟨#[]⟩, 1⟩] #[.int .i64 7, .string ⟨#[]⟩, .int .i64 0, .string ⟨#[]⟩, .int .i64 2, .int .i64 1, .string b, .int .i64 0, .string ⟨#[]⟩, .int .i64 1] 2 rfl rfl (by unfold maxLen; simp)) (by
            intro x hx
            simp only [List.mem_cons, List.not_mem_nil, or_false] at hx
            rcases hx with rfl | rfl
            · exact node_ok _ _ _ _ (by omega) (by decide) (by decide) (by omega)
            · exact node_ok _ _ _ _ (by omega) (by omega) (by decide) (by omega)))
          go_wp2_with fail
          ((with_reducible refine (N2.out).mono ?_); rintro e w3 ⟨rfl, bb⟩)
          have HB3 := Lib.hid (up (up HB2.out (up_new _ _)) bb)
          clear bb N2
          have N3 := Lib.hid (KS.out _ [(⟨(c : Nat), ⟨#[]⟩, 0, ⟨#[]⟩, 1⟩ : Nd)] (w3.alloc (.cells #[.int .i64 (c : Nat), .string ⟨#[]⟩, .int .i64 0, .string ⟨#[]⟩, .int .i64 1] 28)) (up HB3.out (up_new _ _)) (rdN_lit8 w3 [(⟨(c : Nat), ⟨#[]⟩, 0, ⟨#[]⟩, 1⟩ : Nd)] #[.int .i64 (c : Nat), .string ⟨#[]⟩, .int .i64 0, .string ⟨#[]⟩, .int .i64 1] 1 rfl rfl (by unfold maxLen; simp)) (by
            intro x hx
            simp only [List.mem_cons, List.not_mem_nil, or_false] at hx
            subst hx; exact node_ok _ _ _ _ (by omega) (by decide) (by decide) (by omega)))
          go_wp2_with fail
          ((with_reducible refine (N3.out).mono ?_); rintro e w4 ⟨rfl, bb⟩)
          have HB4 := Lib.hid (up (up HB3.out (up_new _ _)) bb)
          clear bb N3
          go_wp2_with fail
          go_roundw
          case rel => exact ⟨c + 1, by omega, by go_num, HB4⟩
          case measure => simp [intOf]; omega
        · skip
          have hlt2' : ¬ (c : Int) < 256 := by omega
          obtain ⟨s1, hs1⟩ : ∃ s, reps 97 1048574 = s := ⟨_, rfl⟩
          have hv1 : Utf.vld (bl s1) = true := by rw [← hs1]; exact rep_vld 97 1048574 (by decide)
          have hz1 : s1.size = 1048574 := by rw [← hs1]; exact rep_size 97 1048574
          have hl1 : (Jr.shv (txF s1)).length = 1048576 := by rw [← hs1, tx_len 97 1048574 1 rfl]
          have HR1 := Lib.hid (rep8 97 1048574 1048574 rfl (by decide) (by decide))
          rw [hs1] at HR1
          have HM1 := Lib.hid (fun (wx : World) (hb : Below W.heap.size W wx) => (show Calls Tryz.prog 31 #[.string s1] wx fun e w' => MkPost wx [nd1 5 0 s1] e w' from by
            have h := mkStr s1 wx (HT.out.later hb) (by rw [hz1]; decide)
            unfold strL at h
            rwa [if_pos hv1] at h))
          obtain ⟨s2, hs2⟩ : ∃ s, reps 97 1048575 = s := ⟨_, rfl⟩
          have hv2 : Utf.vld (bl s2) = true := by rw [← hs2]; exact rep_vld 97 1048575 (by decide)
          have hz2 : s2.size = 1048575 := by rw [← hs2]; exact rep_size 97 1048575
          have hl2 : (Jr.shv (txF s2)).length = 1048577 := by rw [← hs2, tx_len 97 1048575 1 rfl]
          have HR2 := Lib.hid (rep8 97 1048575 1048575 rfl (by decide) (by decide))
          rw [hs2] at HR2
          have HM2 := Lib.hid (fun (wx : World) (hb : Below W.heap.size W wx) => (show Calls Tryz.prog 31 #[.string s2] wx fun e w' => MkPost wx [nd1 5 0 s2] e w' from by
            have h := mkStr s2 wx (HT.out.later hb) (by rw [hz2]; decide)
            unfold strL at h
            rwa [if_pos hv2] at h))
          obtain ⟨s3, hs3⟩ : ∃ s, reps 0 174763 = s := ⟨_, rfl⟩
          have hv3 : Utf.vld (bl s3) = true := by rw [← hs3]; exact rep_vld 0 174763 (by decide)
          have hz3 : s3.size = 174763 := by rw [← hs3]; exact rep_size 0 174763
          have hl3 : (Jr.shv (txF s3)).length = 1048580 := by rw [← hs3, tx_len 0 174763 6 rfl]
          have HR3 := Lib.hid (rep8 0 174763 174763 rfl (by decide) (by decide))
          rw [hs3] at HR3
          have HM3 := Lib.hid (fun (wx : World) (hb : Below W.heap.size W wx) => (show Calls Tryz.prog 31 #[.string s3] wx fun e w' => MkPost wx [nd1 5 0 s3] e w' from by
            have h := mkStr s3 wx (HT.out.later hb) (by rw [hz3]; decide)
            unfold strL at h
            rwa [if_pos hv3] at h))
          obtain ⟨s4, hs4⟩ : ∃ s, reps 97 524288 = s := ⟨_, rfl⟩
          have hv4 : Utf.vld (bl s4) = true := by rw [← hs4]; exact rep_vld 97 524288 (by decide)
          have hz4 : s4.size = 524288 := by rw [← hs4]; exact rep_size 97 524288
          have hl4 : (Jr.shv (txF s4)).length = 524290 := by rw [← hs4, tx_len 97 524288 1 rfl]
          have HR4 := Lib.hid (rep8 97 524288 524288 rfl (by decide) (by decide))
          rw [hs4] at HR4
          have HM4 := Lib.hid (fun (wx : World) (hb : Below W.heap.size W wx) => (show Calls Tryz.prog 31 #[.string s4] wx fun e w' => MkPost wx [nd1 5 0 s4] e w' from by
            have h := mkStr s4 wx (HT.out.later hb) (by rw [hz4]; decide)
            unfold strL at h
            rwa [if_pos hv4] at h))
          have K1 := Lib.hid (fun (v : Value) (wx : World) (hb : Below W.heap.size W wx) (h : RdN wx wx.heap.size v [nd1 5 0 s1]) => showC v _ wx h (tx_ok s1 (by omega)).1 (tx_ok s1 (by omega)).2 (HT.out.later hb) (HTP.out.later hb) _ 0 (tx_fit s1 hv1 (by omega)))
          have K2 := Lib.hid (fun (v : Value) (wx : World) (hb : Below W.heap.size W wx) (h : RdN wx wx.heap.size v [nd1 5 0 s2]) => showC v _ wx h (tx_ok s2 (by omega)).1 (tx_ok s2 (by omega)).2 (HT.out.later hb) (HTP.out.later hb) _ 5 (tx_big s2 hv2 (by omega)))
          have K3 := Lib.hid (fun (v : Value) (wx : World) (hb : Below W.heap.size W wx) (h : RdN wx wx.heap.size v [nd1 5 0 s3]) => canonC v _ _ wx h (tx_ok s3 (by omega)).1 (HT.out.later hb) (HTP.out.later hb) (tx_sort s3 hv3) (tx_ok s3 (by omega)).1 (tx_ok s3 (by omega)).2 _ 5 (tx_big s3 hv3 (by omega)))
          have K4 := Lib.hid (fun (v : Value) (wx : World) (hb : Below W.heap.size W wx) (h : RdN wx wx.heap.size v (Tp.flat (twoF s4))) => showC v _ wx h (two_ok s4 (by omega)).1 (two_ok s4 (by omega)).2 (HT.out.later hb) (HTP.out.later hb) _ 5 (two_big s4 hv4 (by omega)))
          have KL := Lib.hid (fun (v : Value) (wx : World) (hb : Below W.heap.size W wx) (a : Option Addr) (n c : Nat) (h : RdS wx wx.heap.size v [(⟨a, n, c⟩ : Sl), ⟨a, n, c⟩] [[nd1 5 0 s4], [nd1 5 0 s4]]) => mkList v _ _ wx h (by show 2 ≤ 100000; decide) (HT.out.later hb) (Tp.flat (twoF s4)) 0 (by unfold ListIs; exact two_join s4 hv4))
          have OK4 := Lib.hid (tx_ok s4 (by omega)).1
          have KW := Lib.hid (fun (wx : World) (hb : Below W.heap.size W wx) => works8 wx (HT.out.later hb) (HTP.out.later hb))
          have hzl : (str (Jr.shv (txF s1))).size = 1048576 := by rw [str_size, hl1]
          generalize str (Jr.shv (txF s1)) = z1 at *
          generalize str [] = z0 at *
          clear hs1 hv1 hz1 hl1 hs2 hv2 hz2 hl2 hs3 hv3 hz3 hl3 hs4 hv4 hz4 hl4 KS
          have HY0 := HB
          have C0 := Lib.hid (HR1.out wr)
          go_wp2_with fail
          ((with_reducible refine (C0.out).mono ?_); rintro e y1 ⟨rfl, b⟩)
          have HY1 := Lib.hid (up HY0.out b)
          clear b C0 HR1
          have C1 := Lib.hid (HM1.out y1 HY1.out)
          go_wp2_with fail
          ((with_reducible refine (C1.out).mono ?_); rintro e y2 ⟨v1, rfl, ho, b⟩)
          have HY2 := Lib.hid (up HY1.out b)
          have HV1 := Lib.hid (Gn.Own.rd ndL ho)
          clear b ho C1 HM1
          have C2 := Lib.hid (K1.out v1 y2 HY2.out HV1.out)
          go_wp2_with fail
          ((with_reducible refine (C2.out).mono ?_); rintro e y3 ⟨rfl, b⟩)
          have HY3 := Lib.hid (up HY2.out b)
          clear b C2 K1 HV1
          have C3 := Lib.hid (HR2.out y3)
          go_wp2_with fail
          ((with_reducible refine (C3.out).mono ?_); rintro e y4 ⟨rfl, b⟩)
          have HY4 := Lib.hid (up HY3.out b)
          clear b C3 HR2
          have C4 := Lib.hid (HM2.out y4 HY4.out)
          go_wp2_with fail
          ((with_reducible refine (C4.out).mono ?_); rintro e y5 ⟨v2, rfl, ho, b⟩)
          have HY5 := Lib.hid (up HY4.out b)
          have HV2 := Lib.hid (Gn.Own.rd ndL ho)
          clear b ho C4 HM2
          have C5 := Lib.hid (K2.out v2 y5 HY5.out HV2.out)
          go_wp2_with fail
          ((with_reducible refine (C5.out).mono ?_); rintro e y6 ⟨rfl, b⟩)
          have HY6 := Lib.hid (up HY5.out b)
          clear b C5 K2 HV2
          have C6 := Lib.hid (HR3.out y6)
          go_wp2_with fail
          ((with_reducible refine (C6.out).mono ?_); rintro e y7 ⟨rfl, b⟩)
          have HY7 := Lib.hid (up HY6.out b)
          clear b C6 HR3
          have C7 := Lib.hid (HM3.out y7 HY7.out)
          go_wp2_with fail
          ((with_reducible refine (C7.out).mono ?_); rintro e y8 ⟨v3, rfl, ho, b⟩)
          have HY8 := Lib.hid (up HY7.out b)
          have HV3 := Lib.hid (Gn.Own.rd ndL ho)
          clear b ho C7 HM3
          have C8 := Lib.hid (K3.out v3 y8 HY8.out HV3.out)
          go_wp2_with fail
          ((with_reducible refine (C8.out).mono ?_); rintro e y9 ⟨rfl, b⟩)
          have HY9 := Lib.hid (up HY8.out b)
          clear b C8 K3 HV3
          have C9 := Lib.hid (HR4.out y9)
          go_wp2_with fail
          ((with_reducible refine (C9.out).mono ?_); rintro e y10 ⟨rfl, b⟩)
          have HY10 := Lib.hid (up HY9.out b)
          clear b C9 HR4
          have C10 := Lib.hid (HM4.out y10 HY10.out)
          go_wp2_with fail
          ((with_reducible refine (C10.out).mono ?_); rintro e y11 ⟨v4, rfl, ho, b⟩)
          have HY11 := Lib.hid (up HY10.out b)
          have HV4 := Lib.hid (Gn.Own.rd ndL ho)
          clear b ho C10 HM4
          obtain ⟨a4, c4, rfl⟩ := rd_form HV4.out 1 rfl
          have HRS := Lib.hid (rdS_two y11 a4 1 c4 _ HV4.out OK4.out)
          have C11 := Lib.hid (KL.out _ (y11.alloc (.cells #[.slice a4 1 c4, .slice a4 1 c4] 22)) (up HY11.out (up_new _ _)) a4 1 c4 HRS.out)
          go_wp2_with fail
          ((with_reducible refine (C11.out).mono ?_); rintro e y12 ⟨v5, rfl, ho, b⟩)
          have HY12 := Lib.hid (up (up HY11.out (up_new _ _)) b)
          have HV5 := Lib.hid (Gn.Own.rd ndL ho)
          clear b ho C11 KL HV4 HRS
          have C12 := Lib.hid (K4.out v5 y12 HY12.out HV5.out)
          go_wp2_with fail
          ((with_reducible refine (C12.out).mono ?_); rintro e y13 ⟨rfl, b⟩)
          have HY13 := Lib.hid (up HY12.out b)
          clear b C12 K4 HV5
          have C13 := Lib.hid (KW.out y13 HY13.out)
          go_wp2_with fail
          ((with_reducible refine (C13.out).mono ?_); rintro e y14 ⟨rfl, b⟩)
          have HY14 := Lib.hid (up HY13.out b)
          clear b C13 KW
          go_wp2_with fail
          go_ret
          exact ⟨rfl, HY14.out⟩
end Go.Proofs.YtgmdjofnkbaflaaGreatDoor
