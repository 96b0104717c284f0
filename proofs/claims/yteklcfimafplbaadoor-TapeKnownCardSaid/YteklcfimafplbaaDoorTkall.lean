/- Several texts in one: AgainW, Few2, JoinF, MakesW, Rlist, Rmade, Rsame, RsortP, Rsorted, Slic, TellsW, Tknow, TknowP. -/
import Derived.Test.YteklcfimafplbaaDoorFew
import Derived.Test.YteklcfimafplbaaDoorMake
import Derived.Test.YteklcfimafplbaaDoorOrd
import Derived.Test.YteklcfimafplbaaDoorRdeep
import Derived.Test.YteklcfimafplbaaDoorKids
import Derived.Deep.RegionHeld3
import Derived.BigQuiet
import Derived.Deep.RegionLaw
import Derived.Test.YteklcfimafplbaaDoorSame
import Derived.Test.YteklcfimafplbaaDoorRcheck
import Derived.Test.YteklcfimafplbaaDoorWorks
import Derived.Test.YteklcfimafplbaaDoorRget
import Derived.Test.YteklcfimafplbaaDoorJoinP
import Derived.Test.YteklcfimafplbaaDoorJoinL
import Derived.Test.YteklcfimafplbaaDoorListP
import Derived.BigRegion
/- few: nodes, 60 at most, of short texts. -/
namespace Go.Proofs.YteklcfimafplbaaDoor
open Go.RowKit
set_option linter.unusedVariables false
set_option maxRecDepth 100000

/-- A text that is cut. -/
def clip (K : Int) (s : ByteArray) : ByteArray := s.extract 0 (min (s.size : Int) K).toNat
theorem clip_size (K : Int) (s : ByteArray) (h0 : 0 ≤ K) : ((clip K s).size : Int) ≤ K := by
  unfold clip
  rw [ByteArray.size_extract]
  omega
theorem clip_run (K : Int) (hK : 0 ≤ K) (s0 : ByteArray) (w : World) : (Instr.slice 9 (.string s0) none (some (.int .i64 (min (s0.size : Int) K))) none).run Tryd.prog w = .ok (.string (clip K s0)) w := by
  rw [run_slice_string_to_if w 9 s0 .i64 _ Tryd.underlying9, if_pos (by omega)]
  rfl
def clipN (x : Nd) : Nd := ⟨x.kind, clip 40 x.key, x.n, clip 60 x.s, x.size⟩
def fewL (l : List Nd) : List Nd := (l.take 60).map clipN
theorem fewL_len (l : List Nd) : (fewL l).length ≤ 60 := by unfold fewL; simp; omega
theorem fewL_ok (l : List Nd) (h : ∀ x ∈ l, Nok x) : ∀ x ∈ fewL l, Nok x := by
  intro x hx
  obtain ⟨y, hy, rfl⟩ := List.mem_map.1 hx
  obtain ⟨h1, h2, h3, h4, h5⟩ := h y (List.mem_of_mem_take hy)
  have a1 := clip_size 40 y.key (by omega)
  have a2 := clip_size 60 y.s (by omega)
  exact ⟨h1, by simp only [clipN]; unfold maxLen; omega, h3, by simp only [clipN]; unfold maxLen; omega, h5⟩

set_option maxHeartbeats 4000000 in
theorem few (v : Value) (l : List Nd) (w : World) (h : RdN w w.heap.size v l) (hok : ∀ x ∈ l, Nok x) :
    Calls Tryd.prog 48 #[v] w fun e w' => MkPost w (fewL l) e w' := by
  have hll := Gn.Rd.len' h
  obtain ⟨ad, cp, rfl, _⟩ := Gn.Rd.form h
  obtain ⟨u, hu, hr⟩ := Gn.cut_to ndY w w.heap.size ad l l.length cp (min l.length 60) h rfl (by omega)
  rw [show ((min l.length 60 : Nat) : Int) = min (l.length : Int) 60 by omega] at hu
  obtain ⟨L, hL⟩ : ∃ L, l.take (min l.length 60) = L := ⟨_, rfl⟩
  rw [hL] at hr
  have hLe : l.take 60 = L := by
    rw [← hL]
    rcases Nat.le_total l.length 60 with h | h
    · rw [Nat.min_eq_left h, List.take_of_length_le h, List.take_of_length_le (Nat.le_refl _)]
    · rw [Nat.min_eq_right h]
  have hLl : L.length ≤ 60 := by rw [← hLe, List.length_take]; omega
  have HF : Hid (fewL l = L.map clipN) := Lib.hid (by unfold fewL; rw [hLe])
  have HK : Hid (∀ x ∈ L, Nok x) := Lib.hid (fun x hx => hok x (by rw [← hLe] at hx; exact List.mem_of_mem_take hx))
  have C := Lib.hid (rcopy u L w hr (by omega))
  clear h hr hok hL hLe
  go_enter Tryd.func48, Tryd.ntmps48
  go_wp2_with fail
  ((with_reducible refine (C.out).mono ?_); rintro e w2 ⟨s, rfl, ho, b2⟩)
  have HO := Lib.hid ho
  have HB := Lib.hid b2
  obtain ⟨ag, cg, rfl, _⟩ := Gn.Rd.form (Gn.Own.rd ndL ho)
  clear ho b2 hu C hll
  go_wp2_with fail
  go_loopw [3] (fun i wr => ∃ (k : Nat) (lk : List Nd), i = .int .i64 (k : Nat) ∧ k ≤ L.length ∧ Hid (lk.length = L.length ∧ lk = (L.take k).map clipN ++ L.drop k ∧ OwnN wr w.heap.size (.slice ag L.length cg) lk) ∧ Hid (Below w.heap.size w wr)) (fun i _ => L.length - (intOf i).toNat)
  case atStart => exact ⟨0, L, by rfl, by omega, Lib.hid ⟨rfl, by simp, HO.out⟩, HB⟩
  case round =>
    obtain ⟨k, lk, rfl, hk, HL, HU⟩ := hrel
    by_cases hlt : k < L.length
    · have hlt1 : (k : Int) < L.length := by omega
      have hkl : k < lk.length := by rw [HL.out.1]; exact hlt
      obtain ⟨x, hx⟩ : ∃ x, lk[k]? = some x := ⟨_, List.getElem?_eq_getElem hkl⟩
      have hxL : L[k]? = some x := by
        have e := HL.out.2.1
        rw [e, List.getElem?_append_right (by simp; omega)] at hx
        simpa [Nat.min_eq_left hk] using hx
      have hNk := HK.out x (List.mem_of_getElem? hxL)
      have hsz1 := hNk.2.1
      have hsz2 := hNk.2.2.2.1
      obtain ⟨g, rfl⟩ := own_addr HL.out.2.2 (by omega)
      obtain ⟨b, o, e, p0, p1, p2, p3, p4⟩ := rdN_cells (HL.out.1 ▸ Gn.Own.rd ndL HL.out.2.2) (Below.refl _ _) hx
      obtain ⟨rfl, rfl⟩ : g = b ∧ 0 = o := by injection e with e; injection e with e1 e2; exact ⟨e1, e2⟩
      simp only [Nat.zero_add] at p0 p1 p2 p3 p4
      have hf := own_melt HL.out.2.2 HL.out.1
      have d1 : ∀ n, (wr.drewN n).cell? ⟨g, k * 5 + 1, none⟩ = some (.string x.key) := fun n => p1
      have d3 : ∀ n, (wr.drewN n).cell? ⟨g, k * 5 + 3, none⟩ = some (.string x.s) := fun n => p3
      have df : ∀ n j, (wr.drewN n).frozen? ⟨g, j, none⟩ = false := fun n j => hf j
      have q1 := fun w => clip_run 40 (by omega) x.key w
      have q3 := fun w => clip_run 60 (by omega) x.s w
      have hgt : ∀ y : Nd, (lk.set k y)[k]? = some y := fun y => by rw [List.getElem?_set_self hkl]
      have HW : Hid ((lk.set k (clipN x)).length = L.length ∧ lk.set k (clipN x) = (L.take (k + 1)).map clipN ++ L.drop (k + 1) ∧ OwnN ((wr.setCell ⟨g, k * 5 + 1, none⟩ (.string (clip 40 x.key))).setCell ⟨g, k * 5 + 3, none⟩ (.string (clip 60 x.s))) w.heap.size (.slice (some ⟨g, 0, none⟩) L.length cg) (lk.set k (clipN x))) := Lib.hid (by
        have h1 := own_put (m := 1) (u := .string (clip 40 x.key)) (x' := ⟨x.kind, clip 40 x.key, x.n, x.s, x.size⟩) HL.out.2.2 HL.out.1 hx rfl (by omega)
        have h2 := own_put (m := 3) (u := .string (clip 60 x.s)) (x' := clipN x) h1 (by rw [List.length_set]; exact HL.out.1) (hgt _) rfl (by omega)
        rw [List.set_set] at h2
        refine ⟨by rw [List.length_set]; exact HL.out.1, ?_, h2⟩
        rw [HL.out.2.1, List.set_append_right (h := by simp; omega), List.length_map, List.length_take, Nat.min_eq_left hk, Nat.sub_self, List.take_succ_eq_append_getElem hlt, List.map_append]
        have hd : L.drop k = x :: L.drop (k + 1) := by
          rw [List.drop_eq_getElem_cons hlt]
          congr 1
          have := (List.getElem?_eq_some_iff.1 hxL).2
          exact this
        rw [hd, List.set_cons_zero, (List.getElem?_eq_some_iff.1 hxL).2]
        simp)
      have HG : Hid (w.heap.size ≤ g) := Lib.hid (Gn.Own.lt HL.out.2.2 g rfl).1
      unfold maxLen at hsz1 hsz2
      clear hx hxL e hkl hNk p0 p2 p4 hgt
      go_wp2_with fail
      go_region
      all_goals
        go_wp2_with fail
        go_region
        all_goals
          go_wp2_with fail
          go_roundw
          case rel => exact ⟨k + 1, _, by go_num, by omega, Lib.hid HW.out, Lib.hid ((HU.out.setCell (p := ⟨g, k * 5 + 1, none⟩) HG.out _).setCell (p := ⟨g, k * 5 + 3, none⟩) HG.out _).drew.drew⟩
          case measure => simp [intOf]; omega
    · have hlt1 : ¬ (k : Int) < L.length := by omega
      have HD : Hid (lk = fewL l) := Lib.hid (by
        rw [HF.out, HL.out.2.1, List.take_of_length_le (by omega), List.drop_of_length_le (by omega), List.append_nil])
      go_wp2_with fail
      go_ret
      exact ⟨_, rfl, by rw [← HD.out]; exact HL.out.1 ▸ HL.out.2.2, HU.out⟩
end Go.Proofs.YteklcfimafplbaaDoor

/- Sorting by insertion, plainly: what one more part does. -/
namespace Go.Proofs.YteklcfimafplbaaDoor.Tp
open Go.RowKit
set_option linter.unusedVariables false

noncomputable def resF (m : Bool) (G : Fo) : Fo := if m = true then cat (srtL (trs (sT G))) else sT G
theorem resF_nil (m : Bool) : resF m .nil = .nil := by cases m <;> rfl
theorem resF_sz (m : Bool) (G : Fo) : sz (resF m G) = sz G := by
  cases m
  · exact sT_sz G
  · show sz (cat (srtL (trs (sT G)))) = _
    rw [cat_srt_sz, sT_sz]
theorem resF_one (b : Bool) (k : Int) (y : ByteArray) (n : Int) (s : ByteArray) (c : Fo) (hb : ((k : Int) == 7) = b) : sT (.node k y n s c .nil) = .node k y n s (resF b c) .nil := by
  rw [sT]
  cases b
  · have : k ≠ 7 := by simpa using hb
    rw [if_neg this]; rfl
  · have : k = 7 := by simpa using hb
    rw [if_pos this]; rfl
theorem srtL_snoc (ts : List Fo) (T : Fo) : srtL (ts ++ [T]) = insL T (srtL ts) := by unfold srtL; rw [List.foldl_append]; rfl
theorem insL_split (T : Fo) : ∀ (a b : List Fo), (∀ S ∈ a, ly (kyo S) (kyo T) = true) → (∀ S b', b = S :: b' → ly (kyo S) (kyo T) = false) → insL T (a ++ b) = a ++ T :: b
  | [], [], _, _ => rfl
  | [], S :: b, _, h => by
    have := h S b rfl
    simp [insL, this]
  | S :: a, b, h1, h2 => by
    have := h1 S (List.mem_cons_self ..)
    simp only [List.cons_append, insL, this, if_true]
    rw [insL_split T a b (fun S hS => h1 S (List.mem_cons_of_mem _ hS)) h2]
/-- How one more part is put: before P, behind Q. -/
structure Ins (m : Bool) (D : Fo) (U D2 P Q : Fo) : Prop where
  was : resF m D = app P Q
  is : resF m D2 = app P (app U Q)
theorem ins_no (D : Fo) (k : Int) (y : ByteArray) (n : Int) (s : ByteArray) (c : Fo) : Ins false D (sT (.node k y n s c .nil)) (app D (.node k y n s c .nil)) (resF false D) .nil :=
  ⟨(app_nil _).symm, by rw [app_nil]; exact sT_app _ _⟩
theorem ins_yes (D : Fo) (k : Int) (y : ByteArray) (n : Int) (s : ByteArray) (c : Fo) (a b : List Fo) (h : srtL (trs (sT D)) = a ++ b) (h1 : ∀ S ∈ a, ly (kyo S) y = true) (h2 : ∀ S b', b = S :: b' → ly (kyo S) y = false) :
    Ins true D (sT (.node k y n s c .nil)) (app D (.node k y n s c .nil)) (cat a) (cat b) := by
  refine ⟨by show cat (srtL (trs (sT D))) = _; rw [h, cat_append], ?_⟩
  show cat (srtL (trs (sT (app D _)))) = _
  have e : trs (sT (.node k y n s c .nil)) = [sT (.node k y n s c .nil)] := rfl
  have ek : kyo (sT (.node k y n s c .nil)) = y := rfl
  have ea : app (sT (.node k y n s c .nil)) (cat b) = cat (sT (.node k y n s c .nil) :: b) := rfl
  rw [sT_app, trs_app, e, srtL_snoc, h, insL_split _ a b (by rw [ek]; exact h1) (by rw [ek]; exact h2), cat_append, ea]
/-- The next part of a row that is sorted. -/
theorem next_part (D : Fo) (a b : List Fo) (h : srtL (trs (sT D)) = a ++ b) (hlt : sz (cat a) < sz D) : ∃ k y n s c b', b = .node k y n s c .nil :: b' ∧ (flat (resF true D))[sz (cat a)]? = some ⟨k, y, n, s, 1 + (sz c : Nat)⟩ ∧ sz (cat (a ++ [.node k y n s c .nil])) = sz (cat a) + (1 + sz c) ∧ sz (cat a) + (1 + sz c) ≤ sz D := by
  have e : resF true D = cat (a ++ b) := by show cat (srtL (trs (sT D))) = _; rw [h]
  have hs : sz (cat (a ++ b)) = sz D := by rw [← e, resF_sz]
  rw [cat_append, sz_app] at hs
  cases b with
  | nil => simp [cat] at hs; omega
  | cons S b' =>
    obtain ⟨k, y, n, s, c, rfl⟩ := srt_single (sT D) S (by rw [h]; simp)
    refine ⟨k, y, n, s, c, b', rfl, ?_, ?_, ?_⟩
    · have hA := at_flat (resF true D)
      rw [e, cat_append] at hA ⊢
      obtain ⟨k', y', n', s', c', r', hR, hx, _⟩ := at_split (D := cat a) (R := cat (.node k y n s c .nil :: b')) hA (by simp only [cat, app, sz_node]; omega)
      simp only [cat, app] at hR
      injection hR with e1 e2 e3 e4 e5 e6
      subst e1 e2 e3 e4 e5
      rw [Nat.zero_add] at hx
      exact hx
    · rw [cat_append, sz_app]
      simp only [cat, app, sz_node, sz_nil]; omega
    · simp only [cat, app, sz_node] at hs
      omega
end Go.Proofs.YteklcfimafplbaaDoor.Tp

/- sorted, of the reference. -/
namespace Go.Proofs.YteklcfimafplbaaDoor
open Go.RowKit
set_option linter.unusedVariables false
set_option maxRecDepth 100000

def SClaim (v : Value) (l : List Nd) (n : Nat) : Prop :=
  ∀ (a : Nat) (A E : Int) (G : Fo) (m : Bool) (w : World), Tp.sz G < n → A = (a : Nat) → E = A + (Tp.sz G : Nat) → Tp.At l a G → RdN w w.heap.size v l →
    Calls Tryd.prog 93 #[v, .int .i64 A, .int .i64 E, .bool m] w fun e w' => MkPost w (Tp.flat (Tp.resF m G)) e w'
theorem dN {B : Nat} {a w : World} (h : Below B a w) (n : Nat) : Below B a (w.drewN n) := ⟨h.os, h.tape, h.output, h.size, h.block⟩
theorem own_new {w w' : World} (h : w.grownBy w' none) : Below w.heap.size w w' := (Below.refl _ _).grown h (Nat.le_refl _) (fun g hg => by cases hg)

theorem flat_one (b : Bool) (k : Int) (y : ByteArray) (n : Int) (s : ByteArray) (c : Fo) (hb : ((k : Int) == 7) = b) : Tp.flat (Tp.sT (.node k y n s c .nil)) = [(⟨k, y, n, s, 1 + (Tp.sz c : Nat)⟩ : Nd)] ++ Tp.flat (Tp.resF b c) := by
  rw [Tp.resF_one b k y n s c hb, Tp.flat_node, Tp.resF_sz]
  simp [Tp.flat]
theorem skeep {w w' : World} {b off L c q : Nat} {l : List Nd} {x : Nd} (hR : RdN w w.heap.size (.slice (some ⟨b, off, none⟩) L c) l) (hx : l[q]? = some x) (hb : Below w.heap.size w w') :
    Below w.heap.size w w' ∧ (w'.cell? ⟨b, off + q * 5, none⟩ = some (.int .i64 x.kind) ∧ w'.cell? ⟨b, off + q * 5 + 1, none⟩ = some (.string x.key) ∧ w'.cell? ⟨b, off + q * 5 + 2, none⟩ = some (.int .i64 x.n) ∧ w'.cell? ⟨b, off + q * 5 + 3, none⟩ = some (.string x.s) ∧ w'.cell? ⟨b, off + q * 5 + 4, none⟩ = some (.int .i64 x.size)) := by
  obtain ⟨b', off', e, h⟩ := rdN_cells hR hb hx
  obtain ⟨rfl, rfl⟩ : b = b' ∧ off = off' := by injection e with e; injection e with e1 e2; exact ⟨e1, e2⟩
  exact ⟨hb, h⟩

theorem end_part (D : Fo) (a b : List Fo) (h : Tp.srtL (Tp.trs (Tp.sT D)) = a ++ b) (he : Tp.sz (Tp.cat a) = Tp.sz D) : b = [] := by
  have e : Tp.resF true D = Tp.cat (a ++ b) := by show Tp.cat (Tp.srtL (Tp.trs (Tp.sT D))) = _; rw [h]
  have hs : Tp.sz (Tp.cat (a ++ b)) = Tp.sz D := by rw [← e, Tp.resF_sz]
  rw [Tp.cat_append, Tp.sz_app] at hs
  cases b with
  | nil => rfl
  | cons S b' =>
    obtain ⟨k, y, n, s, c, rfl⟩ := Tp.srt_single (Tp.sT D) S (by rw [h]; simp)
    simp only [Tp.cat, Tp.app, Tp.sz_node] at hs
    omega

set_option maxHeartbeats 8000000 in
theorem sorted_step (v : Value) (l : List Nd) (hl : l.length ≤ 4000) (n : Nat) (IH : SClaim v l n) : SClaim v l (n + 1) := by
  intro a A E G m w hn hA hE hAt hR
  have HR := Lib.hid hR
  have HAt := Lib.hid hAt
  have hlen := Tp.At.len hAt
  obtain ⟨ad, cp, rfl, _⟩ := Gn.Rd.form hR
  have CI := Lib.hid (fun (a' : Nat) (A' E' : Int) (G' : Fo) (m' : Bool) (wb : World) (h1 : Tp.sz G' < n) (h2 : A' = (a' : Nat)) (h3 : E' = A' + (Tp.sz G' : Nat)) (h4 : Tp.At l a' G') (hb : Below w.heap.size w wb) => IH a' A' E' G' m' wb h1 h2 h3 h4 (HR.out.later hb))
  have HO0 : Hid (OwnN w w.heap.size (.slice none 0 0) (Tp.flat (Tp.resF m .nil))) := Lib.hid (by rw [Tp.resF_nil]; exact Gn.Own.nil _ _)
  subst hA
  subst hE
  clear hR hAt IH
  go_enter Tryd.func93, Tryd.ntmps93
  go_wp2_with fail
  go_loopw [9, 10] (fun o i wr => ∃ (D R : Fo) (q : Nat), i = .int .i64 (q : Nat) ∧ Hid (G = Tp.app D R ∧ a + Tp.sz D = q ∧ OwnN wr w.heap.size o (Tp.flat (Tp.resF m D))) ∧ Hid (Below w.heap.size w wr)) (fun o i _ => a + Tp.sz G - (intOf i).toNat)
  case atStart => exact ⟨.nil, G, a, by rfl, Lib.hid ⟨rfl, by simp, HO0.out⟩, Lib.hid (Below.refl _ _)⟩
  case round =>
    obtain ⟨D, R, q, rfl, HD, HU⟩ := hrel
    have hsz : Tp.sz G = Tp.sz D + Tp.sz R := by rw [HD.out.1, Tp.sz_app]
    have hqa : a + Tp.sz D = q := HD.out.2.1
    by_cases hq : q < a + Tp.sz G
    · have hq1 : (q : Int) < (a : Int) + (Tp.sz G : Nat) := by omega
      obtain ⟨kk, ky, kn, ks, kc, kr, hRe, hx, hAc⟩ := at_split (D := D) (R := R) (by rw [← HD.out.1]; exact HAt.out) (by omega)
      have hszR : Tp.sz R = 1 + Tp.sz kc + Tp.sz kr := by rw [hRe, Tp.sz_node]
      rw [hqa] at hx hAc
      have hql : (q : Int) < l.length := by omega
      obtain ⟨b0, off, rfl, x0, x1, x2, x3, x4⟩ := rdN_cells HR.out HU.out hx
      simp only at x0 x1 x2 x3 x4
      obtain ⟨b7, hb7⟩ : ∃ b, ((kk : Int) == 7) = b := ⟨_, rfl⟩
      have CK := Lib.hid (fun (wb : World) (hb : Below w.heap.size w wb) => CI.out (q + 1) ((q : Int) + 1) ((q : Int) + (1 + (Tp.sz kc : Nat))) kc b7 wb (by omega) (by omega) (by omega) hAc hb)
      have HU' := Lib.hid HU.out.drew
      have HONE := Lib.hid (Tp.resF_one b7 kk ky kn ks kc hb7)
      have HK := Lib.hid hx
      have hb1 : (q : Int) + (1 + (Tp.sz kc : Nat)) ≤ 4000 := by omega
      have hlk : (Tp.flat (Tp.resF b7 kc)).length = Tp.sz kc := Tp.resF_sz b7 kc
      have HRe := Lib.hid hRe
      have HR1 : Hid (RdN (wr.alloc (.cells #[.int .i64 kk, .string ky, .int .i64 kn, .string ks, .int .i64 (1 + (Tp.sz kc : Nat))] 36)).drew (wr.alloc (.cells #[.int .i64 kk, .string ky, .int .i64 kn, .string ks, .int .i64 (1 + (Tp.sz kc : Nat))] 36)).drew.heap.size (.slice (some ⟨wr.heap.size, 0, none⟩) 1 1) [(⟨kk, ky, kn, ks, 1 + (Tp.sz kc : Nat)⟩ : Nd)]) := Lib.hid (rd_one 36 ndL wr (⟨kk, ky, kn, ks, 1 + (Tp.sz kc : Nat)⟩ : Nd) #[.int .i64 kk, .string ky, .int .i64 kn, .string ks, .int .i64 (1 + (Tp.sz kc : Nat))] rfl)
      have HS1 : Hid (Below wr.heap.size wr (wr.alloc (.cells #[.int .i64 kk, .string ky, .int .i64 kn, .string ks, .int .i64 (1 + (Tp.sz kc : Nat))] 36)).drew) := Lib.hid (up_new wr _).drew
      have HQ := Lib.hid hqa
      have wr1 : IntKind.i64.wrap ((q : Int) + 1) = (q : Int) + 1 := IntWalk.i64_in _ ⟨by omega, by omega⟩
      have wr2 : IntKind.i64.wrap ((q : Int) + (1 + (Tp.sz kc : Nat))) = (q : Int) + (1 + (Tp.sz kc : Nat)) := IntWalk.i64_in _ ⟨by omega, by omega⟩
      clear hAc hx hRe hqa hszR hsz
      go_wp2_with fail
      go_region_held3 (fun w' => Below w.heap.size w w' ∧ (w'.cell? ⟨b0, off + q * 5, none⟩ = some (.int .i64 kk) ∧ w'.cell? ⟨b0, off + q * 5 + 1, none⟩ = some (.string ky) ∧ w'.cell? ⟨b0, off + q * 5 + 2, none⟩ = some (.int .i64 kn) ∧ w'.cell? ⟨b0, off + q * 5 + 3, none⟩ = some (.string ks) ∧ w'.cell? ⟨b0, off + q * 5 + 4, none⟩ = some (.int .i64 (1 + (Tp.sz kc : Nat)))))
        (first | exact skeep HR.out HK.out HU'.out | exact skeep HR.out HK.out (up HU.out HS1.out) | exact skeep HR.out HK.out (up HU.out HB5.out) | exact skeep HR.out HK.out (up HU.out HB1.out) | exact skeep HR.out HK.out (up HU.out HB1.out.drew) | exact skeep HR.out HK.out (up HU.out HB6.out))
        ((first
          | (go_at_call 93; (with_reducible refine (CK.out _ (up HU.out HB1.out)).mono ?_); rintro e w5 ⟨v5, rfl, ho5, b5⟩; have HO5 := Lib.hid ho5; have HR5 := Lib.hid b5; have HB5 := Lib.hid (up HB1.out b5); clear ho5 b5)
          | (refine Gn.step_app ndL ndY ?_ (.tmp 25) (.tmp 30) ?_ wr.heap.size (.slice none 0 0) [] ?_ ?_ (.slice (some ⟨wr.heap.size, 0, none⟩) 1 1) [(⟨kk, ky, kn, ks, 1 + (Tp.sz kc : Nat)⟩ : Nd)] ?_ ?_ ?_ ?_ ?_; (focus rfl); (focus rfl); (focus rfl); (focus exact Gn.Own.nil _ _); (focus rfl); (focus exact HR1.out); (focus simp); (focus exact HS1.out.size); intro v1 w1 ho1 hg1 hl1; have HO1 := Lib.hid ho1; have HB1 := Lib.hid (up HS1.out (own_new hg1)); clear ho1 hg1 hl1)
          | (refine Gn.step_app ndL ndY ?_ (.tmp 31) (.tmp 48) ?_ wr.heap.size v1 [(⟨kk, ky, kn, ks, 1 + (Tp.sz kc : Nat)⟩ : Nd)] ?_ ?_ v5 (Tp.flat (Tp.resF b7 kc)) ?_ ?_ ?_ ?_ ?_; (focus rfl); (focus rfl); (focus rfl); (focus exact Gn.Own.later HO1.out HR5.out); (focus rfl); (focus exact Gn.Own.rd ndL HO5.out); (focus (simp only [List.length_singleton]; omega)); (focus exact HB5.out.size); intro v6 w6 ho6 hg6 hl6; have HO6 := Lib.hid ho6; have HB6 := Lib.hid (Below.trans HB5.out (Gn.below_of_own (base := wr.heap.size) (Gn.Own.later HO1.out HR5.out) hg6 HB5.out.size)); clear ho6 hg6 hl6)))
      have HU6 := Lib.hid (up HU.out HB6.out)
      have HO9 := Lib.hid (Gn.Own.later HD.out.2.2 HB6.out)
      have HOU : Hid (OwnN w6 wr.heap.size v6 (Tp.flat (Tp.sT (.node kk ky kn ks kc .nil)))) := Lib.hid (by rw [flat_one b7 kk ky kn ks kc hb7]; exact HO6.out)
      clear HO6 HO1 HB1 HO5 HR5 HB5 HB6 HR1 HS1 CK wr1 wr2 HU' HU HO0
      obtain ⟨a9, c9, rfl, _⟩ := Gn.Rd.form (Gn.Own.rd ndL HO9.out)
      obtain ⟨U, hUe⟩ : ∃ U, U = Tp.sT (.node kk ky kn ks kc .nil) := ⟨_, rfl⟩
      have hUl : (Tp.flat U).length = 1 + Tp.sz kc := by rw [hUe]; show Tp.sz _ = _; rw [Tp.sT_sz, Tp.sz_node, Tp.sz_nil]; omega
      rw [← hUe] at HOU
      have HRU := Lib.hid (Gn.Own.rd ndL HOU.out)
      obtain ⟨N9, hN9⟩ : ∃ N, (Tp.flat (Tp.resF m D)).length = N := ⟨_, rfl⟩
      have HND : Hid (N9 = Tp.sz D) := Lib.hid (by rw [← hN9]; exact Tp.resF_sz m D)
      have HR9 : Hid (RdN w6 w6.heap.size (.slice a9 N9 c9) (Tp.flat (Tp.resF m D))) := Lib.hid (by rw [← hN9]; exact Gn.Own.rd ndL HO9.out)
      have hN4 : N9 ≤ 4000 := by have := HQ.out; have := HND.out; omega
      have HN9 := Lib.hid hN9
      have HSZ : Hid (a + Tp.sz (Tp.app D (.node kk ky kn ks kc .nil)) = q + (1 + Tp.sz kc) ∧ G = Tp.app (Tp.app D (.node kk ky kn ks kc .nil)) kr) := Lib.hid ⟨by rw [Tp.sz_app, Tp.sz_node, Tp.sz_nil]; have := HQ.out; omega, by rw [HD.out.1, HRe.out]; exact (app_step D kk ky kn ks kc kr)⟩
      have HAS := Lib.hid (show kc = kc from rfl)
      rw [hN9]
      clear hN9 HOU HO9 HD
      cases m with
      | false =>
        obtain ⟨K, hK⟩ : ∃ K, N9 = K := ⟨_, rfl⟩
        obtain ⟨P, hP⟩ : ∃ P, P = Tp.resF false D := ⟨_, rfl⟩
        obtain ⟨Q, hQ⟩ : ∃ Q, Q = Tp.Fo.nil := ⟨_, rfl⟩
        have HI : Hid (Tp.Ins false D U (Tp.app D (.node kk ky kn ks kc .nil)) P Q) := Lib.hid (by rw [hP, hUe, hQ]; exact Tp.ins_no D kk ky kn ks kc)
        have HPK : Hid ((Tp.flat P).length = K) := Lib.hid (by rw [hP, ← hK]; exact HN9.out)
        obtain ⟨w7, hw7⟩ : ∃ w7, w7 = w6 := ⟨_, rfl⟩
        rw [← hw7]
        have HB67 : Hid (Below w6.heap.size w6 w7) := Lib.hid (by rw [hw7]; exact Below.refl _ _)
        clear hP hQ hw7
        subst hK
        have HU7 := Lib.hid (up HU6.out HB67.out)
        have HRU7 := Lib.hid (Gn.Rd.later HRU.out HB67.out)
        have HR97 := Lib.hid (Gn.Rd.later HR9.out HB67.out)
        have hNl := HN9.out
        have hwas : Tp.flat (Tp.resF false D) = Tp.flat P ++ Tp.flat Q := by rw [HI.out.was, Tp.flat_app]
        have hPQ : (Tp.flat P).length + (Tp.flat Q).length = N9 := by rw [← List.length_append, ← hwas]; exact hNl
        have hPl := HPK.out
        obtain ⟨u1, hu1, hr1⟩ := Gn.cut_to ndY w7 w7.heap.size _ _ N9 c9 N9 HR97.out hNl (by omega)
        obtain ⟨u2, hu2, hr2⟩ := Gn.cut_from ndY w7 w7.heap.size _ _ N9 c9 N9 HR97.out hNl (by omega)
        rw [hwas, ← hPl, List.take_left' rfl] at hr1
        rw [hwas, ← hPl, List.drop_left' rfl] at hr2
        have HR1 : Hid (RdN w7 w7.heap.size u1 (Tp.flat P)) := Lib.hid hr1
        have HR2 : Hid (RdN w7 w7.heap.size u2 (Tp.flat Q)) := Lib.hid hr2
        have hP4 : (Tp.flat P).length ≤ 4000 := by omega
        have hQ4 : (Tp.flat Q).length ≤ 4000 := by omega
        have hU4 : (Tp.flat U).length ≤ 4000 := by rw [hUl]; omega
        have HUE := Lib.hid hUe
        have HLS := Lib.hid (And.intro hP4 (And.intro hQ4 hU4))
        clear hr1 hr2 hwas hPQ hPl hNl hP4 hQ4 hU4 hUl hUe
        go_wp2_with fail
        go_region_held3 (fun w' => Below w7.heap.size w7 w')
          (first | exact (Below.refl _ _).drew | exact (Below.refl _ _) | exact HB8.out | exact HB9.out | exact HB10.out)
          ((first
          | (refine Gn.step_app ndL ndY (by rfl) (.tmp 77) (.tmp 80) (by rfl) w7.heap.size (.slice none 0 0) [] (by rfl) (Gn.Own.nil _ _) u1 (Tp.flat P) (by rfl) HR1.out (by have := HLS.out; simp only [List.length_nil]; omega) (Nat.le_refl _) ?_; intro v1 w8 ho1 hg1 hl1; have HO8 := Lib.hid ho1; have HB8 : Hid (Below w7.heap.size w7 w8) := Lib.hid (by first | exact own_new hg1 | exact (Below.refl _ _).drew.trans (own_new hg1)); clear ho1 hg1 hl1)
          | (refine Gn.step_app ndL ndY (by rfl) (.tmp 81) (.tmp 82) (by rfl) w7.heap.size v1 ([] ++ Tp.flat P) (by rfl) HO8.out v6 (Tp.flat U) (by rfl) (Gn.Rd.later HRU7.out HB8.out) (by have := HLS.out; simp only [List.length_append, List.length_nil]; omega) HB8.out.size ?_; intro v2 w9 ho2 hg2 hl2; have HO9b := Lib.hid ho2; have HB9 := Lib.hid (Below.trans HB8.out (Gn.below_of_own (base := w7.heap.size) HO8.out hg2 HB8.out.size)); clear ho2 hg2 hl2)
          | (refine Gn.step_app ndL ndY (by rfl) (.tmp 83) (.tmp 86) (by rfl) w7.heap.size v2 (([] ++ Tp.flat P) ++ Tp.flat U) (by rfl) HO9b.out u2 (Tp.flat Q) (by rfl) (Gn.Rd.later HR2.out HB9.out) (by have := HLS.out; simp only [List.length_append, List.length_nil]; omega) HB9.out.size ?_; intro v3 w10 ho3 hg3 hl3; have HO10 := Lib.hid ho3; have HB10 := Lib.hid (Below.trans HB9.out (Gn.below_of_own (base := w7.heap.size) HO9b.out hg3 HB9.out.size)); clear ho3 hg3 hl3; have z4 := (skeep HR.out HK.out (up HU7.out HB10.out)).2.2.2.2.2)))
        have HFO : Hid (OwnN w10 w.heap.size v3 (Tp.flat (Tp.resF false (Tp.app D (.node kk ky kn ks kc .nil))))) := Lib.hid (by
          have := Gn.Own.lower HO10.out HU7.out.size
          rw [HI.out.is, Tp.flat_app, Tp.flat_app]
          simp only [List.nil_append, List.append_assoc] at this
          exact this)
        have HFB := Lib.hid (up HU7.out HB10.out)
        simp only at z4
        clear HO10 HB10 HB9 HO9b HB8 HO8 hu1 hu2
        go_wp2_with fail
        go_roundw
        case rel => exact ⟨_, kr, q + (1 + Tp.sz kc), by go_num, Lib.hid ⟨HSZ.out.2, HSZ.out.1, HFO.out⟩, HFB⟩
        case measure => simp [intOf]; omega
      | true =>
        go_wp2_with fail
        go_loopw [12] (fun i wx => ∃ (ta tb : List Fo) (k : Nat), i = .int .i64 (k : Nat) ∧ k ≤ N9 ∧ Hid (k = Tp.sz (Tp.cat ta) ∧ Tp.srtL (Tp.trs (Tp.sT D)) = ta ++ tb ∧ ∀ S ∈ ta, Tp.ly (Tp.kyo S) ky = true) ∧ Hid (Below w6.heap.size w6 wx)) (fun i _ => N9 - (intOf i).toNat)
        case atStart => exact ⟨[], _, 0, by rfl, by omega, Lib.hid ⟨rfl, rfl, fun S h => absurd h (List.not_mem_nil)⟩, Lib.hid (Below.refl _ _)⟩
        case round =>
          obtain ⟨ta, tb, k, rfl, hk, HT, HBI⟩ := hrel
          have HUX := Lib.hid (up HU6.out HBI.out)
          have HR9X := Lib.hid (Gn.Rd.later HR9.out HBI.out)
          obtain ⟨x1, _⟩ : (∀ n, (wr.drewN n).cell? ⟨b0, off + q * 5 + 1, none⟩ = some (.string ky)) ∧ True := ⟨fun n => (skeep HR.out HK.out (dN HUX.out n)).2.2.1, trivial⟩
          by_cases hkl : k < N9
          · have hkl1 : (k : Int) < N9 := by omega
            obtain ⟨k2, y2, n2, s2, c2, tb', htb, hx2, hsz2, hle2⟩ := Tp.next_part D ta tb HT.out.2.1 (by rw [← HT.out.1, ← HND.out]; exact hkl)
            rw [← HT.out.1] at hx2 hsz2 hle2
            obtain ⟨b2, off2, rfl, _⟩ := rdN_cells HR9X.out (Below.refl _ _) hx2
            have z1 : ∀ n, (wr.drewN n).cell? ⟨b2, off2 + k * 5 + 1, none⟩ = some (.string y2) := fun n => (skeep HR9X.out hx2 (dN (Below.refl _ _) n)).2.2.1
            have HZ4 := Lib.hid (fun (wb : World) (hb : Below wr.heap.size wr wb) => (skeep HR9X.out hx2 hb).2.2.2.2.2)
            obtain ⟨bb, hbb⟩ : ∃ bb, Op.bytesLess y2.toList ky.toList = bb := ⟨_, rfl⟩
            have HBB : Hid (Tp.ly y2 ky = bb) := Lib.hid (by rw [← hbb, Tp.less_bl]; rfl)
            have HLE : Hid (k + (1 + Tp.sz c2) ≤ N9) := Lib.hid (by have := HND.out; omega)
            have HTB := Lib.hid htb
            have HS2 := Lib.hid hsz2
            clear hsz2 hle2 hx2 htb
            cases bb with
            | true =>
              have wr3 : (k : Int) + (1 + (Tp.sz c2 : Nat)) ≤ 4000 := by have := HLE.out; omega
              go_wp2_with fail
              go_quiet (fail)
              obtain ⟨wq, hwq⟩ : ∃ wq, wq = wr.drewN nq := ⟨_, rfl⟩
              rw [← hwq]
              have HBQ : Hid (Below w6.heap.size w6 wq) := Lib.hid (by rw [hwq]; exact dN HBI.out _)
              have z4 : wq.cell? ⟨b2, off2 + k * 5 + 4, none⟩ = some (.int .i64 (1 + (Tp.sz c2 : Nat))) := HZ4.out wq (by rw [hwq]; exact dN (Below.refl _ _) _)
              clear hwq x1 z1 hbb HZ4
              go_wp2_with fail
              go_roundw
              case rel =>
                refine ⟨ta ++ [.node k2 y2 n2 s2 c2 .nil], tb', k + (1 + Tp.sz c2), by go_num, HLE.out, Lib.hid ⟨HS2.out.symm, by rw [HT.out.2.1, HTB.out]; simp, fun S hS => ?_⟩, HBQ⟩
                rcases List.mem_append.1 hS with h | h
                · exact HT.out.2.2 S h
                · rw [List.mem_singleton.1 h]; exact HBB.out
              case measure => have := HLE.out; simp [intOf]; omega
            | false =>
              go_wp2_with fail
              go_quiet (fail)
              obtain ⟨w7, hw7⟩ : ∃ w7, w7 = wr.drewN nq := ⟨_, rfl⟩
              rw [← hw7]
              obtain ⟨P, hP⟩ : ∃ P, P = Tp.cat ta := ⟨_, rfl⟩
              obtain ⟨Q, hQ⟩ : ∃ Q, Q = Tp.cat tb := ⟨_, rfl⟩
              have HI : Hid (Tp.Ins true D U (Tp.app D (.node kk ky kn ks kc .nil)) P Q) := Lib.hid (by rw [hP, hUe, hQ]; exact Tp.ins_yes D kk ky kn ks kc ta tb HT.out.2.1 HT.out.2.2 (by intro S b'' e; rw [HTB.out] at e; injection e with e1 e2; subst e1; exact HBB.out))
              have HPK : Hid ((Tp.flat P).length = k) := Lib.hid (by rw [hP]; exact HT.out.1.symm)
              have HB67 : Hid (Below w6.heap.size w6 w7) := Lib.hid (by rw [hw7]; exact dN HBI.out _)
              clear hP hQ hw7 HBI HR9X HUX x1 z1 hbb HZ4
              have HU7 := Lib.hid (up HU6.out HB67.out)
              have HRU7 := Lib.hid (Gn.Rd.later HRU.out HB67.out)
              have HR97 := Lib.hid (Gn.Rd.later HR9.out HB67.out)
              have hNl := HN9.out
              have hwas : Tp.flat (Tp.resF true D) = Tp.flat P ++ Tp.flat Q := by rw [HI.out.was, Tp.flat_app]
              have hPQ : (Tp.flat P).length + (Tp.flat Q).length = N9 := by rw [← List.length_append, ← hwas]; exact hNl
              have hPl := HPK.out
              obtain ⟨u1, hu1, hr1⟩ := Gn.cut_to ndY w7 w7.heap.size _ _ N9 c9 k HR97.out hNl (by omega)
              obtain ⟨u2, hu2, hr2⟩ := Gn.cut_from ndY w7 w7.heap.size _ _ N9 c9 k HR97.out hNl (by omega)
              rw [hwas, ← hPl, List.take_left' rfl] at hr1
              rw [hwas, ← hPl, List.drop_left' rfl] at hr2
              have HR1 : Hid (RdN w7 w7.heap.size u1 (Tp.flat P)) := Lib.hid hr1
              have HR2 : Hid (RdN w7 w7.heap.size u2 (Tp.flat Q)) := Lib.hid hr2
              have hP4 : (Tp.flat P).length ≤ 4000 := by omega
              have hQ4 : (Tp.flat Q).length ≤ 4000 := by omega
              have hU4 : (Tp.flat U).length ≤ 4000 := by rw [hUl]; omega
              have HUE := Lib.hid hUe
              have HLS := Lib.hid (And.intro hP4 (And.intro hQ4 hU4))
              clear hr1 hr2 hwas hPQ hPl hNl hP4 hQ4 hU4 hUl hUe
              go_wp2_with fail
              go_region_held3 (fun w' => Below w7.heap.size w7 w')
                (first | exact (Below.refl _ _).drew | exact (Below.refl _ _) | exact HB8.out | exact HB9.out | exact HB10.out)
                ((first
                | (refine Gn.step_app ndL ndY (by rfl) (.tmp 77) (.tmp 80) (by rfl) w7.heap.size (.slice none 0 0) [] (by rfl) (Gn.Own.nil _ _) u1 (Tp.flat P) (by rfl) HR1.out (by have := HLS.out; simp only [List.length_nil]; omega) (Nat.le_refl _) ?_; intro v1 w8 ho1 hg1 hl1; have HO8 := Lib.hid ho1; have HB8 : Hid (Below w7.heap.size w7 w8) := Lib.hid (by first | exact own_new hg1 | exact (Below.refl _ _).drew.trans (own_new hg1)); clear ho1 hg1 hl1)
                | (refine Gn.step_app ndL ndY (by rfl) (.tmp 81) (.tmp 82) (by rfl) w7.heap.size v1 ([] ++ Tp.flat P) (by rfl) HO8.out v6 (Tp.flat U) (by rfl) (Gn.Rd.later HRU7.out HB8.out) (by have := HLS.out; simp only [List.length_append, List.length_nil]; omega) HB8.out.size ?_; intro v2 w9 ho2 hg2 hl2; have HO9b := Lib.hid ho2; have HB9 := Lib.hid (Below.trans HB8.out (Gn.below_of_own (base := w7.heap.size) HO8.out hg2 HB8.out.size)); clear ho2 hg2 hl2)
                | (refine Gn.step_app ndL ndY (by rfl) (.tmp 83) (.tmp 86) (by rfl) w7.heap.size v2 (([] ++ Tp.flat P) ++ Tp.flat U) (by rfl) HO9b.out u2 (Tp.flat Q) (by rfl) (Gn.Rd.later HR2.out HB9.out) (by have := HLS.out; simp only [List.length_append, List.length_nil]; omega) HB9.out.size ?_; intro v3 w10 ho3 hg3 hl3; have HO10 := Lib.hid ho3; have HB10 := Lib.hid (Below.trans HB9.out (Gn.below_of_own (base := w7.heap.size) HO9b.out hg3 HB9.out.size)); clear ho3 hg3 hl3; have z4 := (skeep HR.out HK.out (up HU7.out HB10.out)).2.2.2.2.2)))
              have HFO : Hid (OwnN w10 w.heap.size v3 (Tp.flat (Tp.resF true (Tp.app D (.node kk ky kn ks kc .nil))))) := Lib.hid (by
                have := Gn.Own.lower HO10.out HU7.out.size
                rw [HI.out.is, Tp.flat_app, Tp.flat_app]
                simp only [List.nil_append, List.append_assoc] at this
                exact this)
              have HFB := Lib.hid (up HU7.out HB10.out)
              simp only at z4
              clear HO10 HB10 HB9 HO9b HB8 HO8 hu1 hu2
              go_wp2_with fail
              go_roundw
              case rel => exact ⟨_, kr, q + (1 + Tp.sz kc), by go_num, Lib.hid ⟨HSZ.out.2, HSZ.out.1, HFO.out⟩, HFB⟩
              case measure => simp [intOf]; omega
          · have hkl1 : ¬ (k : Int) < N9 := by omega
            have hd : decide ((k : Int) < (N9 : Int)) = false := by simpa using hkl1
            go_wp2_with fail
            go_quiet (fail)
            obtain ⟨w7, hw7⟩ : ∃ w7, w7 = wr.drewN nq := ⟨_, rfl⟩
            rw [← hw7]
            obtain ⟨P, hP⟩ : ∃ P, P = Tp.cat ta := ⟨_, rfl⟩
            obtain ⟨Q, hQ⟩ : ∃ Q, Q = Tp.cat tb := ⟨_, rfl⟩
            have HI : Hid (Tp.Ins true D U (Tp.app D (.node kk ky kn ks kc .nil)) P Q) := Lib.hid (by rw [hP, hUe, hQ]; exact Tp.ins_yes D kk ky kn ks kc ta tb HT.out.2.1 HT.out.2.2 (by intro S b'' e; rw [end_part D ta tb HT.out.2.1 (by have := HT.out.1; have := HND.out; omega)] at e; cases e))
            have HPK : Hid ((Tp.flat P).length = k) := Lib.hid (by rw [hP]; exact HT.out.1.symm)
            have HB67 : Hid (Below w6.heap.size w6 w7) := Lib.hid (by rw [hw7]; exact dN HBI.out _)
            clear hP hQ hw7 HBI HR9X HUX x1 hd
            have HU7 := Lib.hid (up HU6.out HB67.out)
            have HRU7 := Lib.hid (Gn.Rd.later HRU.out HB67.out)
            have HR97 := Lib.hid (Gn.Rd.later HR9.out HB67.out)
            have hNl := HN9.out
            have hwas : Tp.flat (Tp.resF true D) = Tp.flat P ++ Tp.flat Q := by rw [HI.out.was, Tp.flat_app]
            have hPQ : (Tp.flat P).length + (Tp.flat Q).length = N9 := by rw [← List.length_append, ← hwas]; exact hNl
            have hPl := HPK.out
            obtain ⟨u1, hu1, hr1⟩ := Gn.cut_to ndY w7 w7.heap.size _ _ N9 c9 k HR97.out hNl (by omega)
            obtain ⟨u2, hu2, hr2⟩ := Gn.cut_from ndY w7 w7.heap.size _ _ N9 c9 k HR97.out hNl (by omega)
            rw [hwas, ← hPl, List.take_left' rfl] at hr1
            rw [hwas, ← hPl, List.drop_left' rfl] at hr2
            have HR1 : Hid (RdN w7 w7.heap.size u1 (Tp.flat P)) := Lib.hid hr1
            have HR2 : Hid (RdN w7 w7.heap.size u2 (Tp.flat Q)) := Lib.hid hr2
            have hP4 : (Tp.flat P).length ≤ 4000 := by omega
            have hQ4 : (Tp.flat Q).length ≤ 4000 := by omega
            have hU4 : (Tp.flat U).length ≤ 4000 := by rw [hUl]; omega
            have HUE := Lib.hid hUe
            have HLS := Lib.hid (And.intro hP4 (And.intro hQ4 hU4))
            clear hr1 hr2 hwas hPQ hPl hNl hP4 hQ4 hU4 hUl hUe
            go_wp2_with fail
            go_region_held3 (fun w' => Below w7.heap.size w7 w')
              (first | exact (Below.refl _ _).drew | exact (Below.refl _ _) | exact HB8.out | exact HB9.out | exact HB10.out)
              ((first
              | (refine Gn.step_app ndL ndY (by rfl) (.tmp 77) (.tmp 80) (by rfl) w7.heap.size (.slice none 0 0) [] (by rfl) (Gn.Own.nil _ _) u1 (Tp.flat P) (by rfl) HR1.out (by have := HLS.out; simp only [List.length_nil]; omega) (Nat.le_refl _) ?_; intro v1 w8 ho1 hg1 hl1; have HO8 := Lib.hid ho1; have HB8 : Hid (Below w7.heap.size w7 w8) := Lib.hid (by first | exact own_new hg1 | exact (Below.refl _ _).drew.trans (own_new hg1)); clear ho1 hg1 hl1)
              | (refine Gn.step_app ndL ndY (by rfl) (.tmp 81) (.tmp 82) (by rfl) w7.heap.size v1 ([] ++ Tp.flat P) (by rfl) HO8.out v6 (Tp.flat U) (by rfl) (Gn.Rd.later HRU7.out HB8.out) (by have := HLS.out; simp only [List.length_append, List.length_nil]; omega) HB8.out.size ?_; intro v2 w9 ho2 hg2 hl2; have HO9b := Lib.hid ho2; have HB9 := Lib.hid (Below.trans HB8.out (Gn.below_of_own (base := w7.heap.size) HO8.out hg2 HB8.out.size)); clear ho2 hg2 hl2)
              | (refine Gn.step_app ndL ndY (by rfl) (.tmp 83) (.tmp 86) (by rfl) w7.heap.size v2 (([] ++ Tp.flat P) ++ Tp.flat U) (by rfl) HO9b.out u2 (Tp.flat Q) (by rfl) (Gn.Rd.later HR2.out HB9.out) (by have := HLS.out; simp only [List.length_append, List.length_nil]; omega) HB9.out.size ?_; intro v3 w10 ho3 hg3 hl3; have HO10 := Lib.hid ho3; have HB10 := Lib.hid (Below.trans HB9.out (Gn.below_of_own (base := w7.heap.size) HO9b.out hg3 HB9.out.size)); clear ho3 hg3 hl3; have z4 := (skeep HR.out HK.out (up HU7.out HB10.out)).2.2.2.2.2)))
            have HFO : Hid (OwnN w10 w.heap.size v3 (Tp.flat (Tp.resF true (Tp.app D (.node kk ky kn ks kc .nil))))) := Lib.hid (by
              have := Gn.Own.lower HO10.out HU7.out.size
              rw [HI.out.is, Tp.flat_app, Tp.flat_app]
              simp only [List.nil_append, List.append_assoc] at this
              exact this)
            have HFB := Lib.hid (up HU7.out HB10.out)
            simp only at z4
            clear HO10 HB10 HB9 HO9b HB8 HO8 hu1 hu2
            go_wp2_with fail
            go_roundw
            case rel => exact ⟨_, kr, q + (1 + Tp.sz kc), by go_num, Lib.hid ⟨HSZ.out.2, HSZ.out.1, HFO.out⟩, HFB⟩
            case measure => simp [intOf]; omega
    · have hq1 : ¬ (q : Int) < (a : Int) + (Tp.sz G : Nat) := by omega
      have HF : Hid (G = D) := Lib.hid (by
        have : R = .nil := Tp.sz_zero (by omega)
        rw [HD.out.1, this, Tp.app_nil])
      clear hsz hqa
      go_wp2_with fail
      go_ret
      exact ⟨_, rfl, by rw [HF.out]; exact HD.out.2.2, HU.out⟩
theorem sorted_claim (v : Value) (l : List Nd) (hl : l.length ≤ 4000) : ∀ n, SClaim v l n
  | 0 => fun a A E G m w hn => absurd hn (Nat.not_lt_zero _)
  | n + 1 => sorted_step v l hl n (sorted_claim v l hl n)
end Go.Proofs.YteklcfimafplbaaDoor

/- Sorted, Same, of the reference. -/
namespace Go.Proofs.YteklcfimafplbaaDoor
open Go.RowKit
set_option linter.unusedVariables false
set_option maxRecDepth 100000

set_option maxHeartbeats 4000000 in
theorem rsortedC (v : Value) (l : List Nd) (w : World) (h : RdN w w.heap.size v l) (hok : ∀ x ∈ l, Nok x) (r : List Nd) (hr : SortIs l r) :
    Calls Tryd.prog 58 #[v] w fun e w' => MkPost w r e w' := by
  have HR := Lib.hid h
  have C := Lib.hid (fun (e : Int) (he : chk l = e) => rcheck _ l w h hok e he)
  rcases hr with ⟨F, hM, rfl⟩ | ⟨h0, rfl⟩
  · have h0 := (may_chk hM).1
    have hll := hM.1
    have C0 := Lib.hid (C.out 0 h0)
    have HF : Hid (Tp.flat F = l) := Lib.hid hM.2.1.2.2
    have hlz : l.length = Tp.sz F := by rw [← HF.out]; rfl
    have HAt : Hid (Tp.At l 0 F) := Lib.hid (by rw [← HF.out]; exact Tp.at_flat _)
    have CS := Lib.hid (fun (wb : World) (hb : Below w.heap.size w wb) => sorted_claim v l hll (Tp.sz F + 1) 0 0 (l.length : Nat) F false wb (by omega) rfl (by rw [hlz]; simp) HAt.out (HR.out.later hb))
    obtain ⟨ad, cp, rfl, _⟩ := Gn.Rd.form h
    clear h hok hM h0 C hlz
    go_enter Tryd.func58, Tryd.ntmps58
    go_wp2_with fail
    ((with_reducible refine (C0.out).mono ?_); rintro e w2 ⟨rfl, b2⟩)
    have HB2 := Lib.hid b2
    clear b2
    go_wp2_with fail
    ((with_reducible refine (CS.out _ HB2.out).mono ?_); rintro e w3 ⟨v3, rfl, ho3, b3⟩)
    have HO3 := Lib.hid (Gn.Own.lower ho3 HB2.out.size)
    have HB3 := Lib.hid (up HB2.out b3)
    clear ho3 b3
    go_wp2_with fail
    go_ret
    exact ⟨_, rfl, HO3.out, HB3.out⟩
  · have h0' : ((chk l : Int) != 0) = true := by simpa using h0
    have C0 := Lib.hid (C.out _ rfl)
    obtain ⟨ad, cp, rfl, _⟩ := Gn.Rd.form h
    clear h hok h0 C
    generalize chk l = e at *
    go_enter Tryd.func58, Tryd.ntmps58
    go_wp2_with fail
    ((with_reducible refine (C0.out).mono ?_); rintro e w2 ⟨rfl, b2⟩)
    have HB2 := Lib.hid b2
    clear b2
    go_wp2_with fail
    go_ret
    exact ⟨_, rfl, Gn.Own.nil _ _, HB2.out⟩

theorem sort_nil {l r : List Nd} (h : SortIs l r) : r = [] ↔ chk l ≠ 0 := by
  rcases h with ⟨F, hM, rfl⟩ | ⟨h0, rfl⟩
  · refine ⟨fun e => ?_, fun e => absurd (may_chk hM).1 e⟩
    exfalso
    obtain ⟨_, ⟨⟨k, y, n, s, c, rfl, _⟩, _⟩, _⟩ := hM
    have := congrArg List.length e
    rw [show (Tp.flat (Tp.sT (.node k y n s c .nil))).length = Tp.sz (Tp.sT (.node k y n s c .nil)) from rfl, Tp.sT_sz, Tp.sz_node] at this
    simp at this
  · exact ⟨fun _ => h0, fun _ => rfl⟩
set_option maxHeartbeats 4000000 in
theorem rsame (v1 v2 : Value) (l1 l2 : List Nd) (w : World) (h1 : RdN w w.heap.size v1 l1) (h2 : RdN w w.heap.size v2 l2) (hok1 : ∀ x ∈ l1, Nok x) (hok2 : ∀ x ∈ l2, Nok x) (r1 r2 : List Nd) (hs1 : SortIs l1 r1) (hs2 : SortIs l2 r2) (b : Bool) (hb : b = true ↔ (r1 ≠ [] ∧ r1 = r2)) :
    Calls Tryd.prog 53 #[v1, v2] w fun e w' => e = .returned (.bool b) ∧ Below w.heap.size w w' := by
  have H1 := Lib.hid h1
  have H2 := Lib.hid h2
  have HB := Lib.hid hb
  have HN1 := Lib.hid (sort_nil hs1)
  have HN2 := Lib.hid (sort_nil hs2)
  have hl1 := sort_len hs1
  obtain ⟨e1, he1⟩ : ∃ e, chk l1 = e := ⟨_, rfl⟩
  obtain ⟨e2, he2⟩ : ∃ e, chk l2 = e := ⟨_, rfl⟩
  have C1 := Lib.hid (rcheck _ l1 w h1 hok1 e1 he1)
  have C2 := Lib.hid (fun (wb : World) (hb : Below w.heap.size w wb) => rcheck _ l2 wb (h2.later hb) hok2 e2 he2)
  have S1 := Lib.hid (fun (wb : World) (hb : Below w.heap.size w wb) => rsortedC v1 l1 wb (h1.later hb) hok1 r1 hs1)
  have S2 := Lib.hid (fun (wb : World) (hb : Below w.heap.size w wb) => rsortedC v2 l2 wb (h2.later hb) hok2 r2 hs2)
  rw [he1] at HN1
  rw [he2] at HN2
  clear h1 h2 hok1 hok2 hs1 hs2 hb he1 he2
  by_cases a1 : e1 = 0
  · subst a1
    have HR1 : Hid (r1 ≠ []) := Lib.hid (fun e => (HN1.out.1 e) rfl)
    by_cases a2 : e2 = 0
    · subst a2
      go_enter Tryd.func53, Tryd.ntmps53
      go_wp2_with fail
      ((with_reducible refine (C1.out).mono ?_); rintro e w2 ⟨rfl, b2⟩)
      have HB2 := Lib.hid b2
      clear b2
      go_wp2_with fail
      ((with_reducible refine (C2.out _ HB2.out).mono ?_); rintro e w3 ⟨rfl, b3⟩)
      have HB3 := Lib.hid (up HB2.out b3)
      clear b3
      go_wp2_with fail
      ((with_reducible refine (S1.out _ HB3.out).mono ?_); rintro e w4 ⟨s1, rfl, ho1, b4⟩)
      have HB4 := Lib.hid (up HB3.out b4)
      have HO1 := Lib.hid (Gn.Own.rd ndL ho1)
      clear b4 ho1
      go_wp2_with fail
      ((with_reducible refine (S2.out _ HB4.out).mono ?_); rintro e w5 ⟨s2, rfl, ho2, b5⟩)
      have CE := Lib.hid (rEq s1 s2 r1 r2 w5 (Gn.Rd.later HO1.out b5) (Gn.Own.rd ndL ho2) (by omega) b ⟨fun e => (HB.out.1 e).2, fun e => HB.out.2 ⟨HR1.out, e⟩⟩)
      have HB5 := Lib.hid (up HB4.out b5)
      clear b5 ho2
      go_wp2_with fail
      ((with_reducible refine (CE.out).mono ?_); rintro e w6 ⟨rfl, b6⟩)
      have HB6 := Lib.hid (up HB5.out b6)
      clear b6
      go_wp2_with fail
      go_ret
      exact ⟨rfl, HB6.out⟩
    · obtain rfl : b = false := by
        cases b with
        | false => rfl
        | true => exact absurd ((HB.out.1 rfl).2.trans (HN2.out.2 a2)) HR1.out
      have a2' : ((e2 : Int) == 0) = false := by simpa using a2
      go_enter Tryd.func53, Tryd.ntmps53
      go_wp2_with fail
      ((with_reducible refine (C1.out).mono ?_); rintro e w2 ⟨rfl, b2⟩)
      have HB2 := Lib.hid b2
      clear b2
      go_wp2_with fail
      ((with_reducible refine (C2.out _ HB2.out).mono ?_); rintro e w3 ⟨rfl, b3⟩)
      have HB3 := Lib.hid (up HB2.out b3)
      clear b3 a2
      go_wp2_with fail
      go_ret
      exact ⟨rfl, HB3.out⟩
  · obtain rfl : b = false := by
      cases b with
      | false => rfl
      | true => exact absurd (HN1.out.2 a1) (HB.out.1 rfl).1
    have a1' : ((e1 : Int) == 0) = false := by simpa using a1
    go_enter Tryd.func53, Tryd.ntmps53
    go_wp2_with fail
    ((with_reducible refine (C1.out).mono ?_); rintro e w2 ⟨rfl, b2⟩)
    have HB2 := Lib.hid b2
    clear b2 a1
    go_wp2_with fail
    go_ret
    exact ⟨rfl, HB2.out⟩
end Go.Proofs.YteklcfimafplbaaDoor

/- TapeTells: the walk. -/
namespace Go.Proofs.YteklcfimafplbaaDoor
open Go.RowKit
set_option linter.unusedVariables false
set_option maxRecDepth 100000

theorem bool_of (P : Prop) : ∃ b : Bool, b = true ↔ P := by
  rcases Classical.em P with h | h
  · exact ⟨true, fun _ => h, fun _ => rfl⟩
  · exact ⟨false, fun e => (Bool.noConfusion e), fun e => absurd e h⟩
theorem ownN_touch {S : Nat → Prop} {w w' : World} {base : Nat} {v : Value} {l : List Nd} (h : OwnN w base v l) (ht : Touch S w w') (hn : ∀ g, v.ownBlock = some g → ¬ S g) : OwnN w' base v l := by
  obtain ⟨h0, h1⟩ := h
  refine ⟨h0, ?_⟩
  rcases h1 with h1 | ⟨g, cap, cur, rfl, hg, hh, r⟩
  · exact .inl h1
  · have hlt : g < w.heap.size := by
      rcases Nat.lt_or_ge g w.heap.size with hlt | hge
      · exact hlt
      · rw [Array.getElem?_eq_none hge] at hh; cases hh
    exact .inr ⟨g, cap, cur, rfl, hg, (ht.block g hlt (hn g rfl)).trans hh, r⟩
/-- A number of an owned row is written. -/
theorem ownI_put {w : World} {base : Nat} {g n cap : Nat} {l : List Int} {i : Nat} {u : Int} (h : OwnI w base (.slice (some ⟨g, 0, none⟩) n cap) l) (hn : l.length = n) :
    OwnI (w.setCell ⟨g, i, none⟩ (.int .i64 u)) base (.slice (some ⟨g, 0, none⟩) n cap) (l.set i u) := by
  subst hn
  have h' : w.ownsRow base 3 1 (.slice (some ⟨g, 0, none⟩) l.length cap) l.length (Gn.cells inc l) := h
  have := (h'.stored i (.int .i64 u)).1
  unfold OwnI Gn.Own
  have e : Gn.cells inc (l.set i u) = (Gn.cells inc l).set i (.int .i64 u) := by
    have : ∀ l : List Int, Gn.cells inc l = l.map (fun x => .int .i64 x) := by
      intro l; induction l with
      | nil => rfl
      | cons x l ih => rw [Gn.cells_cons, ih]; rfl
    rw [this, this, List.map_set]
  rw [e, List.length_set]
  exact this
theorem ownI_melt {w : World} {base : Nat} {g n cap : Nat} {l : List Int} (h : OwnI w base (.slice (some ⟨g, 0, none⟩) n cap) l) (hn : l.length = n) (j : Nat) : w.frozen? ⟨g, j, none⟩ = false := by
  subst hn
  have h' : w.ownsRow base 3 1 (.slice (some ⟨g, 0, none⟩) l.length cap) l.length (Gn.cells inc l) := h
  exact h'.frozenAt j
theorem ownI_addr {w : World} {base n cap : Nat} {ad : Option Addr} {l : List Int} (h : OwnI w base (.slice ad n cap) l) (h0 : 0 < l.length) : ∃ g, ad = some ⟨g, 0, none⟩ := by
  rcases h.2 with ⟨_, e⟩ | ⟨g, c, cur, e, _⟩
  · omega
  · injection e with e
    exact ⟨g, e⟩

theorem part_len {l : List Nd} {i : Int} {r : List Nd} (h : PartIs l i r) : r.length ≤ 4000 := by
  rcases h with ⟨p, k, y, n, s, c, rfl, _, hl, hA, rfl⟩ | ⟨_, rfl⟩
  · have := Tp.At.len hA
    show (Tp.flat _).length ≤ 4000
    have e : (Tp.flat (.node k ⟨#[]⟩ n s c .nil)).length = Tp.sz (.node k y n s c .nil) := by rw [Tp.sz_node]; show Tp.sz _ = _; rw [Tp.sz_node]
    rw [e]; omega
  · simp
theorem kids_len {l : List Nd} {ks : List Int} (h : KidsIs l ks) : ks.length ≤ 4000 := by
  rcases h with ⟨k, y, n, s, c, hM, rfl⟩ | ⟨_, rfl⟩
  · have h1 := plcs_len 1 c
    have h2 := hM.1
    rw [← hM.2.1.2.2] at h2
    have e : (Tp.flat (.node k y n s c .nil)).length = Tp.sz (.node k y n s c .nil) := rfl
    rw [e, Tp.sz_node] at h2
    omega
  · simp
theorem get_len {l : List Nd} {key : ByteArray} {r : List Nd} {b : Bool} (h : GetIs l key r b) : r.length ≤ 4000 := by
  rcases h with ⟨y, n, s, c, D, k2, n2, s2, c2, R, hM, rfl, _, rfl, _⟩ | ⟨rfl, _⟩
  · have h2 := hM.1
    rw [← hM.2.1.2.2] at h2
    have e : (Tp.flat (.node 7 y n s (Tp.app D (.node k2 key n2 s2 c2 R)) .nil)).length = Tp.sz (.node 7 y n s (Tp.app D (.node k2 key n2 s2 c2 R)) .nil) := rfl
    rw [e, Tp.sz_node, Tp.sz_app, Tp.sz_node] at h2
    show (Tp.flat _).length ≤ 4000
    have e2 : (Tp.flat (.node k2 ⟨#[]⟩ n2 s2 c2 .nil)).length = 1 + Tp.sz c2 := by show Tp.sz _ = _; rw [Tp.sz_node, Tp.sz_nil]; omega
    rw [e2]; omega
  · simp

set_option maxHeartbeats 40000000 in
theorem tapeTells (v1 : Value) (l1 : List Nd) (v2 : Value) (l2 : List Nd) (key : ByteArray) (W : World) (h1 : RdN W W.heap.size v1 l1) (ok1 : ∀ x ∈ l1, Nok x) (h2 : RdN W W.heap.size v2 l2) (ok2 : ∀ x ∈ l2, Nok x) (hk : key.size ≤ 9223372036854775807) (T : Tab W) :
    Calls Tryd.prog 22 #[v1, v2, .string key] W fun e w' => e = .returned (.bool true) ∧ Below W.heap.size W w' := by
  have C1 := Lib.hid (few v1 l1 W h1 ok1)
  have C2 := Lib.hid (fun (wb : World) (hb : Below W.heap.size W wb) => few v2 l2 wb (h2.later hb) ok2)
  obtain ⟨A, hA⟩ : ∃ A, A = fewL l1 := ⟨_, rfl⟩
  obtain ⟨B, hB⟩ : ∃ B, B = fewL l2 := ⟨_, rfl⟩
  have okA : ∀ x ∈ A, Nok x := by rw [hA]; exact fewL_ok l1 ok1
  have okB : ∀ x ∈ B, Nok x := by rw [hB]; exact fewL_ok l2 ok2
  have lA : A.length ≤ 60 := by rw [hA]; exact fewL_len l1
  have HT := Lib.hid T
  rw [← hA] at C1
  rw [← hB] at C2
  clear hA hB h1 h2 ok1 ok2 T hk
  go_enter Tryd.func22, Tryd.ntmps22
  go_wp2_with fail
  ((with_reducible refine (C1.out).mono ?_); rintro e w1 ⟨t, rfl, ho1, b1⟩)
  have HB1 := Lib.hid b1
  have H1 := Lib.hid (Gn.Own.rd ndL ho1)
  clear b1 ho1
  go_wp2_with fail
  ((with_reducible refine (C2.out _ HB1.out).mono ?_); rintro e w2 ⟨u, rfl, ho2, b2⟩)
  have HB2 := Lib.hid (up HB1.out b2)
  have H2 := Lib.hid (Gn.Own.rd ndL ho2)
  replace H1 := Lib.hid (Gn.Rd.later H1.out b2)
  clear b2 ho2
  have C3 := Lib.hid (rcopy t A w2 H1.out (by omega))
  go_wp2_with fail
  ((with_reducible refine (C3.out).mono ?_); rintro e w3 ⟨s, rfl, ho3, b3⟩)
  have HB3 := Lib.hid (up HB2.out b3)
  have H3 := Lib.hid (Gn.Own.rd ndL ho3)
  replace H1 := Lib.hid (Gn.Rd.later H1.out b3)
  replace H2 := Lib.hid (Gn.Rd.later H2.out b3)
  replace HT := Lib.hid (HT.out.later HB3.out)
  obtain ⟨n, hn⟩ : ∃ n, A.length = n := ⟨_, rfl⟩
  obtain ⟨ta, tc, rfl⟩ : ∃ a c, t = .slice a n c := form_n H1.out n hn
  clear b3 ho3 C1 C2 C3 HB1 HB2
  have HLA := Lib.hid lA
  have HN := Lib.hid hn
  have hn60 : n ≤ 60 := by omega
  clear hn lA
  obtain ⟨ce, hce⟩ : ∃ x, chk A = x := ⟨_, rfl⟩
  obtain ⟨dd, hdd⟩ : ∃ x, dpt A = x := ⟨_, rfl⟩
  obtain ⟨ks, hks⟩ := kids_ex A
  obtain ⟨ra, hra⟩ := sort_ex A
  obtain ⟨rb, hrb⟩ := sort_ex B
  obtain ⟨x1, hx1⟩ := bool_of (ra ≠ [] ∧ ra = rb)
  obtain ⟨x2, hx2⟩ := bool_of (rb ≠ [] ∧ rb = ra)
  have HKS := Lib.hid hks
  have HRA := Lib.hid hra
  have HRB := Lib.hid hrb
  have HKL : Hid (ks.length ≤ 4000) := Lib.hid (kids_len hks)
  have HRL : Hid (ra.length ≤ 4000) := Lib.hid (sort_len hra)
  have K1 := Lib.hid (fun (wb : World) (hb : Below w3.heap.size w3 wb) => check _ A wb (Gn.Rd.later H1.out hb) okA (HT.out.later hb) ce hce)
  have K2 := Lib.hid (fun (wb : World) (hb : Below w3.heap.size w3 wb) => rcheck _ A wb (Gn.Rd.later H3.out hb) okA ce hce)
  have K3 := Lib.hid (fun (wb : World) (hb : Below w3.heap.size w3 wb) => kids _ A wb (Gn.Rd.later H1.out hb) okA (HT.out.later hb) ks hks)
  have K4 := Lib.hid (fun (wb : World) (hb : Below w3.heap.size w3 wb) => rkids _ A wb (Gn.Rd.later H3.out hb) okA ks hks)
  have K5 := Lib.hid (fun (wb : World) (hb : Below w3.heap.size w3 wb) => deepOf _ A wb (Gn.Rd.later H1.out hb) okA (HT.out.later hb) dd hdd)
  have K6 := Lib.hid (fun (wb : World) (hb : Below w3.heap.size w3 wb) => rdeepOf _ A wb (Gn.Rd.later H3.out hb) okA dd hdd)
  have K7 := Lib.hid (fun (wb : World) (hb : Below w3.heap.size w3 wb) => same _ _ A B wb (Gn.Rd.later H1.out hb) (Gn.Rd.later H2.out hb) okA okB (HT.out.later hb) ra rb hra hrb x1 hx1)
  have K8 := Lib.hid (fun (wb : World) (hb : Below w3.heap.size w3 wb) => rsame _ _ A B wb (Gn.Rd.later H3.out hb) (Gn.Rd.later H2.out hb) okA okB ra rb hra hrb x1 hx1)
  have K9 := Lib.hid (fun (wb : World) (hb : Below w3.heap.size w3 wb) => same _ _ B A wb (Gn.Rd.later H2.out hb) (Gn.Rd.later H1.out hb) okB okA (HT.out.later hb) rb ra hrb hra x2 hx2)
  have K10 := Lib.hid (fun (wb : World) (hb : Below w3.heap.size w3 wb) => rsame _ _ B A wb (Gn.Rd.later H2.out hb) (Gn.Rd.later H3.out hb) okB okA rb ra hrb hra x2 hx2)
  have KP := Lib.hid (fun (wb : World) (hb : Below w3.heap.size w3 wb) (i : Int) (hi : -9223372036854775808 ≤ i ∧ i ≤ 9223372036854775807) (r : List Nd) (hr : PartIs A i r) => part _ A wb (Gn.Rd.later H1.out hb) okA (HT.out.later hb) i hi r hr)
  have KR := Lib.hid (fun (wb : World) (hb : Below w3.heap.size w3 wb) (i : Int) (hi : -9223372036854775808 ≤ i ∧ i ≤ 9223372036854775807) (r : List Nd) (hr : PartIs A i r) => rpart _ A wb (Gn.Rd.later H3.out hb) okA i hi r hr)
  obtain ⟨rg, bg, hg⟩ := get_ex A key
  have KG := Lib.hid (fun (wb : World) (hb : Below w3.heap.size w3 wb) => get _ A key wb (Gn.Rd.later H1.out hb) okA (HT.out.later hb) rg bg hg)
  have KH := Lib.hid (fun (wb : World) (hb : Below w3.heap.size w3 wb) => rget _ A key wb (Gn.Rd.later H3.out hb) okA rg bg hg)
  have HGL : Hid (rg.length ≤ 4000) := Lib.hid (get_len hg)
  have KS := Lib.hid (fun (wb : World) (hb : Below w3.heap.size w3 wb) => sorted _ A wb (Gn.Rd.later H1.out hb) okA (HT.out.later hb) ra hra)
  have KT := Lib.hid (fun (wb : World) (hb : Below w3.heap.size w3 wb) => rsortedC _ A wb (Gn.Rd.later H3.out hb) okA ra hra)
  have KE := Lib.hid (fun (wb : World) (hb : Below w3.heap.size w3 wb) => rEq _ _ A A wb (Gn.Rd.later H1.out hb) (Gn.Rd.later H3.out hb) (by have := HLA.out; omega) true ⟨fun _ => rfl, fun _ => rfl⟩)
  have KW := Lib.hid (fun (wb : World) (hb : Below w3.heap.size w3 wb) => works wb (HT.out.later hb))
  have q1 : ((ce : Int) != ce) = false := by simp
  have q2 : ((dd : Int) != (dd : Int)) = false := by simp
  have q3 : (x1 != x1) = false := by simp
  have q4 : (x2 != x2) = false := by simp
  have q5 : (bg != bg) = false := by simp
  clear hce hdd hks hra hrb hx1 hx2 hg okA okB
  have HX := Lib.hid (Below.refl w3.heap.size w3)
  go_wp2_with fail
  ((with_reducible refine (K1.out _ HX.out).mono ?_); rintro e w4 ⟨rfl, b⟩)
  replace HX := Lib.hid (up HX.out b)
  clear b
  go_wp2_with fail
  ((with_reducible refine (K2.out _ HX.out).mono ?_); rintro e w5 ⟨rfl, b⟩)
  replace HX := Lib.hid (up HX.out b)
  clear b
  go_wp2_with fail
  ((with_reducible refine (K3.out _ HX.out).mono ?_); rintro e w6 ⟨va, rfl, hoa, b⟩)
  have HI1 := Lib.hid (Gn.Own.rd inL hoa)
  replace HX := Lib.hid (up HX.out b)
  clear b hoa
  go_wp2_with fail
  ((with_reducible refine (K4.out _ HX.out).mono ?_); rintro e w7 ⟨vb, rfl, hob, b⟩)
  have CI := Lib.hid (eqInts va vb ks ks w7 (Gn.Rd.later HI1.out b) (Gn.Own.rd inL hob) (by have := HKL.out; omega) true ⟨fun _ => rfl, fun _ => rfl⟩)
  replace HX := Lib.hid (up HX.out b)
  clear b hob
  go_wp2_with fail
  ((with_reducible refine (CI.out).mono ?_); rintro e w8 ⟨rfl, b⟩)
  replace HX := Lib.hid (up HX.out b)
  clear b CI HI1
  go_wp2_with fail
  ((with_reducible refine (K5.out _ HX.out).mono ?_); rintro e w9 ⟨rfl, b⟩)
  replace HX := Lib.hid (up HX.out b)
  clear b
  go_wp2_with fail
  ((with_reducible refine (K6.out _ HX.out).mono ?_); rintro e w10 ⟨rfl, b⟩)
  replace HX := Lib.hid (up HX.out b)
  clear b
  go_wp2_with fail
  ((with_reducible refine (K7.out _ HX.out).mono ?_); rintro e w11 ⟨rfl, b⟩)
  replace HX := Lib.hid (up HX.out b)
  clear b
  go_wp2_with fail
  ((with_reducible refine (K8.out _ HX.out).mono ?_); rintro e w12 ⟨rfl, b⟩)
  replace HX := Lib.hid (up HX.out b)
  clear b
  go_wp2_with fail
  ((with_reducible refine (K9.out _ HX.out).mono ?_); rintro e w13 ⟨rfl, b⟩)
  replace HX := Lib.hid (up HX.out b)
  clear b
  go_wp2_with fail
  ((with_reducible refine (K10.out _ HX.out).mono ?_); rintro e w14 ⟨rfl, b⟩)
  replace HX := Lib.hid (up HX.out b)
  clear b
  clear K1 K2 K5 K6 K7 K8 K9 K10
  go_wp2_with fail
  go_loopw [8] (fun i wx => ∃ (k : Nat), i = .int .i64 ((k : Nat) - 1) ∧ k ≤ n + 3 ∧ Hid (Below w3.heap.size w3 wx)) (fun i _ => (n + 3) - (intOf i + 1).toNat)
  case atStart => exact ⟨0, by rfl, by omega, HX⟩
  case round =>
    obtain ⟨k, rfl, hk, HX⟩ := hrel
    by_cases hlt : k < n + 3
    · have hlt1 : (k : Int) - 1 < (n : Int) + 2 := by omega
      obtain ⟨r, hr⟩ := part_ex A ((k : Int) - 1)
      have HPL : Hid (r.length ≤ 4000) := Lib.hid (part_len hr)
      have CP := Lib.hid (KP.out wr HX.out ((k : Int) - 1) (by omega) r hr)
      have CR := Lib.hid (fun wb hb => KR.out wb hb ((k : Int) - 1) (by omega) r hr)
      clear hr
      go_wp2_with fail
      ((with_reducible refine (CP.out).mono ?_); rintro e a1 ⟨v, rfl, ho, b⟩)
      have HO := Lib.hid ho
      have HA1 := Lib.hid b
      have HX1 := Lib.hid (up HX.out b)
      clear b ho
      go_wp2_with fail
      ((with_reducible refine (CR.out _ HX1.out).mono ?_); rintro e a2 ⟨v', rfl, ho, b⟩)
      replace HO := Lib.hid (Gn.Own.later HO.out b)
      have HA2 := Lib.hid (up HA1.out b)
      have CE := Lib.hid (rEq v v' r r a2 (Gn.Own.rd ndL HO.out) (Gn.Own.rd ndL ho) (by have := HPL.out; omega) true ⟨fun _ => rfl, fun _ => rfl⟩)
      clear b ho
      go_wp2_with fail
      ((with_reducible refine (CE.out).mono ?_); rintro e a3 ⟨rfl, b⟩)
      replace HO := Lib.hid (Gn.Own.later HO.out b)
      have HA3 := Lib.hid (up HA2.out b)
      have CSP := Lib.hid (spoil v r a3 wr.heap.size HO.out (by have := HPL.out; omega))
      clear b
      go_wp2_with fail
      ((with_reducible refine (CSP.out).mono ?_); rintro e a4 ⟨rfl, ht⟩)
      have HA4 := Lib.hid (up HX.out (HA3.out.trans (ht.below HA3.out.size (fun i hi => (HO.out.lt i hi).1))))
      clear ht
      go_wp2_with fail
      go_roundw
      case rel => exact ⟨k + 1, by go_num, by omega, HA4⟩
      case measure => simp [intOf]; omega
    · have hlt1 : ¬ (k : Int) - 1 < (n : Int) + 2 := by omega
      go_wp2_with fail
      ((with_reducible refine (KG.out _ HX.out).mono ?_); rintro e a1 ⟨vg, rfl, hog, b⟩)
      have HOG := Lib.hid hog
      have HA1 := Lib.hid b
      have HX1 := Lib.hid (up HX.out b)
      clear b hog
      go_wp2_with fail
      ((with_reducible refine (KH.out _ HX1.out).mono ?_); rintro e a2 ⟨vh, rfl, hoh, b⟩)
      replace HOG := Lib.hid (Gn.Own.later HOG.out b)
      have HRH := Lib.hid (Gn.Own.rd ndL hoh)
      have HA2 := Lib.hid (up HA1.out b)
      have HX2 := Lib.hid (up HX1.out b)
      clear b hoh
      go_wp2_with fail
      ((with_reducible refine (KS.out _ HX2.out).mono ?_); rintro e a3 ⟨vs, rfl, hos, b⟩)
      have HDJ : Hid (∀ g, vs.ownBlock = some g → ¬ vg.ownBlock = some g) := Lib.hid (fun g hg hg2 => by have := (HOG.out.lt g hg2).2; have := (hos.lt g hg).1; omega)
      replace HOG := Lib.hid (Gn.Own.later HOG.out b)
      have HOS := Lib.hid (Gn.Own.lower hos HA2.out.size)
      have HRH2 := Lib.hid (Gn.Rd.later HRH.out b)
      have HA3 := Lib.hid (up HA2.out b)
      have HX3 := Lib.hid (up HX2.out b)
      have CE := Lib.hid (rEq vg vh rg rg a3 (Gn.Own.rd ndL HOG.out) HRH2.out (by have := HGL.out; omega) true ⟨fun _ => rfl, fun _ => rfl⟩)
      clear b hos HRH
      go_wp2_with fail
      ((with_reducible refine (CE.out).mono ?_); rintro e a4 ⟨rfl, b⟩)
      replace HOG := Lib.hid (Gn.Own.later HOG.out b)
      replace HOS := Lib.hid (Gn.Own.later HOS.out b)
      have HA4 := Lib.hid (up HA3.out b)
      have HX4 := Lib.hid (up HX3.out b)
      clear b
      go_wp2_with fail
      ((with_reducible refine (KT.out _ HX4.out).mono ?_); rintro e a5 ⟨vt, rfl, hot, b⟩)
      replace HOG := Lib.hid (Gn.Own.later HOG.out b)
      replace HOS := Lib.hid (Gn.Own.later HOS.out b)
      have HA5 := Lib.hid (up HA4.out b)
      have CE2 := Lib.hid (rEq vs vt ra ra a5 (Gn.Own.rd ndL HOS.out) (Gn.Own.rd ndL hot) (by have := HRL.out; omega) true ⟨fun _ => rfl, fun _ => rfl⟩)
      clear b hot
      go_wp2_with fail
      ((with_reducible refine (CE2.out).mono ?_); rintro e a6 ⟨rfl, b⟩)
      replace HOG := Lib.hid (Gn.Own.later HOG.out b)
      replace HOS := Lib.hid (Gn.Own.later HOS.out b)
      have HA6 := Lib.hid (up HA5.out b)
      have CSP := Lib.hid (spoil vg rg a6 wr.heap.size HOG.out (by have := HGL.out; omega))
      clear b CE CE2
      go_wp2_with fail
      ((with_reducible refine (CSP.out).mono ?_); rintro e a7 ⟨rfl, ht⟩)
      have HA7 := Lib.hid (HA6.out.trans (ht.below HA6.out.size (fun i hi => (HOG.out.lt i hi).1)))
      replace HOS := Lib.hid (ownN_touch HOS.out ht HDJ.out)
      have CSQ := Lib.hid (spoil vs ra a7 wr.heap.size HOS.out (by have := HRL.out; omega))
      clear ht CSP
      go_wp2_with fail
      ((with_reducible refine (CSQ.out).mono ?_); rintro e a8 ⟨rfl, ht⟩)
      have HA8 := Lib.hid (up HX.out (HA7.out.trans (ht.below HA7.out.size (fun i hi => (HOS.out.lt i hi).1))))
      clear ht CSQ
      go_wp2_with fail
      ((with_reducible refine (K3.out _ HA8.out).mono ?_); rintro e a9 ⟨vk, rfl, hok, b⟩)
      obtain ⟨m, hm⟩ : ∃ m, ks.length = m := ⟨_, rfl⟩
      have HOK := Lib.hid hok
      have HM := Lib.hid hm
      have hm4 : m ≤ 4000 := by have := HKL.out; omega
      have HX9 := Lib.hid b
      obtain ⟨ka, kc, rfl⟩ : ∃ a c, vk = .slice a m c := by
        obtain ⟨a, c, e', _⟩ := Gn.Rd.form (Gn.Own.rd inL hok)
        exact ⟨a, c, by rw [← hm]; exact e'⟩
      clear b hok hm
      go_wp2_with fail
      go_loopw [16] (fun i wx => ∃ (k : Nat) (lk : List Int), i = .int .i64 (k : Nat) ∧ k ≤ m ∧ Hid (lk.length = m ∧ OwnI wx a8.heap.size (.slice ka m kc) lk) ∧ Hid (Below a8.heap.size a8 wx)) (fun i _ => m - (intOf i).toNat)
      case atStart => exact ⟨0, ks, by rfl, by omega, Lib.hid ⟨HM.out, HOK.out⟩, HX9⟩
      case round =>
        obtain ⟨k, lk, rfl, hk, HK, HY⟩ := hrel
        by_cases hlt : k < m
        · have hlt1 : (k : Int) < m := by omega
          have hkl : k < lk.length := by rw [HK.out.1]; exact hlt
          obtain ⟨g, rfl⟩ := ownI_addr HK.out.2 (by omega)
          obtain ⟨b', o', e', y⟩ := rdI_cell (HK.out.1 ▸ Gn.Own.rd inL HK.out.2) (Below.refl _ _) (List.getElem?_eq_getElem hkl)
          obtain ⟨rfl, rfl⟩ : g = b' ∧ 0 = o' := by injection e' with e'; injection e' with e1 e2; exact ⟨e1, e2⟩
          simp only [Nat.zero_add] at y
          have hf := ownI_melt HK.out.2 HK.out.1
          have HW := Lib.hid (ownI_put (i := k) (u := -1) HK.out.2 HK.out.1)
          have HL : Hid ((lk.set k (-1)).length = m) := Lib.hid (by rw [List.length_set]; exact HK.out.1)
          have HY2 := Lib.hid (HY.out.setCell (p := ⟨g, k, none⟩) (HK.out.2.lt g rfl).1 (.int .i64 (-1)))
          clear e'
          go_wp2_with fail
          go_roundw
          case rel => exact ⟨k + 1, _, by go_num, by omega, Lib.hid ⟨HL.out, HW.out⟩, HY2⟩
          case measure => simp [intOf]; omega
        · have hlt1 : ¬ (k : Int) < m := by omega
          have HX9 := Lib.hid (up HA8.out HY.out)
          clear HY HK
          go_wp2_with fail
          ((with_reducible refine (KE.out _ HX9.out).mono ?_); rintro e a10 ⟨rfl, b⟩)
          have HX10 := Lib.hid (up HX9.out b)
          clear b
          go_wp2_with fail
          ((with_reducible refine (K3.out _ HX10.out).mono ?_); rintro e a11 ⟨va', rfl, hoa, b⟩)
          have HI1 := Lib.hid (Gn.Own.rd inL hoa)
          have HX11 := Lib.hid (up HX10.out b)
          clear b hoa
          go_wp2_with fail
          ((with_reducible refine (K4.out _ HX11.out).mono ?_); rintro e a12 ⟨vb', rfl, hob, b⟩)
          have CI := Lib.hid (eqInts va' vb' ks ks a12 (Gn.Rd.later HI1.out b) (Gn.Own.rd inL hob) (by have := HKL.out; omega) true ⟨fun _ => rfl, fun _ => rfl⟩)
          have HX12 := Lib.hid (up HX11.out b)
          clear b hob
          go_wp2_with fail
          ((with_reducible refine (CI.out).mono ?_); rintro e a13 ⟨rfl, b⟩)
          have HX13 := Lib.hid (up HX12.out b)
          clear b
          go_wp2_with fail
          ((with_reducible refine (KW.out _ HX13.out).mono ?_); rintro e a14 ⟨rfl, b⟩)
          have HX14 := Lib.hid (up HB3.out (up HX13.out b))
          clear b
          go_wp2_with fail
          go_ret
          exact ⟨rfl, HX14.out⟩
end Go.Proofs.YteklcfimafplbaaDoor

/- What joins forests to tapes, plainly. -/
namespace Go.Proofs.YteklcfimafplbaaDoor
open Go.RowKit
set_option linter.unusedVariables false
set_option maxRecDepth 100000

/-- The tapes of a forest's values. -/
def cks : Fo → List (List Nd)
  | .nil => []
  | .node k _ n s c r => cutF k n s c :: cks r
theorem cks_app : ∀ F G, cks (Tp.app F G) = cks F ++ cks G
  | .nil, _ => rfl
  | .node k y n s c r, G => by simp only [Tp.app, cks, List.cons_append]; rw [cks_app r G]
theorem cks_len : ∀ F, (cks F).length = (Tp.keys F).length
  | .nil => rfl
  | .node k y n s c r => by simp [cks, Tp.keys, cks_len r]
theorem flat_sz (F : Fo) : (Tp.flat F).length = Tp.sz F := rfl
theorem cut_may {k n : Int} {s y : ByteArray} {c : Fo} (hg : Tp.good (.node k y n s c .nil)) (hs : 1 + Tp.sz c ≤ 4000) (hd : 1 + Tp.dep c ≤ 64) : May (cutF k n s c) (.node k ⟨#[]⟩ n s c .nil) :=
  ⟨by show (Tp.flat _).length ≤ 4000; rw [flat_sz, Tp.sz_node, Tp.sz_nil]; omega, ⟨⟨k, ⟨#[]⟩, n, s, c, rfl, rfl⟩, hg, rfl⟩, by simp only [Tp.dep]; omega⟩
theorem ke_zero {k : Int} (hk : k = 6 ∨ k = 7) {seen : List ByteArray} {y : ByteArray} (h : Tp.ko k (seen ++ [y])) : ke k seen y = 0 := by
  have h1 := ((Tp.ko_snoc k seen y).1 h).2
  unfold ke
  split
  · next e => subst e; exact (okey_ok y seen).2 h1
  · next e => exact (lkey_ok y k seen e).2 h1
/-- The first q parts of a forest. -/
def JP (k : Int) (C : Fo) (q : Nat) : Prop := ∃ D R, C = Tp.app D R ∧ (Tp.keys D).length = q ∧ jerr k (Tp.keys C) (cks C) q = 0 ∧ jsz (cks C) q = 1 + Tp.sz D ∧ jdp (cks C) q = 1 + Tp.dep D ∧ jpt (Tp.keys C) (cks C) q = Tp.flat D
theorem jp {k : Int} (hk : k = 6 ∨ k = 7) {C : Fo} (hg : Tp.good C) (hko : Tp.ko k (Tp.keys C)) (hs : Tp.sz C ≤ 4000) (hd : Tp.dep C ≤ 64) : ∀ q, q ≤ (Tp.keys C).length → JP k C q
  | 0, _ => ⟨.nil, C, rfl, rfl, rfl, jsz_zero _, rfl, by simp [jpt]⟩
  | q + 1, h => by
    obtain ⟨D, R, hC, hq, h1, h2, h3, h4⟩ := jp hk hg hko hs hd q (by omega)
    cases R with
    | nil => rw [Tp.app_nil] at hC; rw [← hC] at hq; omega
    | node k1 y n s c r =>
      have hC2 : C = Tp.app (Tp.app D (.node k1 y n s c .nil)) r := by rw [Tp.app_assoc]; exact hC
      have ek : Tp.keys C = Tp.keys D ++ y :: Tp.keys r := by rw [hC, Tp.keys_app]; rfl
      have ec : cks C = cks D ++ cutF k1 n s c :: cks r := by rw [hC, cks_app]; rfl
      have hy : (Tp.keys C)[q]? = some y := by rw [ek, List.getElem?_append_right (by omega), hq, Nat.sub_self]; rfl
      have hl : (cks C)[q]? = some (cutF k1 n s c) := by rw [ec, List.getElem?_append_right (by rw [cks_len]; omega), cks_len, hq, Nat.sub_self]; rfl
      have ht : (Tp.keys C).take q = Tp.keys D := by rw [ek, ← hq, List.take_left']; rfl
      have hsz : Tp.sz C = Tp.sz D + (1 + Tp.sz c + Tp.sz r) := by rw [hC, Tp.sz_app, Tp.sz_node]
      have hdp : Tp.dep C = max (Tp.dep D) (max (1 + Tp.dep c) (Tp.dep r)) := by rw [hC, Tp.dep_app]; rfl
      have hgn : Tp.good (.node k1 y n s c .nil) := by
        have := ((Tp.good_app D _).1 (hC ▸ hg)).2
        exact ⟨this.1, this.2.1, this.2.2.1, this.2.2.2.1, trivial⟩
      have hm := may_chk (cut_may hgn (by omega) (by omega))
      have hke : ke k ((Tp.keys C).take q) ((Tp.keys C).getD q ⟨#[]⟩) = 0 := by
        rw [ht, List.getD_eq_getElem?_getD, hy]
        have hk2 : Tp.ko k ((Tp.keys D ++ [y]) ++ Tp.keys r) := by rw [List.append_assoc]; rw [ek] at hko; exact hko
        exact ke_zero hk (Tp.ko_append hk2).1
      have hgl : (cks C).getD q [] = cutF k1 n s c := by rw [List.getD_eq_getElem?_getD, hl]; rfl
      refine ⟨Tp.app D (.node k1 y n s c .nil), r, hC2, by rw [Tp.keys_app, List.length_append, hq]; rfl, ?_, ?_, ?_, ?_⟩
      · rw [jerr_chk k _ _ q h1 hke, hgl]; exact hm.1
      · rw [jsz_succ _ _ _ hl, h2, Tp.sz_app, Tp.sz_node, Tp.sz_nil]
        show 1 + Tp.sz D + (Tp.flat _).length = _
        rw [flat_sz, Tp.sz_node, Tp.sz_nil]; omega
      · rw [jdp, h3, hgl, hm.2, Tp.dep_app]
        simp only [Tp.dep]; omega
      · rw [jpt_succ _ _ _ _ _ hy hl, h4, Tp.flat_app]; rfl
theorem keys_none {F : Fo} (h : (Tp.keys F).length = 0) : F = .nil := by
  cases F with
  | nil => rfl
  | node k y n s c r => simp [Tp.keys] at h
theorem join_is {k : Int} (hk : k = 6 ∨ k = 7) {C : Fo} (hg : Tp.good C) (hko : Tp.ko k (Tp.keys C)) (hs : Tp.sz C ≤ 4000) (hd : Tp.dep C ≤ 64) {r : List Nd} {x : Int}
    (h : (1 + Tp.sz C ≤ 4000 ∧ 1 + Tp.dep C ≤ 64 ∧ x = 0 ∧ r = Tp.flat (.node k ⟨#[]⟩ 0 ⟨#[]⟩ C .nil)) ∨ (1 + Tp.sz C ≤ 4000 ∧ 64 < 1 + Tp.dep C ∧ x = 72 ∧ r = []) ∨ (4000 < 1 + Tp.sz C ∧ x = 5 ∧ r = [])) :
    JoinIs k (Tp.keys C) (cks C) r x := by
  obtain ⟨D, R, hC, hq, h1, h2, h3, h4⟩ := jp hk hg hko hs hd (Tp.keys C).length (Nat.le_refl _)
  obtain rfl : R = .nil := by
    refine keys_none ?_
    have := congrArg (fun F => (Tp.keys F).length) hC
    simp only [Tp.keys_app, List.length_append] at this
    omega
  rw [Tp.app_nil] at hC
  subst hC
  rw [← cks_len] at h1 h2 h3 h4
  refine ⟨.inr ⟨h1, ?_⟩⟩
  rw [h2, h3, h4]
  rcases h with ⟨a, b, rfl, rfl⟩ | ⟨a, b, rfl, rfl⟩ | ⟨a, rfl, rfl⟩
  · refine .inr (.inr ⟨a, b, rfl, ?_⟩)
    rw [Tp.flat_node]
    simp
  · exact .inr (.inl ⟨a, b, rfl, rfl⟩)
  · exact .inl ⟨a, rfl, rfl⟩
theorem size0 {y : ByteArray} (h : y.size = 0) : y = ⟨#[]⟩ := by
  apply ByteArray.ext
  exact Array.eq_empty_of_size_eq_zero h
theorem rep_keys {C : Fo} (h : Tp.ko 6 (Tp.keys C)) : Tp.keys C = List.replicate (cks C).length ⟨#[]⟩ := by
  rw [cks_len]
  unfold Tp.ko at h
  rw [if_neg (by omega)] at h
  exact List.eq_replicate_iff.2 ⟨rfl, fun y hy => size0 (h y hy)⟩
/-- Values, each below a key. -/
def mkC : List ByteArray → List Fo → Fo
  | y :: ys, .node k _ n s c _ :: Fs => .node k y n s c (mkC ys Fs)
  | _, _ => .nil
def Root (F : Fo) : Prop := ∃ k n s c, F = .node k ⟨#[]⟩ n s c .nil
theorem may_root {l : List Nd} {F : Fo} (h : May l F) : Root F := by
  obtain ⟨_, ⟨⟨k, y, n, s, c, rfl, hy⟩, _⟩, _⟩ := h
  exact ⟨k, n, s, c, by rw [size0 hy]⟩
structure MkIs (ys : List ByteArray) (Fs : List Fo) (C : Fo) : Prop where
  cks : cks C = Fs.map Tp.flat
  keys : Tp.keys C = ys
  good : (∀ F ∈ Fs, Tp.good F) → Tp.good C
  sz : Tp.sz C = (Fs.map Tp.sz).sum
  dep : ∀ d, Tp.dep C ≤ d ↔ ∀ F ∈ Fs, Tp.dep F ≤ d
theorem mk_is : ∀ (ys : List ByteArray) (Fs : List Fo), ys.length = Fs.length → (∀ F ∈ Fs, Root F) → MkIs ys Fs (mkC ys Fs)
  | [], [], _, _ => ⟨rfl, rfl, fun _ => trivial, rfl, fun d => by simp [mkC, Tp.dep]⟩
  | y :: ys, F :: Fs, h, hR => by
    obtain ⟨k, n, s, c, rfl⟩ := hR F (List.mem_cons_self ..)
    have ih := mk_is ys Fs (by simpa using h) (fun G hG => hR G (List.mem_cons_of_mem _ hG))
    refine ⟨by show cutF k n s c :: Go.Proofs.YteklcfimafplbaaDoor.cks (mkC ys Fs) = _; rw [ih.cks]; rfl, by show y :: Tp.keys (mkC ys Fs) = _; rw [ih.keys], fun hg => ?_, ?_, fun d => ?_⟩
    · have h1 := hg _ (List.mem_cons_self ..)
      exact ⟨h1.1, h1.2.1, h1.2.2.1, h1.2.2.2.1, ih.good (fun G hG => hg G (List.mem_cons_of_mem _ hG))⟩
    · show Tp.sz (.node k y n s c (mkC ys Fs)) = _
      rw [Tp.sz_node, ih.sz, List.map_cons, List.sum_cons, Tp.sz_node, Tp.sz_nil]
      omega
    · show Tp.dep (.node k y n s c (mkC ys Fs)) ≤ d ↔ _
      simp only [Tp.dep, List.forall_mem_cons]
      rw [← ih.dep d]
      omega
  | [], _ :: _, h, _ => by simp at h
  | _ :: _, [], h, _ => by simp at h
end Go.Proofs.YteklcfimafplbaaDoor

/- Rows of slices and of texts that a call owns, beside what the slices read as: told apart by the types of their blocks. -/
namespace Go.Proofs.YteklcfimafplbaaDoor
open Go.RowKit
set_option linter.unusedVariables false
set_option maxRecDepth 100000

def OwnS (w : World) (base : Nat) (v : Value) (ss : List Sl) : Prop := Gn.Own slv 1 25 w base v ss
def OwnT (w : World) (base : Nat) (v : Value) (l : List ByteArray) : Prop := Gn.Own txc 1 9 w base v l
theorem own_apart {α β : Type} {enc : α → List Value} {enc' : β → List Value} {k k' : Nat} {T T' : TypeId} {w : World} {B B' : Nat} {v v' : Value} {l : List α} {l' : List β} (h : Gn.Own enc k T w B v l) (h' : Gn.Own enc' k' T' w B' v' l') (hT : T ≠ T') :
    v.ownBlock = none ∨ v.ownBlock ≠ v'.ownBlock := by
  rcases h.2 with ⟨rfl, _⟩ | ⟨g, cap, cur, rfl, _, hh, _⟩
  · exact .inl rfl
  · refine .inr fun e => ?_
    rcases h'.2 with ⟨rfl, _⟩ | ⟨g', cap', cur', rfl, _, hh', _⟩
    · cases e
    · have e : g = g' := by simpa [Value.ownBlock] using e
      subst e
      rw [hh] at hh'
      injection hh' with hh'
      injection hh' with _ hh'
      exact hT hh'
/-- What slices hold, one by one: rows of nodes. -/
def EachO (w : World) (ss : List Sl) (ls : List (List Nd)) : Prop := ss.length = ls.length ∧ ∀ (i : Nat) (s : Sl) (l : List Nd), ss[i]? = some s → ls[i]? = some l → OwnN w 0 s.val l ∧ (∀ x ∈ l, Nok x)
theorem EachO.nil (w : World) : EachO w [] [] := ⟨rfl, fun i s l h => by simp at h⟩
theorem EachO.later {w w' : World} {ss : List Sl} {ls : List (List Nd)} (h : EachO w ss ls) (hb : Below w.heap.size w w') : EachO w' ss ls :=
  ⟨h.1, fun i s l h1 h2 => ⟨Gn.Own.later (h.2 i s l h1 h2).1 hb, (h.2 i s l h1 h2).2⟩⟩
theorem EachO.kept {α : Type} {enc : α → List Value} {k : Nat} {T : TypeId} {w w' : World} {B : Nat} {v : Value} {l : List α} {ss : List Sl} {ls : List (List Nd)} (h : EachO w ss ls) (ho : Gn.Own enc k T w B v l) (hT : 36 ≠ T) (hg : w.grownBy w' v.ownBlock) : EachO w' ss ls :=
  ⟨h.1, fun i s l h1 h2 => ⟨Gn.Own.kept (h.2 i s l h1 h2).1 hg (own_apart (h.2 i s l h1 h2).1 ho hT), (h.2 i s l h1 h2).2⟩⟩
theorem EachO.snoc {w : World} {ss : List Sl} {ls : List (List Nd)} {s : Sl} {l : List Nd} (h : EachO w ss ls) (hs : OwnN w 0 s.val l) (hok : ∀ x ∈ l, Nok x) : EachO w (ss ++ [s]) (ls ++ [l]) := by
  refine ⟨by simp [h.1], fun i s' l' h1 h2 => ?_⟩
  rcases Nat.lt_or_ge i ss.length with hi | hi
  · rw [List.getElem?_append_left hi] at h1
    rw [List.getElem?_append_left (by rw [← h.1]; exact hi)] at h2
    exact h.2 i s' l' h1 h2
  · rw [List.getElem?_append_right hi] at h1
    rw [List.getElem?_append_right (by rw [← h.1]; exact hi), ← h.1] at h2
    have h0 : i - ss.length = 0 := by
      rcases Nat.eq_zero_or_pos (i - ss.length) with h0 | h0
      · exact h0
      · rw [List.getElem?_eq_none (by simp; omega)] at h1; cases h1
    rw [h0] at h1 h2
    simp at h1 h2
    subst h1 h2
    exact ⟨hs, hok⟩
theorem EachO.rdS {w : World} {ss : List Sl} {ls : List (List Nd)} {base : Nat} {v : Value} (h : EachO w ss ls) (ho : OwnS w base v ss) : RdS w w.heap.size v ss ls :=
  ⟨Gn.Own.rd slL ho, h.1, fun i s l h1 h2 => ⟨Gn.Own.rd ndL (h.2 i s l h1 h2).1, (h.2 i s l h1 h2).2⟩⟩
theorem node_ne_sl : (36 : TypeId) ≠ 25 := by decide
theorem node_ne_tx : (36 : TypeId) ≠ 9 := by decide
theorem sl_ne_tx : (25 : TypeId) ≠ 9 := by decide
theorem tx_ne_sl : (9 : TypeId) ≠ 25 := by decide
theorem own_low {w : World} {B : Nat} {v : Value} {l : List Nd} (h : OwnN w B v l) : OwnN w 0 v l := Gn.Own.lower h (Nat.zero_le _)
/-- A slice that was laid for itself alone, a text. -/
theorem rdSl_one (w : World) (a : Option Addr) (n c : Nat) : Gn.Rd slv 1 (w.alloc (.cells #[.slice a n c] 25)) (w.alloc (.cells #[.slice a n c] 25)).heap.size (.slice (some ⟨w.heap.size, 0, none⟩) 1 1) [(⟨a, n, c⟩ : Sl)] := rd_one 25 slL w (⟨a, n, c⟩ : Sl) #[.slice a n c] rfl
theorem rdTx_one (w : World) (y : ByteArray) : Gn.Rd txc 1 (w.alloc (.cells #[.string y] 9)) (w.alloc (.cells #[.string y] 9)).heap.size (.slice (some ⟨w.heap.size, 0, none⟩) 1 1) [y] := rd_one 9 txL w y #[.string y] rfl
end Go.Proofs.YteklcfimafplbaaDoor

/- TapeAgain: the walk. -/
namespace Go.Proofs.YteklcfimafplbaaDoor
open Go.RowKit
set_option linter.unusedVariables false
set_option maxRecDepth 100000

theorem flat_ok {l : List Nd} (hl : ∀ x ∈ l, Nok x) {a : Nat} {F : Fo} (h : Tp.At l a F) : ∀ x ∈ Tp.flat F, Nok x := fun x hx => hl x (List.mem_of_mem_drop (h.subset hx))
theorem cut_ok {k n : Int} {s y : ByteArray} {c : Fo} (h : ∀ x ∈ Tp.flat (.node k y n s c .nil), Nok x) : ∀ x ∈ cutF k n s c, Nok x := by
  intro x hx
  unfold cutF at hx
  rw [Tp.flat_node] at hx h
  rcases List.mem_cons.1 hx with rfl | hx
  · have := h _ (List.mem_cons_self ..)
    exact ⟨this.1, Nat.zero_le _, this.2.2⟩
  · exact h x (List.mem_cons_of_mem _ hx)
theorem keys_le : ∀ F : Fo, (Tp.keys F).length ≤ Tp.sz F
  | .nil => by simp [Tp.keys]
  | .node k y n s c r => by
    have := keys_le r
    rw [Tp.sz_node]
    simp only [Tp.keys, List.length_cons]
    omega
theorem keys_small : ∀ F : Fo, (∀ x ∈ Tp.flat F, Nok x) → ∀ y ∈ Tp.keys F, y.size ≤ maxLen
  | .nil, _, y, h => by simp [Tp.keys] at h
  | .node k y' n s c r, hok, y, h => by
    rw [Tp.flat_node] at hok
    rcases List.mem_cons.1 h with rfl | h
    · exact (hok _ (List.mem_cons_self ..)).2.1
    · exact keys_small r (fun x hx => hok x (List.mem_cons_of_mem _ (List.mem_append_right _ hx))) y h
theorem dep_part (D : Fo) (k n : Int) (y s : ByteArray) (c R : Fo) : 1 + Tp.dep c ≤ Tp.dep (Tp.app D (.node k y n s c R)) := by
  rw [Tp.dep_app]; simp only [Tp.dep]; omega

set_option maxHeartbeats 40000000 in
theorem tapeAgain (v1 : Value) (l1 : List Nd) (W : World) (h1 : RdN W W.heap.size v1 l1) (ok1 : ∀ x ∈ l1, Nok x) (T : Tab W) :
    Calls Tryd.prog 23 #[v1] W fun e w' => e = .returned (.bool true) ∧ Below W.heap.size W w' := by
  have C1 := Lib.hid (few v1 l1 W h1 ok1)
  obtain ⟨A, hA⟩ : ∃ A, A = fewL l1 := ⟨_, rfl⟩
  have okA : ∀ x ∈ A, Nok x := by rw [hA]; exact fewL_ok l1 ok1
  have lA : A.length ≤ 60 := by rw [hA]; exact fewL_len l1
  have HT := Lib.hid T
  rw [← hA] at C1
  clear hA h1 ok1 T
  go_enter Tryd.func23, Tryd.ntmps23
  go_wp2_with fail
  ((with_reducible refine (C1.out).mono ?_); rintro e w1 ⟨t, rfl, ho1, b1⟩)
  have HB1 := Lib.hid b1
  have H1 := Lib.hid (Gn.Own.rd ndL ho1)
  replace HT := Lib.hid (HT.out.later b1)
  obtain ⟨n, hn⟩ : ∃ n, A.length = n := ⟨_, rfl⟩
  obtain ⟨ta, tc, rfl⟩ : ∃ a c, t = .slice a n c := form_n H1.out n hn
  have hn60 : n ≤ 60 := by omega
  have HN := Lib.hid hn
  have HOK := Lib.hid okA
  clear b1 ho1 C1 hn lA
  have K1 := Lib.hid (fun (wb : World) (hb : Below w1.heap.size w1 wb) (e : Int) (he : chk A = e) => check _ A wb (Gn.Rd.later H1.out hb) okA (HT.out.later hb) e he)
  have KW := Lib.hid (fun (wb : World) (hb : Below w1.heap.size w1 wb) => works wb (HT.out.later hb))
  by_cases h0 : chk A = 0
  · obtain ⟨F, hF, _⟩ := may_of h0
    have HF := Lib.hid hF
    have HC0 := Lib.hid h0
    have KP := Lib.hid (fun (wb : World) (hb : Below w1.heap.size w1 wb) (i : Int) (hi : -9223372036854775808 ≤ i ∧ i ≤ 9223372036854775807) (r : List Nd) (hr : PartIs A i r) => part _ A wb (Gn.Rd.later H1.out hb) okA (HT.out.later hb) i hi r hr)
    have K0 := Lib.hid (K1.out w1 (Below.refl _ _) 0 h0)
    clear hF h0 K1 okA
    go_wp2_with fail
    ((with_reducible refine (K0.out).mono ?_); rintro e w2 ⟨rfl, b⟩)
    have HX := Lib.hid b
    clear b K0
    go_wp2_with fail
    go_loopw [3] (fun i wx => ∃ (k : Nat), i = .int .i64 (k : Nat) ∧ k ≤ n ∧ Hid (Below w1.heap.size w1 wx)) (fun i _ => n - (intOf i).toNat)
    case atStart => exact ⟨0, by rfl, by omega, HX⟩
    case round =>
      obtain ⟨i, rfl, hi, HX⟩ := hrel
      by_cases hlt : i < n
      · have hlt1 : (i : Int) < n := by omega
        have hfz : Tp.sz F = n := by rw [← HN.out, ← HF.out.2.1.2.2]; rfl
        have hA0 : Tp.At A 0 F := by have := Tp.at_flat F; rw [HF.out.2.1.2.2] at this; exact this
        obtain ⟨k, y, nn, s, c, hAt, hg, hdp⟩ := sub_at F 0 i hA0 HF.out.2.1.2.1 (by rw [hfz]; exact hlt)
        rw [Nat.zero_add] at hAt
        have hAl := Tp.At.len hAt
        rw [Tp.sz_node, Tp.sz_nil, HN.out] at hAl
        have hcs : 1 + Tp.sz c ≤ n := by omega
        have hcd : 1 + Tp.dep c ≤ 64 := by have := HF.out.2.2; simp only [Tp.dep] at hdp; omega
        have hx := (Tp.at_node.1 hAt).1
        obtain ⟨X, hX⟩ : ∃ X, X = cutF k nn s c := ⟨_, rfl⟩
        have HXM : Hid (May X (.node k ⟨#[]⟩ nn s c .nil)) := Lib.hid (by rw [hX]; exact cut_may hg (by omega) hcd)
        have HXL : Hid (X.length = 1 + Tp.sz c) := Lib.hid (by rw [hX]; show Tp.sz _ = _; rw [Tp.sz_node, Tp.sz_nil]; omega)
        have okX : ∀ x ∈ X, Nok x := by rw [hX]; exact cut_ok (flat_ok HOK.out hAt)
        have CP := Lib.hid (KP.out wr HX.out (i : Int) (by omega) X (.inl ⟨i, k, y, nn, s, c, rfl, HC0.out, HF.out.1, hAt, hX⟩))
        have HGD := Lib.hid hg
        have HXE := Lib.hid hX
        obtain ⟨b0, off, rfl, _, _, _, _, x4⟩ := rdN_cells H1.out HX.out hx
        simp only at x4
        have HXI := Lib.hid hx
        clear hfz hA0 hAt hg hdp hX hAl x4 hx
        go_wp2_with fail
        ((with_reducible refine (CP.out).mono ?_); rintro e a1 ⟨x, rfl, ho, b⟩)
        have HA1 := Lib.hid (up HX.out b)
        have HRX := Lib.hid (Gn.Own.rd ndL ho)
        obtain ⟨m, hm⟩ : ∃ m, X.length = m := ⟨_, rfl⟩
        have hmc : m = 1 + Tp.sz c := by rw [← hm]; exact HXL.out
        obtain ⟨xa, xc, rfl⟩ : ∃ a c, x = .slice a m c := form_n HRX.out m hm
        obtain ⟨b0', off', e0, _, _, _, _, x4⟩ := rdN_cells H1.out HA1.out HXI.out
        obtain ⟨rfl, rfl⟩ : b0 = b0' ∧ off = off' := by injection e0 with e0; injection e0 with e1 e2; exact ⟨e1, e2⟩
        simp only at x4
        have q0 : ((m : Int) == 0) = false := by simp; omega
        have q1 : ((m : Int) != 1 + (Tp.sz c : Nat)) = false := by simp; omega
        have CC := Lib.hid (check _ X a1 HRX.out okX (HT.out.later HA1.out) 0 (may_chk HXM.out).1)
        have HMX := Lib.hid hm
        have HMC := Lib.hid hmc
        clear b ho CP e0 hm hmc
        go_wp2_with fail
        ((with_reducible refine (CC.out).mono ?_); rintro e a2 ⟨rfl, b⟩)
        have HA2 := Lib.hid (up HA1.out b)
        replace HRX := Lib.hid (Gn.Rd.later HRX.out b)
        have KK := Lib.hid (kids _ X a2 HRX.out okX (HT.out.later HA2.out) (plcs 1 c) (.inl ⟨k, ⟨#[]⟩, nn, s, c, HXM.out, rfl⟩))
        clear b CC q0 q1 x4
        go_wp2_with fail
        ((with_reducible refine (KK.out).mono ?_); rintro e a3 ⟨vk, rfl, hok, b⟩)
        have HA3 := Lib.hid (up HA2.out b)
        replace HRX := Lib.hid (Gn.Rd.later HRX.out b)
        have HRK := Lib.hid (Gn.Own.rd inL hok)
        obtain ⟨L, hL⟩ : ∃ L, (plcs 1 c).length = L := ⟨_, rfl⟩
        obtain ⟨ka, kc, rfl⟩ : ∃ a c, vk = .slice a L c := by
          obtain ⟨a, c', e', _⟩ := Gn.Rd.form HRK.out
          exact ⟨a, c', by rw [← hL]; exact e'⟩
        have hLk : (Tp.keys c).length = L := by rw [← plcs_keys 1 c]; exact hL
        have hL60 : L ≤ 60 := by have := keys_le c; omega
        have HLK := Lib.hid hLk
        have HTA := Lib.hid (HT.out.later HA3.out)
        have KPX := Lib.hid (fun (wb : World) (hb : Below a3.heap.size a3 wb) (i : Int) (hi : -9223372036854775808 ≤ i ∧ i ≤ 9223372036854775807) (r : List Nd) (hr : PartIs X i r) => part _ X wb (Gn.Rd.later HRX.out hb) okX (HTA.out.later hb) i hi r hr)
        have HOX := Lib.hid okX
        have hm60 : m ≤ 60 := by have := HMC.out; omega
        clear b hok KK hL hLk okX
        go_wp2_with fail
        go_loopw [6, 7, 8] (fun pv yv jv wx => ∃ (q : Nat) (D R : Fo) (ss : List Sl), jv = .int .i64 (q : Nat) ∧ q ≤ L ∧ Hid (c = Tp.app D R ∧ (Tp.keys D).length = q) ∧ Hid (OwnS wx a3.heap.size pv ss) ∧ Hid (EachO wx ss (cks D)) ∧ Hid (OwnT wx a3.heap.size yv (Tp.keys D)) ∧ Hid (Below a3.heap.size a3 wx)) (fun _ _ jv _ => L - (intOf jv).toNat)
        case atStart => exact ⟨0, .nil, c, [], by rfl, by omega, Lib.hid ⟨rfl, rfl⟩, Lib.hid (Gn.Own.nil _ _), Lib.hid (EachO.nil _), Lib.hid (Gn.Own.nil _ _), Lib.hid (Below.refl _ _)⟩
        case round =>
          obtain ⟨q, D, R, ss, rfl, hq, HD, HS, HE, HY, HB⟩ := hrel
          by_cases hlt : q < L
          · have hlt1 : (q : Int) < L := by omega
            obtain ⟨k2, y2, n2, s2, c2, r2, rfl⟩ := keys_split HD.out.1 q HD.out.2.symm (by rw [HLK.out]; exact hlt)
            obtain ⟨P, hP⟩ : ∃ P, 1 + Tp.sz D = P := ⟨_, rfl⟩
            have hsc : Tp.sz c = Tp.sz D + (1 + Tp.sz c2 + Tp.sz r2) := by rw [HD.out.1, Tp.sz_app, Tp.sz_node]
            have hPm : P < m := by have := HMC.out; omega
            have hP1 : ¬ ((P : Int) < 1) := by omega
            have hP2 : ¬ ((m : Int) ≤ P) := by omega
            have hpl : (plcs 1 c)[q]? = some (P : Int) := by
              have := plcs_at 1 D k2 y2 n2 s2 c2 r2
              rw [← HD.out.1, HD.out.2, hP] at this
              exact this
            obtain ⟨kb, ko, rfl, z⟩ := rdI_cell HRK.out HB.out hpl
            have hXA : Tp.At X P (.node k2 y2 n2 s2 c2 .nil) := by
              have h1 := Tp.at_flat (.node k ⟨#[]⟩ nn s c .nil)
              rw [HXM.out.2.1.2.2] at h1
              have h2 := (Tp.at_node.1 h1).2.1
              rw [HD.out.1, app_step, Tp.at_app, Tp.at_app] at h2
              have h3 := h2.1.2
              rw [Nat.zero_add, hP] at h3
              exact h3
            have hXx := (Tp.at_node.1 hXA).1
            obtain ⟨V, hV⟩ : ∃ V, V = cutF k2 n2 s2 c2 := ⟨_, rfl⟩
            have okV : ∀ x ∈ V, Nok x := by rw [hV]; exact cut_ok (flat_ok HOX.out hXA)
            have CP2 := Lib.hid (KPX.out wr HB.out (P : Int) (by omega) V (.inl ⟨P, k2, y2, n2, s2, c2, rfl, (may_chk HXM.out).1, HXM.out.1, hXA, hV⟩))
            have HVO := Lib.hid okV
            have HVE := Lib.hid hV
            have HXX := Lib.hid hXx
            have HPL := Lib.hid hpl
            have HSS : Hid (ss.length = q) := Lib.hid (by rw [HE.out.1, cks_len]; exact HD.out.2)
            clear hpl hsc hXA hXx hV okV hP
            go_wp2_with fail
            ((with_reducible refine (CP2.out).mono ?_); rintro e a4 ⟨v, rfl, ho, b⟩)
            obtain ⟨Z, hZ⟩ : ∃ Z, V.length = Z := ⟨_, rfl⟩
            obtain ⟨va, vc, rfl⟩ := form_n (Gn.Own.rd ndL ho) Z hZ
            have HS4 := Lib.hid (Gn.Own.later HS.out (b.trans (up_new a4 (.cells #[.slice va Z vc] 25) |>.mono b.size)))
            have HE4 := Lib.hid ((HE.out.later b).snoc (s := ⟨va, Z, vc⟩) (own_low ho) HVO.out |>.later (up_new a4 (.cells #[.slice va Z vc] 25)))
            have HY4 := Lib.hid (Gn.Own.later HY.out (b.trans (up_new a4 (.cells #[.slice va Z vc] 25) |>.mono b.size)))
            have HB4 := Lib.hid (HB.out.trans ((b.trans (up_new a4 (.cells #[.slice va Z vc] 25) |>.mono b.size)).mono HB.out.size))
            have HR4 := Lib.hid (rdSl_one a4 va Z vc)
            clear b ho CP2 z hZ
            go_wp2_with (at_builtin
                         first
                         | (refine Gn.wpList_app slL slY rfl (.tmp 89) (.tmp 96) rfl a3.heap.size _ ss rfl HS4.out _ [(⟨va, Z, vc⟩ : Sl)] rfl HR4.out (by rw [HSS.out]; simp; omega) HB4.out.size ?_
                            intro v5 w5 ho5 hg5 hl5 hn5
                            have HS5 := Lib.hid ho5
                            have HE5 := Lib.hid (EachO.kept HE4.out HS4.out node_ne_sl hg5)
                            have HY5 := Lib.hid (Gn.Own.kept HY4.out hg5 (own_apart HY4.out HS4.out tx_ne_sl))
                            have HB5 := Lib.hid (HB4.out.trans (Gn.below_of_own HS4.out hg5 HB4.out.size))
                            obtain ⟨kb', ko', e1, z⟩ := rdI_cell HRK.out HB5.out HPL.out
                            obtain ⟨rfl, rfl⟩ : kb = kb' ∧ ko = ko' := by injection e1 with e1; injection e1 with e2 e3; exact ⟨e2, e3⟩
                            obtain ⟨xb, xo, rfl, _, z1, _⟩ := rdN_cells HRX.out HB5.out HXX.out
                            have HS6 := Lib.hid (Gn.Own.later HS5.out (up_new w5 (.cells #[.string y2] 9)))
                            have HE6 := Lib.hid (HE5.out.later (up_new w5 (.cells #[.string y2] 9)))
                            have HY6 := Lib.hid (Gn.Own.later HY5.out (up_new w5 (.cells #[.string y2] 9)))
                            have HB6 := Lib.hid (HB5.out.trans ((up_new w5 (.cells #[.string y2] 9)).mono HB5.out.size))
                            have HR6 := Lib.hid (rdTx_one w5 y2)
                            simp only at z1
                            clear ho5 hg5 hl5 hn5 e1)
                         | (refine Gn.wpList_app txL txY rfl (.tmp 98) (.tmp 107) rfl a3.heap.size _ (Tp.keys D) rfl HY6.out _ [y2] rfl HR6.out (by rw [HD.out.2]; simp; omega) HB6.out.size ?_
                            intro v7 w7 ho7 hg7 hl7 hn7
                            have HY7 := Lib.hid ho7
                            have HS7 := Lib.hid (Gn.Own.kept HS6.out hg7 (own_apart HS6.out HY6.out sl_ne_tx))
                            have HE7 := Lib.hid (EachO.kept HE6.out HY6.out node_ne_tx hg7)
                            have HB7 := Lib.hid (HB6.out.trans (Gn.below_of_own HY6.out hg7 HB6.out.size))
                            clear ho7 hg7 hl7 hn7))
            go_roundw
            case rel =>
              refine ⟨q + 1, Tp.app D (.node k2 y2 n2 s2 c2 .nil), r2, ss ++ [(⟨va, Z, vc⟩ : Sl)], by go_num, by omega, Lib.hid ⟨by rw [← app_step]; exact HD.out.1, by rw [Tp.keys_app, List.length_append, HD.out.2]; rfl⟩, HS7, Lib.hid ?_, Lib.hid ?_, HB7⟩
              · rw [cks_app]
                have := HE7.out
                rw [HVE.out] at this
                exact this
              · rw [Tp.keys_app]; exact HY7.out
            case measure => simp [intOf]; omega
          · have hlt1 : ¬ (q : Int) < L := by omega
            have hDc : c = D := keys_done HD.out.1 (by rw [HD.out.2, HLK.out]; omega)
            subst hDc
            have hLc : q = L := by omega
            subst hLc
            obtain ⟨pa, pc, rfl, _⟩ := Gn.Rd.form (Gn.Own.rd slL HS.out)
            obtain ⟨ya, yc, rfl, _⟩ := Gn.Rd.form (Gn.Own.rd txL HY.out)
            have hLs : (cks c).length = q := by rw [cks_len]; exact HD.out.2
            have HLS := Lib.hid hLs
            have HTB := Lib.hid (HTA.out.later HB.out)
            have HRX2 := Lib.hid (Gn.Rd.later HRX.out HB.out)
            have hkind := HGD.out.1
            have hk17 := Tp.hf_kind hkind
            have hgC := HGD.out.2.2.2.1
            have hko := HGD.out.2.2.1
            obtain ⟨r1, x1, hr1⟩ := list_ex (cks c)
            have hks : ∀ y ∈ Tp.keys c, y.size ≤ maxLen := by
              refine keys_small c fun x hx => HOX.out x ?_
              rw [HXE.out]
              unfold cutF
              rw [Tp.flat_node]
              exact List.mem_cons_of_mem _ (List.mem_append_left _ hx)
            have hX0 : X[0]? = some ⟨k, ⟨#[]⟩, nn, s, 1 + (Tp.sz c : Nat)⟩ := by rw [HXE.out]; rfl
            obtain ⟨xb, xo, rfl, _⟩ := rdN_cells HRX2.out (Below.refl _ _) hX0
            have HX0 := Lib.hid (fun (wb : World) (hb : Below wr.heap.size wr wb) => (show wb.cell? ⟨xb, xo, none⟩ = some (.int .i64 k) by
              have := (skeep HRX2.out hX0 hb).2.1
              simpa using this))
            have HTOP := Lib.hid (up HA3.out HB.out)
            have HMM := Lib.hid (show X.length ≤ 1000000 by rw [HMX.out]; omega)
            have hm0 : (0 : Int) < (m : Nat) := by have := HMC.out; omega
            clear hX0
            rcases (show k = 7 ∨ k = 6 ∨ k ≤ 5 by omega) with rfl | rfl | hk5
            · have h0 : nn = 0 ∧ s = ⟨#[]⟩ := by
                unfold Tp.hf at hkind
                rcases hkind with ⟨h, _⟩ | ⟨h, _⟩ | ⟨h, _⟩ | ⟨_, h1, h2⟩
                · omega
                · omega
                · omega
                · exact ⟨h1, size0 h2⟩
              obtain ⟨rfl, rfl⟩ := h0
              have CL := Lib.hid (mkList _ ss (cks c) wr (HE.out.rdS HS.out) (by omega) HTB.out r1 x1 hr1)
              have CO := Lib.hid (fun (wb : World) (hb : Below wr.heap.size wr wb) => mkObj _ _ (Tp.keys c) ss (cks c) wb (Gn.Own.rd txL (Gn.Own.later HY.out hb)) ((HE.out.later hb).rdS (Gn.Own.later HS.out hb)) hks (by omega) (HTB.out.later hb) X 0 (.inr ⟨by rw [cks_len], join_is (.inr rfl) hgC hko (by omega) (by omega) (.inl ⟨by omega, hcd, rfl, HXE.out⟩)⟩))
              clear hr1 hkind hk17 hgC hko hks hLs
              go_wp2_with fail
              ((with_reducible refine (CL.out).mono ?_); rintro e a5 ⟨v5, rfl, ho5, b5⟩)
              have HA5 := Lib.hid b5
              have z0 := HX0.out a5 HA5.out
              clear b5 ho5 CL
              go_wp2_with fail
              ((with_reducible refine (CO.out _ HA5.out).mono ?_); rintro e a6 ⟨v6, rfl, ho6, b6⟩)
              have HA6 := Lib.hid (up HA5.out b6)
              have z0 := HX0.out a6 HA6.out
              have CE := Lib.hid (lawEq _ _ X X a6 (Gn.Rd.later HRX2.out HA6.out) (Gn.Own.rd ndL ho6) HMM.out true ⟨fun _ => rfl, fun _ => rfl⟩)
              clear b6 ho6 CO
              go_wp2_with fail
              ((with_reducible refine (CE.out).mono ?_); rintro e a7 ⟨rfl, b7⟩)
              have HA7 := Lib.hid (up HA6.out b7)
              have z0 := HX0.out a7 HA7.out
              have HEND := Lib.hid (up HTOP.out HA7.out)
              clear b7 CE
              go_wp2_with fail
              go_roundw
              case rel => exact ⟨i + 1, by go_num, by omega, HEND⟩
              case measure => simp [intOf]; omega
            · have h0 : nn = 0 ∧ s = ⟨#[]⟩ := by
                unfold Tp.hf at hkind
                rcases hkind with ⟨h, _⟩ | ⟨h, _⟩ | ⟨h, _⟩ | ⟨_, h1, h2⟩
                · omega
                · omega
                · omega
                · exact ⟨h1, size0 h2⟩
              obtain ⟨rfl, rfl⟩ := h0
              have CL := Lib.hid (mkList _ ss (cks c) wr (HE.out.rdS HS.out) (by omega) HTB.out X 0 (by unfold ListIs; rw [← rep_keys hko]; exact join_is (.inl rfl) hgC hko (by omega) (by omega) (.inl ⟨by omega, hcd, rfl, HXE.out⟩)))
              clear hr1 hkind hk17 hgC hko hks hLs
              go_wp2_with fail
              ((with_reducible refine (CL.out).mono ?_); rintro e a5 ⟨v5, rfl, ho5, b5⟩)
              have HA5 := Lib.hid b5
              have z0 := HX0.out a5 HA5.out
              have CE := Lib.hid (lawEq _ _ X X a5 (Gn.Rd.later HRX2.out HA5.out) (Gn.Own.rd ndL ho5) HMM.out true ⟨fun _ => rfl, fun _ => rfl⟩)
              clear b5 ho5 CL
              go_wp2_with fail
              ((with_reducible refine (CE.out).mono ?_); rintro e a7 ⟨rfl, b7⟩)
              have HA7 := Lib.hid (up HA5.out b7)
              have z0 := HX0.out a7 HA7.out
              have HEND := Lib.hid (up HTOP.out HA7.out)
              clear b7 CE
              go_wp2_with fail
              go_roundw
              case rel => exact ⟨i + 1, by go_num, by omega, HEND⟩
              case measure => simp [intOf]; omega
            · have hcn : c = .nil := HGD.out.2.1 hk5
              have hq0 : q = 0 := by rw [← HD.out.2, hcn]; rfl
              have CL := Lib.hid (mkList _ ss (cks c) wr (HE.out.rdS HS.out) (by omega) HTB.out r1 x1 hr1)
              have t1 : ((k : Int) == 7) = false := by simp; omega
              have t2 : ¬ ((6 : Int) ≤ k) := by omega
              have t3 : (k : Int) < 6 := by omega
              subst hq0
              clear hr1 hkind hk17 hgC hko hks hLs hcn
              go_wp2_with fail
              ((with_reducible refine (CL.out).mono ?_); rintro e a5 ⟨v5, rfl, ho5, b5⟩)
              have HA5 := Lib.hid b5
              have z0 := HX0.out a5 HA5.out
              have HEND := Lib.hid (up HTOP.out HA5.out)
              clear b5 ho5 CL
              go_wp2_with fail
              go_roundw
              case rel => exact ⟨i + 1, by go_num, by omega, HEND⟩
              case measure => simp [intOf]; omega
      · have hlt1 : ¬ (i : Int) < n := by omega
        go_wp2_with fail
        ((with_reducible refine (KW.out _ HX.out).mono ?_); rintro e a14 ⟨rfl, b⟩)
        have HX14 := Lib.hid (up HB1.out (up HX.out b))
        clear b
        go_wp2_with fail
        go_ret
        exact ⟨rfl, HX14.out⟩
  · have hce : ((chk A : Int) != 0) = true := by simpa using h0
    have hd0 := (chk_no h0).2
    have K3 := Lib.hid (fun (wb : World) (hb : Below w1.heap.size w1 wb) => kids _ A wb (Gn.Rd.later H1.out hb) okA (HT.out.later hb) [] (.inr ⟨h0, rfl⟩))
    have KS := Lib.hid (fun (wb : World) (hb : Below w1.heap.size w1 wb) => sorted _ A wb (Gn.Rd.later H1.out hb) okA (HT.out.later hb) [] (.inr ⟨h0, rfl⟩))
    have K5 := Lib.hid (fun (wb : World) (hb : Below w1.heap.size w1 wb) => deepOf _ A wb (Gn.Rd.later H1.out hb) okA (HT.out.later hb) 0 hd0)
    have K7 := Lib.hid (fun (wb : World) (hb : Below w1.heap.size w1 wb) => same _ _ A A wb (Gn.Rd.later H1.out hb) (Gn.Rd.later H1.out hb) okA okA (HT.out.later hb) [] [] (.inr ⟨h0, rfl⟩) (.inr ⟨h0, rfl⟩) false (by simp))
    have KC := Lib.hid (K1.out w1 (Below.refl _ _) _ rfl)
    clear h0 hd0 K1 okA
    generalize chk A = ce at *
    go_wp2_with fail
    ((with_reducible refine (KC.out).mono ?_); rintro e w2 ⟨rfl, b⟩)
    have HX := Lib.hid b
    clear b
    go_wp2_with fail
    ((with_reducible refine (K3.out _ HX.out).mono ?_); rintro e w3 ⟨vk, rfl, hok, b⟩)
    obtain ⟨ka, kc, rfl⟩ : ∃ a c, vk = .slice a 0 c := by
      obtain ⟨a, c, e', _⟩ := Gn.Rd.form (Gn.Own.rd inL hok)
      exact ⟨a, c, e'⟩
    have HX3 := Lib.hid (up HX.out b)
    clear b hok
    go_wp2_with fail
    ((with_reducible refine (KS.out _ HX3.out).mono ?_); rintro e w4 ⟨vs, rfl, hok, b⟩)
    obtain ⟨sa, sc, rfl⟩ := form_n (Gn.Own.rd ndL hok) 0 rfl
    have HX4 := Lib.hid (up HX3.out b)
    clear b hok
    go_wp2_with fail
    ((with_reducible refine (K5.out _ HX4.out).mono ?_); rintro e w5 ⟨rfl, b⟩)
    have HX5 := Lib.hid (up HX4.out b)
    clear b
    go_wp2_with fail
    ((with_reducible refine (K7.out _ HX5.out).mono ?_); rintro e w6 ⟨rfl, b⟩)
    have HX6 := Lib.hid (up HX5.out b)
    clear b
    go_wp2_with fail
    ((with_reducible refine (KW.out _ HX6.out).mono ?_); rintro e w7 ⟨rfl, b⟩)
    have HX7 := Lib.hid (up HB1.out (up HX6.out b))
    clear b
    go_wp2_with fail
    go_ret
    exact ⟨rfl, HX7.out⟩
end Go.Proofs.YteklcfimafplbaaDoor

/- made, of lists and of objects (the reference's). -/
namespace Go.Proofs.YteklcfimafplbaaDoor
open Go.RowKit
set_option linter.unusedVariables false
set_option maxRecDepth 100000

theorem may_of_chk {l : List Nd} (h : chk l = 0) : ∃ F, May l F ∧ dpt l = Tp.dep F ∧ Tp.sz F = l.length ∧ Tp.At l 0 F := by
  obtain ⟨F, hF, hd⟩ := may_of h
  refine ⟨F, hF, hd, ?_, ?_⟩
  · rw [← hF.2.1.2.2]; rfl
  · have := Tp.at_flat F
    rw [hF.2.1.2.2] at this
    exact this
theorem setK_none {l : List Nd} (h : chk l = 0) : setK ⟨#[]⟩ l = l := by
  obtain ⟨F, hF, _⟩ := may_of h
  obtain ⟨_, ⟨⟨k, y, n, s, c, rfl, hy⟩, _, hfl⟩, _⟩ := hF
  rw [← hfl, Tp.flat_node]
  show _ :: _ = _ :: _
  have : y = ⟨#[]⟩ := ByteArray.ext (Array.eq_empty_of_size_eq_zero hy)
  rw [this]
theorem join_big {k : Int} {ys : List ByteArray} {ls : List (List Nd)} {r : List Nd} {x : Int} (h : JoinIs k ys ls r x) (h0 : jerr k ys ls ls.length = 0) {q : Nat} (hq : q < ls.length) (hb : 4000 < jsz ls (q + 1)) : x = 5 ∧ r = [] := by
  have := jsz_le ls (j := q + 1) (k := ls.length) (by omega)
  rcases join_end h h0 with ⟨_, h2, h3⟩ | ⟨h1, _⟩ | ⟨h1, _⟩
  · exact ⟨h2, h3⟩
  · omega
  · omega

set_option maxHeartbeats 8000000 in
theorem rmade6 (kv lv : Value) (ys : List ByteArray) (ss : List Sl) (ls : List (List Nd)) (w : World) (hys : ∀ y ∈ ys, y = ⟨#[]⟩) (hS : RdS w w.heap.size lv ss ls) (hlen : ys.length = ls.length) (hll : ls.length ≤ 100000) (hv : jerr 6 ys ls ls.length = 0) (r : List Nd) (x : Int) (hr : JoinIs 6 ys ls r x) :
    Calls Tryd.prog 95 #[.int .i64 6, kv, lv] w fun e w' => JPost w r x e w' := by
  have HS := Lib.hid hS
  have HJ := Lib.hid hr
  have HV := Lib.hid hv
  have hsl := hS.len
  have HYS : Hid (∀ y ∈ ys, y = ⟨#[]⟩) := Lib.hid hys
  obtain ⟨lb, lc, rfl, _⟩ := Gn.Rd.form hS.rd
  obtain ⟨N, hN⟩ : ∃ N, ls.length = N := ⟨_, rfl⟩
  have hky : ys.length = N := hlen.trans hN
  have hks : ss.length = N := hsl.trans hN
  have HKV := Lib.hid (show True from trivial)
  rw [hks] at HS ⊢
  have HN := Lib.hid hN
  have hN0 : N ≤ 100000 := by omega
  have HKY := Lib.hid hky
  have HKS := Lib.hid hks
  have HO1 := Lib.hid (Gn.Own.lit (T := 36) ndL w w.heap.size [(⟨6, ⟨#[]⟩, 0, ⟨#[]⟩, 0⟩ : Nd)] #[.int .i64 6, .string ⟨#[]⟩, .int .i64 0, .string ⟨#[]⟩, .int .i64 0] 1 1 rfl rfl rfl (by simp [maxLen]) (Nat.le_refl _))
  have HU1 := Lib.hid (up_new w (.cells #[.int .i64 6, .string ⟨#[]⟩, .int .i64 0, .string ⟨#[]⟩, .int .i64 0] 36))
  clear hS hr hsl hll hlen hN hky hks hv hys
  go_enter Tryd.func95, Tryd.ntmps95
  go_wp2_with fail
  go_loopw [8, 9, 10] (fun o d i wr => ∃ (q D : Nat), i = .int .i64 (q : Nat) ∧ d = .int .i64 (D : Nat) ∧ q ≤ N ∧ D ≤ 64 ∧ Hid (jdp ls q = D + 1 ∧ jsz ls q ≤ 4000) ∧ Hid (OwnN wr w.heap.size o (⟨6, ⟨#[]⟩, 0, ⟨#[]⟩, 0⟩ :: jpt ys ls q)) ∧ Hid (Below w.heap.size w wr)) (fun _ _ i _ => N - (intOf i).toNat)
  case atStart => exact ⟨0, 0, by rfl, by rfl, by omega, by omega, Lib.hid ⟨rfl, by rw [jsz_zero]; omega⟩, HO1, HU1⟩
  case round =>
    obtain ⟨q, D, rfl, rfl, hq, hD, HZ, HO2, HB⟩ := hrel
    obtain ⟨ta, tc, rfl, _⟩ := Gn.Rd.form (Gn.Own.rd ndL HO2.out)
    obtain ⟨A, hA⟩ : ∃ A, ((⟨6, ⟨#[]⟩, 0, ⟨#[]⟩, 0⟩ : Nd) :: jpt ys ls q) = A := ⟨_, rfl⟩
    obtain ⟨m, hm⟩ : ∃ m, A.length = m := ⟨_, rfl⟩
    have hmj : m = jsz ls q := by
      rw [← hm, ← hA, List.length_cons, Nat.add_comm]
      exact jpt_len ys ls (by rw [HKY.out, HN.out]) q (by rw [HN.out]; exact hq)
    have hm4 : m ≤ 4000 := by rw [hmj]; exact HZ.out.2
    rw [hA, hm] at HO2 ⊢
    by_cases hlt : q < N
    · have hlt1 : (q : Int) < N := by omega
      obtain ⟨s, hs⟩ : ∃ s, ss[q]? = some s := ⟨_, List.getElem?_eq_getElem (by have := HKS.out; omega)⟩
      obtain ⟨l, hl⟩ : ∃ l, ls[q]? = some l := ⟨_, List.getElem?_eq_getElem (by have := HN.out; omega)⟩
      obtain ⟨y, hy⟩ : ∃ y, ys[q]? = some y := ⟨_, List.getElem?_eq_getElem (by have := HKY.out; omega)⟩
      obtain ⟨b1, o1, rfl, c1⟩ := rdS_cell HS.out HB.out hs
      have HKC := Lib.hid (show True from trivial)
      obtain ⟨hrs, hok⟩ := HS.out.each q s l hs hl
      obtain ⟨sa, sn, sc⟩ := s
      have HSQ := Lib.hid hs
      obtain ⟨_, _, e0, _⟩ := Gn.Rd.form hrs
      obtain rfl : sn = l.length := by injection e0
      have hcl : chk l = 0 := by
        have := jerr_part HV.out (j := q) (by rw [HN.out]; exact hlt)
        rwa [getD_at hl] at this
      have HCL := Lib.hid hcl
      obtain ⟨F, hF, hdF, hsF, hAF⟩ := may_of_chk hcl
      obtain ⟨L, hLL⟩ : ∃ L, l.length = L := ⟨_, rfl⟩
      have hLp : 1 ≤ L ∧ L ≤ 4000 := by rw [← hLL]; exact chk_zero_len hcl
      have HD2 := Lib.hid (fun (wb : World) (hb : Below w.heap.size w wb) => rdeep w _ l hrs (by omega) (Tp.sz F) F 0 0 (L : Int) wb (Nat.le_refl _) rfl (by rw [hsF, hLL]; simp) (by omega) hAF hb)
      have HDF := Lib.hid hdF
      have HLL := Lib.hid hLL
      have HRS := Lib.hid (Gn.Rd.later hrs HB.out)
      unfold Sl.val at HRS HD2
      rw [hLL] at HRS HD2 HSQ c1
      have HLQ := Lib.hid hl
      have HYQ := Lib.hid hy
      have hdF4 : Tp.dep F ≤ 64 := hF.2.2
      simp only at c1
      clear e0 hrs hok hs hl hy hcl hF hdF hsF hAF hLL
      by_cases hbig : 4000 < m + L
      · have hb1 : (4000 : Int) < (m : Int) + L := by omega
        obtain ⟨rfl, rfl⟩ := join_big HJ.out (by have := HV.out; exact this) (q := q) (by rw [HN.out]; exact hlt) (by rw [jsz_succ ls q l HLQ.out, HLL.out, ← hmj]; exact hbig)
        clear hmj hm hA hbig
        go_wp2_with fail
        go_ret2
        exact ⟨_, rfl, Gn.Own.nil _ _, HB.out⟩
      · have hb1 : ¬ (4000 : Int) < (m : Int) + L := by omega
        have hb2 : m + L ≤ 4000 := by omega
        have HJ2 : Hid (jsz ls (q + 1) = m + L) := Lib.hid (by rw [jsz_succ ls q l HLQ.out, HLL.out, ← hmj])
        have HAN : Hid ((⟨6, ⟨#[]⟩, 0, ⟨#[]⟩, 0⟩ : Nd) :: jpt ys ls (q + 1) = A ++ setK y l) := Lib.hid (by rw [jpt_succ ys ls q y _ HYQ.out HLQ.out, ← hA]; rfl)
        have HM := Lib.hid hm
        have HDP : Hid (jdp ls (q + 1) = max D (Tp.dep F) + 1) := Lib.hid (by rw [jdp, HZ.out.1, getD_at HLQ.out, HDF.out]; omega)
        obtain ⟨x0, l', hxl⟩ : ∃ x0 l', l = x0 :: l' := by
          have := HLL.out
          cases l with
          | nil => simp at this; omega
          | cons x0 l' => exact ⟨x0, l', rfl⟩
        have HXL := Lib.hid hxl
        clear hmj hm hA hbig hxl
        go_wp2_with (at_builtin
                     refine Gn.wpList_app ndL ndY rfl (.tmp 32) (.tmp 36) rfl w.heap.size _ A rfl HO2.out _ l rfl HRS.out (by rw [HM.out, HLL.out]; omega) HB.out.size ?_
                     intro v1 w6 ho6 hg6 hl6 hn6
                     have HB6 := Lib.hid (HB.out.trans (Gn.below_of_own HO2.out hg6 HB.out.size))
                     obtain ⟨b1', o1', e3, c1⟩ := rdS_cell HS.out HB6.out HSQ.out
                     obtain ⟨rfl, rfl⟩ : b1 = b1' ∧ o1 = o1' := by injection e3 with e3; injection e3 with e1 e2; exact ⟨e1, e2⟩
                     have HKD := Lib.hid (show True from trivial)
                     obtain ⟨a6, c6, rfl, _⟩ := Gn.Rd.form (Gn.Own.rd ndL ho6)
                     obtain ⟨N6, hN6⟩ : ∃ n, (A ++ l).length = n := ⟨_, rfl⟩
                     have hN6' : N6 = m + L := by rw [← hN6, List.length_append, HM.out, HLL.out]
                     rw [hN6] at ho6
                     obtain ⟨g6, rfl⟩ := own_addr ho6 (by rw [hN6]; omega)
                     have hfz := own_melt ho6 hN6
                     have hmN : (m : Int) < (N6 : Nat) := by omega
                     have HO6 := Lib.hid ho6
                     have HN6 := Lib.hid hN6
                     have hx6 : (A ++ l)[m]? = some x0 := by rw [← HM.out, HXL.out, List.getElem?_append_right (Nat.le_refl _), Nat.sub_self]; rfl
                     have c4 : w6.cell? ⟨g6, m * 5 + 1, none⟩ = some (.string x0.key) := by
                       obtain ⟨b', o', e', y0, y1, y2, y3, y4⟩ := rdN_cells (hN6 ▸ Gn.Own.rd ndL ho6) (Below.refl _ _) (i := m) (x := x0) hx6
                       obtain ⟨rfl, rfl⟩ : g6 = b' ∧ 0 = o' := by injection e' with e'; injection e' with e1 e2; exact ⟨e1, e2⟩
                       rw [Nat.zero_add] at y1; exact y1
                     have HP := Lib.hid (own_put (i := m) (x := x0) (m := 1) (u := .string y) (x' := ⟨x0.kind, y, x0.n, x0.s, x0.size⟩) ho6 hN6 hx6 rfl (by omega))
                     have HBP := Lib.hid (HB6.out.setCell (p := ⟨g6, m * 5 + 1, none⟩) (ho6.lt g6 rfl).1 (.string y))
                     clear e3 hg6 hl6 hn6 hN6' ho6 hx6)
        have HO7 : Hid (OwnN w6 w.heap.size (.slice (some ⟨g6, 0, none⟩) N6 c6) (A ++ setK y l)) := Lib.hid (by rw [HYS.out y (List.mem_of_getElem? HYQ.out), setK_none HCL.out]; exact HO6.out)
        have HB7 := HB6
        clear HP HBP hfz c4 HO6
        have HC7 := Lib.hid (fun (w' : World) (hb : Below w.heap.size w w') => (show Below w.heap.size w w' ∧ w'.cell? ⟨b1, o1 + q, none⟩ = some (.slice sa L sc) by
          obtain ⟨b', o', e', c⟩ := rdS_cell HS.out hb HSQ.out
          obtain ⟨rfl, rfl⟩ : b1 = b' ∧ o1 = o' := by injection e' with e'; injection e' with e1 e2; exact ⟨e1, e2⟩
          exact ⟨hb, c⟩))
        go_region_held3 (fun w' => Below w.heap.size w w' ∧ w'.cell? ⟨b1, o1 + q, none⟩ = some (.slice sa L sc))
          (first | exact HC7.out _ HB7.out | exact HC7.out _ HB7.out.drew | exact HC7.out _ HB8.out | exact HC7.out _ HB8.out.drew)
          ((first
            | (go_at_call 92; (with_reducible refine (HD2.out _ (by first | exact HB7.out | exact HB7.out.drew)).mono ?_); rintro e w8 ⟨rfl, b8⟩; have HB8 : Hid (Below w.heap.size w w8) := Lib.hid (by first | exact HB7.out.trans (b8.mono HB7.out.size) | exact HB7.out.drew.trans (b8.mono HB7.out.size)); have HO8 : Hid (OwnN w8 w.heap.size (.slice (some ⟨g6, 0, none⟩) N6 c6) (A ++ setK y l)) := Lib.hid (by first | exact Gn.Own.later HO7.out b8 | exact Gn.Own.later (Gn.Own.drew HO7.out) b8); clear b8)))
        clear HC7
        go_wp2_with fail
        go_roundw
        case rel =>
          refine ⟨q + 1, max D (Tp.dep F), by go_num, by congr 1; omega, by omega, by omega, Lib.hid ⟨HDP.out, by rw [HJ2.out]; exact hb2⟩, Lib.hid ?_, HB8⟩
          rw [HAN.out]
          exact HO8.out
        case measure => simp [intOf]; omega
    · have hlt1 : ¬ (q : Int) < N := by omega
      obtain rfl : q = N := by omega
      have HEND := Lib.hid (join_end HJ.out HV.out)
      rw [HN.out, HZ.out.1] at HEND
      rcases HEND.out with ⟨h1, rfl, rfl⟩ | ⟨h1, h2, rfl, rfl⟩ | ⟨h1, h2, rfl, rfl⟩
      · exact absurd h1 (by have := HZ.out.2; omega)
      · have h2' : (64 : Int) < (D : Int) + 1 := by omega
        clear HEND h1 h2 hmj hm hA
        go_wp2_with fail
        go_ret2
        exact ⟨_, rfl, Gn.Own.nil _ _, HB.out⟩
      · have h2' : ¬ (64 : Int) < (D : Int) + 1 := by omega
        have hm1 : 1 ≤ m := by rw [← hm, ← hA]; simp
        have hm0 : (0 : Int) < (m : Nat) := by omega
        obtain ⟨g6, rfl⟩ := own_addr HO2.out (by rw [hm]; omega)
        have hfz := own_melt HO2.out hm
        have hx6 : A[0]? = some ⟨6, ⟨#[]⟩, 0, ⟨#[]⟩, 0⟩ := by rw [← hA]; rfl
        have c4 : wr.cell? ⟨g6, 4, none⟩ = some (.int .i64 0) := by
          obtain ⟨b', o', e', y0, y1, y2, y3, y4⟩ := rdN_cells (hm ▸ Gn.Own.rd ndL HO2.out) (Below.refl _ _) (i := 0) hx6
          obtain ⟨rfl, rfl⟩ : g6 = b' ∧ 0 = o' := by injection e' with e'; injection e' with e1 e2; exact ⟨e1, e2⟩
          exact y4
        have HP := Lib.hid (own_put (i := 0) (m := 4) (u := .int .i64 (m : Nat)) (x' := ⟨6, ⟨#[]⟩, 0, ⟨#[]⟩, (m : Nat)⟩) HO2.out hm hx6 rfl (by omega))
        have HBP := Lib.hid (HB.out.setCell (p := ⟨g6, 4, none⟩) (HO2.out.lt g6 rfl).1 (.int .i64 (m : Nat)))
        have HFE : Hid (A.set 0 ⟨6, ⟨#[]⟩, 0, ⟨#[]⟩, (m : Nat)⟩ = ⟨6, ⟨#[]⟩, 0, ⟨#[]⟩, (jsz ls q : Nat)⟩ :: jpt ys ls q) := Lib.hid (by rw [← hA, hmj]; rfl)
        clear HEND h1 h2 hmj hm hA hx6
        go_wp2_with fail
        go_ret2
        exact ⟨_, rfl, by rw [← HFE.out]; exact HP.out, HBP.out⟩

set_option maxHeartbeats 8000000 in
theorem rmade7 (kv lv : Value) (ys : List ByteArray) (ss : List Sl) (ls : List (List Nd)) (w : World) (hK : RdT w w.heap.size kv ys) (hS : RdS w w.heap.size lv ss ls) (hlen : ys.length = ls.length) (hll : ls.length ≤ 100000) (hv : jerr 7 ys ls ls.length = 0) (r : List Nd) (x : Int) (hr : JoinIs 7 ys ls r x) :
    Calls Tryd.prog 95 #[.int .i64 7, kv, lv] w fun e w' => JPost w r x e w' := by
  have HS := Lib.hid hS
  have HJ := Lib.hid hr
  have HV := Lib.hid hv
  have hsl := hS.len
  have HK := Lib.hid hK
  obtain ⟨kb, kc, rfl, _⟩ := Gn.Rd.form hK
  obtain ⟨lb, lc, rfl, _⟩ := Gn.Rd.form hS.rd
  obtain ⟨N, hN⟩ : ∃ N, ls.length = N := ⟨_, rfl⟩
  have hky : ys.length = N := hlen.trans hN
  have hks : ss.length = N := hsl.trans hN
  rw [hky] at HK ⊢
  rw [hks] at HS ⊢
  have HN := Lib.hid hN
  have hN0 : N ≤ 100000 := by omega
  have HKY := Lib.hid hky
  have HKS := Lib.hid hks
  have HO1 := Lib.hid (Gn.Own.lit (T := 36) ndL w w.heap.size [(⟨7, ⟨#[]⟩, 0, ⟨#[]⟩, 0⟩ : Nd)] #[.int .i64 7, .string ⟨#[]⟩, .int .i64 0, .string ⟨#[]⟩, .int .i64 0] 1 1 rfl rfl rfl (by simp [maxLen]) (Nat.le_refl _))
  have HU1 := Lib.hid (up_new w (.cells #[.int .i64 7, .string ⟨#[]⟩, .int .i64 0, .string ⟨#[]⟩, .int .i64 0] 36))
  clear hS hr hsl hll hlen hN hky hks hv hK
  go_enter Tryd.func95, Tryd.ntmps95
  go_wp2_with fail
  go_loopw [8, 9, 10] (fun o d i wr => ∃ (q D : Nat), i = .int .i64 (q : Nat) ∧ d = .int .i64 (D : Nat) ∧ q ≤ N ∧ D ≤ 64 ∧ Hid (jdp ls q = D + 1 ∧ jsz ls q ≤ 4000) ∧ Hid (OwnN wr w.heap.size o (⟨7, ⟨#[]⟩, 0, ⟨#[]⟩, 0⟩ :: jpt ys ls q)) ∧ Hid (Below w.heap.size w wr)) (fun _ _ i _ => N - (intOf i).toNat)
  case atStart => exact ⟨0, 0, by rfl, by rfl, by omega, by omega, Lib.hid ⟨rfl, by rw [jsz_zero]; omega⟩, HO1, HU1⟩
  case round =>
    obtain ⟨q, D, rfl, rfl, hq, hD, HZ, HO2, HB⟩ := hrel
    obtain ⟨ta, tc, rfl, _⟩ := Gn.Rd.form (Gn.Own.rd ndL HO2.out)
    obtain ⟨A, hA⟩ : ∃ A, ((⟨7, ⟨#[]⟩, 0, ⟨#[]⟩, 0⟩ : Nd) :: jpt ys ls q) = A := ⟨_, rfl⟩
    obtain ⟨m, hm⟩ : ∃ m, A.length = m := ⟨_, rfl⟩
    have hmj : m = jsz ls q := by
      rw [← hm, ← hA, List.length_cons, Nat.add_comm]
      exact jpt_len ys ls (by rw [HKY.out, HN.out]) q (by rw [HN.out]; exact hq)
    have hm4 : m ≤ 4000 := by rw [hmj]; exact HZ.out.2
    rw [hA, hm] at HO2 ⊢
    by_cases hlt : q < N
    · have hlt1 : (q : Int) < N := by omega
      obtain ⟨s, hs⟩ : ∃ s, ss[q]? = some s := ⟨_, List.getElem?_eq_getElem (by have := HKS.out; omega)⟩
      obtain ⟨l, hl⟩ : ∃ l, ls[q]? = some l := ⟨_, List.getElem?_eq_getElem (by have := HN.out; omega)⟩
      obtain ⟨y, hy⟩ : ∃ y, ys[q]? = some y := ⟨_, List.getElem?_eq_getElem (by have := HKY.out; omega)⟩
      obtain ⟨b1, o1, rfl, c1⟩ := rdS_cell HS.out HB.out hs
      obtain ⟨b2, o2, rfl, c2⟩ := rdT_cell HK.out HB.out hy
      obtain ⟨hrs, hok⟩ := HS.out.each q s l hs hl
      obtain ⟨sa, sn, sc⟩ := s
      have HSQ := Lib.hid hs
      obtain ⟨_, _, e0, _⟩ := Gn.Rd.form hrs
      obtain rfl : sn = l.length := by injection e0
      have hcl : chk l = 0 := by
        have := jerr_part HV.out (j := q) (by rw [HN.out]; exact hlt)
        rwa [getD_at hl] at this
      have HCL := Lib.hid hcl
      obtain ⟨F, hF, hdF, hsF, hAF⟩ := may_of_chk hcl
      obtain ⟨L, hLL⟩ : ∃ L, l.length = L := ⟨_, rfl⟩
      have hLp : 1 ≤ L ∧ L ≤ 4000 := by rw [← hLL]; exact chk_zero_len hcl
      have HD2 := Lib.hid (fun (wb : World) (hb : Below w.heap.size w wb) => rdeep w _ l hrs (by omega) (Tp.sz F) F 0 0 (L : Int) wb (Nat.le_refl _) rfl (by rw [hsF, hLL]; simp) (by omega) hAF hb)
      have HDF := Lib.hid hdF
      have HLL := Lib.hid hLL
      have HRS := Lib.hid (Gn.Rd.later hrs HB.out)
      unfold Sl.val at HRS HD2
      rw [hLL] at HRS HD2 HSQ c1
      have HLQ := Lib.hid hl
      have HYQ := Lib.hid hy
      have hdF4 : Tp.dep F ≤ 64 := hF.2.2
      simp only at c1
      clear e0 hrs hok hs hl hy hcl hF hdF hsF hAF hLL
      by_cases hbig : 4000 < m + L
      · have hb1 : (4000 : Int) < (m : Int) + L := by omega
        obtain ⟨rfl, rfl⟩ := join_big HJ.out (by have := HV.out; exact this) (q := q) (by rw [HN.out]; exact hlt) (by rw [jsz_succ ls q l HLQ.out, HLL.out, ← hmj]; exact hbig)
        clear hmj hm hA hbig
        go_wp2_with fail
        go_ret2
        exact ⟨_, rfl, Gn.Own.nil _ _, HB.out⟩
      · have hb1 : ¬ (4000 : Int) < (m : Int) + L := by omega
        have hb2 : m + L ≤ 4000 := by omega
        have HJ2 : Hid (jsz ls (q + 1) = m + L) := Lib.hid (by rw [jsz_succ ls q l HLQ.out, HLL.out, ← hmj])
        have HAN : Hid ((⟨7, ⟨#[]⟩, 0, ⟨#[]⟩, 0⟩ : Nd) :: jpt ys ls (q + 1) = A ++ setK y l) := Lib.hid (by rw [jpt_succ ys ls q y _ HYQ.out HLQ.out, ← hA]; rfl)
        have HM := Lib.hid hm
        have HDP : Hid (jdp ls (q + 1) = max D (Tp.dep F) + 1) := Lib.hid (by rw [jdp, HZ.out.1, getD_at HLQ.out, HDF.out]; omega)
        obtain ⟨x0, l', hxl⟩ : ∃ x0 l', l = x0 :: l' := by
          have := HLL.out
          cases l with
          | nil => simp at this; omega
          | cons x0 l' => exact ⟨x0, l', rfl⟩
        have HXL := Lib.hid hxl
        clear hmj hm hA hbig hxl
        go_wp2_with (at_builtin
                     refine Gn.wpList_app ndL ndY rfl (.tmp 32) (.tmp 36) rfl w.heap.size _ A rfl HO2.out _ l rfl HRS.out (by rw [HM.out, HLL.out]; omega) HB.out.size ?_
                     intro v1 w6 ho6 hg6 hl6 hn6
                     have HB6 := Lib.hid (HB.out.trans (Gn.below_of_own HO2.out hg6 HB.out.size))
                     obtain ⟨b1', o1', e3, c1⟩ := rdS_cell HS.out HB6.out HSQ.out
                     obtain ⟨rfl, rfl⟩ : b1 = b1' ∧ o1 = o1' := by injection e3 with e3; injection e3 with e1 e2; exact ⟨e1, e2⟩
                     obtain ⟨b3, o3, e4, c2⟩ := rdT_cell HK.out HB6.out HYQ.out
                     obtain ⟨rfl, rfl⟩ : b2 = b3 ∧ o2 = o3 := by injection e4 with e4; injection e4 with e1 e2; exact ⟨e1, e2⟩
                     obtain ⟨a6, c6, rfl, _⟩ := Gn.Rd.form (Gn.Own.rd ndL ho6)
                     obtain ⟨N6, hN6⟩ : ∃ n, (A ++ l).length = n := ⟨_, rfl⟩
                     have hN6' : N6 = m + L := by rw [← hN6, List.length_append, HM.out, HLL.out]
                     rw [hN6] at ho6
                     obtain ⟨g6, rfl⟩ := own_addr ho6 (by rw [hN6]; omega)
                     have hfz := own_melt ho6 hN6
                     have hmN : (m : Int) < (N6 : Nat) := by omega
                     have HO6 := Lib.hid ho6
                     have HN6 := Lib.hid hN6
                     have hx6 : (A ++ l)[m]? = some x0 := by rw [← HM.out, HXL.out, List.getElem?_append_right (Nat.le_refl _), Nat.sub_self]; rfl
                     have c4 : w6.cell? ⟨g6, m * 5 + 1, none⟩ = some (.string x0.key) := by
                       obtain ⟨b', o', e', y0, y1, y2, y3, y4⟩ := rdN_cells (hN6 ▸ Gn.Own.rd ndL ho6) (Below.refl _ _) (i := m) (x := x0) hx6
                       obtain ⟨rfl, rfl⟩ : g6 = b' ∧ 0 = o' := by injection e' with e'; injection e' with e1 e2; exact ⟨e1, e2⟩
                       rw [Nat.zero_add] at y1; exact y1
                     have HP := Lib.hid (own_put (i := m) (x := x0) (m := 1) (u := .string y) (x' := ⟨x0.kind, y, x0.n, x0.s, x0.size⟩) ho6 hN6 hx6 rfl (by omega))
                     have HBP := Lib.hid (HB6.out.setCell (p := ⟨g6, m * 5 + 1, none⟩) (ho6.lt g6 rfl).1 (.string y))
                     clear e3 hg6 hl6 hn6 hN6' ho6 hx6)
        obtain ⟨w7, hw7⟩ : ∃ w7, w7 = w6.setCell ⟨g6, m * 5 + 1, none⟩ (.string y) := ⟨_, rfl⟩
        rw [← hw7]
        have HO7 : Hid (OwnN w7 w.heap.size (.slice (some ⟨g6, 0, none⟩) N6 c6) (A ++ setK y l)) := Lib.hid (by
          have h1 := HP.out
          rw [HXL.out, ← HM.out, set_key, HM.out, ← hw7] at h1
          rw [HXL.out]; exact h1)
        have HB7 : Hid (Below w.heap.size w w7) := Lib.hid (by rw [hw7]; exact HBP.out)
        clear HP HBP hfz c4 HO6 c1 c2 hw7
        have HC7 := Lib.hid (fun (w' : World) (hb : Below w.heap.size w w') => (show Below w.heap.size w w' ∧ w'.cell? ⟨b1, o1 + q, none⟩ = some (.slice sa L sc) by
          obtain ⟨b', o', e', c⟩ := rdS_cell HS.out hb HSQ.out
          obtain ⟨rfl, rfl⟩ : b1 = b' ∧ o1 = o' := by injection e' with e'; injection e' with e1 e2; exact ⟨e1, e2⟩
          exact ⟨hb, c⟩))
        go_region_held3 (fun w' => Below w.heap.size w w' ∧ w'.cell? ⟨b1, o1 + q, none⟩ = some (.slice sa L sc))
          (first | exact HC7.out _ HB7.out | exact HC7.out _ HB7.out.drew | exact HC7.out _ HB8.out | exact HC7.out _ HB8.out.drew)
          ((first
            | (go_at_call 92; (with_reducible refine (HD2.out _ (by first | exact HB7.out | exact HB7.out.drew)).mono ?_); rintro e w8 ⟨rfl, b8⟩; have HB8 : Hid (Below w.heap.size w w8) := Lib.hid (by first | exact HB7.out.trans (b8.mono HB7.out.size) | exact HB7.out.drew.trans (b8.mono HB7.out.size)); have HO8 : Hid (OwnN w8 w.heap.size (.slice (some ⟨g6, 0, none⟩) N6 c6) (A ++ setK y l)) := Lib.hid (by first | exact Gn.Own.later HO7.out b8 | exact Gn.Own.later (Gn.Own.drew HO7.out) b8); clear b8)))
        clear HC7
        go_wp2_with fail
        go_roundw
        case rel =>
          refine ⟨q + 1, max D (Tp.dep F), by go_num, by congr 1; omega, by omega, by omega, Lib.hid ⟨HDP.out, by rw [HJ2.out]; exact hb2⟩, Lib.hid ?_, HB8⟩
          rw [HAN.out]
          exact HO8.out
        case measure => simp [intOf]; omega
    · have hlt1 : ¬ (q : Int) < N := by omega
      obtain rfl : q = N := by omega
      have HEND := Lib.hid (join_end HJ.out HV.out)
      rw [HN.out, HZ.out.1] at HEND
      rcases HEND.out with ⟨h1, rfl, rfl⟩ | ⟨h1, h2, rfl, rfl⟩ | ⟨h1, h2, rfl, rfl⟩
      · exact absurd h1 (by have := HZ.out.2; omega)
      · have h2' : (64 : Int) < (D : Int) + 1 := by omega
        clear HEND h1 h2 hmj hm hA
        go_wp2_with fail
        go_ret2
        exact ⟨_, rfl, Gn.Own.nil _ _, HB.out⟩
      · have h2' : ¬ (64 : Int) < (D : Int) + 1 := by omega
        have hm1 : 1 ≤ m := by rw [← hm, ← hA]; simp
        have hm0 : (0 : Int) < (m : Nat) := by omega
        obtain ⟨g6, rfl⟩ := own_addr HO2.out (by rw [hm]; omega)
        have hfz := own_melt HO2.out hm
        have hx6 : A[0]? = some ⟨7, ⟨#[]⟩, 0, ⟨#[]⟩, 0⟩ := by rw [← hA]; rfl
        have c4 : wr.cell? ⟨g6, 4, none⟩ = some (.int .i64 0) := by
          obtain ⟨b', o', e', y0, y1, y2, y3, y4⟩ := rdN_cells (hm ▸ Gn.Own.rd ndL HO2.out) (Below.refl _ _) (i := 0) hx6
          obtain ⟨rfl, rfl⟩ : g6 = b' ∧ 0 = o' := by injection e' with e'; injection e' with e1 e2; exact ⟨e1, e2⟩
          exact y4
        have HP := Lib.hid (own_put (i := 0) (m := 4) (u := .int .i64 (m : Nat)) (x' := ⟨7, ⟨#[]⟩, 0, ⟨#[]⟩, (m : Nat)⟩) HO2.out hm hx6 rfl (by omega))
        have HBP := Lib.hid (HB.out.setCell (p := ⟨g6, 4, none⟩) (HO2.out.lt g6 rfl).1 (.int .i64 (m : Nat)))
        have HFE : Hid (A.set 0 ⟨7, ⟨#[]⟩, 0, ⟨#[]⟩, (m : Nat)⟩ = ⟨7, ⟨#[]⟩, 0, ⟨#[]⟩, (jsz ls q : Nat)⟩ :: jpt ys ls q) := Lib.hid (by rw [← hA, hmj]; rfl)
        clear HEND h1 h2 hmj hm hA hx6
        go_wp2_with fail
        go_ret2
        exact ⟨_, rfl, by rw [← HFE.out]; exact HP.out, HBP.out⟩
end Go.Proofs.YteklcfimafplbaaDoor

/- List, Obj (the reference's). -/
namespace Go.Proofs.YteklcfimafplbaaDoor
open Go.RowKit
set_option linter.unusedVariables false
set_option maxRecDepth 100000

set_option maxHeartbeats 4000000 in
theorem rlist (lv : Value) (ss : List Sl) (ls : List (List Nd)) (w : World) (hS : RdS w w.heap.size lv ss ls) (hll : ls.length ≤ 100000) (r : List Nd) (x : Int) (hr : ListIs ls r x) :
    Calls Tryd.prog 64 #[lv] w fun e w' => JPost w r x e w' := by
  have HS := Lib.hid hS
  obtain ⟨N, hN⟩ : ∃ N, ls.length = N := ⟨_, rfl⟩
  have hks : ss.length = N := hS.len.trans hN
  obtain ⟨lb, lc, rfl, _⟩ := Gn.Rd.form hS.rd
  rw [hks] at HS ⊢
  have hN0 : N ≤ 100000 := by omega
  obtain ⟨ys, hys⟩ : ∃ ys, ys = List.replicate N (⟨#[]⟩ : ByteArray) := ⟨_, rfl⟩
  have HJ : Hid (JoinIs 6 ys ls r x) := Lib.hid (by rw [hys, ← hN]; exact hr)
  have HY : Hid (∀ y ∈ ys, y = ⟨#[]⟩) := Lib.hid (fun y hy => by rw [hys] at hy; exact (List.mem_replicate.1 hy).2)
  have HYL : Hid (ys.length = N) := Lib.hid (by rw [hys]; simp)
  have HN := Lib.hid hN
  have HKS := Lib.hid hks
  have CM := Lib.hid (fun (wb : World) (hb : Below w.heap.size w wb) (hv : jerr 6 ys ls ls.length = 0) => rmade6 (.slice none 0 0) _ ys ss ls wb HY.out ((HS.out.below hb (Nat.le_refl _)).more hb.size) (by rw [HYL.out, HN.out]) (by omega) hv r x HJ.out)
  clear hS hr hll hN hks hys
  go_enter Tryd.func64, Tryd.ntmps64
  go_wp2_with fail
  go_loopw [4] (fun i wr => ∃ (q : Nat), i = .int .i64 (q : Nat) ∧ q ≤ N ∧ Hid (jerr 6 ys ls q = 0) ∧ Hid (Below w.heap.size w wr)) (fun i _ => N - (intOf i).toNat)
  case atStart => exact ⟨0, by rfl, by omega, Lib.hid rfl, Lib.hid (Below.refl _ _)⟩
  case round =>
    obtain ⟨q, rfl, hq, HE, HB⟩ := hrel
    by_cases hlt : q < N
    · have hlt1 : (q : Int) < N := by omega
      obtain ⟨s, hs⟩ : ∃ s, ss[q]? = some s := ⟨_, List.getElem?_eq_getElem (by have := HKS.out; omega)⟩
      obtain ⟨l, hl⟩ : ∃ l, ls[q]? = some l := ⟨_, List.getElem?_eq_getElem (by have := HN.out; omega)⟩
      obtain ⟨y, hy⟩ : ∃ y, ys[q]? = some y := ⟨_, List.getElem?_eq_getElem (by have := HYL.out; omega)⟩
      obtain ⟨b1, o1, rfl, c1⟩ := rdS_cell HS.out HB.out hs
      obtain ⟨hrs, hok⟩ := HS.out.each q s l hs hl
      obtain ⟨sa, sn, sc⟩ := s
      obtain ⟨_, _, e0, _⟩ := Gn.Rd.form hrs
      obtain rfl : sn = l.length := by injection e0
      obtain ⟨ee, hee⟩ : ∃ ee, chk l = ee := ⟨_, rfl⟩
      have CC := Lib.hid (rcheck _ l wr (Gn.Rd.later hrs HB.out) hok ee hee)
      unfold Sl.val at CC
      have hke : ke 6 (ys.take q) (ys.getD q ⟨#[]⟩) = 0 := by
        rw [getD_at hy, HY.out y (List.mem_of_getElem? hy), ke, if_neg (by omega)]; rfl
      have HCE : Hid (jerr 6 ys ls (q + 1) = ee) := Lib.hid (by rw [jerr_chk 6 ys ls q HE.out hke, getD_at hl]; exact hee)
      simp only at c1
      obtain ⟨L, hLL⟩ : ∃ L, l.length = L := ⟨_, rfl⟩
      rw [hLL] at CC c1
      clear hs hl hy hrs hok e0 hee hke hLL
      go_wp2_with fail
      ((with_reducible refine (CC.out).mono ?_); rintro e w5 ⟨rfl, b⟩)
      have HB5 := Lib.hid (up HB.out b)
      clear b CC c1
      by_cases h0 : ee = 0
      · subst h0
        go_wp2_with fail
        go_roundw
        case rel => exact ⟨q + 1, by go_num, by omega, HCE, HB5⟩
        case measure => simp [intOf]; omega
      · have h0' : ((ee : Int) != 0) = true := by simpa using h0
        obtain ⟨rfl, rfl⟩ := join_err HJ.out (q := q) (by have := HN.out; omega) HCE.out h0
        clear h0
        go_wp2_with fail
        go_ret2
        exact ⟨_, rfl, Gn.Own.nil _ _, HB5.out⟩
    · have hlt1 : ¬ (q : Int) < N := by omega
      obtain rfl : q = N := by omega
      have CE := Lib.hid (CM.out wr HB.out (by rw [HN.out]; exact HE.out))
      go_wp2_with fail
      ((with_reducible refine (CE.out).mono ?_); rintro e w5 ⟨v5, rfl, ho5, b⟩)
      have HO5 := Lib.hid (Gn.Own.lower ho5 HB.out.size)
      have HB5 := Lib.hid (up HB.out b)
      clear b CE ho5
      go_wp2_with fail
      go_ret2
      exact ⟨_, rfl, HO5.out, HB5.out⟩

def Fresh (y : ByteArray) (l : List ByteArray) : Prop := y ∉ l
theorem mem_take {ys : List ByteArray} {j : Nat} {y : ByteArray} (h : y ∈ ys.take j) : ∃ i, i < j ∧ ys[i]? = some y := by
  obtain ⟨i, hi, e⟩ := List.getElem_of_mem h
  have hi2 : i < j := by have := hi; simp at this; omega
  refine ⟨i, hi2, ?_⟩
  rw [List.getElem_take] at e
  rw [← e]
  exact List.getElem?_eq_getElem _
theorem rdT_dN {w W : World} {B n c b off : Nat} {l : List ByteArray} (h : RdT W B (.slice (some ⟨b, off, none⟩) n c) l) (hb : Below B W w) {i : Nat} {x : ByteArray} (hi : l[i]? = some x) (k : Nat) : (w.drewN k).cell? ⟨b, off + i, none⟩ = some (.string x) := by
  obtain ⟨b', o', e, c'⟩ := rdT_cell h (dN hb k) hi
  obtain ⟨rfl, rfl⟩ : b = b' ∧ off = o' := by injection e with e; injection e with e1 e2; exact ⟨e1, e2⟩
  exact c'

set_option maxHeartbeats 8000000 in
theorem robj (kv lv : Value) (ys : List ByteArray) (ss : List Sl) (ls : List (List Nd)) (w : World) (hK : RdT w w.heap.size kv ys) (hS : RdS w w.heap.size lv ss ls) (hys : ∀ y ∈ ys, y.size ≤ maxLen) (hll : ls.length ≤ 100000) (r : List Nd) (x : Int) (hr : ObjIs ys ls r x) :
    Calls Tryd.prog 65 #[kv, lv] w fun e w' => JPost w r x e w' := by
  have HK := Lib.hid hK
  have HS := Lib.hid hS
  obtain ⟨kb, kc, rfl, _⟩ := Gn.Rd.form hK
  obtain ⟨lb, lc, rfl, _⟩ := Gn.Rd.form hS.rd
  have hks : ss.length = ls.length := hS.len
  have h1 := hK.len'
  rw [hks] at HS ⊢
  rcases hr with ⟨hne, rfl, rfl⟩ | ⟨he, hj⟩
  · have hne' : ((ys.length : Int) != (ls.length : Int)) = true := by simp; omega
    have hne2 : ¬ ((ys.length : Int) = (ls.length : Int)) := by omega
    clear hK hS hks hne
    go_enter Tryd.func65, Tryd.ntmps65
    go_wp2_with fail
    go_ret2
    exact ⟨_, rfl, Gn.Own.nil _ _, Below.refl _ _⟩
  · obtain ⟨N, hN⟩ : ∃ N, ls.length = N := ⟨_, rfl⟩
    have hN0 : N ≤ 100000 := by omega
    have hyl : ys.length = N := he.trans hN
    rw [hN] at HS ⊢
    rw [hyl] at HK ⊢
    have HJ := Lib.hid hj
    have HN := Lib.hid hN
    have HYL := Lib.hid hyl
    have HYS := Lib.hid hys
    have HKS : Hid (ss.length = N) := Lib.hid (hks.trans hN)
    have CM := Lib.hid (fun (wb : World) (hb : Below w.heap.size w wb) (hv : jerr 7 ys ls ls.length = 0) => rmade7 _ _ ys ss ls wb (Gn.Rd.later HK.out hb) ((HS.out.below hb (Nat.le_refl _)).more hb.size) (by rw [HYL.out, HN.out]) (by omega) hv r x HJ.out)
    clear hK hS hks h1 he hj hys hll hN hyl
    go_enter Tryd.func65, Tryd.ntmps65
    go_wp2_with fail
    go_loopw [6] (fun i wr => ∃ (q : Nat), i = .int .i64 (q : Nat) ∧ q ≤ N ∧ Hid (jerr 7 ys ls q = 0) ∧ Hid (Below w.heap.size w wr)) (fun i _ => N - (intOf i).toNat)
    case atStart => exact ⟨0, by rfl, by omega, Lib.hid rfl, Lib.hid (Below.refl _ _)⟩
    case round =>
      obtain ⟨q, rfl, hq, HE, HB⟩ := hrel
      by_cases hlt : q < N
      · have hlt1 : (q : Int) < N := by omega
        obtain ⟨s, hs⟩ : ∃ s, ss[q]? = some s := ⟨_, List.getElem?_eq_getElem (by have := HKS.out; omega)⟩
        obtain ⟨l, hl⟩ : ∃ l, ls[q]? = some l := ⟨_, List.getElem?_eq_getElem (by have := HN.out; omega)⟩
        obtain ⟨y, hy⟩ : ∃ y, ys[q]? = some y := ⟨_, List.getElem?_eq_getElem (by have := HYL.out; omega)⟩
        obtain ⟨b1, o1, rfl, _⟩ := rdS_cell HS.out HB.out hs
        obtain ⟨b2, o2, rfl, c2⟩ := rdT_cell HK.out HB.out hy
        obtain ⟨hrs, hok⟩ := HS.out.each q s l hs hl
        obtain ⟨sa, sn, sc⟩ := s
        obtain ⟨_, _, e0, _⟩ := Gn.Rd.form hrs
        obtain rfl : sn = l.length := by injection e0
        obtain ⟨ee, hee⟩ : ∃ ee, chk l = ee := ⟨_, rfl⟩
        have CC := Lib.hid (fun (wb : World) (hb : Below w.heap.size w wb) => rcheck _ l wb (Gn.Rd.later hrs hb) hok ee hee)
        unfold Sl.val at CC
        obtain ⟨bv, hbv⟩ : ∃ b, Utf.vld (bl y) = b := ⟨_, rfl⟩
        have CV := Lib.hid (rvalid y wr (HYS.out y (List.mem_of_getElem? hy)) bv hbv)
        have HYQ := Lib.hid hy
        have HLQ := Lib.hid hl
        have HSQ := Lib.hid hs
        have HEE := Lib.hid hee
        have HBV := Lib.hid hbv
        have HKE : ∀ e, okey (ys.take q) y = e → ke 7 (ys.take q) (ys.getD q ⟨#[]⟩) = e := fun e h => by rw [getD_at hy, ke, if_pos rfl]; exact h
        have HKE2 := Lib.hid HKE
        obtain ⟨L, hLL⟩ : ∃ L, l.length = L := ⟨_, rfl⟩
        rw [hLL] at CC HSQ
        clear hs hl hy hrs hok e0 hee hLL hbv HKE
        go_wp2_with fail
        ((with_reducible refine (CV.out).mono ?_); rintro e w5 ⟨rfl, b⟩)
        have HB5 := Lib.hid (up HB.out b)
        clear b CV c2
        cases bv with
        | false =>
          have hok : okey (ys.take q) y = 40 := by unfold okey; rw [if_neg (by rw [HBV.out]; simp)]
          obtain ⟨rfl, rfl⟩ := join_err HJ.out (q := q) (by have := HN.out; omega) ((jerr_key 7 ys ls q HE.out (by rw [HKE2.out _ hok]; omega)).trans (HKE2.out _ hok)) (by omega)
          clear hok
          go_wp2_with fail
          go_ret2
          exact ⟨_, rfl, Gn.Own.nil _ _, HB5.out⟩
        | true =>
          go_wp2_with fail
          go_loopw [7] (fun i wx => ∃ (j : Nat), i = .int .i64 (j : Nat) ∧ j ≤ q ∧ Hid (Fresh y (ys.take j)) ∧ Hid (Below w.heap.size w wx)) (fun i _ => q - (intOf i).toNat)
          case atStart => exact ⟨0, by rfl, by omega, Lib.hid (by unfold Fresh; simp), HB5⟩
          case round =>
            obtain ⟨j, rfl, hj, HNI, HBX⟩ := hrel
            by_cases hlt2 : j < q
            · have hlt3 : (j : Int) < q := by omega
              have hlt4 : (j : Int) < N := by omega
              obtain ⟨y2, hy2⟩ : ∃ y, ys[j]? = some y := ⟨_, List.getElem?_eq_getElem (by have := HYL.out; omega)⟩
              have z1 : ∀ n, (wr.drewN n).cell? ⟨b2, o2 + j, none⟩ = some (.string y2) := rdT_dN HK.out HBX.out hy2
              have z2 : ∀ n, (wr.drewN n).cell? ⟨b2, o2 + q, none⟩ = some (.string y) := rdT_dN HK.out HBX.out HYQ.out
              by_cases heq : y2 = y
              · have hb : (y2.toList == y.toList) = true := by rw [heq]; simp
                have hok : okey (ys.take q) y = 71 := by
                  unfold okey
                  rw [if_pos HBV.out, if_pos]
                  rw [← heq]
                  exact List.mem_of_getElem? (i := j) (by rw [List.getElem?_take_of_lt hlt2]; exact hy2)
                obtain ⟨rfl, rfl⟩ := join_err HJ.out (q := q) (by have := HN.out; omega) ((jerr_key 7 ys ls q HE.out (by rw [HKE2.out _ hok]; omega)).trans (HKE2.out _ hok)) (by omega)
                clear hok heq hy2
                go_wp2_with fail
                go_quiet (fail)
                have HBQ := Lib.hid (dN HBX.out nq)
                go_wp2_with fail
                go_ret2
                exact ⟨_, rfl, Gn.Own.nil _ _, HBQ.out⟩
              · have hb : (y2.toList == y.toList) = false := beq_eq_false_iff_ne.2 (fun e => heq (by rw [ByteArray.toList_eq, ByteArray.toList_eq] at e; exact ByteArray.ext (Array.toList_inj.1 e)))
                have HN2 : Hid (Fresh y (ys.take (j + 1))) := Lib.hid (by
                  unfold Fresh
                  rw [take_at hy2]
                  intro h
                  rcases List.mem_append.1 h with h | h
                  · exact HNI.out h
                  · exact heq (List.mem_singleton.1 h).symm)
                clear heq hy2
                go_wp2_with fail
                go_quiet (fail)
                have HBQ := Lib.hid (dN HBX.out nq)
                go_wp2_with fail
                go_roundw
                case rel => exact ⟨j + 1, by go_num, by omega, HN2, HBQ⟩
                case measure => simp [intOf]; omega
            · have hlt3 : ¬ (j : Int) < q := by omega
              obtain rfl : j = q := by omega
              obtain ⟨b1', o1', e1, c1⟩ := rdS_cell HS.out HBX.out HSQ.out
              obtain ⟨rfl, rfl⟩ : b1 = b1' ∧ o1 = o1' := by injection e1 with e1; injection e1 with e2 e3; exact ⟨e2, e3⟩
              simp only at c1
              have hok : okey (ys.take j) y = 0 := by unfold okey; rw [if_pos HBV.out, if_neg HNI.out]
              have HCE : Hid (jerr 7 ys ls (j + 1) = ee) := Lib.hid (by rw [jerr_chk 7 ys ls j HE.out (HKE2.out _ hok), getD_at HLQ.out]; exact HEE.out)
              have CC2 := Lib.hid (CC.out wr HBX.out)
              clear hok e1
              go_wp2_with fail
              ((with_reducible refine (CC2.out).mono ?_); rintro e w6 ⟨rfl, b⟩)
              have HB6 := Lib.hid (up HBX.out b)
              clear b CC2 c1
              by_cases h0 : ee = 0
              · subst h0
                go_wp2_with fail
                go_roundw
                case rel => exact ⟨j + 1, by go_num, by omega, HCE, HB6⟩
                case measure => simp [intOf]; omega
              · have h0' : ((ee : Int) != 0) = true := by simpa using h0
                obtain ⟨rfl, rfl⟩ := join_err HJ.out (q := j) (by have := HN.out; omega) HCE.out h0
                clear h0
                go_wp2_with fail
                go_ret2
                exact ⟨_, rfl, Gn.Own.nil _ _, HB6.out⟩
      · have hlt1 : ¬ (q : Int) < N := by omega
        obtain rfl : q = N := by omega
        have CE := Lib.hid (CM.out wr HB.out (by rw [HN.out]; exact HE.out))
        go_wp2_with fail
        ((with_reducible refine (CE.out).mono ?_); rintro e w5 ⟨v5, rfl, ho5, b⟩)
        have HO5 := Lib.hid (Gn.Own.lower ho5 HB.out.size)
        have HB5 := Lib.hid (up HB.out b)
        clear b CE ho5
        go_wp2_with fail
        go_ret2
        exact ⟨_, rfl, HO5.out, HB5.out⟩
end Go.Proofs.YteklcfimafplbaaDoor

/- TapeMakes: the walk. -/
namespace Go.Proofs.YteklcfimafplbaaDoor
open Go.RowKit
set_option linter.unusedVariables false
set_option maxRecDepth 100000

theorem no_over2 (s t : ByteArray) (h : s.size + t.size ≤ 9223372036854775807) : ¬ 9223372036854775807 < s.size + t.size := by omega
theorem copyTexts (v : Value) (l : List ByteArray) (w : World) (h : RdT w w.heap.size v l) (hl : l.length ≤ 1000000) :
    Calls Tryd.prog 60 #[v] w fun e w' => ∃ v', e = .returned v' ∧ OwnT w' w.heap.size v' l ∧ Below w.heap.size w w' := by
  have HR := Lib.hid h
  have HO : Hid (OwnT w w.heap.size (.slice none 0 0) []) := Lib.hid (Gn.Own.nil _ _)
  clear h
  go_enter Tryd.func60, Tryd.ntmps60
  go_wp2_with (at_builtin
               refine Gn.wpList_app txL txY rfl (.tmp 4) (.tmp 5) rfl w.heap.size (.slice none 0 0) [] rfl HO.out v l rfl HR.out (by simp; omega) (Nat.le_refl _) ?_
               intro v1 w1 ho1 hg1 hl1 hn1)
  go_ret
  exact ⟨_, rfl, ho1, Gn.below_of_own HO.out hg1 (Nat.le_refl _)⟩
/-- Two rows of one type that do not share a block. -/
def Dj (a b : Value) : Prop := ∀ g, a.ownBlock = some g → b.ownBlock ≠ some g
theorem Dj.kept {a b : Value} (h : Dj a b) : b.ownBlock = none ∨ b.ownBlock ≠ a.ownBlock := by
  cases hb : b.ownBlock with
  | none => exact .inl rfl
  | some g => exact .inr (fun e => h g e.symm hb)
theorem Dj.symm {a b : Value} (h : Dj a b) : Dj b a := fun g hg ha => h g ha hg
theorem Dj.grow {α : Type} {enc : α → List Value} {k : Nat} {T : TypeId} {w : World} {B : Nat} {a a' b : Value} {l : List α} (h : Dj a b) (hb : Gn.Own enc k T w B b l) (hl : a'.ownBlock = a.ownBlock ∨ a'.ownBlock = some w.heap.size) : Dj a' b := by
  intro g hg hb2
  rcases hl with e | e
  · exact h g (e ▸ hg) hb2
  · rw [e] at hg
    injection hg with hg
    have := (hb.lt g hb2).2
    omega
/-- A text of an owned row is written. -/
theorem ownT_put {w : World} {base : Nat} {g n cap : Nat} {l : List ByteArray} {i : Nat} {u : ByteArray} (h : OwnT w base (.slice (some ⟨g, 0, none⟩) n cap) l) (hn : l.length = n) :
    OwnT (w.setCell ⟨g, i, none⟩ (.string u)) base (.slice (some ⟨g, 0, none⟩) n cap) (l.set i u) := by
  subst hn
  have h' : w.ownsRow base 9 1 (.slice (some ⟨g, 0, none⟩) l.length cap) l.length (Gn.cells txc l) := h
  have := (h'.stored i (.string u)).1
  unfold OwnT Gn.Own
  have e : Gn.cells txc (l.set i u) = (Gn.cells txc l).set i (.string u) := by
    have : ∀ l : List ByteArray, Gn.cells txc l = l.map (fun x => .string x) := by
      intro l; induction l with
      | nil => rfl
      | cons x l ih => rw [Gn.cells_cons, ih]; rfl
    rw [this, this, List.map_set]
  rw [e, List.length_set]
  exact this
theorem ownT_melt {w : World} {base : Nat} {g n cap : Nat} {l : List ByteArray} (h : OwnT w base (.slice (some ⟨g, 0, none⟩) n cap) l) (hn : l.length = n) (j : Nat) : w.frozen? ⟨g, j, none⟩ = false := by
  subst hn
  have h' : w.ownsRow base 9 1 (.slice (some ⟨g, 0, none⟩) l.length cap) l.length (Gn.cells txc l) := h
  exact h'.frozenAt j
theorem ownT_addr {w : World} {base n cap : Nat} {ad : Option Addr} {l : List ByteArray} (h : OwnT w base (.slice ad n cap) l) (h0 : 0 < l.length) : ∃ g, ad = some ⟨g, 0, none⟩ := by
  rcases h.2 with ⟨_, e⟩ | ⟨g, c, cur, e, _⟩
  · omega
  · injection e with e
    exact ⟨g, e⟩
/-- Two rows of what few made of parts, and a row of keys beside them. -/
structure ML (W wx : World) (B : Nat) (p1 p2 kv : Value) (s1 s2 : List Sl) (fs : List (List Nd)) (ys : List ByteArray) : Prop where
  r1 : OwnS wx B p1 s1
  e1 : EachO wx s1 fs
  r2 : OwnS wx B p2 s2
  e2 : EachO wx s2 fs
  dj : Dj p1 p2
  keys : OwnT wx B kv ys
  below : Below W.heap.size W wx
theorem ML.later {W w w' : World} {B : Nat} {p1 p2 kv : Value} {s1 s2 : List Sl} {fs : List (List Nd)} {ys : List ByteArray} (h : ML W w B p1 p2 kv s1 s2 fs ys) (hb : Below w.heap.size w w') : ML W w' B p1 p2 kv s1 s2 fs ys :=
  ⟨Gn.Own.later h.r1 hb, h.e1.later hb, Gn.Own.later h.r2 hb, h.e2.later hb, h.dj, Gn.Own.later h.keys hb, up h.below hb⟩

theorem own_touchG {α : Type} {enc : α → List Value} {k : Nat} {T : TypeId} {S : Nat → Prop} {w w' : World} {base : Nat} {v : Value} {l : List α} (h : Gn.Own enc k T w base v l) (ht : Touch S w w') (hn : ∀ g, v.ownBlock = some g → ¬ S g) : Gn.Own enc k T w' base v l := by
  obtain ⟨h0, h1⟩ := h
  refine ⟨h0, ?_⟩
  rcases h1 with h1 | ⟨g, cap, cur, rfl, hg, hh, r⟩
  · exact .inl h1
  · have hlt : g < w.heap.size := by
      rcases Nat.lt_or_ge g w.heap.size with hlt | hge
      · exact hlt
      · rw [Array.getElem?_eq_none hge] at hh; cases hh
    exact .inr ⟨g, cap, cur, rfl, hg, (ht.block g hlt (hn g rfl)).trans hh, r⟩
theorem own_set {α : Type} {enc : α → List Value} {k : Nat} {T : TypeId} {w : World} {base B g n c j : Nat} {v u : Value} {l : List α} {ys : List ByteArray} (h : Gn.Own enc k T w base v l) (hk : OwnT w B (.slice (some ⟨g, 0, none⟩) n c) ys) (hT : T ≠ 9) : Gn.Own enc k T (w.setCell ⟨g, j, none⟩ u) base v l := by
  refine own_touchG h (Touch.setCell (S := fun i => i = g) (p := ⟨g, j, none⟩) (Touch.refl _ _) rfl u) (fun g' hg' e => ?_)
  subst e
  rcases own_apart h hk hT with h1 | h1
  · rw [h1] at hg'; cases hg'
  · exact h1 (by rw [hg']; rfl)
/-- A key is cut. -/
theorem ML.cut {W w : World} {B g n c : Nat} {p1 p2 : Value} {s1 s2 : List Sl} {fs : List (List Nd)} {ys : List ByteArray} (h : ML W w B p1 p2 (.slice (some ⟨g, 0, none⟩) n c) s1 s2 fs ys) (hn : ys.length = n) (hB : W.heap.size ≤ B) (j : Nat) (y : ByteArray) : ML W (w.setCell ⟨g, j, none⟩ (.string y)) B p1 p2 (.slice (some ⟨g, 0, none⟩) n c) s1 s2 fs (ys.set j y) :=
  ⟨own_set h.r1 h.keys sl_ne_tx, ⟨h.e1.1, fun i s l h1 h2 => ⟨own_set (h.e1.2 i s l h1 h2).1 h.keys node_ne_tx, (h.e1.2 i s l h1 h2).2⟩⟩,
   own_set h.r2 h.keys sl_ne_tx, ⟨h.e2.1, fun i s l h1 h2 => ⟨own_set (h.e2.2 i s l h1 h2).1 h.keys node_ne_tx, (h.e2.2 i s l h1 h2).2⟩⟩,
   h.dj, ownT_put h.keys hn, h.below.setCell (p := ⟨g, j, none⟩) (Nat.le_trans hB (h.keys.lt g rfl).1) _⟩
theorem ML.drew {W w : World} {B : Nat} {p1 p2 kv : Value} {s1 s2 : List Sl} {fs : List (List Nd)} {ys : List ByteArray} (h : ML W w B p1 p2 kv s1 s2 fs ys) : ML W w.drew B p1 p2 kv s1 s2 fs ys := h.later (Below.refl _ _).drew
/-- The keys, the first j of them cut. -/
def cutK (zs : List ByteArray) (j : Nat) : List ByteArray := (zs.take j).map (clip 40) ++ zs.drop j
theorem cutK_len (zs : List ByteArray) (j : Nat) (h : j ≤ zs.length) : (cutK zs j).length = zs.length := by simp [cutK]; omega
theorem cutK_at (zs : List ByteArray) (j : Nat) (y : ByteArray) (h : zs[j]? = some y) : (cutK zs j)[j]? = some y := by
  have hj := (List.getElem?_eq_some_iff.1 h).1
  unfold cutK
  rw [List.getElem?_append_right (by simp; omega), List.getElem?_drop]
  simp only [List.length_map, List.length_take]
  rw [show j + (j - min j zs.length) = j by omega]
  exact h
theorem cutK_set (zs : List ByteArray) (j : Nat) (y : ByteArray) (h : zs[j]? = some y) : (cutK zs j).set j (clip 40 y) = cutK zs (j + 1) := by
  have hj := (List.getElem?_eq_some_iff.1 h).1
  unfold cutK
  rw [List.set_append_right (h := by simp; omega), take_at h, List.map_append]
  have e : zs.drop j = y :: zs.drop (j + 1) := by
    rw [List.drop_eq_getElem_cons hj, (List.getElem?_eq_some_iff.1 h).2]
  rw [e]
  simp only [List.length_map, List.length_take]
  rw [show j - min j zs.length = 0 by omega]
  simp
theorem join_len {k : Int} {ys : List ByteArray} {ls : List (List Nd)} {r : List Nd} {x : Int} (h : JoinIs k ys ls r x) (hl : ys.length = ls.length) : r.length ≤ 4000 := by
  rcases h.is with ⟨_, _, rfl⟩ | ⟨_, ⟨_, _, rfl⟩ | ⟨_, _, _, rfl⟩ | ⟨h1, _, _, rfl⟩⟩
  · simp
  · simp
  · simp
  · have := jpt_len ys ls hl ls.length (Nat.le_refl _)
    simp only [List.length_cons]
    omega
theorem obj_len {ys : List ByteArray} {ls : List (List Nd)} {r : List Nd} {x : Int} (h : ObjIs ys ls r x) : r.length ≤ 4000 := by
  rcases h with ⟨_, _, rfl⟩ | ⟨hl, hj⟩
  · simp
  · exact join_len hj hl
theorem list_len {ls : List (List Nd)} {r : List Nd} {x : Int} (h : ListIs ls r x) : r.length ≤ 4000 := join_len h (by simp)

set_option maxHeartbeats 40000000 in
theorem tapeMakes (kv lv : Value) (ys : List ByteArray) (ss : List Sl) (ls : List (List Nd)) (n : Int) (W : World) (hK : RdT W W.heap.size kv ys) (hys : ∀ y ∈ ys, y.size ≤ maxLen) (hS : RdS W W.heap.size lv ss ls) (hn1 : -9223372036854775808 ≤ n) (hn2 : n ≤ 9223372036854775807) (T : Tab W) :
    Calls Tryd.prog 25 #[kv, lv, .int .i64 n] W fun e w' => e = .returned (.bool true) ∧ Below W.heap.size W w' := by
  obtain ⟨ka, kc, rfl, _⟩ := Gn.Rd.form hK
  obtain ⟨la, lc, rfl, _⟩ := Gn.Rd.form hS.rd
  have hyl := hK.len'
  have hsl := hS.rd.len'
  obtain ⟨NK, hNK⟩ : ∃ N, ys.length = N := ⟨_, rfl⟩
  obtain ⟨NS, hNS⟩ : ∃ N, ss.length = N := ⟨_, rfl⟩
  obtain ⟨u, hu, hur⟩ := Gn.cut_to txY W W.heap.size ka ys NK kc (min NK 8) (by rw [← hNK]; exact hK) hNK (by omega)
  have em : ((min NK 8 : Nat) : Int) = min (NK : Int) 8 := by omega
  rw [em] at hu
  have CC := Lib.hid (copyTexts u (ys.take (min NK 8)) W hur (by rw [List.length_take]; omega))
  have HKL : Hid ((ys.take (min NK 8)).length ≤ 8) := Lib.hid (by rw [List.length_take]; omega)
  have HKY : Hid (∀ y ∈ ys.take (min NK 8), y.size ≤ maxLen) := Lib.hid (fun y hy => hys y (List.mem_of_mem_take hy))
  have HS := Lib.hid hS
  have HT := Lib.hid T
  have HNS := Lib.hid hNS
  have HLS : Hid (ls.length = NS) := Lib.hid (by rw [← hS.len]; exact hNS)
  rw [hNK] at hyl ⊢
  rw [hNS] at HS hsl ⊢
  clear hK hys hS T hur em hNK hNS
  generalize ys.take (min NK 8) = zs at *
  go_enter Tryd.func25, Tryd.ntmps25
  go_wp2_with fail
  ((with_reducible refine (CC.out).mono ?_); rintro e w1 ⟨kw, rfl, hk, b⟩)
  obtain ⟨M, hM⟩ : ∃ M, zs.length = M := ⟨_, rfl⟩
  obtain ⟨kwa, kwc, rfl⟩ : ∃ a c, kw = .slice a M c := by
    obtain ⟨a, c, e', _⟩ := Gn.Rd.form (Gn.Own.rd txL hk)
    exact ⟨a, c, by rw [← hM]; exact e'⟩
  have HML : Hid (ML W w1 W.heap.size (.slice none 0 0) (.slice none 0 0) (.slice kwa M kwc) [] [] [] zs) := Lib.hid ⟨Gn.Own.nil _ _, EachO.nil _, Gn.Own.nil _ _, EachO.nil _, fun g hg => by simp [Value.ownBlock] at hg, hk, b⟩
  have HM := Lib.hid hM
  have hM8 : M ≤ 8 := by have := HKL.out; omega
  clear hk b CC hM
  go_wp2_with fail
  go_loopw [7, 8, 9] (fun p1 p2 i wx => ∃ (q : Nat) (s1 s2 : List Sl), i = .int .i64 (q : Nat) ∧ q ≤ 8 ∧ q ≤ NS ∧ Hid (ML W wx W.heap.size p1 p2 (.slice kwa M kwc) s1 s2 ((ls.take q).map fewL) zs)) (fun _ _ i _ => 8 - (intOf i).toNat)
  case atStart => exact ⟨0, [], [], by rfl, by omega, by omega, HML⟩
  case round =>
    obtain ⟨q, s1, s2, rfl, hq, hqS, HA⟩ := hrel
    by_cases hlt : q < NS ∧ q < 8
    · have hlt1 : (q : Int) < NS := by omega
      have hlt2 : (q : Int) < 8 := by omega
      obtain ⟨s, hs⟩ : ∃ s, ss[q]? = some s := ⟨_, List.getElem?_eq_getElem (by have := HNS.out; omega)⟩
      obtain ⟨l, hl⟩ : ∃ l, ls[q]? = some l := ⟨_, List.getElem?_eq_getElem (by have := HLS.out; omega)⟩
      obtain ⟨b1, o1, rfl, c1⟩ := rdS_cell HS.out HA.out.below hs
      obtain ⟨hrs, hok⟩ := HS.out.each q s l hs hl
      obtain ⟨sa, sn, sc⟩ := s
      have HSQ := Lib.hid hs
      have HLQ := Lib.hid hl
      have CF := Lib.hid (fun (wb : World) (hb : Below W.heap.size W wb) => few _ l wb (Gn.Rd.later hrs hb) hok)
      have HOK := Lib.hid (fewL_ok l hok)
      have HSL : Hid (s1.length = q ∧ s2.length = q) := Lib.hid (by
        have a := HA.out.e1.1
        have b := HA.out.e2.1
        have c := HLS.out
        simp only [List.length_map, List.length_take] at a b
        omega)
      have CF1 := Lib.hid (CF.out wr HA.out.below)
      unfold Sl.val at CF1
      simp only at c1 CF1
      clear hs hl hrs hok
      go_wp2_with fail
      ((with_reducible refine (CF1.out).mono ?_); rintro e w3 ⟨v, rfl, ho, b⟩)
      obtain ⟨m, hm⟩ : ∃ m, (fewL l).length = m := ⟨_, rfl⟩
      obtain ⟨va, vc, rfl⟩ := form_n (Gn.Own.rd ndL ho) m hm
      have bu := up_new w3 (.cells #[.slice va m vc] 25)
      have HA4 := Lib.hid ((HA.out.later b).later bu)
      have HV4 := Lib.hid (Gn.Own.later (own_low ho) bu)
      have HR4 := Lib.hid (rdSl_one w3 va m vc)
      clear b ho hm bu CF1 c1
      go_wp2_with (at_builtin
                   refine Gn.wpList_app slL slY rfl (.tmp 37) (.tmp 43) rfl W.heap.size _ s1 rfl HA4.out.r1 _ [(⟨va, m, vc⟩ : Sl)] rfl HR4.out (by rw [HSL.out.1]; simp; omega) HA4.out.below.size ?_
                   intro v5 w5 ho5 hg5 hl5 hn5
                   have HB5 := Lib.hid (HA4.out.below.trans (Gn.below_of_own HA4.out.r1 hg5 HA4.out.below.size))
                   have HS5 := Lib.hid ho5
                   have HE5 := Lib.hid ((EachO.kept HA4.out.e1 HA4.out.r1 node_ne_sl hg5).snoc (s := ⟨va, m, vc⟩) (Gn.Own.kept HV4.out hg5 (own_apart HV4.out HA4.out.r1 node_ne_sl)) HOK.out)
                   have HS6 := Lib.hid (Gn.Own.kept HA4.out.r2 hg5 HA4.out.dj.kept)
                   have HE6 := Lib.hid (EachO.kept HA4.out.e2 HA4.out.r1 node_ne_sl hg5)
                   have HK6 := Lib.hid (Gn.Own.kept HA4.out.keys hg5 (own_apart HA4.out.keys HA4.out.r1 tx_ne_sl))
                   have HD6 := Lib.hid (HA4.out.dj.grow HA4.out.r2 hl5)
                   have CF2 := Lib.hid (CF.out w5 HB5.out)
                   obtain ⟨b1', o1', e1, c1⟩ := rdS_cell HS.out HB5.out HSQ.out
                   obtain ⟨rfl, rfl⟩ : b1 = b1' ∧ o1 = o1' := by injection e1 with e1; injection e1 with e2 e3; exact ⟨e2, e3⟩
                   unfold Sl.val at CF2
                   simp only at c1 CF2
                   clear ho5 hg5 hl5 hn5 e1)
      ((with_reducible refine (CF2.out).mono ?_); rintro e w7 ⟨v2, rfl, ho, b⟩)
      obtain ⟨va2, vc2, rfl⟩ := form_n (Gn.Own.rd ndL ho) (fewL l).length rfl
      obtain ⟨m2, hm2⟩ : ∃ m, (fewL l).length = m := ⟨_, rfl⟩
      rw [hm2] at ho ⊢
      have bu := up_new w7 (.cells #[.slice va2 m2 vc2] 25)
      have bb := up b bu
      have HS7 := Lib.hid (Gn.Own.later HS5.out bb)
      have HE7 := Lib.hid (HE5.out.later bb)
      have HS8 := Lib.hid (Gn.Own.later HS6.out bb)
      have HE8 := Lib.hid ((HE6.out.later b).later bu)
      have HV8 := Lib.hid (Gn.Own.later (own_low ho) bu)
      have HK8 := Lib.hid (Gn.Own.later HK6.out bb)
      have HB8 := Lib.hid (up HB5.out bb)
      have HR8 := Lib.hid (rdSl_one w7 va2 m2 vc2)
      clear b bu bb ho hm2 CF2 c1
      go_wp2_with (at_builtin
                   refine Gn.wpList_app slL slY rfl (.tmp 45) (.tmp 51) rfl W.heap.size _ s2 rfl HS8.out _ [(⟨va2, m2, vc2⟩ : Sl)] rfl HR8.out (by rw [HSL.out.2]; simp; omega) HB8.out.size ?_
                   intro v9 w9 ho9 hg9 hl9 hn9
                   have HAN : Hid (ML W w9 W.heap.size v5 v9 (.slice kwa M kwc) (s1 ++ [(⟨va, m, vc⟩ : Sl)]) (s2 ++ [(⟨va2, m2, vc2⟩ : Sl)]) ((ls.take (q + 1)).map fewL) zs) := Lib.hid (by
                     have hf : (ls.take (q + 1)).map fewL = (ls.take q).map fewL ++ [fewL l] := by rw [take_at HLQ.out, List.map_append]; rfl
                     rw [hf]
                     exact ⟨Gn.Own.kept HS7.out hg9 HD6.out.symm.kept, EachO.kept HE7.out HS8.out node_ne_sl hg9, ho9, (EachO.kept HE8.out HS8.out node_ne_sl hg9).snoc (s := ⟨va2, m2, vc2⟩) (Gn.Own.kept HV8.out hg9 (own_apart HV8.out HS8.out node_ne_sl)) HOK.out, (HD6.out.symm.grow HS7.out hl9).symm, Gn.Own.kept HK8.out hg9 (own_apart HK8.out HS8.out tx_ne_sl), HB8.out.trans (Gn.below_of_own HS8.out hg9 HB8.out.size)⟩)
                   clear ho9 hg9 hl9 hn9)
      go_roundw
      case rel => exact ⟨q + 1, _, _, by go_num, by omega, by omega, HAN⟩
      case measure => simp [intOf]; omega
    · obtain ⟨fs, hfs⟩ : ∃ fs, fs = (ls.take q).map fewL := ⟨_, rfl⟩
      have HFL : Hid (fs.length = q ∧ ∀ l ∈ fs, l.length ≤ 60) := Lib.hid ⟨by rw [hfs]; have := HLS.out; simp; omega, fun l hl => by
        rw [hfs] at hl
        obtain ⟨l', _, rfl⟩ := List.mem_map.1 hl
        exact fewL_len l'⟩
      rw [← hfs] at HA
      have hs1 : s1.length = q := by rw [HA.out.e1.1]; exact HFL.out.1
      have hs2 : s2.length = q := by rw [HA.out.e2.1]; exact HFL.out.1
      obtain ⟨pa1, pc1, rfl, _⟩ := Gn.Rd.form (Gn.Own.rd slL HA.out.r1)
      obtain ⟨pa2, pc2, rfl, _⟩ := Gn.Rd.form (Gn.Own.rd slL HA.out.r2)
      rw [hs1, hs2] at HA ⊢
      have HSL := Lib.hid (And.intro hs1 hs2)
      have HA0 : Hid (ML W wr W.heap.size (.slice pa1 q pc1) (.slice pa2 q pc2) (.slice kwa M kwc) s1 s2 fs (cutK zs 0)) := Lib.hid (by simpa [cutK] using HA.out)
      have hcase : ¬ (q : Int) < NS ∨ ((q : Int) < NS ∧ ¬ (q : Int) < 8) := by
        rcases Nat.lt_or_ge q NS with h | h
        · exact .inr ⟨by omega, by omega⟩
        · exact .inl (by omega)
      clear hlt hfs HA hs1 hs2
      rcases hcase with hc1 | ⟨hc1, hc2⟩
      all_goals
        go_wp2_with fail
        go_loopw [10, 11] (fun sv i wx => ∃ (j : Nat) (t : ByteArray), sv = .string t ∧ i = .int .i64 (j : Nat) ∧ j ≤ M ∧ t.size ≤ 40 * j ∧ Hid (ML W wx W.heap.size (.slice pa1 q pc1) (.slice pa2 q pc2) (.slice kwa M kwc) s1 s2 fs (cutK zs j))) (fun _ i _ => M - (intOf i).toNat)
        case atStart => exact ⟨0, ⟨#[]⟩, by rfl, by rfl, by omega, by decide, HA0⟩
        case round =>
          obtain ⟨j, t, rfl, rfl, hj, ht, HA⟩ := hrel
          by_cases hlt : j < M
          · have hlt1 : (j : Int) < M := by omega
            obtain ⟨y, hy⟩ : ∃ y, zs[j]? = some y := ⟨_, List.getElem?_eq_getElem (by have := HM.out; omega)⟩
            have hcl : (cutK zs j).length = M := by rw [cutK_len zs j (by have := HM.out; omega)]; exact HM.out
            obtain ⟨g, rfl⟩ := ownT_addr HA.out.keys (by omega)
            obtain ⟨b', o', e', c0⟩ := rdT_cell (hcl ▸ Gn.Own.rd txL HA.out.keys) (Below.refl _ _) (cutK_at zs j y hy)
            obtain ⟨rfl, rfl⟩ : g = b' ∧ 0 = o' := by injection e' with e'; injection e' with e1 e2; exact ⟨e1, e2⟩
            simp only [Nat.zero_add] at c0
            have hfz := ownT_melt HA.out.keys hcl
            have hcr := clip_run 40 (by omega) y
            have HAN : Hid (ML W (wr.setCell ⟨g, j, none⟩ (.string (clip 40 y))) W.heap.size (.slice pa1 q pc1) (.slice pa2 q pc2) (.slice (some ⟨g, 0, none⟩) M kwc) s1 s2 fs (cutK zs (j + 1))) := Lib.hid (by
              have := HA.out.cut hcl (Nat.le_refl _) j (clip 40 y)
              rwa [cutK_set zs j y hy] at this)
            have hsz := clip_size 40 y (by omega)
            have hno := no_over2 t (clip 40 y) (by omega)
            have HCJ : Hid ((cutK zs (j + 1)).length = M ∧ (cutK zs (j + 1))[j]? = some (clip 40 y)) := Lib.hid ⟨by rw [cutK_len zs (j + 1) (by have := HM.out; omega)]; exact HM.out, by
              rw [← cutK_set zs j y hy, List.getElem?_set_self (by rw [hcl]; exact hlt)]⟩
            clear e' hcl hy
            go_wp2_with fail
            go_region
            obtain ⟨w5, hw5⟩ : ∃ w5, w5 = (wr.setCell ⟨g, j, none⟩ (.string (clip 40 y))).drew := ⟨_, rfl⟩
            rw [← hw5]
            have HA5 : Hid (ML W w5 W.heap.size (.slice pa1 q pc1) (.slice pa2 q pc2) (.slice (some ⟨g, 0, none⟩) M kwc) s1 s2 fs (cutK zs (j + 1))) := Lib.hid (by rw [hw5]; exact HAN.out.drew)
            obtain ⟨b2, o2, e2, c5⟩ := rdT_cell (HCJ.out.1 ▸ Gn.Own.rd txL HA5.out.keys) (Below.refl _ _) HCJ.out.2
            obtain ⟨rfl, rfl⟩ : g = b2 ∧ 0 = o2 := by injection e2 with e2; injection e2 with e1 e2; exact ⟨e1, e2⟩
            simp only [Nat.zero_add] at c5
            have hts : (t ++ clip 40 y).size ≤ 40 * (j + 1) := by rw [ByteArray.size_append]; omega
            clear hw5 e2 HAN c0 hfz hcr hsz
            go_wp2_with fail
            go_roundw
            case rel => exact ⟨j + 1, t ++ clip 40 y, rfl, by go_num, by omega, hts, HA5⟩
            case measure => simp [intOf]; omega
          · have hlt1 : ¬ (j : Int) < M := by omega
            have ht320 : t.size ≤ 320 := by omega
            have hcl : (cutK zs j).length = M := by rw [cutK_len zs j (by have := HM.out; omega)]; exact HM.out
            have HKO : Hid (∀ y ∈ cutK zs j, y.size ≤ maxLen) := Lib.hid (by
              intro y hy
              unfold cutK at hy
              rcases List.mem_append.1 hy with h | h
              · obtain ⟨z, _, rfl⟩ := List.mem_map.1 h
                have := clip_size 40 z (by omega)
                unfold maxLen; omega
              · exact HKY.out y (List.mem_of_mem_drop h))
            obtain ⟨ks, hks⟩ : ∃ ks, ks = cutK zs j := ⟨_, rfl⟩
            rw [← hks] at HA hcl HKO
            have HTR := Lib.hid (HT.out.later HA.out.below)
            have HBR := Lib.hid HA.out.below
            have HKL2 := Lib.hid hcl
            clear hks hcl HA0 HML
            have HX := Lib.hid (Below.refl wr.heap.size wr)
            have C := Lib.hid (mkNull wr)
            go_wp2_with fail
            ((with_reducible refine (C.out).mono ?_); rintro e a1 ⟨v, rfl, ho, b⟩)
            clear C
            have H1 := Lib.hid (Gn.Own.rd ndL ho)
            clear ho
            replace HX := Lib.hid (up HX.out b)
            clear b
            have C := Lib.hid (rleaf 1 0 ⟨#[]⟩ a1)
            go_wp2_with fail
            ((with_reducible refine (C.out).mono ?_); rintro e a2 ⟨v', rfl, ho, b⟩)
            clear C
            replace H1 := Lib.hid (Gn.Rd.later H1.out b)
            have H2 := Lib.hid (Gn.Own.rd ndL ho)
            clear ho
            replace HX := Lib.hid (up HX.out b)
            clear b
            have C := Lib.hid (rEq _ _ [nd1 1 0 ⟨#[]⟩] [nd1 1 0 ⟨#[]⟩] a2 H1.out H2.out (by simp) true ⟨fun _ => rfl, fun _ => rfl⟩)
            go_wp2_with fail
            ((with_reducible refine (C.out).mono ?_); rintro e a3 ⟨rfl, b⟩)
            clear C
            replace HX := Lib.hid (up HX.out b)
            clear b
            clear H1 H2
            have C := Lib.hid (mkBool (decide (n < 0)) a3)
            go_wp2_with fail
            ((with_reducible refine (C.out).mono ?_); rintro e a4 ⟨v, rfl, ho, b⟩)
            clear C
            have H1 := Lib.hid (Gn.Own.rd ndL ho)
            clear ho
            replace HX := Lib.hid (up HX.out b)
            clear b
            have C := Lib.hid (rBool (decide (n < 0)) a4)
            go_wp2_with fail
            ((with_reducible refine (C.out).mono ?_); rintro e a5 ⟨v', rfl, ho, b⟩)
            clear C
            replace H1 := Lib.hid (Gn.Rd.later H1.out b)
            have H2 := Lib.hid (Gn.Own.rd ndL ho)
            clear ho
            replace HX := Lib.hid (up HX.out b)
            clear b
            have C := Lib.hid (rEq _ _ [nd1 (if decide (n < 0) = true then 3 else 2) 0 ⟨#[]⟩] [nd1 (if decide (n < 0) = true then 3 else 2) 0 ⟨#[]⟩] a5 H1.out H2.out (by simp) true ⟨fun _ => rfl, fun _ => rfl⟩)
            go_wp2_with fail
            ((with_reducible refine (C.out).mono ?_); rintro e a6 ⟨rfl, b⟩)
            clear C
            replace HX := Lib.hid (up HX.out b)
            clear b
            clear H1 H2
            have C := Lib.hid (mkNum n a6)
            go_wp2_with fail
            ((with_reducible refine (C.out).mono ?_); rintro e a7 ⟨v, rfl, ho, b⟩)
            clear C
            have H1 := Lib.hid (Gn.Own.rd ndL ho)
            clear ho
            replace HX := Lib.hid (up HX.out b)
            clear b
            have C := Lib.hid (rleaf 4 n ⟨#[]⟩ a7)
            go_wp2_with fail
            ((with_reducible refine (C.out).mono ?_); rintro e a8 ⟨v', rfl, ho, b⟩)
            clear C
            replace H1 := Lib.hid (Gn.Rd.later H1.out b)
            have H2 := Lib.hid (Gn.Own.rd ndL ho)
            clear ho
            replace HX := Lib.hid (up HX.out b)
            clear b
            have C := Lib.hid (rEq _ _ [nd1 4 n ⟨#[]⟩] [nd1 4 n ⟨#[]⟩] a8 H1.out H2.out (by simp) true ⟨fun _ => rfl, fun _ => rfl⟩)
            go_wp2_with fail
            ((with_reducible refine (C.out).mono ?_); rintro e a9 ⟨rfl, b⟩)
            clear C
            replace HX := Lib.hid (up HX.out b)
            clear b
            clear H1 H2
            have C := Lib.hid (mkStr t a9 (HTR.out.later HX.out) (by unfold maxLen; omega))
            go_wp2_with fail
            ((with_reducible refine (C.out).mono ?_); rintro e a10 ⟨v, rfl, ho, b⟩)
            clear C
            have H1 := Lib.hid (Gn.Own.rd ndL ho)
            clear ho
            replace HX := Lib.hid (up HX.out b)
            clear b
            have C := Lib.hid (rStr t a10 (by unfold maxLen; omega))
            go_wp2_with fail
            ((with_reducible refine (C.out).mono ?_); rintro e a11 ⟨v', rfl, ho, b⟩)
            clear C
            replace H1 := Lib.hid (Gn.Rd.later H1.out b)
            have H2 := Lib.hid (Gn.Own.rd ndL ho)
            clear ho
            replace HX := Lib.hid (up HX.out b)
            clear b
            have C := Lib.hid (rEq _ _ (strL t) (strL t) a11 H1.out H2.out (by unfold strL; split <;> simp) true ⟨fun _ => rfl, fun _ => rfl⟩)
            go_wp2_with fail
            ((with_reducible refine (C.out).mono ?_); rintro e a12 ⟨rfl, b⟩)
            clear C
            replace HX := Lib.hid (up HX.out b)
            clear b
            clear H1 H2
            obtain ⟨w0, hw0⟩ : ∃ w0, w0 = a12 := ⟨_, rfl⟩
            rw [← hw0] at HX ⊢
            have HA0 := Lib.hid (HA.out.later HX.out)
            have HT0 := Lib.hid (HTR.out.later HX.out)
            have HB0 := Lib.hid (up HBR.out HX.out)
            obtain ⟨r1, x1, hr1⟩ := list_ex fs
            obtain ⟨r2, x2, hr2⟩ := obj_ex ks fs
            have HL12 := Lib.hid (And.intro (list_len hr1) (obj_len hr2))
            have hfl := HFL.out.1
            have hf8 : fs.length ≤ 100000 := by omega
            have CL := Lib.hid (mkList _ s1 fs w0 (HA0.out.e1.rdS HA0.out.r1) hf8 HT0.out r1 x1 hr1)
            have CL2 := Lib.hid (fun (wb : World) (hb : Below w0.heap.size w0 wb) => rlist _ s2 fs wb ((HA0.out.e2.later hb).rdS (Gn.Own.later HA0.out.r2 hb)) hf8 r1 x1 hr1)
            have CO := Lib.hid (fun (wb : World) (hb : Below w0.heap.size w0 wb) => mkObj _ _ ks s1 fs wb (Gn.Own.rd txL (Gn.Own.later HA0.out.keys hb)) ((HA0.out.e1.later hb).rdS (Gn.Own.later HA0.out.r1 hb)) HKO.out hf8 (HT0.out.later hb) r2 x2 hr2)
            have CO2 := Lib.hid (fun (wb : World) (hb : Below w0.heap.size w0 wb) => robj _ _ ks s2 fs wb (Gn.Own.rd txL (Gn.Own.later HA0.out.keys hb)) ((HA0.out.e2.later hb).rdS (Gn.Own.later HA0.out.r2 hb)) HKO.out hf8 r2 x2 hr2)
            have q1 : ((x1 : Int) != x1) = false := by simp
            have q2 : ((x2 : Int) != x2) = false := by simp
            clear hr1 hr2 hw0 HX HA HTR HBR hfl
            go_wp2_with fail
            ((with_reducible refine (CL.out).mono ?_); rintro e b1 ⟨a, rfl, ho, b⟩)
            have HX1 := Lib.hid b
            have HOA := Lib.hid ho
            clear b ho CL
            go_wp2_with fail
            ((with_reducible refine (CL2.out _ HX1.out).mono ?_); rintro e b2 ⟨bb, rfl, ho, b⟩)
            have HX2 := Lib.hid (up HX1.out b)
            replace HOA := Lib.hid (Gn.Own.later HOA.out b)
            have HRB := Lib.hid (Gn.Own.rd ndL ho)
            clear b ho CL2
            go_wp2_with fail
            ((with_reducible refine (CO.out _ HX2.out).mono ?_); rintro e b3 ⟨c, rfl, ho, b⟩)
            have HX3 := Lib.hid (up HX2.out b)
            have HDJ : Hid (∀ g, c.ownBlock = some g → ¬ a.ownBlock = some g) := Lib.hid (fun g hg hg2 => by have := (HOA.out.lt g hg2).2; have := (ho.lt g hg).1; omega)
            replace HOA := Lib.hid (Gn.Own.later HOA.out b)
            replace HRB := Lib.hid (Gn.Rd.later HRB.out b)
            have HOC := Lib.hid (Gn.Own.lower ho HX2.out.size)
            clear b ho CO
            go_wp2_with fail
            ((with_reducible refine (CO2.out _ HX3.out).mono ?_); rintro e b4 ⟨d, rfl, ho, b⟩)
            have HX4 := Lib.hid (up HX3.out b)
            replace HOA := Lib.hid (Gn.Own.later HOA.out b)
            replace HOC := Lib.hid (Gn.Own.later HOC.out b)
            replace HRB := Lib.hid (Gn.Rd.later HRB.out b)
            have HRD := Lib.hid (Gn.Own.rd ndL ho)
            have CE1 := Lib.hid (rEq a bb r1 r1 b4 (Gn.Own.rd ndL HOA.out) HRB.out (by have := HL12.out.1; omega) true ⟨fun _ => rfl, fun _ => rfl⟩)
            clear b ho CO2
            go_wp2_with fail
            ((with_reducible refine (CE1.out).mono ?_); rintro e b5 ⟨rfl, b⟩)
            have HX5 := Lib.hid (up HX4.out b)
            replace HOA := Lib.hid (Gn.Own.later HOA.out b)
            replace HOC := Lib.hid (Gn.Own.later HOC.out b)
            replace HRD := Lib.hid (Gn.Rd.later HRD.out b)
            have CE2 := Lib.hid (rEq c d r2 r2 b5 (Gn.Own.rd ndL HOC.out) HRD.out (by have := HL12.out.2; omega) true ⟨fun _ => rfl, fun _ => rfl⟩)
            clear b CE1 HRB
            go_wp2_with fail
            ((with_reducible refine (CE2.out).mono ?_); rintro e b6 ⟨rfl, b⟩)
            have HX6 := Lib.hid (up HX5.out b)
            replace HOA := Lib.hid (Gn.Own.later HOA.out b)
            replace HOC := Lib.hid (Gn.Own.later HOC.out b)
            have CSP := Lib.hid (spoil a r1 b6 w0.heap.size HOA.out (by have := HL12.out.1; omega))
            clear b CE2 HRD
            go_wp2_with fail
            ((with_reducible refine (CSP.out).mono ?_); rintro e b7 ⟨rfl, ht⟩)
            have HX7 := Lib.hid (HX6.out.trans (ht.below HX6.out.size (fun i hi => (HOA.out.lt i hi).1)))
            replace HOC := Lib.hid (own_touchG HOC.out ht HDJ.out)
            have CSQ := Lib.hid (spoil c r2 b7 w0.heap.size HOC.out (by have := HL12.out.2; omega))
            clear ht CSP
            go_wp2_with fail
            ((with_reducible refine (CSQ.out).mono ?_); rintro e b8 ⟨rfl, ht⟩)
            have HX8 := Lib.hid (HX7.out.trans (ht.below HX7.out.size (fun i hi => (HOC.out.lt i hi).1)))
            have HB8 := Lib.hid (up HB0.out HX8.out)
            have HR1 := Lib.hid ((HA0.out.e1.later HX8.out).rdS (Gn.Own.later HA0.out.r1 HX8.out))
            have HR2 := Lib.hid ((HA0.out.e2.later HX8.out).rdS (Gn.Own.later HA0.out.r2 HX8.out))
            have HT8 := Lib.hid (HT0.out.later HX8.out)
            clear ht CSQ HOA HOC HDJ HX1 HX2 HX3 HX4 HX5 HX6 HX7 HX8 HA0
            go_wp2_with fail
            go_loopw [20] (fun i wx => ∃ (z : Nat), i = .int .i64 (z : Nat) ∧ z ≤ q ∧ Hid (Below b8.heap.size b8 wx)) (fun i _ => q - (intOf i).toNat)
            case atStart => exact ⟨0, by rfl, by omega, Lib.hid (Below.refl _ _)⟩
            case round =>
              obtain ⟨z, rfl, hz, HG⟩ := hrel
              by_cases hlt : z < q
              · have hlt1 : (z : Int) < q := by omega
                obtain ⟨sl1, hsl1⟩ : ∃ s, s1[z]? = some s := ⟨_, List.getElem?_eq_getElem (by rw [HSL.out.1]; exact hlt)⟩
                obtain ⟨sl2, hsl2⟩ : ∃ s, s2[z]? = some s := ⟨_, List.getElem?_eq_getElem (by rw [HSL.out.2]; exact hlt)⟩
                obtain ⟨l, hl⟩ : ∃ l, fs[z]? = some l := ⟨_, List.getElem?_eq_getElem (by rw [HFL.out.1]; exact hlt)⟩
                obtain ⟨c1, o1, rfl, _⟩ := rdS_cell HR1.out HG.out hsl1
                obtain ⟨c2, o2, rfl, _⟩ := rdS_cell HR2.out HG.out hsl2
                have e1 := (HR1.out.each z sl1 l hsl1 hl).1
                have e2 := (HR2.out.each z sl2 l hsl2 hl).1
                obtain ⟨xa, xn, xc⟩ := sl1
                obtain ⟨ya, yn, yc⟩ := sl2
                have CE := Lib.hid (fun (wb : World) (hb : Below b8.heap.size b8 wb) => rEq _ _ l l wb (Gn.Rd.later e1 hb) (Gn.Rd.later e2 hb) (by have := HFL.out.2 l (List.mem_of_getElem? hl); omega) true ⟨fun _ => rfl, fun _ => rfl⟩)
                have SK := Lib.hid (fun (w' : World) (hb : Below b8.heap.size b8 w') => (show Below b8.heap.size b8 w' ∧ (w'.cell? ⟨c1, o1 + z, none⟩ = some (.slice xa xn xc) ∧ w'.cell? ⟨c2, o2 + z, none⟩ = some (.slice ya yn yc)) by
                  obtain ⟨_, _, f1, d1⟩ := rdS_cell HR1.out hb hsl1
                  obtain ⟨_, _, f2, d2⟩ := rdS_cell HR2.out hb hsl2
                  injection f1 with f1; injection f1 with f1 f1'; subst f1 f1'
                  injection f2 with f2; injection f2 with f2 f2'; subst f2 f2'
                  exact ⟨hb, d1, d2⟩))
                unfold Sl.val at CE
                simp only at CE
                clear hsl1 hsl2 hl e1 e2
                go_wp2_with fail
                go_region_held3 (fun w' => Below b8.heap.size b8 w' ∧ (w'.cell? ⟨c1, o1 + z, none⟩ = some (.slice xa xn xc) ∧ w'.cell? ⟨c2, o2 + z, none⟩ = some (.slice ya yn yc)))
                  (first | exact SK.out _ HG.out.drew | exact SK.out _ HG.out | exact SK.out _ HG2.out)
                  ((first
                    | (go_at_call 54; (with_reducible refine (CE.out _ (by first | exact HG.out | exact HG.out.drew)).mono ?_); rintro e g1 ⟨rfl, b⟩; have HG2 : Hid (Below b8.heap.size b8 g1) := Lib.hid (by first | exact up HG.out b | exact up HG.out.drew b); clear b)))
                go_wp2_with fail
                go_roundw
                case rel => exact ⟨z + 1, by go_num, by omega, HG2⟩
                case measure => simp [intOf]; omega
              · have hlt1 : ¬ (z : Int) < q := by omega
                have KW := Lib.hid (works wr (HT8.out.later HG.out))
                have HBW := Lib.hid (up HB8.out HG.out)
                go_wp2_with fail
                ((with_reducible refine (KW.out).mono ?_); rintro e w9 ⟨rfl, b⟩)
                have HB9 := Lib.hid (up HBW.out b)
                clear b
                go_wp2_with fail
                go_ret
                exact ⟨rfl, HB9.out⟩
end Go.Proofs.YteklcfimafplbaaDoor

/- TapeKnown, plainly: so many nulls, lists within lists. -/
namespace Go.Proofs.YteklcfimafplbaaDoor
open Go.RowKit
set_option linter.unusedVariables false
set_option maxRecDepth 100000

def nulF : Fo := .node 1 ⟨#[]⟩ 0 ⟨#[]⟩ .nil .nil
def nulL : List Nd := [nd1 1 0 ⟨#[]⟩]
theorem nul_flat : Tp.flat nulF = nulL := rfl
theorem nul_good : Tp.good nulF := ⟨.inl ⟨.inl rfl, rfl, rfl⟩, fun _ => rfl, Tp.ko_nil _, trivial, trivial⟩
theorem nul_root : Root nulF := ⟨1, 0, ⟨#[]⟩, .nil, rfl⟩
theorem nul_nok : ∀ x ∈ nulL, Nok x := nok1 1 0 ⟨#[]⟩ (by decide) (by decide) (by decide)
theorem rep_sum : ∀ n : Nat, ((List.replicate n nulF).map Tp.sz).sum = n
  | 0 => rfl
  | n + 1 => by
    rw [List.replicate_succ, List.map_cons, List.sum_cons, rep_sum n]
    have : Tp.sz nulF = 1 := rfl
    omega
def nulC (n : Nat) : Fo := mkC (List.replicate n ⟨#[]⟩) (List.replicate n nulF)
theorem nul_mk (n : Nat) : MkIs (List.replicate n ⟨#[]⟩) (List.replicate n nulF) (nulC n) := mk_is _ _ (by simp) (fun F hF => by rw [(List.mem_replicate.1 hF).2]; exact nul_root)
theorem nul_facts (n : Nat) : Tp.good (nulC n) ∧ Tp.ko 6 (Tp.keys (nulC n)) ∧ Tp.sz (nulC n) = n ∧ Tp.dep (nulC n) ≤ 1 := by
  have h := nul_mk n
  refine ⟨h.good (fun F hF => by rw [(List.mem_replicate.1 hF).2]; exact nul_good), ?_, by rw [h.sz, rep_sum], (h.dep 1).2 (fun F hF => by rw [(List.mem_replicate.1 hF).2]; exact Nat.le_refl 1)⟩
  rw [h.keys]
  unfold Tp.ko
  rw [if_neg (by omega)]
  intro z hz
  rw [(List.mem_replicate.1 hz).2]; rfl
theorem nulls_ok (n : Nat) (hn : n ≤ 3999) : ListIs (List.replicate n nulL) (Tp.flat (.node 6 ⟨#[]⟩ 0 ⟨#[]⟩ (nulC n) .nil)) 0 ∧ (Tp.flat (.node 6 ⟨#[]⟩ 0 ⟨#[]⟩ (nulC n) .nil)).length = n + 1 := by
  obtain ⟨h1, h2, h3, h4⟩ := nul_facts n
  have h := nul_mk n
  refine ⟨?_, ?_⟩
  · have := join_is (.inl rfl) h1 h2 (by omega) (by omega) (r := Tp.flat (.node 6 ⟨#[]⟩ 0 ⟨#[]⟩ (nulC n) .nil)) (x := 0) (.inl ⟨by omega, by omega, rfl, rfl⟩)
    rw [h.keys, h.cks, List.map_replicate, nul_flat] at this
    unfold ListIs
    rw [List.length_replicate]
    exact this
  · show Tp.sz _ = _
    rw [Tp.sz_node, Tp.sz_nil, h3]; omega
theorem nulls_many : ListIs (List.replicate 4000 nulL) [] 5 := by
  obtain ⟨h1, h2, h3, h4⟩ := nul_facts 4000
  have h := nul_mk 4000
  have := join_is (.inl rfl) h1 h2 (by omega) (by omega) (r := []) (x := 5) (.inr (.inr ⟨by omega, rfl, rfl⟩))
  rw [h.keys, h.cks, List.map_replicate, nul_flat] at this
  unfold ListIs
  rw [List.length_replicate]
  exact this
/-- Lists within lists, around nothing. -/
def dpF : Nat → Fo
  | 0 => nulF
  | z + 1 => .node 6 ⟨#[]⟩ 0 ⟨#[]⟩ (dpF z) .nil
theorem dp_root : ∀ z, Root (dpF z)
  | 0 => nul_root
  | z + 1 => ⟨6, 0, ⟨#[]⟩, _, rfl⟩
theorem dp_mk (z : Nat) : mkC [⟨#[]⟩] [dpF z] = dpF z := by cases z <;> rfl
theorem dp_keys (z : Nat) : Tp.keys (dpF z) = [⟨#[]⟩] := by cases z <;> rfl
theorem dp_ko (z : Nat) : Tp.ko 6 (Tp.keys (dpF z)) := by
  rw [dp_keys]
  unfold Tp.ko
  rw [if_neg (by omega)]
  intro y hy
  rw [List.mem_singleton.1 hy]; rfl
theorem dp_good : ∀ z, Tp.good (dpF z)
  | 0 => nul_good
  | z + 1 => ⟨.inr (.inr (.inr ⟨.inl rfl, rfl, rfl⟩)), fun h => by omega, dp_ko z, dp_good z, trivial⟩
theorem dp_sz : ∀ z, Tp.sz (dpF z) = z + 1
  | 0 => rfl
  | z + 1 => by rw [dpF, Tp.sz_node, Tp.sz_nil, dp_sz z]; omega
theorem dp_dep : ∀ z, Tp.dep (dpF z) = z + 1
  | 0 => rfl
  | z + 1 => by
    show max (1 + Tp.dep (dpF z)) 0 = _
    rw [dp_dep z]; omega
theorem dp_ok : ∀ z, z ≤ 100 → ∀ x ∈ Tp.flat (dpF z), Nok x
  | 0, _ => nul_nok
  | z + 1, h => by
    intro x hx
    rw [dpF, Tp.flat_node] at hx
    rcases List.mem_cons.1 hx with rfl | hx
    · have := dp_sz z
      exact ⟨by simp only; omega, Nat.zero_le _, by simp only; omega, Nat.zero_le _, by simp only; omega⟩
    · rw [Tp.flat_nil, List.append_nil] at hx
      exact dp_ok z (by omega) x hx
theorem dp_step (z : Nat) (h : z + 2 ≤ 64) : ListIs [Tp.flat (dpF z)] (Tp.flat (dpF (z + 1))) 0 := by
  have hm := mk_is [⟨#[]⟩] [dpF z] rfl (by intro G hG; rw [List.mem_singleton.1 hG]; exact dp_root z)
  rw [dp_mk] at hm
  have h1 := dp_sz z
  have h2 := dp_dep z
  have := join_is (.inl rfl) (dp_good z) (dp_ko z) (by omega) (by omega) (r := Tp.flat (dpF (z + 1))) (x := 0) (.inl ⟨by omega, by omega, rfl, rfl⟩)
  rw [hm.keys, hm.cks] at this
  exact this
theorem dp_two : ListIs [nulL, Tp.flat (dpF 63)] [] 72 := by
  have hm := mk_is [⟨#[]⟩, ⟨#[]⟩] [nulF, dpF 63] rfl (by
    intro G hG
    simp only [List.mem_cons, List.not_mem_nil, or_false] at hG
    rcases hG with rfl | rfl
    · exact nul_root
    · exact dp_root 63)
  have h1 := dp_sz 63
  have h2 := dp_dep 63
  have hg := hm.good (by
    intro G hG
    simp only [List.mem_cons, List.not_mem_nil, or_false] at hG
    rcases hG with rfl | rfl
    · exact nul_good
    · exact dp_good 63)
  have hk : Tp.ko 6 (Tp.keys (mkC [⟨#[]⟩, ⟨#[]⟩] [nulF, dpF 63])) := by
    rw [hm.keys]
    unfold Tp.ko
    rw [if_neg (by omega)]
    intro y hy
    simp only [List.mem_cons, List.not_mem_nil, or_false] at hy
    rcases hy with rfl | rfl <;> rfl
  have hs : Tp.sz (mkC [⟨#[]⟩, ⟨#[]⟩] [nulF, dpF 63]) = 65 := by
    rw [hm.sz, List.map_cons, List.map_cons, List.map_nil, List.sum_cons, List.sum_cons, List.sum_nil, h1]; rfl
  have hd : Tp.dep (mkC [⟨#[]⟩, ⟨#[]⟩] [nulF, dpF 63]) = 64 := by
    have a := (hm.dep 64).2 (by
      intro G hG
      simp only [List.mem_cons, List.not_mem_nil, or_false] at hG
      rcases hG with rfl | rfl
      · exact Nat.le_trans (Nat.le_refl 1) (by omega)
      · rw [h2]; omega)
    have b := (hm.dep (Tp.dep (mkC [⟨#[]⟩, ⟨#[]⟩] [nulF, dpF 63]))).1 (Nat.le_refl _) (dpF 63) (List.mem_cons_of_mem _ (List.mem_cons_self ..))
    omega
  have := join_is (.inl rfl) hg hk (by omega) (by omega) (r := []) (x := 72) (.inr (.inl ⟨by omega, by omega, rfl, rfl⟩))
  rw [hm.keys, hm.cks] at this
  exact this
theorem dp_deep : dpt (Tp.flat (dpF 63)) = 64 := by
  have h1 := dp_sz 63
  have h2 := dp_dep 63
  obtain ⟨k, n, s, c, e⟩ := dp_root 63
  have := (may_chk (l := Tp.flat (dpF 63)) (F := dpF 63) ⟨by rw [flat_sz]; omega, ⟨⟨k, _, n, s, c, e, rfl⟩, dp_good 63, rfl⟩, by omega⟩).2
  rw [this, h2]
/-- Lists within lists, the last one empty. -/
def lwF : Nat → Fo
  | 0 => .node 6 ⟨#[]⟩ 0 ⟨#[]⟩ .nil .nil
  | z + 1 => .node 6 ⟨#[]⟩ 0 ⟨#[]⟩ (lwF z) .nil
theorem lw_sz : ∀ z, Tp.sz (lwF z) = z + 1
  | 0 => rfl
  | z + 1 => by rw [lwF, Tp.sz_node, Tp.sz_nil, lw_sz z]; omega
theorem lw_dep : ∀ z, Tp.dep (lwF z) = z + 1
  | 0 => rfl
  | z + 1 => by
    show max (1 + Tp.dep (lwF z)) 0 = _
    rw [lw_dep z]; omega
theorem lw_good : ∀ z, Tp.good (lwF z)
  | 0 => ⟨.inr (.inr (.inr ⟨.inl rfl, rfl, rfl⟩)), fun h => by omega, Tp.ko_nil _, trivial, trivial⟩
  | z + 1 => ⟨.inr (.inr (.inr ⟨.inl rfl, rfl, rfl⟩)), fun h => by omega, by
    have : Tp.keys (lwF z) = [⟨#[]⟩] := by cases z <;> rfl
    rw [this]
    unfold Tp.ko
    rw [if_neg (by omega)]
    intro y hy
    rw [List.mem_singleton.1 hy]; rfl, lw_good z, trivial⟩
def nd6 (k : Int) : Nd := ⟨6, ⟨#[]⟩, 0, ⟨#[]⟩, k⟩
theorem lw_flat : ∀ z : Nat, Tp.flat (lwF z) = (List.range (z + 1)).map (fun i : Nat => nd6 ((z : Int) + 1 - i))
  | 0 => rfl
  | z + 1 => by
    rw [lwF, Tp.flat_node, lw_flat z, lw_sz, Tp.flat_nil, List.append_nil, List.range_succ_eq_map (n := z + 1), List.map_cons, List.map_map]
    congr 1
    · unfold nd6; congr 1; omega
    · refine List.map_congr_left (fun i _ => ?_)
      simp only [Function.comp]
      congr 1; omega
def lowL (z : Nat) : List Nd := nd6 65 :: (List.range z).map (fun i : Nat => nd6 (64 - i))
theorem low_succ (z : Nat) : lowL (z + 1) = lowL z ++ [nd6 (64 - z)] := by
  unfold lowL
  rw [List.range_succ, List.map_append]; rfl
theorem low_len (z : Nat) : (lowL z).length = z + 1 := by simp [lowL]
theorem low_all : lowL 64 = Tp.flat (lwF 64) := by
  rw [lw_flat, List.range_succ_eq_map (n := 64), List.map_cons, List.map_map]
  unfold lowL
  congr 1
theorem low_ok (z : Nat) (h : z ≤ 100) : ∀ x ∈ lowL z, Nok x := by
  intro x hx
  rcases List.mem_cons.1 hx with rfl | hx
  · exact ⟨by decide, Nat.zero_le _, by decide, Nat.zero_le _, by decide⟩
  · obtain ⟨i, hi, rfl⟩ := List.mem_map.1 hx
    have := List.mem_range.1 hi
    unfold nd6
    exact ⟨by simp only; omega, Nat.zero_le _, by simp only; omega, Nat.zero_le _, by simp only; omega⟩
theorem low_chk : chk (lowL 64) = 72 := by
  have h1 := lw_sz 64
  have h2 := lw_dep 64
  refine (chk_eq (.inr (.inr (.inl ⟨by rw [low_len]; omega, ⟨lwF 64, ⟨⟨6, ⟨#[]⟩, 0, ⟨#[]⟩, lwF 63, rfl, rfl⟩, lw_good 64, low_all.symm⟩, by omega⟩, rfl, rfl⟩)))).1
def zeroN : Nd := ⟨0, ⟨#[]⟩, 0, ⟨#[]⟩, 0⟩
theorem long_chk : chk (List.replicate 4001 zeroN) = 5 := (chk_eq (.inl ⟨by rw [List.length_replicate]; omega, rfl, rfl⟩)).1
theorem long_ok : ∀ x ∈ List.replicate 4001 zeroN, Nok x := by
  intro x hx
  rw [(List.mem_replicate.1 hx).2]
  exact ⟨by decide, Nat.zero_le _, by decide, Nat.zero_le _, by decide⟩
theorem node_many (w : World) (s : Nat) (hm : s ≤ 100000) :
    (Instr.makeSlice 25 (.int .i64 (s : Nat)) (.int .i64 (s : Nat))).run Tryd.prog w = .ok (.slice (some ⟨w.heap.size, 0, none⟩) s s) (w.alloc (.cells (madeCells ndz.cells (s * 5)) 36)) := by
  obtain ⟨i, hi, hz, hsz, hby⟩ := ndY.parts
  have h := run_makeSlice w 25 36 i ndz Tryd.underlying25 hi hz .i64 .i64 (s : Nat) (s : Nat) (by omega) (by omega) (by rw [hsz]; simp; omega) (by rw [hby]; omega) (by omega)
  simpa [hsz] using h
theorem made_cell (s i j : Nat) (hj : j < 5) (h : i < s) : (madeCells ndz.cells (s * 5)).toList[i * 5 + j]? = (ndc zeroN)[j]? := by
  have hl : (madeCells ndz.cells (s * 5)).size = s * 5 := by simp [madeCells]
  rw [Array.getElem?_toList, Array.getElem?_eq_getElem (by rw [hl]; omega)]
  rcases (show j = 0 ∨ j = 1 ∨ j = 2 ∨ j = 3 ∨ j = 4 by omega) with rfl | rfl | rfl | rfl | rfl <;> simp [madeCells, ndz, ndc, zeroN, Value.cells, Nat.add_mod]
/-- A row of empty nodes that was made. -/
theorem rd_many (w : World) (s : Nat) (hm : s ≤ 100000) : RdN (w.alloc (.cells (madeCells ndz.cells (s * 5)) 36)) (w.alloc (.cells (madeCells ndz.cells (s * 5)) 36)).heap.size (.slice (some ⟨w.heap.size, 0, none⟩) s s) (List.replicate s zeroN) := by
  refine ⟨some ⟨w.heap.size, 0, none⟩, s, by simp, by simp, by simp [maxLen]; omega, by simp, fun hp => ⟨w.heap.size, 0, rfl, by simp, fun i x j u hi hj => ?_⟩⟩
  have hl := (List.getElem?_eq_some_iff.1 hi).1
  rw [List.getElem?_replicate] at hi
  have hin : i < s := by simpa using hl
  rw [if_pos hin] at hi
  obtain rfl : x = zeroN := by injection hi with hi; exact hi.symm
  have hj5 : j < 5 := by have := (List.getElem?_eq_some_iff.1 hj).1; simpa [ndc] using this
  have e := (Blk.new w 36 (madeCells ndz.cells (s * 5))).cell (i * 5 + j)
  rw [made_cell s i j hj5 hin, hj] at e
  simpa using e
end Go.Proofs.YteklcfimafplbaaDoor

/- TapeKnown: the walk. Each field of each node is another one; both ends of all limits. -/
namespace Go.Proofs.YteklcfimafplbaaDoor
open Go.RowKit
set_option linter.unusedVariables false
set_option maxRecDepth 100000

/-- A row of five nodes in a block of its own. -/
def Row5 (w : World) (g c : Nat) : Prop := ∃ l : List Nd, l.length = 5 ∧ (∀ x ∈ l, Nok x) ∧ OwnN w 0 (.slice (some ⟨g, 0, none⟩) 5 c) l
theorem Row5.later {w w' : World} {g c : Nat} (h : Row5 w g c) (hb : Below w.heap.size w w') : Row5 w' g c := by
  obtain ⟨l, h1, h2, h3⟩ := h
  exact ⟨l, h1, h2, Gn.Own.later h3 hb⟩
theorem Row5.other {w : World} {g c g' k : Nat} {v : Value} (h : Row5 w g c) (hg : g ≠ g') : Row5 (w.setCell ⟨g', k, none⟩ v) g c := by
  obtain ⟨l, h1, h2, h3⟩ := h
  exact ⟨l, h1, h2, own_touchG h3 (Touch.setCell (S := fun i => i = g') (p := ⟨g', k, none⟩) (Touch.refl _ _) rfl v) (fun i hi e => hg (by rw [← e]; simpa [Value.ownBlock] using hi))⟩
theorem Row5.melt {w : World} {g c : Nat} (h : Row5 w g c) (j : Nat) : w.frozen? ⟨g, j, none⟩ = false := by
  obtain ⟨l, h1, _, h3⟩ := h
  exact own_melt h3 h1 j
theorem Row5.rd {w : World} {g c : Nat} (h : Row5 w g c) : ∃ l : List Nd, l.length = 5 ∧ (∀ x ∈ l, Nok x) ∧ RdN w w.heap.size (.slice (some ⟨g, 0, none⟩) 5 c) l := by
  obtain ⟨l, h1, h2, h3⟩ := h
  exact ⟨l, h1, h2, Gn.Own.rd ndL h3⟩
theorem Row5.has {w : World} {g c i : Nat} (h : Row5 w g c) (hi : i < 5) : ∃ v0 v1 v2 v3 v4, w.cell? ⟨g, i * 5, none⟩ = some (.int .i64 v0) ∧ w.cell? ⟨g, i * 5 + 1, none⟩ = some (.string v1) ∧ w.cell? ⟨g, i * 5 + 2, none⟩ = some (.int .i64 v2) ∧ w.cell? ⟨g, i * 5 + 3, none⟩ = some (.string v3) ∧ w.cell? ⟨g, i * 5 + 4, none⟩ = some (.int .i64 v4) := by
  obtain ⟨l, h1, _, h3⟩ := h
  obtain ⟨x, hx⟩ : ∃ x, l[i]? = some x := ⟨_, List.getElem?_eq_getElem (by omega)⟩
  obtain ⟨b, o, e, p0, p1, p2, p3, p4⟩ := rdN_cells (Gn.Own.rd ndL h3) (Below.refl _ _) hx
  obtain ⟨rfl, rfl⟩ : g = b ∧ 0 = o := by injection e with e; injection e with e1 e2; exact ⟨e1, e2⟩
  simp only [Nat.zero_add] at p0 p1 p2 p3 p4
  exact ⟨_, _, _, _, _, p0, p1, p2, p3, p4⟩
theorem Row5.put {w : World} {g c i m : Nat} {u : Value} (h : Row5 w g c) (hi : i < 5) (hm : m < 5) (hu : ∀ x : Nd, Nok x → ∃ x' : Nd, Nok x' ∧ ndc x' = (ndc x).set m u) : Row5 (w.setCell ⟨g, i * 5 + m, none⟩ u) g c := by
  obtain ⟨l, h1, h2, h3⟩ := h
  obtain ⟨x, hx⟩ : ∃ x, l[i]? = some x := ⟨_, List.getElem?_eq_getElem (by omega)⟩
  obtain ⟨x', hk, e⟩ := hu x (h2 x (List.mem_of_getElem? hx))
  refine ⟨l.set i x', by rw [List.length_set]; exact h1, fun y hy => ?_, own_put h3 h1 hx e hm⟩
  rcases List.mem_or_eq_of_mem_set hy with hy | rfl
  · exact h2 y hy
  · exact hk
theorem Row5.ex {w w' : World} {v : Value} (h : OwnN w' w.heap.size v exL) : ∃ g c, v = .slice (some ⟨g, 0, none⟩) 5 c ∧ w.heap.size ≤ g ∧ g < w'.heap.size ∧ Row5 w' g c := by
  obtain ⟨a, c, rfl, _⟩ := Gn.Rd.form (Gn.Own.rd ndL h)
  obtain ⟨g, rfl⟩ := own_addr h (by decide)
  have hl := h.lt g rfl
  refine ⟨g, c, rfl, hl.1, hl.2, exL, rfl, ?_, own_low h⟩
  intro x hx
  simp only [exL, List.mem_cons, List.not_mem_nil, or_false] at hx
  rcases hx with rfl | rfl | rfl | rfl | rfl <;> (refine ⟨by decide, ?_, by decide, ?_, by decide⟩ <;> simp [maxLen, ByteArray.size])
def i64 (k : Int) : Prop := -9223372036854775808 ≤ k ∧ k ≤ 9223372036854775807
theorem put0 {k : Int} (h : i64 k) (x : Nd) (hx : Nok x) : ∃ x' : Nd, Nok x' ∧ ndc x' = (ndc x).set 0 (.int .i64 k) := ⟨{ x with kind := k }, ⟨h, hx.2⟩, rfl⟩
theorem put1 {y : ByteArray} (h : y.size ≤ maxLen) (x : Nd) (hx : Nok x) : ∃ x' : Nd, Nok x' ∧ ndc x' = (ndc x).set 1 (.string y) := ⟨{ x with key := y }, ⟨hx.1, h, hx.2.2⟩, rfl⟩
theorem put2 {k : Int} (h : i64 k) (x : Nd) (hx : Nok x) : ∃ x' : Nd, Nok x' ∧ ndc x' = (ndc x).set 2 (.int .i64 k) := ⟨{ x with n := k }, ⟨hx.1, hx.2.1, h, hx.2.2.2⟩, rfl⟩
theorem put3 {y : ByteArray} (h : y.size ≤ maxLen) (x : Nd) (hx : Nok x) : ∃ x' : Nd, Nok x' ∧ ndc x' = (ndc x).set 3 (.string y) := ⟨{ x with s := y }, ⟨hx.1, hx.2.1, hx.2.2.1, h, hx.2.2.2.2⟩, rfl⟩
theorem put4 {k : Int} (h : i64 k) (x : Nd) (hx : Nok x) : ∃ x' : Nd, Nok x' ∧ ndc x' = (ndc x).set 4 (.int .i64 k) := ⟨{ x with size := k }, ⟨hx.1, hx.2.1, hx.2.2.1, hx.2.2.2.1, h⟩, rfl⟩
theorem remN (k : Int) (n : Nat) (hn : 0 < n) (hk : 0 ≤ k) : ∃ j : Nat, k % (n : Int) = (j : Nat) ∧ k.tmod (n : Int) = (j : Nat) ∧ j < n := by
  have h1 := Int.emod_nonneg k (b := (n : Int)) (by omega)
  have h2 := Int.emod_lt_of_pos k (b := (n : Int)) (by omega)
  exact ⟨(k % (n : Int)).toNat, by omega, by rw [Int.tmod_eq_emod_of_nonneg hk]; omega, by omega⟩

theorem tells5 {w : World} {g c g' c' : Nat} {key : ByteArray} (h : Row5 w g c) (h' : Row5 w g' c') (hk : key.size ≤ 9223372036854775807) (T : Tab w) :
    Calls Tryd.prog 22 #[.slice (some ⟨g, 0, none⟩) 5 c, .slice (some ⟨g', 0, none⟩) 5 c', .string key] w fun e w' => e = .returned (.bool true) ∧ Below w.heap.size w w' := by
  obtain ⟨l, _, ok, rd⟩ := h.rd
  obtain ⟨l', _, ok', rd'⟩ := h'.rd
  exact tapeTells _ l _ l' key w rd ok rd' ok' hk T
theorem again5 {w : World} {g c : Nat} (h : Row5 w g c) (T : Tab w) :
    Calls Tryd.prog 23 #[.slice (some ⟨g, 0, none⟩) 5 c] w fun e w' => e = .returned (.bool true) ∧ Below w.heap.size w w' := by
  obtain ⟨l, _, ok, rd⟩ := h.rd
  exact tapeAgain _ l w rd ok T
theorem rd_val {α : Type} {enc : α → List Value} {k : Nat} {w : World} {B : Nat} {v : Value} {l : List α} (h : Gn.Rd enc k w B v l) (n : Nat) (hn : l.length = n) : ∃ a c, v = .slice a n c := by
  subst hn
  obtain ⟨a, c, e, _⟩ := Gn.Rd.form h
  exact ⟨a, c, e⟩
theorem each1 {w : World} {B : Nat} {s : Sl} {l : List Nd} (h : RdN w B s.val l) (hok : ∀ x ∈ l, Nok x) : ∀ (i : Nat) (s' : Sl) (l' : List Nd), [s][i]? = some s' → [l][i]? = some l' → RdN w B s'.val l' ∧ (∀ x ∈ l', Nok x) := by
  intro i s' l' h1 h2
  have h0 : i = 0 := by
    rcases Nat.eq_zero_or_pos i with h0 | h0
    · exact h0
    · rw [List.getElem?_eq_none (by simp; omega)] at h1; cases h1
  subst h0
  simp at h1 h2
  subst h1 h2
  exact ⟨h, hok⟩
/-- The same slice, many times. -/
theorem rdS_rep {w : World} {B : Nat} {mv : Value} {s : Sl} {l : List Nd} (n : Nat) (ho : OwnS w B mv (List.replicate n s)) (h : RdN w w.heap.size s.val l) (hok : ∀ x ∈ l, Nok x) : RdS w w.heap.size mv (List.replicate n s) (List.replicate n l) :=
  ⟨Gn.Own.rd slL ho, by simp, fun i s' l' h1 h2 => by
    have e1 := (List.mem_replicate.1 (List.mem_of_getElem? h1)).2
    have e2 := (List.mem_replicate.1 (List.mem_of_getElem? h2)).2
    subst e1 e2
    exact ⟨h, hok⟩⟩
theorem one_key : ∀ y ∈ [(⟨#[97]⟩ : ByteArray)], y.size ≤ maxLen := by
  intro y hy
  rw [List.mem_singleton.1 hy]
  simp [maxLen, ByteArray.size]
theorem no_key : ∀ y ∈ ([] : List ByteArray), y.size ≤ maxLen := fun y hy => by cases hy
/-- Two keys and two values, laid for the call. -/
theorem makes2 (w : World) (y1 y2 : ByteArray) (s1 s2 : Sl) (l1 l2 : List Nd) (n : Int) (hy1 : y1.size ≤ maxLen) (hy2 : y2.size ≤ maxLen) (h1 : RdN w w.heap.size s1.val l1) (ok1 : ∀ x ∈ l1, Nok x) (h2 : RdN w w.heap.size s2.val l2) (ok2 : ∀ x ∈ l2, Nok x) (hn : i64 n) (T : Tab w) :
    Calls Tryd.prog 25 #[.slice (some ⟨w.heap.size, 0, none⟩) 2 2, .slice (some ⟨w.heap.size + 1, 0, none⟩) 2 2, .int .i64 n] ((w.alloc (.cells #[.string y1, .string y2] 9)).alloc (.cells #[.slice s1.a s1.n s1.c, .slice s2.a s2.n s2.c] 25)) fun e w' => e = .returned (.bool true) ∧ Below w.heap.size w w' := by
  have b1 := up_new w (.cells #[.string y1, .string y2] 9)
  have b2 := up_new (w.alloc (.cells #[.string y1, .string y2] 9)) (.cells #[.slice s1.a s1.n s1.c, .slice s2.a s2.n s2.c] 25)
  have e1 : (w.alloc (.cells #[.string y1, .string y2] 9)).heap.size = w.heap.size + 1 := by simp
  have hk : RdT _ _ _ [y1, y2] := Gn.Rd.later (rdT_lit w [y1, y2] #[.string y1, .string y2] 2 rfl rfl (by simp [maxLen])) b2
  have hs := rdS_lit (w.alloc (.cells #[.string y1, .string y2] 9)) [s1, s2] [l1, l2] #[.slice s1.a s1.n s1.c, .slice s2.a s2.n s2.c] 2 rfl rfl (by simp [maxLen]) rfl (each2 (Gn.Rd.later h1 b1) ok1 (Gn.Rd.later h2 b1) ok2)
  rw [e1] at hs
  exact (tapeMakes _ _ [y1, y2] [s1, s2] [l1, l2] n _ hk (by
    intro y hy
    simp only [List.mem_cons, List.not_mem_nil, or_false] at hy
    rcases hy with rfl | rfl
    · exact hy1
    · exact hy2) hs hn.1 hn.2 (T.later (up b1 b2))).mono fun e w' ⟨h, b⟩ => ⟨h, up (up b1 b2) b⟩
set_option maxHeartbeats 40000000 in
theorem tapeKnown (W : World) (T : Tab W) :
    Calls Tryd.prog 5 #[] W fun e w' => e = .returned (.bool true) ∧ Below W.heap.size W w' := by
  have HT := Lib.hid T
  have CE := Lib.hid (fun w => exampleC w)
  clear T
  go_enter Tryd.func5, Tryd.ntmps5
  go_wp2_with fail
  ((with_reducible refine (CE.out _).mono ?_); rintro e w1 ⟨v, rfl, ho, b⟩)
  obtain ⟨go, co, rfl, _, hgo, hro⟩ := Row5.ex ho
  have HO := Lib.hid hro
  have HB1 := Lib.hid b
  clear ho b hro
  go_wp2_with fail
  go_loopw [2] (fun i wx => ∃ (z : Nat), i = .int .i64 (z : Nat) ∧ z ≤ 5 ∧ Hid (Below w1.heap.size w1 wx)) (fun i _ => 5 - (intOf i).toNat)
  case atStart => exact ⟨0, by rfl, by omega, Lib.hid (Below.refl _ _)⟩
  case round =>
    obtain ⟨z, rfl, hz, HX⟩ := hrel
    by_cases hlt : z < 5
    · have hlt1 : (z : Int) < 5 := by omega
      go_wp2_with fail
      go_loopw [3] (fun kv wx => ∃ (k : Int), kv = .int .i64 k ∧ -1 ≤ k ∧ k ≤ 9 ∧ Hid (Below w1.heap.size w1 wx)) (fun kv _ => (9 - intOf kv).toNat)
      case atStart => exact ⟨-1, by rfl, by omega, by omega, HX⟩
      case round =>
        obtain ⟨k, rfl, hk1, hk2, HY⟩ := hrel
        by_cases hlt2 : k < 9
        · go_wp2_with fail
          ((with_reducible refine (CE.out _).mono ?_); rintro e a1 ⟨v, rfl, ho, b⟩)
          obtain ⟨g1, c1, rfl, hh1, hg1, hr1⟩ := Row5.ex ho
          have HA1 := Lib.hid hr1
          have HY1 := Lib.hid (up HY.out b)
          clear ho b hr1
          go_wp2_with fail
          ((with_reducible refine (CE.out _).mono ?_); rintro e a2 ⟨v, rfl, ho, b⟩)
          obtain ⟨g2, c2, rfl, hh2, hg2, hr2⟩ := Row5.ex ho
          have HA2 := Lib.hid (And.intro (HA1.out.later b) hr2)
          have HY2 := Lib.hid (up HY1.out b)
          clear ho b hr2
          go_wp2_with fail
          ((with_reducible refine (CE.out _).mono ?_); rintro e a3 ⟨v, rfl, ho, b⟩)
          obtain ⟨g3, c3, rfl, hh3, hg3, hr3⟩ := Row5.ex ho
          have HA3 := Lib.hid (And.intro (HA2.out.1.later b) (And.intro (HA2.out.2.later b) hr3))
          have HY3 := Lib.hid (up HY2.out b)
          clear ho b hr3
          go_wp2_with fail
          ((with_reducible refine (CE.out _).mono ?_); rintro e a4 ⟨v, rfl, ho, b⟩)
          obtain ⟨g4, c4, rfl, hh4, hg4, hr4⟩ := Row5.ex ho
          have HA4 := Lib.hid (And.intro (HA3.out.1.later b) (And.intro (HA3.out.2.1.later b) (And.intro (HA3.out.2.2.later b) hr4)))
          have HY4 := Lib.hid (up HY3.out b)
          clear ho b hr4
          go_wp2_with fail
          ((with_reducible refine (CE.out _).mono ?_); rintro e a5 ⟨v, rfl, ho, b⟩)
          obtain ⟨g5, c5, rfl, hh5, hg5, hr5⟩ := Row5.ex ho
          have HA5 := Lib.hid (And.intro (HA4.out.1.later b) (And.intro (HA4.out.2.1.later b) (And.intro (HA4.out.2.2.1.later b) (And.intro (HA4.out.2.2.2.later b) hr5))))
          have HY5 := Lib.hid (up HY4.out b)
          clear ho b hr5
          go_wp2_with fail
          ((with_reducible refine (CE.out _).mono ?_); rintro e a6 ⟨v, rfl, ho, b⟩)
          obtain ⟨g6, c6, rfl, hh6, hg6, hr6⟩ := Row5.ex ho
          have HA6 := Lib.hid (And.intro (HA5.out.1.later b) (And.intro (HA5.out.2.1.later b) (And.intro (HA5.out.2.2.1.later b) (And.intro (HA5.out.2.2.2.1.later b) (And.intro (HA5.out.2.2.2.2.later b) hr6)))))
          have HY6 := Lib.hid (up HY5.out b)
          have hsz6 := b.size
          clear ho b hr6
          have hyz := HY.out.size
          obtain ⟨j3, ja, jb, jc⟩ := remN (k + 1) 3 (by omega) (by omega)
          obtain ⟨j5, ka, kb, kc⟩ := remN (k + 1) 5 (by omega) (by omega)
          obtain ⟨j4, la, lb, lc⟩ := remN (k + 1) 4 (by omega) (by omega)
          replace ja : (k + 1) % 3 = (j3 : Int) := ja
          replace jb : (k + 1).tmod 3 = (j3 : Int) := jb
          replace ka : (k + 1) % 5 = (j5 : Int) := ka
          replace kb : (k + 1).tmod 5 = (j5 : Int) := kb
          replace la : (k + 1) % 4 = (j4 : Int) := la
          replace lb : (k + 1).tmod 4 = (j4 : Int) := lb
          obtain ⟨x3, hx3⟩ : ∃ x, [(⟨#[]⟩ : ByteArray), ⟨#[120]⟩, ⟨#[255]⟩][j3]? = some x := ⟨_, List.getElem?_eq_getElem (by simpa using jc)⟩
          obtain ⟨x5, hx5⟩ : ∃ x, [(⟨#[]⟩ : ByteArray), ⟨#[97]⟩, ⟨#[98]⟩, ⟨#[255]⟩, ⟨#[99]⟩][j5]? = some x := ⟨_, List.getElem?_eq_getElem (by simpa using kc)⟩
          obtain ⟨x4, hx4⟩ : ∃ x, [(-9223372036854775808 : Int), 9223372036854775807, 4001, -5][j4]? = some x := ⟨_, List.getElem?_eq_getElem (by simpa using lc)⟩
          have L3 : [Value.string ⟨#[]⟩, Value.string ⟨#[120]⟩, Value.string ⟨#[255]⟩][j3]? = some (Value.string x3) := by
            have : ([(⟨#[]⟩ : ByteArray), ⟨#[120]⟩, ⟨#[255]⟩].map Value.string)[j3]? = some (Value.string x3) := by rw [List.getElem?_map, hx3]; rfl
            exact this
          have L5 : [Value.string ⟨#[]⟩, Value.string ⟨#[97]⟩, Value.string ⟨#[98]⟩, Value.string ⟨#[255]⟩, Value.string ⟨#[99]⟩][j5]? = some (Value.string x5) := by
            have : ([(⟨#[]⟩ : ByteArray), ⟨#[97]⟩, ⟨#[98]⟩, ⟨#[255]⟩, ⟨#[99]⟩].map Value.string)[j5]? = some (Value.string x5) := by rw [List.getElem?_map, hx5]; rfl
            exact this
          have L4 : [Value.int .i64 (-9223372036854775808), Value.int .i64 9223372036854775807, Value.int .i64 4001, Value.int .i64 (-5)][j4]? = some (Value.int .i64 x4) := by
            have : ([(-9223372036854775808 : Int), 9223372036854775807, 4001, -5].map (Value.int .i64))[j4]? = some (Value.int .i64 x4) := by rw [List.getElem?_map, hx4]; rfl
            exact this
          have z3 : x3.size ≤ maxLen := by
            have := List.mem_of_getElem? hx3
            simp only [List.mem_cons, List.not_mem_nil, or_false] at this
            rcases this with rfl | rfl | rfl <;> simp [maxLen, ByteArray.size]
          have z5 : x5.size ≤ maxLen := by
            have := List.mem_of_getElem? hx5
            simp only [List.mem_cons, List.not_mem_nil, or_false] at this
            rcases this with rfl | rfl | rfl | rfl | rfl <;> simp [maxLen, ByteArray.size]
          have z4 : i64 x4 := by
            have := List.mem_of_getElem? hx4
            simp only [List.mem_cons, List.not_mem_nil, or_false] at this
            unfold i64
            rcases this with rfl | rfl | rfl | rfl <;> decide
          have zk : i64 k := by unfold i64; omega
          obtain ⟨r1, r2, r3, r4, r5, r6⟩ := HA6.out
          have ro : Row5 a6 go co := (HO.out.later HY6.out)
          have f1 := r1.melt (z * 5)
          obtain ⟨_, _, _, _, _, p1, _, _, _, _⟩ := r1.has hlt
          obtain ⟨s1, hs1⟩ : ∃ s1, s1 = a6.setCell ⟨g1, z * 5, none⟩ (.int .i64 k) := ⟨_, rfl⟩
          have u1 : Row5 s1 g1 c1 := by rw [hs1]; exact r1.put (m := 0) hlt (by omega) (put0 zk)
          replace r2 : Row5 s1 g2 c2 := by rw [hs1]; exact r2.other (by omega)
          replace r3 : Row5 s1 g3 c3 := by rw [hs1]; exact r3.other (by omega)
          replace r4 : Row5 s1 g4 c4 := by rw [hs1]; exact r4.other (by omega)
          replace r5 : Row5 s1 g5 c5 := by rw [hs1]; exact r5.other (by omega)
          replace r6 : Row5 s1 g6 c6 := by rw [hs1]; exact r6.other (by omega)
          replace ro : Row5 s1 go co := by rw [hs1]; exact ro.other (by omega)
          have f2 := r2.melt (z * 5 + 4)
          obtain ⟨_, _, _, _, _, _, _, _, _, p2⟩ := r2.has hlt
          obtain ⟨s2, hs2⟩ : ∃ s2, s2 = s1.setCell ⟨g2, z * 5 + 4, none⟩ (.int .i64 k) := ⟨_, rfl⟩
          have u2 : Row5 s2 g2 c2 := by rw [hs2]; exact r2.put (m := 4) hlt (by omega) (put4 zk)
          replace u1 : Row5 s2 g1 c1 := by rw [hs2]; exact u1.other (by omega)
          replace r3 : Row5 s2 g3 c3 := by rw [hs2]; exact r3.other (by omega)
          replace r4 : Row5 s2 g4 c4 := by rw [hs2]; exact r4.other (by omega)
          replace r5 : Row5 s2 g5 c5 := by rw [hs2]; exact r5.other (by omega)
          replace r6 : Row5 s2 g6 c6 := by rw [hs2]; exact r6.other (by omega)
          replace ro : Row5 s2 go co := by rw [hs2]; exact ro.other (by omega)
          have f3 := r3.melt (z * 5 + 2)
          obtain ⟨_, _, _, _, _, _, _, p3, _, _⟩ := r3.has hlt
          obtain ⟨s3, hs3⟩ : ∃ s3, s3 = s2.setCell ⟨g3, z * 5 + 2, none⟩ (.int .i64 k) := ⟨_, rfl⟩
          have u3 : Row5 s3 g3 c3 := by rw [hs3]; exact r3.put (m := 2) hlt (by omega) (put2 zk)
          replace u1 : Row5 s3 g1 c1 := by rw [hs3]; exact u1.other (by omega)
          replace u2 : Row5 s3 g2 c2 := by rw [hs3]; exact u2.other (by omega)
          replace r4 : Row5 s3 g4 c4 := by rw [hs3]; exact r4.other (by omega)
          replace r5 : Row5 s3 g5 c5 := by rw [hs3]; exact r5.other (by omega)
          replace r6 : Row5 s3 g6 c6 := by rw [hs3]; exact r6.other (by omega)
          replace ro : Row5 s3 go co := by rw [hs3]; exact ro.other (by omega)
          have q3 : s3.heap.size = a6.heap.size := by rw [hs3, hs2, hs1]; simp
          obtain ⟨s4, hs4⟩ : ∃ s4, s4 = s3.alloc (.cells #[.string ⟨#[]⟩, .string ⟨#[120]⟩, .string ⟨#[255]⟩] 9) := ⟨_, rfl⟩
          have b4 : Below s3.heap.size s3 s4 := by rw [hs4]; exact up_new _ _
          have d4 : s4.cell? ⟨s3.heap.size, j3, none⟩ = some (.string x3) := by
            have := (Blk.new s3 9 #[.string ⟨#[]⟩, .string ⟨#[120]⟩, .string ⟨#[255]⟩]).cell j3
            rw [← hs4] at this
            rw [this]
            have : ([(⟨#[]⟩ : ByteArray), ⟨#[120]⟩, ⟨#[255]⟩].map Value.string)[j3]? = some (Value.string x3) := by rw [List.getElem?_map, hx3]; rfl
            exact this
          replace r4 := r4.later b4
          have f4 := r4.melt (z * 5 + 3)
          obtain ⟨_, _, _, _, _, _, _, _, p4, _⟩ := r4.has hlt
          obtain ⟨s5, hs5⟩ : ∃ s5, s5 = s4.setCell ⟨g4, z * 5 + 3, none⟩ (.string x3) := ⟨_, rfl⟩
          have u4 : Row5 s5 g4 c4 := by rw [hs5]; exact r4.put (m := 3) hlt (by omega) (put3 z3)
          replace u1 : Row5 s5 g1 c1 := by rw [hs5]; exact (u1.later b4).other (by omega)
          replace u2 : Row5 s5 g2 c2 := by rw [hs5]; exact (u2.later b4).other (by omega)
          replace u3 : Row5 s5 g3 c3 := by rw [hs5]; exact (u3.later b4).other (by omega)
          replace r5 : Row5 s5 g5 c5 := by rw [hs5]; exact (r5.later b4).other (by omega)
          replace r6 : Row5 s5 g6 c6 := by rw [hs5]; exact (r6.later b4).other (by omega)
          replace ro : Row5 s5 go co := by rw [hs5]; exact (ro.later b4).other (by omega)
          have q5 : s5.heap.size = a6.heap.size + 1 := by rw [hs5, hs4]; simp [q3]
          obtain ⟨s6, hs6⟩ : ∃ s6, s6 = s5.alloc (.cells #[.string ⟨#[]⟩, .string ⟨#[97]⟩, .string ⟨#[98]⟩, .string ⟨#[255]⟩, .string ⟨#[99]⟩] 9) := ⟨_, rfl⟩
          have b6 : Below s5.heap.size s5 s6 := by rw [hs6]; exact up_new _ _
          have d6 : s6.cell? ⟨s5.heap.size, j5, none⟩ = some (.string x5) := by
            have := (Blk.new s5 9 #[.string ⟨#[]⟩, .string ⟨#[97]⟩, .string ⟨#[98]⟩, .string ⟨#[255]⟩, .string ⟨#[99]⟩]).cell j5
            rw [← hs6] at this
            rw [this]
            have : ([(⟨#[]⟩ : ByteArray), ⟨#[97]⟩, ⟨#[98]⟩, ⟨#[255]⟩, ⟨#[99]⟩].map Value.string)[j5]? = some (Value.string x5) := by rw [List.getElem?_map, hx5]; rfl
            exact this
          replace r5 := r5.later b6
          have f5 := r5.melt (z * 5 + 1)
          obtain ⟨_, _, _, _, _, _, p5, _, _, _⟩ := r5.has hlt
          obtain ⟨s7, hs7⟩ : ∃ s7, s7 = s6.setCell ⟨g5, z * 5 + 1, none⟩ (.string x5) := ⟨_, rfl⟩
          have u5 : Row5 s7 g5 c5 := by rw [hs7]; exact r5.put (m := 1) hlt (by omega) (put1 z5)
          replace u1 : Row5 s7 g1 c1 := by rw [hs7]; exact (u1.later b6).other (by omega)
          replace u2 : Row5 s7 g2 c2 := by rw [hs7]; exact (u2.later b6).other (by omega)
          replace u3 : Row5 s7 g3 c3 := by rw [hs7]; exact (u3.later b6).other (by omega)
          replace u4 : Row5 s7 g4 c4 := by rw [hs7]; exact (u4.later b6).other (by omega)
          replace r6 : Row5 s7 g6 c6 := by rw [hs7]; exact (r6.later b6).other (by omega)
          replace ro : Row5 s7 go co := by rw [hs7]; exact (ro.later b6).other (by omega)
          have q7 : s7.heap.size = a6.heap.size + 2 := by rw [hs7, hs6]; simp [q5]
          obtain ⟨s8, hs8⟩ : ∃ s8, s8 = s7.alloc (.cells #[.int .i64 (-9223372036854775808), .int .i64 9223372036854775807, .int .i64 4001, .int .i64 (-5)] 3) := ⟨_, rfl⟩
          have b8 : Below s7.heap.size s7 s8 := by rw [hs8]; exact up_new _ _
          have d8 : s8.cell? ⟨s7.heap.size, j4, none⟩ = some (.int .i64 x4) := by
            have := (Blk.new s7 3 #[.int .i64 (-9223372036854775808), .int .i64 9223372036854775807, .int .i64 4001, .int .i64 (-5)]).cell j4
            rw [← hs8] at this
            rw [this]
            have : ([(-9223372036854775808 : Int), 9223372036854775807, 4001, -5].map (Value.int .i64))[j4]? = some (Value.int .i64 x4) := by rw [List.getElem?_map, hx4]; rfl
            exact this
          replace r6 := r6.later b8
          have f6 := r6.melt (z * 5 + 4)
          obtain ⟨_, _, _, _, _, _, _, _, _, p6⟩ := r6.has hlt
          obtain ⟨s9, hs9⟩ : ∃ s9, s9 = s8.setCell ⟨g6, z * 5 + 4, none⟩ (.int .i64 x4) := ⟨_, rfl⟩
          have u6 : Row5 s9 g6 c6 := by rw [hs9]; exact r6.put (m := 4) hlt (by omega) (put4 z4)
          replace u1 : Row5 s9 g1 c1 := by rw [hs9]; exact (u1.later b8).other (by omega)
          replace u2 : Row5 s9 g2 c2 := by rw [hs9]; exact (u2.later b8).other (by omega)
          replace u3 : Row5 s9 g3 c3 := by rw [hs9]; exact (u3.later b8).other (by omega)
          replace u4 : Row5 s9 g4 c4 := by rw [hs9]; exact (u4.later b8).other (by omega)
          replace u5 : Row5 s9 g5 c5 := by rw [hs9]; exact (u5.later b8).other (by omega)
          replace ro : Row5 s9 go co := by rw [hs9]; exact (ro.later b8).other (by omega)
          have UU := Lib.hid (And.intro ro (And.intro u1 (And.intro u2 (And.intro u3 (And.intro u4 (And.intro u5 u6))))))
          have hb9 : Below w1.heap.size w1 s9 := by
            rw [hs9]
            refine Below.setCell (p := ⟨g6, z * 5 + 4, none⟩) ?_ (by simp; omega) _
            refine Below.trans ?_ (b8.mono (by omega))
            rw [hs7]
            refine Below.setCell (p := ⟨g5, z * 5 + 1, none⟩) ?_ (by simp; omega) _
            refine Below.trans ?_ (b6.mono (by omega))
            rw [hs5]
            refine Below.setCell (p := ⟨g4, z * 5 + 3, none⟩) ?_ (by simp; omega) _
            refine Below.trans ?_ (b4.mono (by omega))
            rw [hs3]
            refine Below.setCell (p := ⟨g3, z * 5 + 2, none⟩) ?_ (by simp; omega) _
            rw [hs2]
            refine Below.setCell (p := ⟨g2, z * 5 + 4, none⟩) ?_ (by simp; omega) _
            rw [hs1]
            exact Below.setCell (p := ⟨g1, z * 5, none⟩) HY6.out (by simp; omega) _
          have HS9 := Lib.hid hb9
          subst hs8 hs6 hs4
          have E1 := Lib.hid hs1
          have E2 := Lib.hid hs2
          have E3 := Lib.hid hs3
          have E5 := Lib.hid hs5
          have E7 := Lib.hid hs7
          have E9 := Lib.hid hs9
          clear r2 r3 r4 r5 r6 ro u1 u2 u3 u4 u5 u6 hb9 hs9 hs7 hs5 hs3 hs2 hs1 b4 b6 b8 q3 q5 q7 hx3 hx4 hx5 z3 z4 z5 HA1 HA2 HA3 HA4 HA5 HA6 HY1 HY2 HY3 HY4 HY5
          go_upto_region 10 with fail
          rw [← E1.out]
          clear p1 f1
          go_upto_region 11 with fail
          rw [← E2.out]
          clear p2 f2
          go_upto_region 12 with fail
          rw [← E3.out]
          clear p3 f3
          go_upto_region 13 with fail
          rw [← E5.out]
          clear p4 f4 d4
          go_upto_region 14 with fail
          rw [← E7.out]
          clear p5 f5 d6
          go_upto_region 15 with fail
          rw [← E9.out]
          clear p6 f6 d8
          have HTS := Lib.hid (HT.out.later (up HB1.out HS9.out))
          obtain ⟨uo, u1, u2, u3, u4, u5, u6⟩ := UU.out
          have KT := Lib.hid (fun (g c : Nat) (key : ByteArray) (h : Row5 s9 g c) (hk : key.size ≤ 9223372036854775807) (wb : World) (hb : Below s9.heap.size s9 wb) => tells5 (key := key) (h.later hb) (uo.later hb) hk (HTS.out.later hb))
          have K1 := Lib.hid (KT.out g1 c1 ⟨#[97]⟩ u1 (by decide))
          have K2 := Lib.hid (KT.out g2 c2 ⟨#[98]⟩ u2 (by decide))
          have K3 := Lib.hid (KT.out g3 c3 ⟨#[97]⟩ u3 (by decide))
          have K4 := Lib.hid (KT.out g4 c4 ⟨#[97]⟩ u4 (by decide))
          have K5 := Lib.hid (KT.out g5 c5 ⟨#[99]⟩ u5 (by decide))
          have K6 := Lib.hid (KT.out g6 c6 ⟨#[97]⟩ u6 (by decide))
          have K7 := Lib.hid (fun (wb : World) (hb : Below s9.heap.size s9 wb) => again5 (u1.later hb) (HTS.out.later hb))
          have K8 := Lib.hid (fun (wb : World) (hb : Below s9.heap.size s9 wb) => again5 (u2.later hb) (HTS.out.later hb))
          clear uo u1 u2 u3 u4 u5 u6 KT
          go_wp2_with fail
          ((with_reducible refine (K1.out _ (Below.refl _ _)).mono ?_); rintro e t1 ⟨rfl, b⟩)
          have H1 := Lib.hid b
          clear b K1
          go_wp2_with fail
          ((with_reducible refine (K2.out _ H1.out).mono ?_); rintro e t2 ⟨rfl, b⟩)
          have H2 := Lib.hid (up H1.out b)
          clear b K2 H1
          go_wp2_with fail
          ((with_reducible refine (K3.out _ H2.out).mono ?_); rintro e t3 ⟨rfl, b⟩)
          have H3 := Lib.hid (up H2.out b)
          clear b K3 H2
          go_wp2_with fail
          ((with_reducible refine (K4.out _ H3.out).mono ?_); rintro e t4 ⟨rfl, b⟩)
          have H4 := Lib.hid (up H3.out b)
          clear b K4 H3
          go_wp2_with fail
          ((with_reducible refine (K5.out _ H4.out).mono ?_); rintro e t5 ⟨rfl, b⟩)
          have H5 := Lib.hid (up H4.out b)
          clear b K5 H4
          go_wp2_with fail
          ((with_reducible refine (K6.out _ H5.out).mono ?_); rintro e t6 ⟨rfl, b⟩)
          have H6 := Lib.hid (up H5.out b)
          clear b K6 H5
          go_wp2_with fail
          ((with_reducible refine (K7.out _ H6.out).mono ?_); rintro e t7 ⟨rfl, b⟩)
          have H7 := Lib.hid (up H6.out b)
          clear b K7 H6
          go_wp2_with fail
          ((with_reducible refine (K8.out _ H7.out).mono ?_); rintro e t8 ⟨rfl, b⟩)
          have H8 := Lib.hid (up HS9.out (up H7.out b))
          clear b K8 H7
          go_wp2_with fail
          go_roundw
          case rel => exact ⟨k + 1, by go_num, by omega, by omega, H8⟩
          case measure => simp [intOf]; omega
        · go_wp2_with fail
          go_roundw
          case rel => exact ⟨z + 1, by go_num, by omega, HY⟩
          case measure => simp [intOf]; omega
    · have hlt1 : ¬ (z : Int) < 5 := by omega
      have HTS := Lib.hid (HT.out.later (up HB1.out HX.out))
      have HBX := Lib.hid (up HB1.out HX.out)
      obtain ⟨w2, hw2⟩ : ∃ w2, w2 = wr := ⟨_, rfl⟩
      rw [← hw2] at HTS HBX ⊢
      clear hw2 HX HO
      have CN := Lib.hid (fun w => mkNull w)
      go_wp2_with fail
      ((with_reducible refine (CN.out _).mono ?_); rintro e w3 ⟨v, rfl, ho, b⟩)
      obtain ⟨na, nc, rfl⟩ := form_n (Gn.Own.rd ndL ho) 1 rfl
      have HN := Lib.hid (own_low ho)
      have HB3 := Lib.hid b
      clear ho b
      go_wp2_with fail
      go_loopw [11, 12] (fun mv iv wx => ∃ z : Nat, iv = .int .i64 (z : Nat) ∧ z ≤ 3999 ∧ Hid (OwnS wx w3.heap.size mv (List.replicate z ⟨na, 1, nc⟩) ∧ Below w3.heap.size w3 wx)) (fun _ iv _ => 3999 - (intOf iv).toNat)
      case atStart => exact ⟨0, by rfl, by omega, Lib.hid ⟨Gn.Own.nil _ _, Below.refl _ _⟩⟩
      case round =>
        obtain ⟨z, rfl, hz, HM⟩ := hrel
        by_cases hlt : z < 3999
        · have hlt1 : (z : Int) < 3999 := by omega
          have bu := up_new wr (.cells #[.slice na 1 nc] 25)
          have HS4 := Lib.hid (Gn.Own.later HM.out.1 bu)
          have HB4 := Lib.hid (HM.out.2.trans (bu.mono HM.out.2.size))
          have HR4 := Lib.hid (rdSl_one wr na 1 nc)
          clear bu
          go_wp2_with (at_builtin
                       refine Gn.wpList_app slL slY rfl (.tmp 135) (.tmp 137) rfl w3.heap.size _ _ rfl HS4.out _ [(⟨na, 1, nc⟩ : Sl)] rfl HR4.out (by simp; omega) HB4.out.size ?_
                       intro v5 w5 ho5 hg5 hl5 hn5
                       have HAN : Hid (OwnS w5 w3.heap.size v5 (List.replicate (z + 1) (⟨na, 1, nc⟩ : Sl)) ∧ Below w3.heap.size w3 w5) := Lib.hid ⟨by rw [List.replicate_succ']; exact ho5, HB4.out.trans (Gn.below_of_own HS4.out hg5 HB4.out.size)⟩
                       clear ho5 hg5 hl5 hn5)
          go_roundw
          case rel => exact ⟨z + 1, by go_num, by omega, HAN⟩
          case measure => simp [intOf]; omega
        · obtain rfl : z = 3999 := by omega
          obtain ⟨w4, hw4⟩ : ∃ w4, w4 = wr := ⟨_, rfl⟩
          rw [← hw4] at HM ⊢
          clear hw4
          obtain ⟨ma, mc, rfl⟩ := rd_val (Gn.Own.rd slL HM.out.1) 3999 (by rw [List.length_replicate])
          have HN4 := Lib.hid (Gn.Own.rd ndL (Gn.Own.later HN.out HM.out.2))
          have HT4 := Lib.hid (HTS.out.later (up HB3.out HM.out.2))
          have HB4 := Lib.hid (up HBX.out (up HB3.out HM.out.2))
          obtain ⟨ra, hra, hral⟩ : ∃ r, ListIs (List.replicate 3999 nulL) r 0 ∧ r.length = 4000 := ⟨_, (nulls_ok 3999 (by omega)).1, (nulls_ok 3999 (by omega)).2⟩
          have CL := Lib.hid (mkList _ _ (List.replicate 3999 nulL) w4 (rdS_rep 3999 HM.out.1 HN4.out nul_nok) (by rw [List.length_replicate]; omega) HT4.out ra 0 hra)
          have HRL := Lib.hid hral
          clear hra hral hlt
          go_wp2_with fail
          ((with_reducible refine (CL.out).mono ?_); rintro e w5 ⟨av, rfl, ho, b⟩)
          obtain ⟨aa, ac, rfl⟩ := form_n (Gn.Own.rd ndL ho) 4000 HRL.out
          have HX5 := Lib.hid b
          have bu := up_new w5 (.cells #[.slice na 1 nc] 25)
          have HS6 := Lib.hid (Gn.Own.later HM.out.1 (up b bu))
          have HB6 := Lib.hid (HM.out.2.trans ((up b bu).mono HM.out.2.size))
          have HX6 := Lib.hid (up b bu)
          have HR6 := Lib.hid (rdSl_one w5 na 1 nc)
          clear bu ho b CL
          go_wp2_with (at_builtin
                       refine Gn.wpList_app slL slY rfl (.tmp 145) (.tmp 147) rfl w3.heap.size _ _ rfl HS6.out _ [(⟨na, 1, nc⟩ : Sl)] rfl HR6.out (by rw [List.length_replicate]; simp) HB6.out.size ?_
                       intro v7 w7 ho7 hg7 hl7 hn7
                       have HAN : Hid (OwnS w7 w3.heap.size v7 (List.replicate 4000 (⟨na, 1, nc⟩ : Sl)) ∧ Below w3.heap.size w3 w7) := Lib.hid ⟨by rw [show (4000 : Nat) = 3999 + 1 from rfl, List.replicate_succ']; exact ho7, HB6.out.trans (Gn.below_of_own HS6.out hg7 HB6.out.size)⟩
                       clear ho7 hg7 hl7 hn7)
          have HN7 := Lib.hid (Gn.Own.rd ndL (Gn.Own.later HN.out HAN.out.2))
          have HT7 := Lib.hid (HTS.out.later (up HB3.out HAN.out.2))
          have CM := Lib.hid (mkList v7 _ (List.replicate 4000 nulL) w7 (rdS_rep 4000 HAN.out.1 HN7.out nul_nok) (by rw [List.length_replicate]; omega) HT7.out [] 5 nulls_many)
          go_wp2_with fail
          ((with_reducible refine (CM.out).mono ?_); rintro e w8 ⟨bv, rfl, ho, b⟩)
          obtain ⟨ba, bc, rfl⟩ := form_n (Gn.Own.rd ndL ho) 0 rfl
          have HX8 := Lib.hid (up HBX.out (up HB3.out (up HAN.out.2 b)))
          have HN8 := Lib.hid (Gn.Rd.later HN7.out b)
          have hmm := node_many w8 4001 (by omega)
          obtain ⟨M, hM⟩ : ∃ M, M = madeCells ndz.cells (4001 * 5) := ⟨_, rfl⟩
          rw [← hM] at hmm
          have HLG := Lib.hid (show RdN (w8.alloc (.cells M 36)) (w8.alloc (.cells M 36)).heap.size (.slice (some ⟨w8.heap.size, 0, none⟩) 4001 4001) (List.replicate 4001 zeroN) by rw [hM]; exact rd_many w8 4001 (by omega))
          clear ho b CM hM HAN HN7 HS6 HB6 HX6 HR6 HX5 HN4 HT4 HB4 HM HN HT7
          replace hmm : (Instr.makeSlice 25 (.int .i64 4001) (.int .i64 4001)).run Tryd.prog w8 = .ok (.slice (some ⟨w8.heap.size, 0, none⟩) 4001 4001) (w8.alloc (.cells M 36)) := hmm
          have bm := up_new w8 (.cells M 36)
          have HN9 := Lib.hid (Gn.Rd.later HN8.out bm)
          have HX9 := Lib.hid (up HX8.out bm)
          clear bm HN8
          go_wp2_with fail
          ((with_reducible refine (CN.out _).mono ?_); rintro e w9 ⟨v, rfl, ho, b⟩)
          obtain ⟨da, dc, rfl⟩ := rd_val (Gn.Own.rd ndL ho) 1 rfl
          have HXA := Lib.hid (up HX9.out b)
          replace HLG := Lib.hid (Gn.Rd.later HLG.out b)
          replace HN9 := Lib.hid (Gn.Rd.later HN9.out b)
          have HD0 := Lib.hid (own_low ho)
          have HT9 := Lib.hid (HT.out.later HXA.out)
          clear b ho HX9 HX8 hmm
          go_wp2_with fail
          go_loopw [18, 19] (fun dv iv wx => ∃ (z : Nat) (a : Option Addr) (c : Nat), iv = .int .i64 (z : Nat) ∧ z ≤ 63 ∧ dv = .slice a (z + 1) c ∧ Hid (OwnN wx 0 (.slice a (z + 1) c) (Tp.flat (dpF z)) ∧ Below w9.heap.size w9 wx)) (fun _ iv _ => 63 - (intOf iv).toNat)
          case atStart => exact ⟨0, da, dc, by rfl, by omega, rfl, Lib.hid ⟨HD0.out, Below.refl _ _⟩⟩
          case round =>
            obtain ⟨z, a, c, rfl, hz, rfl, HM⟩ := hrel
            by_cases hlt : z < 63
            · have hlt1 : (z : Int) < 63 := by omega
              obtain ⟨wb, hwb⟩ : ∃ wb, wb = wr.alloc (.cells #[.slice a (z + 1) c] 25) := ⟨_, rfl⟩
              have bu : Below wr.heap.size wr wb := by rw [hwb]; exact up_new _ _
              have hs : RdS wb wb.heap.size (.slice (some ⟨wr.heap.size, 0, none⟩) 1 1) [(⟨a, z + 1, c⟩ : Sl)] [Tp.flat (dpF z)] := by
                rw [hwb]
                exact rdS_lit wr [(⟨a, z + 1, c⟩ : Sl)] [Tp.flat (dpF z)] #[.slice a (z + 1) c] 1 rfl rfl (by simp [maxLen]) rfl (each1 (Gn.Own.rd ndL HM.out.1) (dp_ok z (by omega)))
              have CL := Lib.hid (mkList _ _ [Tp.flat (dpF z)] wb hs (by simp) (HT9.out.later (up HM.out.2 bu)) (Tp.flat (dpF (z + 1))) 0 (dp_step z (by omega)))
              have HBU := Lib.hid bu
              rw [hwb] at CL HBU
              clear hs bu hwb
              go_wp2_with fail
              ((with_reducible refine (CL.out).mono ?_); rintro e w5 ⟨v, rfl, ho, b⟩)
              obtain ⟨a', c', rfl⟩ := rd_val (Gn.Own.rd ndL ho) (z + 1 + 1) (by show Tp.sz _ = _; rw [dp_sz])
              have HAN := Lib.hid (show OwnN w5 0 (.slice a' (z + 1 + 1) c') (Tp.flat (dpF (z + 1))) ∧ Below w9.heap.size w9 w5 from ⟨own_low ho, up HM.out.2 (up HBU.out b)⟩)
              clear ho b CL
              go_wp2_with fail
              go_roundw
              case rel => exact ⟨z + 1, a', c', by go_num, by omega, rfl, HAN⟩
              case measure => simp [intOf]; omega
            · obtain rfl : z = 63 := by omega
              obtain ⟨wA, hwA⟩ : ∃ wA, wA = wr := ⟨_, rfl⟩
              rw [← hwA] at HM ⊢
              clear hwA hlt
              have HDD := Lib.hid (Gn.Own.rd ndL HM.out.1)
              have HXB := Lib.hid (up HXA.out HM.out.2)
              replace HLG := Lib.hid (Gn.Rd.later HLG.out HM.out.2)
              replace HN9 := Lib.hid (Gn.Rd.later HN9.out HM.out.2)
              have HTB := Lib.hid (HT.out.later HXB.out)
              obtain ⟨wb, hwb⟩ : ∃ wb, wb = wA.alloc (.cells #[.slice na 1 nc, .slice a (63 + 1) c] 25) := ⟨_, rfl⟩
              have bu : Below wA.heap.size wA wb := by rw [hwb]; exact up_new _ _
              have hs : RdS wb wb.heap.size (.slice (some ⟨wA.heap.size, 0, none⟩) 2 2) [(⟨na, 1, nc⟩ : Sl), ⟨a, 63 + 1, c⟩] [nulL, Tp.flat (dpF 63)] := by
                rw [hwb]
                exact rdS_lit wA [(⟨na, 1, nc⟩ : Sl), ⟨a, 63 + 1, c⟩] [nulL, Tp.flat (dpF 63)] #[.slice na 1 nc, .slice a (63 + 1) c] 2 rfl rfl (by simp [maxLen]) rfl (each2 HN9.out nul_nok HDD.out (dp_ok 63 (by omega)))
              have CL := Lib.hid (mkList _ _ [nulL, Tp.flat (dpF 63)] wb hs (by simp) (HTB.out.later bu) [] 72 dp_two)
              have HBU := Lib.hid bu
              rw [hwb] at CL HBU
              clear hs bu hwb HM HD0
              go_wp2_with fail
              ((with_reducible refine (CL.out).mono ?_); rintro e wC ⟨cv, rfl, ho, b⟩)
              obtain ⟨ca, cc, rfl⟩ := form_n (Gn.Own.rd ndL ho) 0 rfl
              have bb := up HBU.out b
              have HXC := Lib.hid (up HXB.out bb)
              replace HLG := Lib.hid (Gn.Rd.later HLG.out bb)
              replace HN9 := Lib.hid (Gn.Rd.later HN9.out bb)
              replace HDD := Lib.hid (Gn.Rd.later HDD.out bb)
              have HTC := Lib.hid (HT.out.later HXC.out)
              have K1 := Lib.hid (check _ _ wC HLG.out long_ok HTC.out 5 long_chk)
              clear ho b bb CL HBU
              go_wp2_with fail
              ((with_reducible refine (K1.out).mono ?_); rintro e wD ⟨rfl, b⟩)
              have HXD := Lib.hid (up HXC.out b)
              replace HLG := Lib.hid (Gn.Rd.later HLG.out b)
              replace HN9 := Lib.hid (Gn.Rd.later HN9.out b)
              replace HDD := Lib.hid (Gn.Rd.later HDD.out b)
              have HTD := Lib.hid (HT.out.later HXD.out)
              have K2 := Lib.hid (deepOf _ _ wD HDD.out (dp_ok 63 (by omega)) HTD.out 64 dp_deep)
              clear b K1
              go_wp2_with fail
              ((with_reducible refine (K2.out).mono ?_); rintro e wE ⟨rfl, b⟩)
              have HXE := Lib.hid (up HXD.out b)
              replace HLG := Lib.hid (Gn.Rd.later HLG.out b)
              replace HN9 := Lib.hid (Gn.Rd.later HN9.out b)
              clear b K2 HXA HXB HXC HXD HT9 HTB HTC HTD HDD
              have HLW : Hid (OwnN (wE.alloc (.cells #[.int .i64 6, .string ⟨#[]⟩, .int .i64 0, .string ⟨#[]⟩, .int .i64 65] 36)) wE.heap.size (.slice (some ⟨wE.heap.size, 0, none⟩) 1 1) (lowL 0) ∧ Below wE.heap.size wE (wE.alloc (.cells #[.int .i64 6, .string ⟨#[]⟩, .int .i64 0, .string ⟨#[]⟩, .int .i64 65] 36))) := Lib.hid ⟨Gn.Own.lit ndL wE wE.heap.size [nd6 65] _ 1 1 rfl rfl rfl (by simp [maxLen]) (Nat.le_refl _), up_new _ _⟩
              go_wp2_with fail
              go_loopw [22, 23] (fun lv iv wx => ∃ (z : Nat), iv = .int .i64 (z : Nat) ∧ z ≤ 64 ∧ Hid (OwnN wx wE.heap.size lv (lowL z) ∧ Below wE.heap.size wE wx)) (fun _ iv _ => 64 - (intOf iv).toNat)
              case atStart => exact ⟨0, by rfl, by omega, HLW⟩
              case round =>
                obtain ⟨z, rfl, hz, HM⟩ := hrel
                by_cases hlt : z < 64
                · have hlt1 : (z : Int) < 64 := by omega
                  have bu := up_new wr (.cells #[.int .i64 6, .string ⟨#[]⟩, .int .i64 0, .string ⟨#[]⟩, .int .i64 (64 - (z : Int))] 36)
                  have HS4 := Lib.hid (Gn.Own.later HM.out.1 bu)
                  have HB4 := Lib.hid (HM.out.2.trans (bu.mono HM.out.2.size))
                  have HR4 := Lib.hid (Gn.Own.rd ndL (Gn.Own.lit (T := 36) ndL wr wr.heap.size [nd6 (64 - (z : Int))] #[.int .i64 6, .string ⟨#[]⟩, .int .i64 0, .string ⟨#[]⟩, .int .i64 (64 - (z : Int))] 1 1 rfl rfl rfl (by simp [maxLen]) (Nat.le_refl _)))
                  clear bu
                  go_wp2_with (at_builtin
                               refine Gn.wpList_app ndL ndY rfl (.tmp 212) (.tmp 216) rfl wE.heap.size _ _ rfl HS4.out _ [nd6 (64 - (z : Int))] rfl HR4.out (by rw [low_len]; simp; omega) HB4.out.size ?_
                               intro v5 w5 ho5 hg5 hl5 hn5
                               have HAN : Hid (OwnN w5 wE.heap.size v5 (lowL (z + 1)) ∧ Below wE.heap.size wE w5) := Lib.hid ⟨by rw [low_succ]; exact ho5, HB4.out.trans (Gn.below_of_own HS4.out hg5 HB4.out.size)⟩
                               clear ho5 hg5 hl5 hn5)
                  go_roundw
                  case rel => exact ⟨z + 1, by go_num, by omega, HAN⟩
                  case measure => simp [intOf]; omega
                · obtain rfl : z = 64 := by omega
                  obtain ⟨wG, hwG⟩ : ∃ wG, wG = wr := ⟨_, rfl⟩
                  rw [← hwG] at HM ⊢
                  clear hwG hlt HLW
                  obtain ⟨la, lc, rfl⟩ := rd_val (Gn.Own.rd ndL HM.out.1) 65 (low_len 64)
                  have HRL := Lib.hid (Gn.Own.rd ndL HM.out.1)
                  have HX0 := Lib.hid (up HXE.out HM.out.2)
                  replace HLG := Lib.hid (Gn.Rd.later HLG.out HM.out.2)
                  replace HN9 := Lib.hid (Gn.Rd.later HN9.out HM.out.2)
                  have KW := Lib.hid (works wG (HT.out.later HX0.out))
                  clear HM
                  go_wp2_with fail
                  ((with_reducible refine (KW.out).mono ?_); rintro e x1 ⟨rfl, b⟩)
                  have HX1 := Lib.hid (up HX0.out b)
                  replace HLG := Lib.hid (Gn.Rd.later HLG.out b)
                  replace HN9 := Lib.hid (Gn.Rd.later HN9.out b)
                  replace HRL := Lib.hid (Gn.Rd.later HRL.out b)
                  have K2 := Lib.hid (check _ _ x1 HRL.out (low_ok 64 (by omega)) (HT.out.later HX1.out) 72 low_chk)
                  clear b KW
                  go_wp2_with fail
                  ((with_reducible refine (K2.out).mono ?_); rintro e x2 ⟨rfl, b⟩)
                  have HX2 := Lib.hid (up HX1.out b)
                  replace HLG := Lib.hid (Gn.Rd.later HLG.out b)
                  replace HN9 := Lib.hid (Gn.Rd.later HN9.out b)
                  have K3 := Lib.hid (tapeMakes (.slice none 0 0) (.slice none 0 0) [] [] [] (-9223372036854775808) x2 (Gn.Rd.nil _ _) no_key ⟨Gn.Rd.nil _ _, rfl, fun i s l h => by simp at h⟩ (by decide) (by decide) (HT.out.later HX2.out))
                  clear b K2
                  go_wp2_with fail
                  ((with_reducible refine (K3.out).mono ?_); rintro e x3 ⟨rfl, b⟩)
                  have HX3 := Lib.hid (up HX2.out b)
                  replace HLG := Lib.hid (Gn.Rd.later HLG.out b)
                  replace HN9 := Lib.hid (Gn.Rd.later HN9.out b)
                  have K4 := Lib.hid (makes2 x3 ⟨#[]⟩ ⟨#[255]⟩ ⟨na, 1, nc⟩ ⟨some ⟨w8.heap.size, 0, none⟩, 4001, 4001⟩ nulL (List.replicate 4001 zeroN) 9223372036854775807 (Nat.zero_le _) (by simp [maxLen, ByteArray.size]) HN9.out nul_nok HLG.out long_ok ⟨by decide, by decide⟩ (HT.out.later HX3.out))
                  clear b K3
                  go_wp2_with fail
                  ((with_reducible refine (K4.out).mono ?_); rintro e x4 ⟨rfl, b⟩)
                  have HX4 := Lib.hid (up HX3.out b)
                  replace HN9 := Lib.hid (Gn.Rd.later HN9.out b)
                  have K5 := Lib.hid (makes2 x4 ⟨#[97]⟩ ⟨#[255]⟩ ⟨none, 0, 0⟩ ⟨na, 1, nc⟩ [] nulL 0 (by simp [maxLen, ByteArray.size]) (by simp [maxLen, ByteArray.size]) (Gn.Rd.nil _ _) (fun x hx => by cases hx) HN9.out nul_nok ⟨by decide, by decide⟩ (HT.out.later HX4.out))
                  clear b K4
                  go_wp2_with fail
                  ((with_reducible refine (K5.out).mono ?_); rintro e x5 ⟨rfl, b⟩)
                  have HX5 := Lib.hid (up HX4.out b)
                  have b1 := up_new x5 (.cells #[.string ⟨#[97]⟩] 9)
                  have HK := Lib.hid (rdT_lit x5 [⟨#[97]⟩] #[.string ⟨#[97]⟩] 1 rfl rfl (by simp [maxLen]))
                  have HB := Lib.hid b1
                  clear b b1 K5
                  go_wp2_with fail
                  ((with_reducible refine (CE.out _).mono ?_); rintro e x6 ⟨v, rfl, ho, b⟩)
                  obtain ⟨g1, c1, rfl, _, _, hr1⟩ := Row5.ex ho
                  obtain ⟨l, hl5, hlok, hlrd⟩ := hr1.rd
                  have bb := up HB.out b
                  have b2 := up_new x6 (.cells #[.slice (some ⟨g1, 0, none⟩) 5 c1] 25)
                  have hs := rdS_lit x6 [(⟨some ⟨g1, 0, none⟩, 5, c1⟩ : Sl)] [l] #[.slice (some ⟨g1, 0, none⟩) 5 c1] 1 rfl rfl (by simp [maxLen]) rfl (each1 hlrd hlok)
                  have HX7 := Lib.hid (up HX5.out (up bb b2))
                  have K6 := Lib.hid (tapeMakes _ _ [⟨#[97]⟩] [(⟨some ⟨g1, 0, none⟩, 5, c1⟩ : Sl)] [l] 0 _ (Gn.Rd.later HK.out (up b b2)) one_key hs (by decide) (by decide) (HT.out.later HX7.out))
                  clear ho b hr1 hlrd hlok bb b2 hs
                  go_wp2_with fail
                  ((with_reducible refine (K6.out).mono ?_); rintro e x8 ⟨rfl, b⟩)
                  have HX8 := Lib.hid (up HX7.out b)
                  clear b K6
                  go_wp2_with fail
                  go_ret
                  exact ⟨rfl, HX8.out⟩
end Go.Proofs.YteklcfimafplbaaDoor
