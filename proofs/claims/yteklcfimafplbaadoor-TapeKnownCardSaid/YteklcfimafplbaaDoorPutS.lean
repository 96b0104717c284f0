/- The closure that puts a value, and its parts in their order, behind what was put. -/
import Derived.Test.YteklcfimafplbaaDoorPlc
import Derived.Deep.RegionLaw
import Derived.Deep.DeepCutAuto
import Derived.Laws.EntriesVeiled
namespace Go.Proofs.YteklcfimafplbaaDoor
open Go.RowKit
set_option linter.unusedVariables false
set_option maxRecDepth 100000

def pfn (sb tb pb : Nat) : Value := .func (.func 35) #[] #[.pointer (some ⟨sb, 0, none⟩), .pointer (some ⟨tb, 0, none⟩), .pointer (some ⟨pb, 0, none⟩)]
/-- The closure's variables: what was put, the nodes, itself. -/
structure PS (w : World) (B base : Nat) (v : Value) (l : List Nd) (sb tb pb : Nat) (sv : Value) (acc : List Nd) : Prop where
  rd : RdN w B v l
  t : Blk w tb 25 [v]
  f : Blk w pb 63 [pfn sb tb pb]
  s : Blk w sb 25 [sv]
  own : OwnN w base sv acc
  nb : ∀ g, sv.ownBlock = some g → g ≠ sb ∧ g ≠ tb ∧ g ≠ pb ∧ B ≤ g
  bs : B ≤ sb
  bt : B ≤ tb
  bp : B ≤ pb
  st : sb ≠ tb
  sp : sb ≠ pb
  lo : B ≤ w.heap.size
  bb : base ≤ w.heap.size
theorem PS.later {w w' : World} {B base : Nat} {v : Value} {l : List Nd} {sb tb pb : Nat} {sv : Value} {acc : List Nd} (h : PS w B base v l sb tb pb sv acc) (hb : Below w.heap.size w w') : PS w' B base v l sb tb pb sv acc :=
  ⟨Gn.Rd.below h.rd hb h.lo, h.t.later hb, h.f.later hb, h.s.later hb, Gn.Own.later h.own hb, h.nb, h.bs, h.bt, h.bp, h.st, h.sp, Nat.le_trans h.lo hb.size, Nat.le_trans h.bb hb.size⟩
/-- What may have been touched: the variable, and what it owned. -/
structure PR (sb : Nat) (w : World) (sv : Value) (w' : World) (sv' : Value) : Prop where
  touch : Touch (fun i => i = sb ∨ sv.ownBlock = some i) w w'
  own : ∀ g, sv'.ownBlock = some g → sv.ownBlock = some g ∨ w.heap.size ≤ g
theorem PR.refl (sb : Nat) (w : World) (sv : Value) : PR sb w sv w sv := ⟨Touch.refl _ _, fun g h => .inl h⟩
theorem PR.trans {sb : Nat} {w w1 w2 : World} {sv sv1 sv2 : Value} (h : PR sb w sv w1 sv1) (k : PR sb w1 sv1 w2 sv2) : PR sb w sv w2 sv2 :=
  ⟨h.touch.trans k.touch (fun i hi => hi.elim (fun e => .inl (.inl e)) (fun e => (h.own i e).elim (fun e => .inl (.inr e)) .inr)), fun g hg => (k.own g hg).elim (fun e => h.own g e) (fun e => .inr (Nat.le_trans h.touch.size e))⟩
theorem PR.below {sb : Nat} {w w' : World} {sv : Value} (h : Below w.heap.size w w') : PR sb w sv w' sv := ⟨Touch.of_below h, fun g hg => .inl hg⟩
/-- One more was appended, and the variable was written. -/
theorem PS.put {w w1 : World} {B base : Nat} {v : Value} {l : List Nd} {sb tb pb : Nat} {sv v1 : Value} {acc acc1 : List Nd} (h : PS w B base v l sb tb pb sv acc) (ho : OwnN w1 base v1 acc1) (hg : w.grownBy w1 sv.ownBlock) (hl : v1.ownBlock = sv.ownBlock ∨ v1.ownBlock = some w.heap.size) :
    PS (w1.setCell ⟨sb, 0, none⟩ v1) B base v l sb tb pb v1 acc1 ∧ PR sb w sv (w1.setCell ⟨sb, 0, none⟩ v1) v1 ∧ w1.cell? ⟨sb, 0, none⟩ = some sv ∧ w1.frozen? ⟨sb, 0, none⟩ = false := by
  have hbel : Below B w w1 := (Below.refl _ _).grown hg h.lo (fun g hgg => (h.nb g hgg).2.2.2)
  have keep : ∀ k, k < w.heap.size → sv.ownBlock ≠ some k → w1.heap[k]? = w.heap[k]? := fun k hk hne => hg.block k hk (fun e => hne e.symm)
  have hs1 : Blk w1 sb 25 [sv] := (keep sb h.s.lt (fun e => (h.nb sb e).1 rfl)).trans h.s
  have ht1 : Blk w1 tb 25 [v] := (keep tb h.t.lt (fun e => (h.nb tb e).2.1 rfl)).trans h.t
  have hf1 : Blk w1 pb 63 [pfn sb tb pb] := (keep pb h.f.lt (fun e => (h.nb pb e).2.2.1 rfl)).trans h.f
  have hnb1 : ∀ g, v1.ownBlock = some g → g ≠ sb ∧ g ≠ tb ∧ g ≠ pb ∧ B ≤ g := fun g hgg => by
    rcases hl with hl | hl
    · exact h.nb g (hl ▸ hgg)
    · rw [hl] at hgg
      injection hgg with e
      have := h.s.lt
      have := h.t.lt
      have := h.f.lt
      have := h.lo
      omega
  have htch : Touch (fun i => i = sb) w1 (w1.setCell ⟨sb, 0, none⟩ v1) := Touch.setCell (S := fun i => i = sb) (p := ⟨sb, 0, none⟩) (Touch.refl _ _) rfl v1
  have hown2 : OwnN (w1.setCell ⟨sb, 0, none⟩ v1) base v1 acc1 := by
    obtain ⟨h0, h1⟩ := ho
    refine ⟨h0, ?_⟩
    rcases h1 with h1 | ⟨g, cap, cur, rfl, hg', hh, r⟩
    · exact .inl h1
    · have hgl : g < w1.heap.size := by
        rcases Nat.lt_or_ge g w1.heap.size with hlt | hge
        · exact hlt
        · rw [Array.getElem?_eq_none hge] at hh; cases hh
      exact .inr ⟨g, cap, cur, rfl, hg', (htch.block g hgl (fun e => (hnb1 g rfl).1 e)).trans hh, r⟩
  have hB1 : B ≤ w1.heap.size := Nat.le_trans h.lo hg.size
  refine ⟨⟨Gn.Rd.below h.rd (hbel.setCell (p := ⟨sb, 0, none⟩) h.bs v1) (Nat.le_refl _), ht1.touch htch (fun e => h.st e.symm), hf1.touch htch (fun e => h.sp e.symm), hs1.put 0 v1, hown2, hnb1, h.bs, h.bt, h.bp, h.st, h.sp, Nat.le_trans hB1 htch.size, Nat.le_trans h.bb (Nat.le_trans hg.size htch.size)⟩, ⟨Touch.setCell (p := ⟨sb, 0, none⟩) ⟨hg.os, hg.tape, hg.output, hg.size, fun k hk hne => keep k hk (fun e => hne (.inr e))⟩ (.inl rfl) v1, fun g hgg => hl.elim (fun e => .inl (e ▸ hgg)) (fun e => .inr (by rw [e] at hgg; injection hgg with e2; omega))⟩, hs1.cell 0, hs1.frozen 0⟩
theorem own_slice {w : World} {base : Nat} {v : Value} {l : List Nd} (h : OwnN w base v l) : ∃ a n c, v = .slice a n c := by
  rcases h.2 with ⟨rfl, _⟩ | ⟨g, cap, cur, rfl, _⟩
  · exact ⟨_, _, _, rfl⟩
  · exact ⟨_, _, _, rfl⟩
theorem pl_lift : ∀ (ps : List Nat) (n : Nat), (∀ p ∈ ps, p < n) → ∃ qs : List (Pl n), qs.map (·.1) = ps
  | [], _, _ => ⟨[], rfl⟩
  | p :: ps, n, h => by
    obtain ⟨qs, hq⟩ := pl_lift ps n (fun q hq => h q (List.mem_cons_of_mem _ hq))
    exact ⟨⟨p, h p (List.mem_cons_self ..)⟩ :: qs, congrArg (p :: ·) hq⟩
/-- The order in which parts are put. -/
structure QS (l : List Nd) (a : Nat) (k : Int) (c : Fo) (w1 w : World) (pv : Value) (qs : List Nat) : Prop where
  perm : qs.Perm (plN (a + 1) c)
  is : putF l qs = (if k = 7 then Tp.cat (Tp.srtL (Tp.trs (Tp.sT c))) else Tp.sT c)
  own : OwnI w w1.heap.size pv (qs.map fun (x : Nat) => (x : Int))
  bel : Below w1.heap.size w1 w
theorem ownI_touch {S : Nat → Prop} {w w' : World} {base : Nat} {v : Value} {l : List Int} (h : OwnI w base v l) (ht : Touch S w w') (hn : ∀ g, v.ownBlock = some g → ¬ S g) : OwnI w' base v l := by
  obtain ⟨h0, h1⟩ := h
  refine ⟨h0, ?_⟩
  rcases h1 with h1 | ⟨g, cap, cur, rfl, hg, hh, r⟩
  · exact .inl h1
  · have hlt : g < w.heap.size := by
      rcases Nat.lt_or_ge g w.heap.size with hlt | hge
      · exact hlt
      · rw [Array.getElem?_eq_none hge] at hh; cases hh
    exact .inr ⟨g, cap, cur, rfl, hg, (ht.block g hlt (hn g rfl)).trans hh, r⟩
theorem putF_succ (l : List Nd) (qs : List Nat) (j : Nat) (p : Nat) (h : qs[j]? = some p) : putF l (qs.take (j + 1)) = Tp.app (putF l (qs.take j)) (Tp.sT (treeAt l p)) := by
  have hj := (List.getElem?_eq_some_iff.1 h).1
  unfold putF
  rw [List.take_succ_eq_append_getElem hj, List.map_append, Tp.cat_append, (List.getElem?_eq_some_iff.1 h).2]
  simp [Tp.cat, Tp.app_nil]
theorem putF_le (l : List Nd) (qs : List Nat) (j : Nat) : Tp.sz (putF l (qs.take j)) ≤ Tp.sz (putF l qs) := by
  conv => rhs; rw [← List.take_append_drop j qs]
  unfold putF
  rw [List.map_append, Tp.cat_append, Tp.sz_app]
  omega
theorem QS.sz {l : List Nd} {a : Nat} {k : Int} {c : Fo} {w1 w : World} {pv : Value} {qs : List Nat} (h : QS l a k c w1 w pv qs) : Tp.sz (putF l qs) = Tp.sz c := by
  rw [h.is]
  split
  · rw [Tp.cat_srt_sz, Tp.sT_sz]
  · rw [Tp.sT_sz]
/-- The claim. -/
def PClaim (B base : Nat) (v : Value) (l : List Nd) (sb tb pb n : Nat) : Prop :=
  ∀ (a : Nat) (A : Int) (k : Int) (y : ByteArray) (nn : Int) (s : ByteArray) (c : Fo) (w : World) (sv : Value) (acc : List Nd), Tp.sz c < n → A = (a : Nat) → Tp.At l a (.node k y nn s c .nil) → Tp.good (.node k y nn s c .nil) → acc.length + Tp.sz c ≤ 8000 → PS w B base v l sb tb pb sv acc →
    Calls Tryd.prog 35 #[.int .i64 A, .pointer (some ⟨sb, 0, none⟩), .pointer (some ⟨tb, 0, none⟩), .pointer (some ⟨pb, 0, none⟩)] w fun e w' => e = .returned (.tuple #[]) ∧ ∃ sv', PS w' B base v l sb tb pb sv' (acc ++ Tp.flat (Tp.sT (.node k y nn s c .nil))) ∧ PR sb w sv w' sv'

set_option maxHeartbeats 8000000 in
theorem put_step (B base : Nat) (v : Value) (l : List Nd) (hl : l.length ≤ 4000) (sb tb pb n : Nat) (IH : PClaim B base v l sb tb pb n) : PClaim B base v l sb tb pb (n + 1) := by
  intro a A k y nn s c w sv acc hn hA hAt hg hacc hP
  have h0 := (Tp.at_node.1 hAt).1
  have hlt : (a : Int) < l.length := by have := (List.getElem?_eq_some_iff.1 h0).1; omega
  have HP := Lib.hid hP
  have HAt := Lib.hid hAt
  have HG := Lib.hid hg
  obtain ⟨ad, cp, rfl, _⟩ := Gn.Rd.form hP.rd
  obtain ⟨b0, off, rfl, x0, x1, x2, x3, x4⟩ := rdN_cells hP.rd (Below.refl _ _) h0
  simp only at x0 x1 x2 x3 x4
  have cs := hP.s.cell 0
  have ct := hP.t.cell 0
  simp only [List.getElem?_cons_zero] at cs ct
  have d0 : w.drew.cell? ⟨b0, off + a * 5, none⟩ = some (.int .i64 k) := x0
  have d1 : w.drew.cell? ⟨b0, off + a * 5 + 1, none⟩ = some (.string y) := x1
  have d2 : w.drew.cell? ⟨b0, off + a * 5 + 2, none⟩ = some (.int .i64 nn) := x2
  have d3 : w.drew.cell? ⟨b0, off + a * 5 + 3, none⟩ = some (.string s) := x3
  have d4 : w.drew.cell? ⟨b0, off + a * 5 + 4, none⟩ = some (.int .i64 (1 + (Tp.sz c : Nat))) := x4
  have ds : w.drew.cell? ⟨sb, 0, none⟩ = some sv := cs
  have dt : w.drew.cell? ⟨tb, 0, none⟩ = some (.slice (some ⟨b0, off, none⟩) l.length cp) := ct
  have es : (w.alloc (.cells #[.int .i64 k, .string y, .int .i64 nn, .string s, .int .i64 (1 + (Tp.sz c : Nat))] 36)).cell? ⟨sb, 0, none⟩ = some sv := (hP.s.later (up_new w _)).cell 0
  obtain rfl := hA
  have hB2 : Below w.heap.size w (w.drew.alloc (.cells #[.int .i64 k, .string y, .int .i64 nn, .string s, .int .i64 (1 + (Tp.sz c : Nat))] 36)) := (Below.refl _ _).drew.alloc (Nat.le_refl _) _
  have HP2 := Lib.hid (hP.later hB2)
  have HR1 := Lib.hid (rd_one 36 ndL w.drew (⟨k, y, nn, s, 1 + (Tp.sz c : Nat)⟩ : Nd) #[.int .i64 k, .string y, .int .i64 nn, .string s, .int .i64 (1 + (Tp.sz c : Nat))] rfl)
  have HB2 := Lib.hid hB2
  clear hP hAt hg h0 x0 x1 x2 x3 x4 cs ct hB2
  go_enter Tryd.func35, Tryd.ntmps35
  go_wp2_with fail
  go_cut [] from 8 to 14 (fun wx => ∃ sv1, Hid (PS wx B base (.slice (some ⟨b0, off, none⟩) l.length cp) l sb tb pb sv1 (acc ++ [⟨k, y, nn, s, 1 + (Tp.sz c : Nat)⟩]) ∧ PR sb w sv wx sv1))
  case first =>
    go_region_law (refine Gn.step_app ndL ndY rfl (.tmp 8) (.tmp 13) rfl base sv acc rfl HP2.out.own _ _ rfl HR1.out (by simp; omega) HP2.out.bb ?_; intro v1 w1 ho1 hg1 hl1; obtain ⟨a1, n1, c1, rfl⟩ := own_slice ho1; have hq1 := (HP2.out.put ho1 hg1 hl1).2.2.1; have hq2 := (HP2.out.put ho1 hg1 hl1).2.2.2)
    all_goals
      go_wp2_with fail
      go_meet
      exact ⟨_, Lib.hid ⟨(HP2.out.put ho1 hg1 hl1).1, (PR.below HB2.out).trans (HP2.out.put ho1 hg1 hl1).2.1⟩⟩
  case rest =>
    obtain ⟨sv1, HC⟩ := hcut
    obtain ⟨w1, rfl⟩ : ∃ w1, w1 = wc := ⟨wc, rfl⟩
    have HP1 := Lib.hid HC.out.1
    have HPR := Lib.hid HC.out.2
    have ct1 := HP1.out.t.cell 0
    simp only [List.getElem?_cons_zero] at ct1
    have CP := Lib.hid (partsOf w1 _ l a a w1 (Gn.Rd.more HP1.out.rd HP1.out.lo) hl (Below.refl _ _) rfl k nn y s c HAt.out)
    clear d0 d1 d2 d3 d4 ds dt es HP2 HR1 HB2 HC
    go_wp2_with fail
    ((with_reducible refine (CP.out).mono ?_); rintro e w2 ⟨pv, rfl, ho, b2⟩)
    have HP2 := Lib.hid (HP1.out.later b2)
    have HB2 := Lib.hid b2
    have ct2 := HP2.out.t.cell 0
    simp only [List.getElem?_cons_zero] at ct2
    obtain ⟨b', off', e, x0, _, _, _, _⟩ := rdN_cells HP2.out.rd (Below.refl _ _) (Tp.at_node.1 HAt.out).1
    obtain ⟨rfl, rfl⟩ : b0 = b' ∧ off = off' := by injection e with e; injection e with e1 e2; exact ⟨e1, e2⟩
    simp only at x0
    have HO := Lib.hid ho
    rw [plcs_plN] at HO
    clear b2 e ct1 ho
    by_cases h7 : k = 7
    · have h7q : ((k : Int) == 7) = true := by simpa using h7
      obtain ⟨ps, hps⟩ := pl_lift (plN (a + 1) c) l.length (plN_lt (a + 1) c (Tp.at_node.1 HAt.out).2.1)
      have HG5 := Lib.hid HG.out.2.2.2.1
      have HG3 : Hid (Tp.ko 7 (Tp.keys c)) := Lib.hid (h7 ▸ HG.out.2.2.1)
      have hmap : (plN (a + 1) c).map (fun (x : Nat) => (x : Int)) = ps.map fun x => ((x.1 : Nat) : Int) := by rw [← hps, List.map_map]; rfl
      have hplen : ps.length ≤ 4000 := by
        have h1 := plcs_len (a + 1) c
        rw [plcs_plN, List.length_map, ← hps, List.length_map] at h1
        have h2 := Tp.At.len HAt.out
        rw [Tp.sz_node, Tp.sz_nil] at h2
        omega
      have HPL : Hid ((plN (a + 1) c).length = ps.length) := Lib.hid (by rw [← hps, List.length_map])
      by_cases hz : ps.length = 0
      · have hn0 : plN (a + 1) c = [] := by rw [← hps, List.eq_nil_of_length_eq_zero hz]; rfl
        obtain ⟨pa, pc, hpv⟩ : ∃ pa pc, pv = .slice pa 0 pc := by
          obtain ⟨pa, pc, e, _⟩ := Gn.Rd.form (Gn.Own.rd inL HO.out)
          rw [hmap, List.length_map, hz] at e
          exact ⟨pa, pc, e⟩
        subst hpv
        have hn1 := hn0
        have HQ : Hid ([].Perm (plN (a + 1) c) ∧ putF l [] = (if k = 7 then Tp.cat (Tp.srtL (Tp.trs (Tp.sT c))) else Tp.sT c)) := Lib.hid ⟨by rw [hn0], by
          rw [if_pos h7]; exact putF_obj (Tp.at_node.1 HAt.out).2.1 HG5.out HG3.out [] (by rw [hn0]) List.Pairwise.nil⟩
        have HO' := HO
        rw [hn0] at HO'
        have CS := Lib.hid (fun fv => sortNone pa pc fv w2)
        clear hmap hps hn0 h7
        go_wp2_with fail
        ((with_reducible refine (CS.out _).mono ?_); rintro e w3 ⟨rfl, rfl⟩)
        obtain ⟨wx, rfl⟩ : ∃ wx, wx = w2 := ⟨w2, rfl⟩
        obtain ⟨qs, HC2⟩ : ∃ qs : List Nat, Hid (QS l a k c w1 wx (.slice pa 0 pc) qs) := ⟨[], Lib.hid ⟨HQ.out.1, HQ.out.2, HO'.out, HB2.out⟩⟩
        have hN : qs.length = 0 := by
          have h1 := HC2.out.perm.length_eq
          rw [hn1] at h1; simpa using h1
        clear HQ HO' HO CS HB2 HP2 ct2 x0
        go_wp2_with fail
        go_loopw [29] (fun i wr => ∃ (j : Nat) (svj : Value), i = .int .i64 (j : Nat) ∧ j ≤ qs.length ∧ Hid (PS wr B base (.slice (some ⟨b0, off, none⟩) l.length cp) l sb tb pb svj (acc ++ [⟨k, y, nn, s, 1 + (Tp.sz c : Nat)⟩] ++ Tp.flat (putF l (qs.take j))) ∧ PR sb wx sv1 wr svj)) (fun i _ => qs.length - (intOf i).toNat)
        case atStart => exact ⟨0, sv1, by rfl, by omega, Lib.hid ⟨by simpa [putF, Tp.cat] using HP1.out.later HC2.out.bel, PR.refl _ _ _⟩⟩
        case round =>
          obtain ⟨j, svj, rfl, hj, HJ⟩ := hrel
          have hNN := hN
          by_cases hjl : j < qs.length
          · exfalso; omega
          · have HF : Hid (acc ++ [(⟨k, y, nn, s, 1 + (Tp.sz c : Nat)⟩ : Nd)] ++ Tp.flat (putF l (qs.take j)) = acc ++ Tp.flat (Tp.sT (.node k y nn s c .nil))) := Lib.hid (by
              rw [List.take_of_length_le (by omega), Tp.sT, Tp.flat_node, ← HC2.out.is, HC2.out.sz]
              simp [Tp.sT])
            have hjN : ¬ (j : Int) < qs.length := by omega
            rw [hN] at hjN
            clear hNN
            go_wp2_with fail
            go_end0
            exact ⟨rfl, svj, by rw [← HF.out]; exact HJ.out.1, HPR.out.trans ((PR.below HC2.out.bel).trans HJ.out.2)⟩
      · have HO' := HO
        rw [hmap] at HO'
        obtain ⟨g, cap, hpv, hgb⟩ : ∃ g cap, pv = .slice (some ⟨g, 0, none⟩) ps.length cap ∧ w1.heap.size ≤ g := by
          rcases HO'.out.2 with ⟨_, h⟩ | ⟨g, cap, cur, e, hb, _⟩
          · rw [List.length_map] at h; exact absurd h hz
          · rw [List.length_map] at e; exact ⟨g, cap, e, hb⟩
        subst hpv
        have CS := Lib.hid (sortPl l _ tb w2 B HP2.out.rd HP2.out.lo HP2.out.t g cap w1.heap.size ps (by omega) hl HO'.out (by have := HP1.out.lo; omega) (by have := HP1.out.t.lt; omega) hplen)
        have HQ : Hid (∀ qs : List (Pl l.length), qs.Perm ps → qs.Pairwise (fun a b => Tp.ly (keyAt l b.1) (keyAt l a.1) = false) → (qs.map (·.1)).Perm (plN (a + 1) c) ∧ putF l (qs.map (·.1)) = (if k = 7 then Tp.cat (Tp.srtL (Tp.trs (Tp.sT c))) else Tp.sT c)) := Lib.hid (fun qs h1 h2 => by
          have h3 : (qs.map (·.1)).Perm (plN (a + 1) c) := by rw [← hps]; exact h1.map _
          exact ⟨h3, by rw [if_pos h7]; exact putF_obj (Tp.at_node.1 HAt.out).2.1 HG5.out HG3.out _ h3 (by rw [List.pairwise_map]; exact h2)⟩)
        clear hmap hps hz h7
        go_wp2_with fail
        ((with_reducible refine (CS.out).mono ?_); rintro e w3 ⟨rfl, qs, h1, h2, h3, h4⟩)
        have HQ2 := Lib.hid (HQ.out qs h1 h2)
        have HO3 := Lib.hid h3
        have HB3 := Lib.hid (HB2.out.trans (h4.below HB2.out.size (fun i e => by rw [e]; exact hgb)))
        clear h1 h2 h3 h4
        obtain ⟨wx, rfl⟩ : ∃ wx, wx = w3 := ⟨w3, rfl⟩
        obtain ⟨qs, HC2⟩ : ∃ qs : List Nat, Hid (QS l a k c w1 wx (.slice (some ⟨g, 0, none⟩) ps.length cap) qs) := ⟨qs.map (·.1), Lib.hid ⟨HQ2.out.1, HQ2.out.2, by rw [List.map_map]; exact HO3.out, HB3.out⟩⟩
        have hN : qs.length = ps.length := by
          have h1 := HC2.out.perm.length_eq
          have h2 := HPL.out
          omega
        clear HQ HQ2 HO' HO HO3 CS HB2 HB3 HP2 ct2 x0
        go_wp2_with fail
        go_loopw [29] (fun i wr => ∃ (j : Nat) (svj : Value), i = .int .i64 (j : Nat) ∧ j ≤ qs.length ∧ Hid (PS wr B base (.slice (some ⟨b0, off, none⟩) l.length cp) l sb tb pb svj (acc ++ [⟨k, y, nn, s, 1 + (Tp.sz c : Nat)⟩] ++ Tp.flat (putF l (qs.take j))) ∧ PR sb wx sv1 wr svj)) (fun i _ => qs.length - (intOf i).toNat)
        case atStart => exact ⟨0, sv1, by rfl, by omega, Lib.hid ⟨by simpa [putF, Tp.cat] using HP1.out.later HC2.out.bel, PR.refl _ _ _⟩⟩
        case round =>
          obtain ⟨j, svj, rfl, hj, HJ⟩ := hrel
          have hNN := hN
          by_cases hjl : j < qs.length
          · obtain ⟨p, hp⟩ : ∃ p, qs[j]? = some p := ⟨_, List.getElem?_eq_getElem hjl⟩
            obtain ⟨hkey, k', y', n', s', c', q2, q3, q4, q5⟩ := plN_keys (a + 1) c (Tp.at_node.1 HAt.out).2.1 HG.out.2.2.2.1 p (HC2.out.perm.mem_iff.1 (List.mem_of_getElem? hp))
            have hsz1 := putF_le l qs (j + 1)
            rw [HC2.out.sz, putF_succ l qs j p hp, q2, Tp.sz_app, Tp.sT_sz, Tp.sz_node, Tp.sz_nil] at hsz1
            have hsc := Tp.At.len HAt.out
            rw [Tp.sz_node, Tp.sz_nil] at hsc
            have CI := Lib.hid (IH p p k' y' n' s' c' wr svj _ (by omega) rfl q3 q4 (by simp only [List.length_append, List.length_singleton]; have e : (Tp.flat (putF l (qs.take j))).length = Tp.sz (putF l (qs.take j)) := rfl; omega) HJ.out.1)
            have HO1 := Lib.hid (ownI_touch HC2.out.own HJ.out.2.touch (fun g hgg hor => by
              have h1 := (Gn.Own.lt HC2.out.own g hgg).1
              have h2 := HP1.out.s.lt
              rcases hor with e | e
              · omega
              · have := (Gn.Own.lt HP1.out.own g e).2; omega))
            obtain ⟨pb', po', epb, pc'⟩ := rdI_cell (Gn.Own.rd inL HO1.out) (Below.refl _ _) (show (qs.map fun (x : Nat) => (x : Int))[j]? = some (p : Int) by rw [List.getElem?_map, hp]; rfl)
            first | subst epb | (injection epb with e1; injection e1 with e2 e3; subst e2 e3)
            simp only [Nat.zero_add] at pc'
            have cf := HJ.out.1.f.cell 0
            simp only [List.getElem?_cons_zero, pfn] at cf
            have hq40 : (qs.length : Int) ≤ 4000 := by
              have h1 := HC2.out.perm.length_eq
              have h2 := plcs_len (a + 1) c
              rw [plcs_plN, List.length_map] at h2
              omega
            have HS : Hid (acc ++ [(⟨k, y, nn, s, 1 + (Tp.sz c : Nat)⟩ : Nd)] ++ Tp.flat (putF l (qs.take (j + 1))) = acc ++ [(⟨k, y, nn, s, 1 + (Tp.sz c : Nat)⟩ : Nd)] ++ Tp.flat (putF l (qs.take j)) ++ Tp.flat (Tp.sT (.node k' y' n' s' c' .nil))) := Lib.hid (by rw [putF_succ l qs j p hp, q2, Tp.flat_app, List.append_assoc, List.append_assoc, List.append_assoc])
            have hjN : (j : Int) < qs.length := by omega
            rw [hN] at hjN
            clear hp hkey q2 q3 q4 q5 hsz1 hsc hNN
            go_wp2_with fail
            ((with_reducible refine (CI.out).mono ?_); rintro e w5 ⟨rfl, sv5, hp5, hr5⟩)
            have HJ5 := Lib.hid (And.intro hp5 (HJ.out.2.trans hr5))
            clear hp5 hr5 CI HO1 pc' cf
            go_wp2_with fail
            go_roundw
            case rel => exact ⟨j + 1, sv5, by go_num, by omega, Lib.hid ⟨by rw [HS.out]; exact HJ5.out.1, HJ5.out.2⟩⟩
            case measure => simp [intOf] <;> omega
          · have HF : Hid (acc ++ [(⟨k, y, nn, s, 1 + (Tp.sz c : Nat)⟩ : Nd)] ++ Tp.flat (putF l (qs.take j)) = acc ++ Tp.flat (Tp.sT (.node k y nn s c .nil))) := Lib.hid (by
              rw [List.take_of_length_le (by omega), Tp.sT, Tp.flat_node, ← HC2.out.is, HC2.out.sz]
              simp [Tp.sT])
            have hjN : ¬ (j : Int) < qs.length := by omega
            rw [hN] at hjN
            clear hNN
            go_wp2_with fail
            go_end0
            exact ⟨rfl, svj, by rw [← HF.out]; exact HJ.out.1, HPR.out.trans ((PR.below HC2.out.bel).trans HJ.out.2)⟩
    · have HQ : Hid (putF l (plN (a + 1) c) = (if k = 7 then Tp.cat (Tp.srtL (Tp.trs (Tp.sT c))) else Tp.sT c)) := Lib.hid (by rw [if_neg h7]; exact putF_list (Tp.at_node.1 HAt.out).2.1 HG.out.2.2.2.1)
      have h7' : ((k : Int) == 7) = false := by simpa using h7
      obtain ⟨wx, rfl⟩ : ∃ wx, wx = w2 := ⟨w2, rfl⟩
      obtain ⟨qs, HC2⟩ : ∃ qs : List Nat, Hid (QS l a k c w1 wx pv qs) := ⟨_, Lib.hid ⟨List.Perm.refl _, HQ.out, HO.out, HB2.out⟩⟩
      obtain ⟨pa, pc, hpv, _⟩ := Gn.Rd.form (Gn.Own.rd inL HC2.out.own)
      obtain ⟨N, hN⟩ : ∃ N, qs.length = N := ⟨_, rfl⟩
      rw [List.length_map, hN] at hpv
      subst hpv
      clear HQ HO HB2 HP2
      go_wp2_with fail
      go_loopw [29] (fun i wr => ∃ (j : Nat) (svj : Value), i = .int .i64 (j : Nat) ∧ j ≤ qs.length ∧ Hid (PS wr B base (.slice (some ⟨b0, off, none⟩) l.length cp) l sb tb pb svj (acc ++ [⟨k, y, nn, s, 1 + (Tp.sz c : Nat)⟩] ++ Tp.flat (putF l (qs.take j))) ∧ PR sb wx sv1 wr svj)) (fun i _ => qs.length - (intOf i).toNat)
      case atStart => exact ⟨0, sv1, by rfl, by omega, Lib.hid ⟨by simpa [putF, Tp.cat] using HP1.out.later HC2.out.bel, PR.refl _ _ _⟩⟩
      case round =>
        obtain ⟨j, svj, rfl, hj, HJ⟩ := hrel
        have hNN := hN
        by_cases hjl : j < qs.length
        · obtain ⟨p, hp⟩ : ∃ p, qs[j]? = some p := ⟨_, List.getElem?_eq_getElem hjl⟩
          obtain ⟨hkey, k', y', n', s', c', q2, q3, q4, q5⟩ := plN_keys (a + 1) c (Tp.at_node.1 HAt.out).2.1 HG.out.2.2.2.1 p (HC2.out.perm.mem_iff.1 (List.mem_of_getElem? hp))
          have hsz1 := putF_le l qs (j + 1)
          rw [HC2.out.sz, putF_succ l qs j p hp, q2, Tp.sz_app, Tp.sT_sz, Tp.sz_node, Tp.sz_nil] at hsz1
          have hsc := Tp.At.len HAt.out
          rw [Tp.sz_node, Tp.sz_nil] at hsc
          have CI := Lib.hid (IH p p k' y' n' s' c' wr svj _ (by omega) rfl q3 q4 (by simp only [List.length_append, List.length_singleton]; have e : (Tp.flat (putF l (qs.take j))).length = Tp.sz (putF l (qs.take j)) := rfl; omega) HJ.out.1)
          have HO1 := Lib.hid (ownI_touch HC2.out.own HJ.out.2.touch (fun g hgg hor => by
            have h1 := (Gn.Own.lt HC2.out.own g hgg).1
            have h2 := HP1.out.s.lt
            rcases hor with e | e
            · omega
            · have := (Gn.Own.lt HP1.out.own g e).2; omega))
          obtain ⟨pb', po', epb, pc'⟩ := rdI_cell (Gn.Own.rd inL HO1.out) (Below.refl _ _) (show (qs.map fun (x : Nat) => (x : Int))[j]? = some (p : Int) by rw [List.getElem?_map, hp]; rfl)
          first | subst epb | (injection epb with e1; injection e1 with e2 e3; subst e2 e3)
          have cf := HJ.out.1.f.cell 0
          simp only [List.getElem?_cons_zero, pfn] at cf
          have hq40 : (qs.length : Int) ≤ 4000 := by
            have h1 := HC2.out.perm.length_eq
            have h2 := plcs_len (a + 1) c
            rw [plcs_plN, List.length_map] at h2
            omega
          have HS : Hid (acc ++ [(⟨k, y, nn, s, 1 + (Tp.sz c : Nat)⟩ : Nd)] ++ Tp.flat (putF l (qs.take (j + 1))) = acc ++ [(⟨k, y, nn, s, 1 + (Tp.sz c : Nat)⟩ : Nd)] ++ Tp.flat (putF l (qs.take j)) ++ Tp.flat (Tp.sT (.node k' y' n' s' c' .nil))) := Lib.hid (by rw [putF_succ l qs j p hp, q2, Tp.flat_app, List.append_assoc, List.append_assoc, List.append_assoc])
          have hjN : (j : Int) < qs.length := by omega
          rw [hN] at hjN
          clear hp hkey q2 q3 q4 q5 hsz1 hsc hNN
          go_wp2_with fail
          ((with_reducible refine (CI.out).mono ?_); rintro e w5 ⟨rfl, sv5, hp5, hr5⟩)
          have HJ5 := Lib.hid (And.intro hp5 (HJ.out.2.trans hr5))
          clear hp5 hr5 CI HO1 pc' cf
          go_wp2_with fail
          go_roundw
          case rel => exact ⟨j + 1, sv5, by go_num, by omega, Lib.hid ⟨by rw [HS.out]; exact HJ5.out.1, HJ5.out.2⟩⟩
          case measure => simp [intOf] <;> omega
        · have HF : Hid (acc ++ [(⟨k, y, nn, s, 1 + (Tp.sz c : Nat)⟩ : Nd)] ++ Tp.flat (putF l (qs.take j)) = acc ++ Tp.flat (Tp.sT (.node k y nn s c .nil))) := Lib.hid (by
            rw [List.take_of_length_le (by omega), Tp.sT, Tp.flat_node, ← HC2.out.is, HC2.out.sz]
            simp [Tp.sT])
          have hjN : ¬ (j : Int) < qs.length := by omega
          rw [hN] at hjN
          clear hNN
          go_wp2_with fail
          go_end0
          exact ⟨rfl, svj, by rw [← HF.out]; exact HJ.out.1, HPR.out.trans ((PR.below HC2.out.bel).trans HJ.out.2)⟩
end Go.Proofs.YteklcfimafplbaaDoor
