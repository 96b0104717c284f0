/- The program's reader: a list or an object begins. -/
import Derived.Test.YteklcfimafplbaaDoorTake
import Derived.Deep.RegionHeld3
import Derived.BigRegion
namespace Go.Proofs.YteklcfimafplbaaDoor
open Go.RowKit
set_option linter.unusedVariables false
set_option maxRecDepth 100000

theorem rdv {α : Type} {enc : α → List Value} {k : Nat} {w : World} {B : Nat} {v : Value} {l : List α} (h : Gn.Rd enc k w B v l) (n : Nat) (hn : l.length = n) : ∃ a c, v = .slice a n c := by
  subst hn
  obtain ⟨a, c, e, _⟩ := Gn.Rd.form h
  exact ⟨a, c, e⟩
/-- A map beside what is open. -/
def MapOk (w : World) (B : Nat) (k : Int) (m : Option Nat) (O : List Op1) : Prop := (k = 6 ∧ m = none) ∨ (k = 7 ∧ ∃ j, m = some j ∧ B ≤ j ∧ IsSet w j [] ∧ ∀ x ∈ O, x.m ≠ some j)
theorem opRd (w : World) (x : Op1) : Gn.Rd opc 3 (w.alloc (.cells #[.int .i64 (x.at_ : Nat), .int .u8 (x.fin : Nat), .map x.m] 117)) (w.alloc (.cells #[.int .i64 (x.at_ : Nat), .int .u8 (x.fin : Nat), .map x.m] 117)).heap.size (.slice (some ⟨w.heap.size, 0, none⟩) 1 1) [x] :=
  Gn.Own.rd opL (Gn.Own.lit (T := 117) opL w w.heap.size [x] _ 1 1 rfl rfl rfl (by simp [maxLen]) (Nat.le_refl _))

theorem beg_after {w w2 w3 : World} {B g : Nat} {S : ByteArray} {t : Jr.St} {ov tv : Value} {O : List Op1} (h : PS w B g S t ov tv O) (hb : Below w.heap.size w w2) (hg : w2.grownBy w3 ov.ownBlock) :
    w3.frozen? ⟨g, 4, none⟩ = false ∧ w3.cell? ⟨g, 4, none⟩ = some ov ∧ Hid (RP w3 g S t.at_ (nxn t.nx) t.key ov tv ∧ Touch (fun k => ov.ownBlock = some k) w w3) := by
  have h3 : RP w3 g S t.at_ (nxn t.nx) t.key ov tv := (h.rp.later hb).touch (touch_grown hg) (own_blk h.opn h.rp ne_rd.2.1)
  exact ⟨Blk.frozen h3 4, h3.lie.2.2.2.2.1, Lib.hid ⟨h3, (Touch.of_below hb).trans (touch_grown hg) (fun i hi => .inl hi)⟩⟩
/-- What is open is one more; its node is not laid yet. -/
structure Bg (w : World) (B g : Nat) (S : ByteArray) (t : Jr.St) (O : List Op1) (k : Int) (m : Option Nat) (v3 tv : Value) (w4 : World) : Prop where
  rp : RP w4 g S t.at_ (nxn t.nx) t.key v3 tv
  tape : OwnN w4 B tv (Jr.zf id t.op t.root)
  opn : OwnO w4 B v3 (O ++ [⟨Jr.cnt t.op t.root, Jr.endOf k, m⟩])
  ors : OR w4 B t.op t.root O
  map : MapOk w4 B k m O
  bel : Below B w w4
  wB : B ≤ w4.heap.size
theorem MapOk.touch {S : Nat → Prop} {w w' : World} {B : Nat} {k : Int} {m : Option Nat} {O : List Op1} (h : MapOk w B k m O) (ht : Touch S w w') (hn : ∀ j ys, IsSet w j ys → ¬ S j) : MapOk w' B k m O := by
  rcases h with h | ⟨h1, j, h2, h3, h4, h5⟩
  · exact .inl h
  · exact .inr ⟨h1, j, h2, h3, h4.touch ht (hn j _ h4), h5⟩
theorem bg_start {w wb w3 : World} {B g : Nat} {S : ByteArray} {t : Jr.St} {ov tv v3 : Value} {O : List Op1} {k : Int} {m : Option Nat} (h : PS w B g S t ov tv O) (hm : MapOk w B k m O) (hb : Below w.heap.size w wb) (ht : Touch (fun i => ov.ownBlock = some i) wb w3) (hr : RP w3 g S t.at_ (nxn t.nx) t.key ov tv)
    (ho : OwnO w3 B v3 (O ++ [⟨Jr.cnt t.op t.root, Jr.endOf k, m⟩])) : Bg w B g S t O k m v3 tv (w3.setCell ⟨g, 4, none⟩ v3) := by
  have h1 := h.later hb
  have ht2 : Touch (fun i => i = g ∨ ov.ownBlock = some i) wb (w3.setCell ⟨g, 4, none⟩ v3) := (ht.mono (S' := fun i => i = g ∨ ov.ownBlock = some i) (fun i hi => .inr hi)).trans (touchG w3 g 4 v3) (fun i hi => .inl (.inl hi))
  have hno : ∀ j ys, IsSet wb j ys → ¬ (j = g ∨ ov.ownBlock = some j) := fun j ys hs e => by
    rcases e with rfl | e
    · exact blk_set h1.rp hs rfl
    · exact own_set' h1.opn hs e
  have hm1 : MapOk wb B k m O := hm.touch (Touch.of_below (S := fun _ => False) hb) (fun _ _ _ hf => hf)
  refine ⟨hr.putO v3, own_keep h1.tape ht2 (fun i hi e => ?_), own_keep ho (touchG w3 g 4 v3) (fun i hi e => own_blk ho hr ne_rd.2.1 (by rw [← e]; exact hi)), OR.touch ht2 hno h1.ors, hm1.touch ht2 hno, ?_, Nat.le_trans h1.wB ht2.size⟩
  · rcases e with rfl | e
    · exact own_blk h1.tape h1.rp ne_rd.1 hi
    · exact own_dj h1.opn h1.tape ne_rd.2.2 i e hi
  · exact (hb.mono h.wB).trans (ht2.below h1.wB (fun i hi => by
      rcases hi with rfl | hi
      · exact h.gB
      · exact (h1.opn.lt i hi).1))
theorem bg_end {w w4 w5 w6 : World} {B C g : Nat} {S : ByteArray} {t : Jr.St} {ov0 tv0 v3 tv v : Value} {O : List Op1} {k : Int} {m : Option Nat} {l : List Nd} (h0 : PS w B g S t ov0 tv0 O) (h : Bg w B g S t O k m v3 tv w4) (hb : Below w4.heap.size w4 w5) (hv : OwnN w5 C v l) (hC : B ≤ C) (hc : Jr.cnt t.op t.root < 4000) (hdp : t.op.length < 64) (hin : t.at_ < S.size)
    (hp : PutEnd w5 B g t.at_ S v3 tv v (Jr.zf id t.op t.root ++ [⟨k, t.key, 0, ⟨#[]⟩, 0⟩]) w6) :
    w6.frozen? ⟨g, 1, none⟩ = false ∧ w6.cell? ⟨g, 1, none⟩ = some (.int .i64 (t.at_ : Nat)) ∧ (w6.setCell ⟨g, 1, none⟩ (.int .i64 ((t.at_ + 1 : Nat) : Int))).frozen? ⟨g, 2, none⟩ = false ∧ (w6.setCell ⟨g, 1, none⟩ (.int .i64 ((t.at_ + 1 : Nat) : Int))).cell? ⟨g, 2, none⟩ = some (.int .i64 4) ∧
      Hid (After w B g S (.inl (Jr.opn t k)) ((w6.setCell ⟨g, 1, none⟩ (.int .i64 ((t.at_ + 1 : Nat) : Int))).setCell ⟨g, 2, none⟩ (.int .i64 1))) := by
  obtain ⟨tv', h1, h2, h3⟩ := hp
  have r5 := h.rp.later hb
  have o5 : OwnO w5 B v3 _ := Gn.Own.later h.opn hb
  have t5 : OwnN w5 B tv _ := Gn.Own.later h.tape hb
  have hno : ∀ j ys, IsSet w5 j ys → ¬ (j = g ∨ tv.ownBlock = some j ∨ v.ownBlock = some j) := fun j ys hs e => by
    rcases e with rfl | e | e
    · exact blk_set r5 hs rfl
    · exact own_set' t5 hs e
    · exact own_set' hv hs e
  have s5 : OR w5 B t.op t.root O := OR.touch (Touch.of_below (S := fun _ => False) hb) (fun _ _ _ hf => hf) h.ors
  have m5 : MapOk w5 B k m O := h.map.touch (Touch.of_below (S := fun _ => False) hb) (fun _ _ _ hf => hf)
  have o6 : OwnO w6 B v3 _ := own_keep o5 h3 (fun i hi e => by
    rcases e with rfl | e | e
    · exact own_blk o5 r5 ne_rd.2.1 hi
    · exact own_dj o5 t5 ne_rd.2.2 i hi e
    · exact own_dj o5 hv ne_rd.2.2 i hi e)
  have s6 := OR.touch h3 hno s5
  have m6 := m5.touch h3 hno
  have ra := h1.putA (t.at_ + 1)
  have tt : Touch (fun i => i = g) w6 ((w6.setCell ⟨g, 1, none⟩ (.int .i64 ((t.at_ + 1 : Nat) : Int))).setCell ⟨g, 2, none⟩ (.int .i64 1)) := (touchG w6 g 1 _).trans (touchG _ g 2 _) (fun i hi => .inl hi)
  have hng : ∀ j ys, IsSet w6 j ys → ¬ j = g := fun j ys hs e => blk_set h1 hs e.symm
  refine ⟨Blk.frozen h1 1, h1.lie.2.1, Blk.frozen ra 2, ra.lie.2.2.1, Lib.hid ⟨?_, v3, tv', (O ++ [(⟨Jr.cnt t.op t.root, Jr.endOf k, m⟩ : Op1)] : List Op1), ra.putN 1, ?_, own_keep o6 tt (fun i hi e => own_blk o6 h1 ne_rd.2.1 (by rw [← e]; exact hi)), ?_, h0.gB, ?_, ?_, ?_, ?_, ?_, h0.tB⟩⟩
  · refine h.bel.trans ((hb.mono h.wB).trans ((h3.below (Nat.le_trans h.wB hb.size) (fun i hi => ?_)).trans (tt.below (Nat.le_trans h.wB (Nat.le_trans hb.size h3.size)) (fun i hi => by rw [hi]; exact h0.gB))))
    rcases hi with rfl | hi | hi
    · exact h0.gB
    · exact (t5.lt i hi).1
    · exact Nat.le_trans hC (hv.lt i hi).1
  · exact own_keep h2 tt (fun i hi e => own_blk h2 h1 ne_rd.1 (by rw [← e]; exact hi))
  · refine ⟨O, m, rfl, OR.touch tt hng s6, ?_⟩
    rcases m6 with e | ⟨e, j, e2, e3, e4, e5⟩
    · exact .inl e
    · exact .inr ⟨e, j, e2, e3, e4.touch tt (hng j _ e4), e5⟩
  · exact Nat.le_trans h.wB (Nat.le_trans hb.size (Nat.le_trans h3.size tt.size))
  · show t.s.drop 1 = left S (t.at_ + 1)
    rw [h0.s, left_drop]
  · show t.at_ + 1 ≤ S.size
    omega
  · show Jr.cnt t.op t.root + (1 + Tp.sz .nil) ≤ 4000
    simp; omega
  · show t.op.length + 1 ≤ 64
    omega
set_option maxHeartbeats 8000000 in
theorem jbegin {w : World} {B g : Nat} {S : ByteArray} {t : Jr.St} {ov tv : Value} {O : List Op1} {k : Int} {m : Option Nat} (h : PS w B g S t ov tv O) (hc : Jr.cnt t.op t.root < 4000) (hdp : t.op.length < 64) (hin : t.at_ < S.size) (hm1 : S.size ≤ 1048576) (hm : MapOk w B k m O) :
    Calls Tryd.prog 100 #[.pointer (some ⟨g, 0, none⟩), .int .i64 k, .agg #[.int .i64 0, .int .u8 (Jr.endOf k : Nat), .map m]] w fun e w' => e = .returned (.tuple #[]) ∧ After w B g S (.inl (Jr.opn t k)) w' := by
  obtain ⟨fin, hfin⟩ : ∃ f, Jr.endOf k = f := ⟨_, rfl⟩
  obtain ⟨N, hN⟩ : ∃ N, Jr.cnt t.op t.root = N := ⟨_, rfl⟩
  obtain ⟨ta, tc, rfl⟩ := rdv (Gn.Own.rd ndL h.tape) N (by rw [Jr.zf_len]; exact hN)
  obtain ⟨oa, oc, rfl⟩ := rdv (Gn.Own.rd opL h.opn) t.op.length h.ors.len
  obtain ⟨wb, hwb⟩ : ∃ wb, wb = w.alloc (.cells #[.int .i64 (N : Nat), .int .u8 (fin : Nat), .map m] 117) := ⟨_, rfl⟩
  have bu : Below w.heap.size w wb := by rw [hwb]; exact up_new _ _
  have hbk : Blk wb w.heap.size 117 [.int .i64 (N : Nat), .int .u8 (fin : Nat), .map m] := by rw [hwb]; exact Blk.new w _ _
  have h1 := h.later bu
  obtain ⟨_, _, _, _, c4, _⟩ := h1.rp.lie
  obtain ⟨_, _, _, _, _, c5⟩ := h.rp.lie
  have c5 : (w.alloc (.cells #[.int .i64 0, .int .u8 (fin : Nat), .map m] 117)).cell? ⟨g, 5, none⟩ = some (.slice ta N tc) := ((up_new w _).cell (p := ⟨g, 5, none⟩) (Blk.lt h.rp)).trans c5
  have g0 := hbk.cell 0
  have g1 := hbk.cell 1
  have g2 := hbk.cell 2
  simp only [List.getElem?_cons_zero, List.getElem?_cons_succ] at g0 g1 g2
  have HFIN := Lib.hid hfin
  have HN := Lib.hid hN
  have H := Lib.hid h
  have HM := Lib.hid hm
  have HWB := Lib.hid hwb
  have H1 := Lib.hid h1
  have HBU := Lib.hid bu
  have hol : O.length ≤ 64 := by rw [h.ors.len]; omega
  rw [hfin]
  clear h hm h1 bu hbk hwb hfin hN
  go_enter Tryd.func100, Tryd.ntmps100
  go_wp2_with fail
  rw [← HWB.out]
  obtain ⟨gb, hgb⟩ : ∃ gb, gb = w.heap.size := ⟨_, rfl⟩
  rw [← hgb] at g0 g1 g2 ⊢
  have HGB := Lib.hid hgb
  have f4 := Blk.frozen H1.out.rp 4
  have bx := up_new wb.drew (.cells #[.int .i64 (N : Nat), .int .u8 (fin : Nat), .map m] 117)
  have bx : Below wb.heap.size wb (wb.drew.alloc (.cells #[.int .i64 (N : Nat), .int .u8 (fin : Nat), .map m] 117)) := (Below.refl _ _).drew.trans bx
  have HO2 := Lib.hid (Gn.Own.later H1.out.opn bx)
  have HR2 : Hid (Gn.Rd opc 3 (wb.drew.alloc (.cells #[.int .i64 (N : Nat), .int .u8 (fin : Nat), .map m] 117)) (wb.drew.alloc (.cells #[.int .i64 (N : Nat), .int .u8 (fin : Nat), .map m] 117)).heap.size (.slice (some ⟨wb.heap.size, 0, none⟩) 1 1) [(⟨N, fin, m⟩ : Op1)]) := Lib.hid (opRd wb.drew ⟨N, fin, m⟩)
  have HBX := Lib.hid bx
  have c4' : (wb.alloc (.cells #[.int .i64 (N : Nat), .int .u8 (fin : Nat), .map m] 117)).cell? ⟨g, 4, none⟩ = some (.slice oa t.op.length oc) := ((up_new wb _).cell (p := ⟨g, 4, none⟩) (Blk.lt H1.out.rp)).trans c4
  clear hgb bx
  go_region_law (refine Gn.step_app opL opY rfl (.tmp 16) (.tmp 18) rfl B _ O rfl HO2.out _ [(⟨N, fin, m⟩ : Op1)] rfl HR2.out (by simp; omega) (Nat.le_trans H1.out.wB HBX.out.size) ?_; intro v3 w3 ho3 hg3 hl3; obtain ⟨a3, n3, c3, rfl⟩ := slice_of (Gn.Own.rd opL ho3); obtain ⟨f5, d5, HE⟩ := beg_after H1.out HBX.out hg3)
  all_goals
    have ho4 : OwnO w3 B (.slice a3 n3 c3) (O ++ [⟨Jr.cnt t.op t.root, Jr.endOf k, m⟩]) := by
      have := ho3
      rw [← HN.out, ← HFIN.out] at this
      exact this
    have HBG := Lib.hid (bg_start H.out HM.out HBU.out HE.out.2 HE.out.1 ho4)
    obtain ⟨w4, hw4⟩ : ∃ w4, w4 = w3.setCell ⟨g, 4, none⟩ (.slice a3 n3 c3) := ⟨_, rfl⟩
    rw [← hw4] at HBG ⊢
    have hv5 := Gn.Own.lit (T := 36) ndL w4 w4.heap.size [(⟨k, ⟨#[]⟩, 0, ⟨#[]⟩, 0⟩ : Nd)] #[.int .i64 k, .string ⟨#[]⟩, .int .i64 0, .string ⟨#[]⟩, .int .i64 0] 1 1 rfl rfl rfl (by simp [maxLen]) (Nat.le_refl _)
    have hb5 := up_new w4 (.cells #[.int .i64 k, .string ⟨#[]⟩, .int .i64 0, .string ⟨#[]⟩, .int .i64 0] 36)
    have CP := Lib.hid (jput (HBG.out.rp.later hb5) (Gn.Own.later HBG.out.tape hb5) hv5 (fun i hi hi' => by have := (hv5.lt i hi).1; have := (HBG.out.tape.lt i hi').2; omega) (by rw [Jr.zf_len]; omega) (Nat.le_trans HBG.out.wB hb5.size))
    have HV5 := Lib.hid hv5
    have HB5 := Lib.hid hb5
    clear hw4 ho4 hv5 hb5
    go_wp2_with fail
    ((with_reducible refine (CP.out).mono ?_); rintro e w6 ⟨rfl, hp⟩)
    obtain ⟨f1, d1, f2, d2, HF⟩ := bg_end H.out HBG.out HB5.out HV5.out HBG.out.wB hc hdp hin hp
    simp only [Int.natCast_add, Int.natCast_one] at f2 d2 HF
    clear hp
    go_wp2_with fail
    go_end0
    exact ⟨rfl, HF.out⟩
end Go.Proofs.YteklcfimafplbaaDoor
