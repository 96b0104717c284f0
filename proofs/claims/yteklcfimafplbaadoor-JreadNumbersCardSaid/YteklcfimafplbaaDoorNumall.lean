/- Several texts in one: Clos, Digi, FrameN, Keyt, Lawp, Mayp, Numb, NumsP, NumsR, NumsW, Open, Pars, Parse, Seven, Vale, Workj. -/
import Derived.Test.YteklcfimafplbaaDoorTake
import Derived.Deep.RegionHeld3
import Derived.BigRegion
import Derived.Test.YteklcfimafplbaaDoorRd
import Derived.Lib.ParseIntB
import Derived.Test.YteklcfimafplbaaDoorEq
import Derived.Test.YteklcfimafplbaaDoorCheck
import Derived.Lib.ItoaNum
import Derived.Test.YteklcfimafplbaaDoorShelfS
import Derived.Lib.AppendIntMem
import Derived.Lib.ItoaLen
import Derived.Test.YteklcfimafplbaaDoorRows
import Derived.Stop.LaidErr
import Derived.Lib.LaidTab
import Derived.ProofKit
import Derived.OpenShut
import Derived.ShutString
import Derived.ChangeOld
import Derived.LaidMore
import Derived.Lay
import Derived.Stop.Joined
import Derived.Lib.LaidU8
import Derived.Deep.Slices
import Derived.Deep.Fields
/- The program's reader: a list or an object begins. -/
namespace Go.Proofs.YteklcfimafplbaaDoor
open Go.RowKit
set_option linter.unusedVariables false
set_option maxRecDepth 100000

theorem rdv {α : Type} {enc : α → List Value} {k : Nat} {w : World} {B : Nat} {v : Value} {l : List α} (h : Gn.Rd enc k w B v l) (n : Nat) (hn : l.length = n) : ∃ a c, v = .slice a n c := by
  subst hn
  obtain ⟨a, c, e, _⟩ := Gn.Rd.form h
  exact ⟨a, c, e⟩
/-- A map beside what is open. -/
def MapOk (w : World) (B : Nat) (k : Int) (m : Option Nat) (O : List Op1) : Prop := (k = 6 ∧ m = none) ∨ (k = 7 ∧ ∃ j, m = some j ∧ B ≤ j ∧ IsSet w j [] ∧ ∀ x ∈ O, x.m ≠ some j)
theorem opRd (w : World) (x : Op1) : Gn.Rd opc 3 (w.alloc (.cells #[.int .i64 (x.at_ : Nat), .int .u8 (x.fin : Nat), .map x.m] 117)) (w.alloc (.cells #[.int .i64 (x.at_ : Nat), .int .u8 (x.fin : Nat), .map x.m] 117)).heap.size (.slice (some ⟨w.heap.size, 0, none⟩) 1 1) [x] :=
  Gn.Own.rd opL (Gn.Own.lit (T := 117) opL w w.heap.size [x] _ 1 1 rfl rfl rfl (by simp [maxLen]) (Nat.le_refl _))

theorem beg_after {w w2 w3 : World} {B g : Nat} {S : ByteArray} {t : Jr.St} {ov tv : Value} {O : List Op1} (h : PS w B g S t ov tv O) (hb : Below w.heap.size w w2) (hg : w2.grownBy w3 ov.ownBlock) :
    w3.frozen? ⟨g, 4, none⟩ = false ∧ w3.cell? ⟨g, 4, none⟩ = some ov ∧ Hid (RP w3 g S t.at_ (nxn t.nx) t.key ov tv ∧ Touch (fun k => ov.ownBlock = some k) w w3) := by
  have h3 : RP w3 g S t.at_ (nxn t.nx) t.key ov tv := (h.rp.later hb).touch (touch_grown hg) (own_blk h.opn h.rp ne_rd.2.1)
  exact ⟨Blk.frozen h3 4, h3.lie.2.2.2.2.1, Lib.hid ⟨h3, (Touch.of_below hb).trans (touch_grown hg) (fun i hi => .inl hi)⟩⟩
/-- What is open is one more; its node is not laid yet. -/
structure Bg (w : World) (B g : Nat) (S : ByteArray) (t : Jr.St) (O : List Op1) (k : Int) (m : Option Nat) (v3 tv : Value) (w4 : World) : Prop where
  rp : RP w4 g S t.at_ (nxn t.nx) t.key v3 tv
  tape : OwnN w4 B tv (Jr.zf id t.op t.root)
  opn : OwnO w4 B v3 (O ++ [⟨Jr.cnt t.op t.root, Jr.endOf k, m⟩])
  ors : OR w4 B t.op t.root O
  map : MapOk w4 B k m O
  bel : Below B w w4
  wB : B ≤ w4.heap.size
theorem MapOk.touch {S : Nat → Prop} {w w' : World} {B : Nat} {k : Int} {m : Option Nat} {O : List Op1} (h : MapOk w B k m O) (ht : Touch S w w') (hn : ∀ j ys, IsSet w j ys → ¬ S j) : MapOk w' B k m O := by
  rcases h with h | ⟨h1, j, h2, h3, h4, h5⟩
  · exact .inl h
  · exact .inr ⟨h1, j, h2, h3, h4.touch ht (hn j _ h4), h5⟩
theorem bg_start {w wb w3 : World} {B g : Nat} {S : ByteArray} {t : Jr.St} {ov tv v3 : Value} {O : List Op1} {k : Int} {m : Option Nat} (h : PS w B g S t ov tv O) (hm : MapOk w B k m O) (hb : Below w.heap.size w wb) (ht : Touch (fun i => ov.ownBlock = some i) wb w3) (hr : RP w3 g S t.at_ (nxn t.nx) t.key ov tv)
    (ho : OwnO w3 B v3 (O ++ [⟨Jr.cnt t.op t.root, Jr.endOf k, m⟩])) : Bg w B g S t O k m v3 tv (w3.setCell ⟨g, 4, none⟩ v3) := by
  have h1 := h.later hb
  have ht2 : Touch (fun i => i = g ∨ ov.ownBlock = some i) wb (w3.setCell ⟨g, 4, none⟩ v3) := (ht.mono (S' := fun i => i = g ∨ ov.ownBlock = some i) (fun i hi => .inr hi)).trans (touchG w3 g 4 v3) (fun i hi => .inl (.inl hi))
  have hno : ∀ j ys, IsSet wb j ys → ¬ (j = g ∨ ov.ownBlock = some j) := fun j ys hs e => by
    rcases e with rfl | e
    · exact blk_set h1.rp hs rfl
    · exact own_set' h1.opn hs e
  have hm1 : MapOk wb B k m O := hm.touch (Touch.of_below (S := fun _ => False) hb) (fun _ _ _ hf => hf)
  refine ⟨hr.putO v3, own_keep h1.tape ht2 (fun i hi e => ?_), own_keep ho (touchG w3 g 4 v3) (fun i hi e => own_blk ho hr ne_rd.2.1 (by rw [← e]; exact hi)), OR.touch ht2 hno h1.ors, hm1.touch ht2 hno, ?_, Nat.le_trans h1.wB ht2.size⟩
  · rcases e with rfl | e
    · exact own_blk h1.tape h1.rp ne_rd.1 hi
    · exact own_dj h1.opn h1.tape ne_rd.2.2 i e hi
  · exact (hb.mono h.wB).trans (ht2.below h1.wB (fun i hi => by
      rcases hi with rfl | hi
      · exact h.gB
      · exact (h1.opn.lt i hi).1))
theorem bg_end {w w4 w5 w6 : World} {B C g : Nat} {S : ByteArray} {t : Jr.St} {ov0 tv0 v3 tv v : Value} {O : List Op1} {k : Int} {m : Option Nat} {l : List Nd} (h0 : PS w B g S t ov0 tv0 O) (h : Bg w B g S t O k m v3 tv w4) (hb : Below w4.heap.size w4 w5) (hv : OwnN w5 C v l) (hC : B ≤ C) (hc : Jr.cnt t.op t.root < 4000) (hdp : t.op.length < 64) (hin : t.at_ < S.size)
    (hp : PutEnd w5 B g t.at_ S v3 tv v (Jr.zf id t.op t.root ++ [⟨k, t.key, 0, ⟨#[]⟩, 0⟩]) w6) :
    w6.frozen? ⟨g, 1, none⟩ = false ∧ w6.cell? ⟨g, 1, none⟩ = some (.int .i64 (t.at_ : Nat)) ∧ (w6.setCell ⟨g, 1, none⟩ (.int .i64 ((t.at_ + 1 : Nat) : Int))).frozen? ⟨g, 2, none⟩ = false ∧ (w6.setCell ⟨g, 1, none⟩ (.int .i64 ((t.at_ + 1 : Nat) : Int))).cell? ⟨g, 2, none⟩ = some (.int .i64 4) ∧
      Hid (After w B g S (.inl (Jr.opn t k)) ((w6.setCell ⟨g, 1, none⟩ (.int .i64 ((t.at_ + 1 : Nat) : Int))).setCell ⟨g, 2, none⟩ (.int .i64 1))) := by
  obtain ⟨tv', h1, h2, h3⟩ := hp
  have r5 := h.rp.later hb
  have o5 : OwnO w5 B v3 _ := Gn.Own.later h.opn hb
  have t5 : OwnN w5 B tv _ := Gn.Own.later h.tape hb
  have hno : ∀ j ys, IsSet w5 j ys → ¬ (j = g ∨ tv.ownBlock = some j ∨ v.ownBlock = some j) := fun j ys hs e => by
    rcases e with rfl | e | e
    · exact blk_set r5 hs rfl
    · exact own_set' t5 hs e
    · exact own_set' hv hs e
  have s5 : OR w5 B t.op t.root O := OR.touch (Touch.of_below (S := fun _ => False) hb) (fun _ _ _ hf => hf) h.ors
  have m5 : MapOk w5 B k m O := h.map.touch (Touch.of_below (S := fun _ => False) hb) (fun _ _ _ hf => hf)
  have o6 : OwnO w6 B v3 _ := own_keep o5 h3 (fun i hi e => by
    rcases e with rfl | e | e
    · exact own_blk o5 r5 ne_rd.2.1 hi
    · exact own_dj o5 t5 ne_rd.2.2 i hi e
    · exact own_dj o5 hv ne_rd.2.2 i hi e)
  have s6 := OR.touch h3 hno s5
  have m6 := m5.touch h3 hno
  have ra := h1.putA (t.at_ + 1)
  have tt : Touch (fun i => i = g) w6 ((w6.setCell ⟨g, 1, none⟩ (.int .i64 ((t.at_ + 1 : Nat) : Int))).setCell ⟨g, 2, none⟩ (.int .i64 1)) := (touchG w6 g 1 _).trans (touchG _ g 2 _) (fun i hi => .inl hi)
  have hng : ∀ j ys, IsSet w6 j ys → ¬ j = g := fun j ys hs e => blk_set h1 hs e.symm
  refine ⟨Blk.frozen h1 1, h1.lie.2.1, Blk.frozen ra 2, ra.lie.2.2.1, Lib.hid ⟨?_, v3, tv', (O ++ [(⟨Jr.cnt t.op t.root, Jr.endOf k, m⟩ : Op1)] : List Op1), ra.putN 1, ?_, own_keep o6 tt (fun i hi e => own_blk o6 h1 ne_rd.2.1 (by rw [← e]; exact hi)), ?_, h0.gB, ?_, ?_, ?_, ?_, ?_, h0.tB⟩⟩
  · refine h.bel.trans ((hb.mono h.wB).trans ((h3.below (Nat.le_trans h.wB hb.size) (fun i hi => ?_)).trans (tt.below (Nat.le_trans h.wB (Nat.le_trans hb.size h3.size)) (fun i hi => by rw [hi]; exact h0.gB))))
    rcases hi with rfl | hi | hi
    · exact h0.gB
    · exact (t5.lt i hi).1
    · exact Nat.le_trans hC (hv.lt i hi).1
  · exact own_keep h2 tt (fun i hi e => own_blk h2 h1 ne_rd.1 (by rw [← e]; exact hi))
  · refine ⟨O, m, rfl, OR.touch tt hng s6, ?_⟩
    rcases m6 with e | ⟨e, j, e2, e3, e4, e5⟩
    · exact .inl e
    · exact .inr ⟨e, j, e2, e3, e4.touch tt (hng j _ e4), e5⟩
  · exact Nat.le_trans h.wB (Nat.le_trans hb.size (Nat.le_trans h3.size tt.size))
  · show t.s.drop 1 = left S (t.at_ + 1)
    rw [h0.s, left_drop]
  · show t.at_ + 1 ≤ S.size
    omega
  · show Jr.cnt t.op t.root + (1 + Tp.sz .nil) ≤ 4000
    simp; omega
  · show t.op.length + 1 ≤ 64
    omega
set_option maxHeartbeats 8000000 in
theorem jbegin {w : World} {B g : Nat} {S : ByteArray} {t : Jr.St} {ov tv : Value} {O : List Op1} {k : Int} {m : Option Nat} (h : PS w B g S t ov tv O) (hc : Jr.cnt t.op t.root < 4000) (hdp : t.op.length < 64) (hin : t.at_ < S.size) (hm1 : S.size ≤ 1048576) (hm : MapOk w B k m O) :
    Calls Tryd.prog 100 #[.pointer (some ⟨g, 0, none⟩), .int .i64 k, .agg #[.int .i64 0, .int .u8 (Jr.endOf k : Nat), .map m]] w fun e w' => e = .returned (.tuple #[]) ∧ After w B g S (.inl (Jr.opn t k)) w' := by
  obtain ⟨fin, hfin⟩ : ∃ f, Jr.endOf k = f := ⟨_, rfl⟩
  obtain ⟨N, hN⟩ : ∃ N, Jr.cnt t.op t.root = N := ⟨_, rfl⟩
  obtain ⟨ta, tc, rfl⟩ := rdv (Gn.Own.rd ndL h.tape) N (by rw [Jr.zf_len]; exact hN)
  obtain ⟨oa, oc, rfl⟩ := rdv (Gn.Own.rd opL h.opn) t.op.length h.ors.len
  obtain ⟨wb, hwb⟩ : ∃ wb, wb = w.alloc (.cells #[.int .i64 (N : Nat), .int .u8 (fin : Nat), .map m] 117) := ⟨_, rfl⟩
  have bu : Below w.heap.size w wb := by rw [hwb]; exact up_new _ _
  have hbk : Blk wb w.heap.size 117 [.int .i64 (N : Nat), .int .u8 (fin : Nat), .map m] := by rw [hwb]; exact Blk.new w _ _
  have h1 := h.later bu
  obtain ⟨_, _, _, _, c4, _⟩ := h1.rp.lie
  obtain ⟨_, _, _, _, _, c5⟩ := h.rp.lie
  have c5 : (w.alloc (.cells #[.int .i64 0, .int .u8 (fin : Nat), .map m] 117)).cell? ⟨g, 5, none⟩ = some (.slice ta N tc) := ((up_new w _).cell (p := ⟨g, 5, none⟩) (Blk.lt h.rp)).trans c5
  have g0 := hbk.cell 0
  have g1 := hbk.cell 1
  have g2 := hbk.cell 2
  simp only [List.getElem?_cons_zero, List.getElem?_cons_succ] at g0 g1 g2
  have HFIN := Lib.hid hfin
  have HN := Lib.hid hN
  have H := Lib.hid h
  have HM := Lib.hid hm
  have HWB := Lib.hid hwb
  have H1 := Lib.hid h1
  have HBU := Lib.hid bu
  have hol : O.length ≤ 64 := by rw [h.ors.len]; omega
  rw [hfin]
  clear h hm h1 bu hbk hwb hfin hN
  go_enter Tryd.func100, Tryd.ntmps100
  go_wp2_with fail
  rw [← HWB.out]
  obtain ⟨gb, hgb⟩ : ∃ gb, gb = w.heap.size := ⟨_, rfl⟩
  rw [← hgb] at g0 g1 g2 ⊢
  have HGB := Lib.hid hgb
  have f4 := Blk.frozen H1.out.rp 4
  have bx := up_new wb.drew (.cells #[.int .i64 (N : Nat), .int .u8 (fin : Nat), .map m] 117)
  have bx : Below wb.heap.size wb (wb.drew.alloc (.cells #[.int .i64 (N : Nat), .int .u8 (fin : Nat), .map m] 117)) := (Below.refl _ _).drew.trans bx
  have HO2 := Lib.hid (Gn.Own.later H1.out.opn bx)
  have HR2 : Hid (Gn.Rd opc 3 (wb.drew.alloc (.cells #[.int .i64 (N : Nat), .int .u8 (fin : Nat), .map m] 117)) (wb.drew.alloc (.cells #[.int .i64 (N : Nat), .int .u8 (fin : Nat), .map m] 117)).heap.size (.slice (some ⟨wb.heap.size, 0, none⟩) 1 1) [(⟨N, fin, m⟩ : Op1)]) := Lib.hid (opRd wb.drew ⟨N, fin, m⟩)
  have HBX := Lib.hid bx
  have c4' : (wb.alloc (.cells #[.int .i64 (N : Nat), .int .u8 (fin : Nat), .map m] 117)).cell? ⟨g, 4, none⟩ = some (.slice oa t.op.length oc) := ((up_new wb _).cell (p := ⟨g, 4, none⟩) (Blk.lt H1.out.rp)).trans c4
  clear hgb bx
  go_region_law (refine Gn.step_app opL opY rfl (.tmp 16) (.tmp 18) rfl B _ O rfl HO2.out _ [(⟨N, fin, m⟩ : Op1)] rfl HR2.out (by simp; omega) (Nat.le_trans H1.out.wB HBX.out.size) ?_; intro v3 w3 ho3 hg3 hl3; obtain ⟨a3, n3, c3, rfl⟩ := slice_of (Gn.Own.rd opL ho3); obtain ⟨f5, d5, HE⟩ := beg_after H1.out HBX.out hg3)
  all_goals
    have ho4 : OwnO w3 B (.slice a3 n3 c3) (O ++ [⟨Jr.cnt t.op t.root, Jr.endOf k, m⟩]) := by
      have := ho3
      rw [← HN.out, ← HFIN.out] at this
      exact this
    have HBG := Lib.hid (bg_start H.out HM.out HBU.out HE.out.2 HE.out.1 ho4)
    obtain ⟨w4, hw4⟩ : ∃ w4, w4 = w3.setCell ⟨g, 4, none⟩ (.slice a3 n3 c3) := ⟨_, rfl⟩
    rw [← hw4] at HBG ⊢
    have hv5 := Gn.Own.lit (T := 36) ndL w4 w4.heap.size [(⟨k, ⟨#[]⟩, 0, ⟨#[]⟩, 0⟩ : Nd)] #[.int .i64 k, .string ⟨#[]⟩, .int .i64 0, .string ⟨#[]⟩, .int .i64 0] 1 1 rfl rfl rfl (by simp [maxLen]) (Nat.le_refl _)
    have hb5 := up_new w4 (.cells #[.int .i64 k, .string ⟨#[]⟩, .int .i64 0, .string ⟨#[]⟩, .int .i64 0] 36)
    have CP := Lib.hid (jput (HBG.out.rp.later hb5) (Gn.Own.later HBG.out.tape hb5) hv5 (fun i hi hi' => by have := (hv5.lt i hi).1; have := (HBG.out.tape.lt i hi').2; omega) (by rw [Jr.zf_len]; omega) (Nat.le_trans HBG.out.wB hb5.size))
    have HV5 := Lib.hid hv5
    have HB5 := Lib.hid hb5
    clear hw4 ho4 hv5 hb5
    go_wp2_with fail
    ((with_reducible refine (CP.out).mono ?_); rintro e w6 ⟨rfl, hp⟩)
    obtain ⟨f1, d1, f2, d2, HF⟩ := bg_end H.out HBG.out HB5.out HV5.out HBG.out.wB hc hdp hin hp
    simp only [Int.natCast_add, Int.natCast_one] at f2 d2 HF
    clear hp
    go_wp2_with fail
    go_end0
    exact ⟨rfl, HF.out⟩
end Go.Proofs.YteklcfimafplbaaDoor

/- The program's reader: single bytes; what was opened last ends. -/
namespace Go.Proofs.YteklcfimafplbaaDoor
open Go.RowKit
set_option linter.unusedVariables false
set_option maxRecDepth 100000

/-- The cells of what was opened last. -/
theorem last_open {W w : World} {n c : Nat} {ad : Option Addr} {O O' : List Op1} {x : Op1} (h : Gn.Rd opc 3 W W.heap.size (.slice ad n c) O) (hO : O = O' ++ [x]) (hb : Below W.heap.size W w) :
    ∃ b off, ad = some ⟨b, off, none⟩ ∧ w.cell? ⟨b, off + O'.length * 3, none⟩ = some (.int .i64 (x.at_ : Nat)) ∧ w.cell? ⟨b, off + O'.length * 3 + 1, none⟩ = some (.int .u8 (x.fin : Nat)) ∧ w.cell? ⟨b, off + O'.length * 3 + 2, none⟩ = some (.map x.m) := by
  have hl : O'.length < O.length := by rw [hO]; simp
  obtain ⟨b, off, rfl, _, hc⟩ := Gn.Rd.at h hb hl
  have e : O[O'.length] = x := by simp [hO]
  rw [e] at hc
  exact ⟨b, off, rfl, hc 0 _ rfl, hc 1 _ rfl, hc 2 _ rfl⟩
theorem eql_map0 (w : World) : (binOp .eql 115 (.map none) (.map none)).run Tryd.prog w = .ok (.bool true) w := by kernel_rfl
theorem eql_map1 (j : Nat) (w : World) : (binOp .eql 115 (.map (some j)) (.map none)).run Tryd.prog w = .ok (.bool false) w := by kernel_rfl
theorem PS.drew {w : World} {B g : Nat} {S : ByteArray} {t : Jr.St} {ov tv : Value} {O : List Op1} (h : PS w B g S t ov tv O) (m : Nat) : PS (w.drewN m) B g S t ov tv O := h.later (below_drewN (Below.refl _ _) m)
set_option maxHeartbeats 2000000 in
theorem jahead {w : World} {B g : Nat} {S : ByteArray} {t : Jr.St} {ov tv : Value} {O : List Op1} {f : Jr.Fr} {r : List Jr.Fr} (h : PS w B g S t ov tv O) (hop : t.op = f :: r) :
    Calls Tryd.prog 69 #[.pointer (some ⟨g, 0, none⟩)] w fun e w' => e = .returned (.int .i64 (nxn (Jr.ahead t.op))) ∧ ∃ m, w' = w.drewN m := by
  have hors := h.ors
  rw [hop] at hors
  obtain ⟨O', m, hO, h1, h2⟩ := hors
  obtain ⟨p, hp⟩ : ∃ p, O'.length = p := ⟨_, rfl⟩
  obtain ⟨n, hn⟩ : ∃ n, O.length = n := ⟨_, rfl⟩
  have hnp : n = p + 1 := by rw [← hn, ← hp, hO]; simp
  obtain ⟨oa, oc, rfl⟩ := rdv (Gn.Own.rd opL h.opn) n hn
  obtain ⟨ob, off, rfl, _, _, c2⟩ := last_open (Gn.Own.rd opL h.opn) hO (Below.refl _ _)
  rw [hp] at c2
  obtain ⟨_, _, _, _, c4, _⟩ := h.rp.lie
  have e1 : (n : Int) - 1 = (p : Nat) := by omega
  have e2 : (p : Int) < n := by omega
  have e3 : p < n := by omega
  have hp64 : n ≤ 65 := by have := h.ors.len; have := h.deep; omega
  have e4 : IntKind.i64.wrap ((n : Int) - 1) = (p : Nat) := by rw [IntWalk.i64_in _ ⟨by omega, by omega⟩]; exact e1
  have e5 : IntKind.i64.wrap (p : Int) = (p : Int) := IntWalk.i64_in _ ⟨by omega, by omega⟩
  rw [hop]
  simp only at c2
  rcases h2 with ⟨k6, rfl⟩ | ⟨k7, j, rfl, _⟩
  · rw [show nxn (Jr.ahead (f :: r)) = 0 by show nxn (if f.kind = 7 then Jr.Nx.key else Jr.Nx.value) = 0; rw [if_neg (by omega)]; rfl]
    have em := fun n => eql_map0 (w.drewN n)
    clear h hO h1 hn hp hnp k6 hop
    go_enter Tryd.func69, Tryd.ntmps69
    go_wp2_with fail
    go_quiet (fail)
    go_wp2_with fail
    go_ret
    exact ⟨rfl, _, rfl⟩
  · rw [show nxn (Jr.ahead (f :: r)) = 2 by show nxn (if f.kind = 7 then Jr.Nx.key else Jr.Nx.value) = 2; rw [if_pos k7]; rfl]
    have em := fun n => eql_map1 j (w.drewN n)
    clear h hO h1 hn hp hnp k7 hop
    go_enter Tryd.func69, Tryd.ntmps69
    go_wp2_with fail
    go_quiet (fail)
    go_wp2_with fail
    go_ret
    exact ⟨rfl, _, rfl⟩
set_option maxHeartbeats 2000000 in
theorem jtakeMark {w : World} {B g : Nat} {S : ByteArray} {t : Jr.St} {ov tv : Value} {O : List Op1} (h : PS w B g S t ov tv O) (hm : S.size ≤ 1048576) (c : Nat) (hc : c < 256) (hc0 : c ≠ 0) (nx : Jr.Nx) :
    Calls Tryd.prog 71 #[.pointer (some ⟨g, 0, none⟩), .int .u8 (c : Nat), .int .i64 (nxn nx)] w fun e w' =>
      e = .returned (.int .i64 (code (if Jr.hd t.s ≠ c then .inr (.err t.at_ 70) else .inl (Jr.go t 1 nx)))) ∧ After w B g S (if Jr.hd t.s ≠ c then .inr (.err t.at_ 70) else .inl (Jr.go t 1 nx)) w' := by
  obtain ⟨d, hd⟩ : ∃ d, Jr.hd (left S t.at_) = d := ⟨_, rfl⟩
  have C := Lib.hid (jhere h.rp h.le hm d hd)
  obtain ⟨_, c1, c2, _⟩ := h.rp.lie
  have H := Lib.hid h
  rw [h.s, hd]
  by_cases he : d = c
  · have hne : ((d : Int) != c) = false := by simp [he]
    have hin := hd_in (S := S) (a := t.at_) (by rw [hd, he]; exact hc0)
    rw [if_neg (by simp [he])]
    have f1 := fun m => Blk.frozen (h.rp.drew m) 1
    have f2 := fun m => Blk.frozen ((h.rp.drew m).putA (t.at_ + 1)) 2
    have d2 := fun m => ((h.rp.drew m).putA (t.at_ + 1)).lie.2.2.1
    simp only [Int.natCast_add, Int.natCast_one] at f2 d2
    have HW := Lib.hid (fun m => (show Went w (((w.drewN m).setCell ⟨g, 1, none⟩ (.int .i64 ((t.at_ + 1 : Nat) : Int))).setCell ⟨g, 2, none⟩ (.int .i64 (nxn nx))) g S (t.at_ + 1) (nxn nx) t.key ov tv from ⟨((H.out.rp.drew m).putA (t.at_ + 1)).putN _, (touchD w _ m).trans ((touchG _ g 1 _).trans (touchG _ g 2 _) (fun i hi => .inl hi)) (fun i hi => .inl hi)⟩))
    simp only [Int.natCast_add, Int.natCast_one] at HW
    clear h he hd
    go_enter Tryd.func71, Tryd.ntmps71
    go_wp2_with fail
    ((with_reducible refine (C.out).mono ?_); rintro e w1 ⟨rfl, m, rfl⟩)
    have f1 := f1 m
    have f2 := f2 m
    have d2 := d2 m
    go_wp2_with fail
    go_ret
    refine ⟨rfl, (HW.out m).below H.out.gB H.out.wB, ov, tv, O, PS.went (u := Jr.go t 1 nx) H.out (HW.out m) rfl rfl ?_ ?_⟩
    · show t.s.drop 1 = left S (t.at_ + 1)
      rw [H.out.s, left_drop]
    · show t.at_ + 1 ≤ S.size
      omega
  · have hne : ((d : Int) != c) = true := by simp; omega
    rw [if_pos he]
    clear h he hd
    go_enter Tryd.func71, Tryd.ntmps71
    go_wp2_with fail
    ((with_reducible refine (C.out).mono ?_); rintro e w1 ⟨rfl, m, rfl⟩)
    go_wp2_with fail
    go_ret
    exact ⟨rfl, (below_drewN (Below.refl _ _) m).mono H.out.wB, _, _, _, _, H.out.rp.drew m⟩
theorem own_addrG {α : Type} {enc : α → List Value} {k : Nat} {T : TypeId} {w : World} {B n cap : Nat} {ad : Option Addr} {l : List α} (h : Gn.Own enc k T w B (.slice ad n cap) l) (h0 : 0 < l.length) : ∃ g, ad = some ⟨g, 0, none⟩ := by
  rcases h.2 with ⟨_, e⟩ | ⟨g, c, cur, e, _⟩
  · omega
  · injection e with e
    exact ⟨g, e⟩
/-- A cut row is owned. -/
theorem own_cutO {w : World} {B : Nat} {a : Option Addr} {n c p : Nat} {O : List Op1} (h : OwnO w B (.slice a n c) O) (hn : O.length = n) (hp : p < n) : OwnO w B (.slice a p c) (O.take p) := by
  obtain ⟨h0, h1⟩ := h
  rcases h1 with ⟨e, _⟩ | ⟨g, cap, cur, e, hg, hh, h2, h3, h4, h5⟩
  · injection e with e1 e2 e3
    omega
  · injection e with e1 e2 e3
    subst e1 e3
    refine ⟨by rw [Gn.cells_len opL, List.length_take], .inr ⟨g, c, cur, by rw [List.length_take, Nat.min_eq_left (by omega)], hg, hh, by rw [List.length_take]; omega, h3, h4, ?_⟩⟩
    rw [List.length_take, Nat.min_eq_left (by omega)]
    have e5 : cur.toList.take (p * 3) = (cur.toList.take (O.length * 3)).take (p * 3) := by rw [List.take_take]; congr 1; omega
    rw [e5, h5]
    conv => lhs; rw [← List.take_append_drop p O, Gn.cells_append, List.take_append_of_le_length (by rw [Gn.cells_len opL, List.length_take]; omega), List.take_of_length_le (by rw [Gn.cells_len opL, List.length_take]; omega)]
theorem run_cutO (w : World) (b n c p : Nat) (hp : p ≤ n) (hn : n ≤ c) : (Instr.slice 79 (.slice (some ⟨b, 0, none⟩) n c) none (some (.int .i64 (p : Nat))) none).run Tryd.prog w = .ok (.slice (some ⟨b, 0, none⟩) p c) w := by
  rw [run_slice_h w _ _ _ _ (opY.el.symm ▸ opY.sl) _ _ (by omega) (by omega), opY.el, Gn.sz_of opY]
  simp [sliced, Gn.plain]
theorem endOf_ne (k : Int) : Jr.endOf k ≠ 0 ∧ Jr.endOf k < 256 := by unfold Jr.endOf; split <;> simp
/-- A node of an owned row gets its size. -/
theorem zf_close (f : Jr.Fr) (r : List Jr.Fr) (R : Fo) : (Jr.zf id (f :: r) R).set (Jr.cnt r R) ⟨f.kind, f.key, 0, ⟨#[]⟩, 1 + (Tp.sz f.done : Nat)⟩ = Jr.zf id (Jr.place (Jr.nd1 f.kind f.key 0 ⟨#[]⟩ f.done) r R).1 (Jr.place (Jr.nd1 f.kind f.key 0 ⟨#[]⟩ f.done) r R).2 := by
  rw [Jr.place_zf]
  unfold Jr.nd1
  rw [Tp.flat_node, Tp.flat_nil, List.append_nil, ← Jr.zf_len id r R]
  show (Jr.zf id r R ++ _ :: _).set _ _ = _
  rw [List.set_append_right (h := Nat.le_refl _), Nat.sub_self]
  rfl
theorem zf_at (f : Jr.Fr) (r : List Jr.Fr) (R : Fo) : (Jr.zf id (f :: r) R)[Jr.cnt r R]? = some ⟨f.kind, f.key, 0, ⟨#[]⟩, 0⟩ := by
  rw [← Jr.zf_len id r R]
  show (Jr.zf id r R ++ _ :: _)[_]? = _
  rw [List.getElem?_append_right (Nat.le_refl _), Nat.sub_self]
  rfl
/-- What was opened last has ended. -/
theorem cls_after {w1 : World} {B g gt N tc p n b oc : Nat} {S : ByteArray} {t : Jr.St} {O O' : List Op1} {f : Jr.Fr} {r : List Jr.Fr} {m : Option Nat} (h : PS w1 B g S t (.slice (some ⟨b, 0, none⟩) n oc) (.slice (some ⟨gt, 0, none⟩) N tc) O) (hnp : n = p + 1) (hop : t.op = f :: r) (hN : Jr.cnt t.op t.root = N) (hO : O = O' ++ [⟨Jr.cnt r t.root, Jr.endOf f.kind, m⟩]) (hO' : OR w1 B r t.root O') (hp : O'.length = p) (hin : t.at_ < S.size) (z : Int) (hz : z = 1 + (Tp.sz f.done : Nat)) :
    ∃ w2, w2 = w1.setCell ⟨gt, Jr.cnt r t.root * 5 + 4, none⟩ (.int .i64 z) ∧ w2.frozen? ⟨g, 4, none⟩ = false ∧ w2.cell? ⟨g, 4, none⟩ = some (.slice (some ⟨b, 0, none⟩) n oc) ∧
    ∃ w3, w3 = w2.setCell ⟨g, 4, none⟩ (.slice (some ⟨b, 0, none⟩) p oc) ∧ w3.frozen? ⟨g, 1, none⟩ = false ∧ w3.cell? ⟨g, 1, none⟩ = some (.int .i64 (t.at_ : Nat)) ∧
    ∃ w4, w4 = w3.setCell ⟨g, 1, none⟩ (.int .i64 ((t.at_ : Int) + 1)) ∧ w4.frozen? ⟨g, 2, none⟩ = false ∧ w4.cell? ⟨g, 2, none⟩ = some (.int .i64 (nxn t.nx)) ∧
      Hid (After w1 B g S (.inl (Jr.cls t)) (w4.setCell ⟨g, 2, none⟩ (.int .i64 4))) := by
  subst hnp
  have hT := h.tape
  rw [hop] at hT hN
  have hx := zf_at f r t.root
  have t2 := own_put (m := 4) (u := .int .i64 z) (x' := ⟨f.kind, f.key, 0, ⟨#[]⟩, z⟩) hT (by rw [Jr.zf_len]; exact hN) hx rfl (by omega)
  rw [hz, zf_close] at t2
  have hgt : gt ≠ g := fun e => own_blk h.tape h.rp ne_rd.1 (by rw [e]; rfl)
  have tt : Touch (fun i => i = gt) w1 (w1.setCell ⟨gt, Jr.cnt r t.root * 5 + 4, none⟩ (.int .i64 z)) := touchG w1 gt _ _
  have r2 := h.rp.touch tt hgt.symm
  have o2 : OwnO _ B _ O := own_keep h.opn tt (fun i hi e => own_dj h.opn h.tape ne_rd.2.2 i hi (by rw [e]; rfl))
  have s2 : OR _ B r t.root O' := OR.touch tt (fun j ys hs e => own_set' h.tape hs (by rw [e]; rfl)) hO'
  rw [← hz] at t2
  refine ⟨_, rfl, Blk.frozen r2 4, r2.lie.2.2.2.2.1, ?_⟩
  have hOl : O.length = p + 1 := by rw [hO]; simp [hp]
  have o3 := own_cutO (p := p) o2 hOl (by omega)
  have hOt : O.take p = O' := by rw [hO, ← hp]; simp
  rw [hOt] at o3
  have r3 := r2.putO (.slice (some ⟨b, 0, none⟩) p oc)
  refine ⟨_, rfl, Blk.frozen r3 1, r3.lie.2.1, ?_⟩
  have r4 := r3.putA (t.at_ + 1)
  simp only [Int.natCast_add, Int.natCast_one] at r4
  refine ⟨_, rfl, Blk.frozen r4 2, r4.lie.2.2.1, Lib.hid ?_⟩
  have r5 := r4.putN 4
  have tg := ((touchG (w1.setCell ⟨gt, Jr.cnt r t.root * 5 + 4, none⟩ (.int .i64 z)) g 4 (.slice (some ⟨b, 0, none⟩) p oc)).trans (touchG _ g 1 (.int .i64 ((t.at_ : Int) + 1))) (fun i hi => .inl hi)).trans (touchG _ g 2 (.int .i64 4)) (fun i hi => .inl hi)
  have ta := (tt.mono (S' := fun i => i = gt ∨ i = g) (fun i hi => .inl hi)).trans tg (fun i hi => .inl (.inr hi))
  have hgB := h.gB
  have htB : B ≤ gt := (h.tape.lt gt rfl).1
  have e1 : Jr.cls t = ⟨t.at_ + 1, t.s.drop 1, .behind, t.key, (Jr.place (Jr.nd1 f.kind f.key 0 ⟨#[]⟩ f.done) r t.root).1, (Jr.place (Jr.nd1 f.kind f.key 0 ⟨#[]⟩ f.done) r t.root).2⟩ := by unfold Jr.cls; rw [hop]
  rw [e1]
  have hdeep := h.deep
  have hcnt := h.cnt
  rw [hop] at hdeep hcnt
  refine ⟨ta.below h.wB (fun i hi => by rcases hi with rfl | rfl <;> assumption), .slice (some ⟨b, 0, none⟩) p oc, .slice (some ⟨gt, 0, none⟩) N tc, O', r5, ?_, ?_, ?_, hgB, Nat.le_trans h.wB ta.size, ?_, ?_, ?_, ?_, h.tB⟩
  · exact own_keep t2 tg (fun i hi e => own_blk t2 r2 ne_rd.1 (by rw [← e]; exact hi))
  · have o4 : OwnO _ B (.slice (some ⟨b, 0, none⟩) p oc) O' := own_keep o3 tg (fun i hi e => own_blk o3 r2 ne_rd.2.1 (by rw [← e]; exact hi))
    exact o4
  · exact OR.place _ (OR.touch tg (fun j ys hs e => blk_set r2 hs e.symm) s2)
  · show t.s.drop 1 = left S (t.at_ + 1)
    rw [h.s, left_drop]
  · show t.at_ + 1 ≤ S.size
    omega
  · show Jr.cnt (Jr.place _ r t.root).1 (Jr.place _ r t.root).2 ≤ 4000
    rw [Jr.place_cnt]
    unfold Jr.nd1
    rw [Tp.sz_node, Tp.sz_nil]
    show Jr.cnt r t.root + (1 + Tp.sz f.done + 0) ≤ 4000
    have : Jr.cnt r t.root + (1 + Tp.sz f.done) ≤ 4000 := hcnt
    omega
  · show (Jr.place _ r t.root).1.length ≤ 64
    rw [Jr.place_len]
    simp at hdeep
    omega
set_option maxHeartbeats 8000000 in
theorem jtakeEnd {w : World} {B g : Nat} {S : ByteArray} {t : Jr.St} {ov tv : Value} {O : List Op1} {f : Jr.Fr} {r : List Jr.Fr} (h : PS w B g S t ov tv O) (hop : t.op = f :: r) (hm : S.size ≤ 1048576) :
    Calls Tryd.prog 68 #[.pointer (some ⟨g, 0, none⟩)] w fun e w' =>
      (Jr.hd t.s = Jr.endOf f.kind ∧ e = .returned (.bool true) ∧ After w B g S (.inl (Jr.cls t)) w') ∨
      (Jr.hd t.s ≠ Jr.endOf f.kind ∧ e = .returned (.bool false) ∧ PS w' B g S t ov tv O ∧ Below w.heap.size w w') := by
  have hors := h.ors
  rw [hop] at hors
  obtain ⟨O', m, hO, h1, h2⟩ := hors
  obtain ⟨p, hp⟩ : ∃ p, O'.length = p := ⟨_, rfl⟩
  obtain ⟨n, hn⟩ : ∃ n, O.length = n := ⟨_, rfl⟩
  have hnp : n = p + 1 := by rw [← hn, ← hp, hO]; simp
  obtain ⟨N, hN⟩ : ∃ N, Jr.cnt t.op t.root = N := ⟨_, rfl⟩
  obtain ⟨oa, oc, rfl⟩ := rdv (Gn.Own.rd opL h.opn) n hn
  obtain ⟨ta, tc, rfl⟩ := rdv (Gn.Own.rd ndL h.tape) N (by rw [Jr.zf_len]; exact hN)
  obtain ⟨ob, rfl⟩ := own_addrG h.opn (by omega)
  have hNp : Jr.cnt r t.root + (1 + Tp.sz f.done) = N := by rw [← hN, hop]; rfl
  obtain ⟨gt, rfl⟩ := own_addr h.tape (by rw [Jr.zf_len]; omega)
  obtain ⟨wb, hwb⟩ : ∃ wb, wb = w.alloc (.cells #[.int .i64 (Jr.cnt r t.root : Nat), .int .u8 (Jr.endOf f.kind : Nat), .map m] 117) := ⟨_, rfl⟩
  have bu : Below w.heap.size w wb := by rw [hwb]; exact up_new _ _
  have hbk : Blk wb w.heap.size 117 [.int .i64 (Jr.cnt r t.root : Nat), .int .u8 (Jr.endOf f.kind : Nat), .map m] := by rw [hwb]; exact Blk.new w _ _
  have hb1 := h.later bu
  have ho1 : OR wb B r t.root O' := OR.touch (Touch.of_below (S := fun _ => False) bu) (fun _ _ _ hf => hf) h1
  obtain ⟨b0, off0, e0, p0, p1, p2⟩ := last_open (Gn.Own.rd opL h.opn) hO (Below.refl _ _)
  obtain ⟨rfl, rfl⟩ : ob = b0 ∧ 0 = off0 := by injection e0 with e0; injection e0 with e1 e2; exact ⟨e1, e2⟩
  rw [hp] at p0 p1 p2
  simp only [Nat.zero_add] at p0 p1 p2
  have g0 := hbk.cell 0
  have g1 := hbk.cell 1
  simp only [List.getElem?_cons_zero, List.getElem?_cons_succ] at g0 g1
  obtain ⟨fin, hfin⟩ : ∃ x, Jr.endOf f.kind = x := ⟨_, rfl⟩
  obtain ⟨pl, hpl⟩ : ∃ x, Jr.cnt r t.root = x := ⟨_, rfl⟩
  rw [hfin] at p1 g1 hwb
  rw [hpl] at p0 g0 hwb
  obtain ⟨_, _, _, _, c4, c5⟩ := h.rp.lie
  obtain ⟨_, k1, k2, _, k4, k5⟩ := hb1.rp.lie
  have e1 : (n : Int) - 1 = (p : Nat) := by omega
  have e2 : (p : Int) < n := by omega
  have e3 : p < n := by omega
  have hp64 : n ≤ 65 := by have := h.ors.len; have := h.deep; omega
  have e4 : IntKind.i64.wrap ((n : Int) - 1) = (p : Nat) := by rw [IntWalk.i64_in _ ⟨by omega, by omega⟩]; exact e1
  have e5 : IntKind.i64.wrap (p : Int) = (p : Int) := IntWalk.i64_in _ ⟨by omega, by omega⟩
  have hN4 : N ≤ 4000 := by rw [← hN]; exact h.cnt
  have H := Lib.hid h
  have H1 := Lib.hid hb1
  have HO := Lib.hid hO
  have HO1 := Lib.hid ho1
  have HOP := Lib.hid hop
  have HFN := Lib.hid hfin
  have HPL := Lib.hid hpl
  have HPN := Lib.hid (And.intro hp hn)
  have HN := Lib.hid hN
  have HWB := Lib.hid hwb
  have HBU := Lib.hid bu
  have HNP := Lib.hid hNp
  obtain ⟨d, hd⟩ : ∃ d, Jr.hd (left S t.at_) = d := ⟨_, rfl⟩
  have HD := Lib.hid hd
  have C := Lib.hid (fun m => jhere (hb1.rp.drew m) hb1.le hm d hd)
  rw [h.s, hd, hfin]
  obtain ⟨gb, hgb⟩ : ∃ gb, gb = w.heap.size := ⟨_, rfl⟩
  rw [← hgb] at g0 g1
  have HGB := Lib.hid hgb
  rw [hpl] at hNp
  have hplN : (pl : Int) < N := by omega
  have hpls : (N : Int) - pl = 1 + (Tp.sz f.done : Nat) := by omega
  have hplw : IntKind.i64.wrap ((N : Int) - pl) = (N : Int) - pl := IntWalk.i64_in _ ⟨by omega, by omega⟩
  have hft := fun j => own_melt hb1.tape (by rw [Jr.zf_len]; exact hN) j
  have hx := zf_at f r t.root
  rw [← hop, hpl] at hx
  obtain ⟨b1, o1, q0, _, _, _, _, q4⟩ := rdN_cells (Gn.Own.rd ndL hb1.tape) (Below.refl _ _) hx
  obtain ⟨rfl, rfl⟩ : gt = b1 ∧ 0 = o1 := by injection q0 with q0; injection q0 with e1 e2; exact ⟨e1, e2⟩
  simp only [Nat.zero_add] at q4
  have HPS := Lib.hid hpls
  clear h hO h1 h2 hn hp hop hfin hpl hb1 ho1 bu hbk hwb hgb hN hd hx hnp hNp hpls
  go_enter Tryd.func68, Tryd.ntmps68
  go_wp2_with fail
  rw [← HWB.out, ← HGB.out]
  by_cases he : d = fin
  · have hne : ((d : Int) != fin) = false := by simp [he]
    have HE := Lib.hid he
    clear he
    go_wp2_with fail
    go_quiet ((go_at_call 97; exact Calls.quiet_of (C.out _)))
    obtain ⟨w1, hw1⟩ : ∃ w1, w1 = wb.drewN nq := ⟨_, rfl⟩
    rw [← hw1]
    have HP1 := Lib.hid (show PS w1 B g S t (.slice (some ⟨ob, 0, none⟩) n oc) (.slice (some ⟨gt, 0, none⟩) N tc) O by rw [hw1]; exact H1.out.drew nq)
    have HB1 := Lib.hid (show Below w.heap.size w w1 by rw [hw1]; exact below_drewN HBU.out nq)
    have HR1 := Lib.hid (show OR w1 B r t.root O' by rw [hw1]; exact OR.touch (touchD wb (fun _ => False) nq) (fun _ _ _ hf => hf) HO1.out)
    replace g0 : w1.cell? ⟨gb, 0, none⟩ = some (.int .i64 (pl : Nat)) := by rw [hw1]; exact g0
    replace k4 : w1.cell? ⟨g, 4, none⟩ = some (.slice (some ⟨ob, 0, none⟩) n oc) := by rw [hw1]; exact k4
    replace k5 : w1.cell? ⟨g, 5, none⟩ = some (.slice (some ⟨gt, 0, none⟩) N tc) := by rw [hw1]; exact k5
    replace q4 : w1.cell? ⟨gt, pl * 5 + 4, none⟩ = some (.int .i64 0) := by rw [hw1]; exact q4
    replace hft : ∀ j, w1.frozen? ⟨gt, j, none⟩ = false := by rw [hw1]; exact hft
    clear hw1
    go_wp2_with fail
    go_region
    have hnp : n = p + 1 := by
      have h1 := HPN.out.1
      have h2 := HPN.out.2
      rw [HO.out, List.length_append, h1] at h2
      simp at h2
      omega
    have hlt := hd_in (S := S) (a := t.at_) (by rw [HD.out, HE.out, ← HFN.out]; exact (endOf_ne _).1)
    obtain ⟨w2, hw2, f4, d4, w3, hw3, f1, d1, w4, hw4, f2, d2, HF⟩ := cls_after (w1 := w1.drew) (show PS w1.drew B g S t _ _ O from HP1.out.later (Below.refl _ _).drew) hnp HOP.out HN.out HO.out (show OR w1.drew B r t.root O' from OR.touch (Touch.drew (Touch.refl (fun _ => False) _)) (fun _ _ _ hf => hf) HR1.out) HPN.out.1 hlt ((N : Int) - pl) HPS.out
    have hpc : p ≤ oc := by
      have := HP1.out.opn.2
      have h2 := HPN.out.2
      rcases this with ⟨e, _⟩ | ⟨_, cap, _, e, _, _, h2, _⟩ <;> injection e with e1 e2 e3 <;> omega
    have e2w : (w1.setCell ⟨gt, pl * 5 + 4, none⟩ (.int .i64 ((N : Int) - pl))).drew = w2 := by rw [hw2, HPL.out]; rfl
    rw [e2w]
    have HA := Lib.hid HF.out
    have HW3 := Lib.hid hw3
    have HW4 := Lib.hid hw4
    rw [hw3] at f1 d1
    rw [hw4, hw3] at f2 d2 HA
    clear hw2 hw3 hw4 e2w HF hft q4 k4 k5 g0
    go_wp2_with fail
    go_ret
    refine .inl ⟨HE.out, rfl, After.before ((HB1.out.drew).mono H.out.wB) ?_⟩
    exact HA.out
  · have hne : ((d : Int) != fin) = true := by simp; omega
    have HE := Lib.hid he
    clear he
    go_wp2_with fail
    go_quiet ((go_at_call 97; exact Calls.quiet_of (C.out _)))
    go_wp2_with fail
    go_ret
    exact .inr ⟨HE.out, rfl, H1.out.drew nq, below_drewN HBU.out nq⟩
end Go.Proofs.YteklcfimafplbaaDoor

/- Numbers' bytes, plainly: what the library makes of them. -/
namespace Go.Proofs.YteklcfimafplbaaDoor.Jr
open Go.Lib
set_option linter.unusedVariables false

def fold (acc : Nat) (l : List Nat) : Nat := l.foldl (fun n c => 10 * n + (c - 48)) acc
theorem val_fold (l : List Nat) : val l = fold 0 l := rfl
theorem fold_ge : ∀ (l : List Nat) (acc : Nat), acc ≤ fold acc l
  | [], acc => Nat.le_refl _
  | c :: l, acc => by
    have := fold_ge l (10 * acc + (c - 48))
    show acc ≤ fold (10 * acc + (c - 48)) l
    omega
def M64 : Nat := 18446744073709551615
theorem pm_iff : ∀ (l : List UInt8) (acc u : Nat), acc ≤ M64 → (parseUintM M64 acc l = .ok u ↔ (∀ c ∈ l.map UInt8.toNat, isd c = true) ∧ u = fold acc (l.map UInt8.toNat) ∧ fold acc (l.map UInt8.toNat) ≤ M64)
  | [], acc, u, h => by
    unfold parseUintM
    simp only [List.map_nil, List.not_mem_nil, false_implies, implies_true, true_and]
    show NumEnd.ok acc = .ok u ↔ u = acc ∧ acc ≤ M64
    constructor
    · intro e; injection e with e; exact ⟨e.symm, h⟩
    · rintro ⟨rfl, _⟩; rfl
  | c :: r, acc, u, h => by
    unfold parseUintM
    have hf : fold acc ((c :: r).map UInt8.toNat) = fold (10 * acc + (c.toNat - 48)) (r.map UInt8.toNat) := rfl
    have hge := fold_ge (r.map UInt8.toNat) (10 * acc + (c.toNat - 48))
    rw [hf]
    by_cases hd : 48 ≤ c.toNat ∧ c.toNat ≤ 57
    · rw [if_pos hd]
      have hi : isd c.toNat = true := by simp [isd, hd]
      by_cases h1 : 1844674407370955162 ≤ acc
      · rw [if_pos h1]
        constructor
        · intro e; cases e
        · rintro ⟨_, _, e⟩; unfold M64 at e; omega
      · rw [if_neg h1]
        by_cases h2 : M64 < acc * 10 + (c.toNat - 48)
        · rw [if_pos h2]
          constructor
          · intro e; cases e
          · rintro ⟨_, _, e⟩; omega
        · rw [if_neg h2, show acc * 10 + (c.toNat - 48) = 10 * acc + (c.toNat - 48) by omega, pm_iff r (10 * acc + (c.toNat - 48)) u (by omega)]
          simp only [List.map_cons, List.mem_cons, forall_eq_or_imp, hi, true_and]
    · rw [if_neg hd]
      constructor
      · intro e; cases e
      · rintro ⟨e, _⟩
        have := e c.toNat (by simp)
        simp [isd] at this
        omega
theorem pi_neg (c : UInt8) (r : List UInt8) (hc : c.toNat = 45) (hr : r ≠ []) (v : Int) : parseIntB 64 (c :: r) = .ok v ↔ (∀ x ∈ r.map UInt8.toNat, isd x = true) ∧ v = -(val (r.map UInt8.toNat) : Int) ∧ val (r.map UInt8.toNat) ≤ 9223372036854775808 := by
  unfold parseIntB
  simp only [hc, or_true, if_true]
  unfold parseUintB
  rw [if_neg hr, show (2 ^ 64 - 1 : Nat) = M64 from rfl]
  have h0 := fun u => pm_iff r 0 u (by decide)
  cases he : parseUintM M64 0 r with
  | ok u =>
    obtain ⟨h1, h2, h3⟩ := (h0 u).1 he
    rw [val_fold, ← h2]
    simp only [not_true_eq_false, false_and, if_false, true_and]
    by_cases h4 : 2 ^ (64 - 1) < u
    · rw [if_pos h4]
      constructor
      · intro e; cases e
      · rintro ⟨_, _, e⟩; simp at h4; omega
    · rw [if_neg h4]
      simp at h4
      constructor
      · intro e; injection e with e; exact ⟨h1, e.symm, by omega⟩
      · rintro ⟨_, e, _⟩; rw [e]
  | «range» =>
    constructor
    · intro e; cases e
    · rintro ⟨h1, h2, h3⟩
      have := (h0 _).2 ⟨h1, rfl, by rw [← val_fold]; unfold M64; omega⟩
      rw [he] at this; cases this
  | _ =>
    constructor
    · intro e; cases e
    · rintro ⟨h1, h2, h3⟩
      have := (h0 _).2 ⟨h1, rfl, by rw [← val_fold]; unfold M64; omega⟩
      rw [he] at this; cases this
theorem pi_pos (c : UInt8) (r : List UInt8) (hc : c.toNat ≠ 45) (hc2 : c.toNat ≠ 43) (v : Int) : parseIntB 64 (c :: r) = .ok v ↔ (∀ x ∈ (c :: r).map UInt8.toNat, isd x = true) ∧ v = (val ((c :: r).map UInt8.toNat) : Nat) ∧ val ((c :: r).map UInt8.toNat) < 9223372036854775808 := by
  unfold parseIntB
  have hn : ¬ (c.toNat = 43 ∨ c.toNat = 45) := by omega
  simp only [hn, if_false]
  unfold parseUintB
  rw [if_neg (by simp), show (2 ^ 64 - 1 : Nat) = M64 from rfl]
  have h0 := fun u => pm_iff (c :: r) 0 u (by decide)
  cases he : parseUintM M64 0 (c :: r) with
  | ok u =>
    obtain ⟨h1, h2, h3⟩ := (h0 u).1 he
    rw [val_fold, ← h2]
    simp only [hc, not_false_eq_true, true_and, false_and, if_false]
    by_cases h4 : 2 ^ (64 - 1) ≤ u
    · rw [if_pos h4]
      constructor
      · intro e; cases e
      · rintro ⟨_, _, e⟩; simp at h4; omega
    · rw [if_neg h4]
      simp at h4
      constructor
      · intro e; injection e with e; exact ⟨h1, e.symm, by omega⟩
      · rintro ⟨_, e, _⟩; rw [e]
  | «range» =>
    constructor
    · intro e; cases e
    · rintro ⟨h1, h2, h3⟩
      have := (h0 _).2 ⟨h1, rfl, by rw [← val_fold]; unfold M64; omega⟩
      rw [he] at this; cases this
  | _ =>
    constructor
    · intro e; cases e
    · rintro ⟨h1, h2, h3⟩
      have := (h0 _).2 ⟨h1, rfl, by rw [← val_fold]; unfold M64; omega⟩
      rw [he] at this; cases this
theorem nd_all : ∀ (s : List Nat), ∀ x ∈ s.take (nd s), isd x = true
  | [], x, h => by simp [nd] at h
  | c :: t, x, h => by
    unfold nd at h
    by_cases hc : isd c = true
    · rw [if_pos hc, List.take_succ_cons] at h
      rcases List.mem_cons.1 h with rfl | h
      · exact hc
      · exact nd_all t x h
    · rw [if_neg hc] at h; simp at h
theorem nIn_all (s : List Nat) : ∀ x ∈ s.take (nIn s), isd x = true := by
  intro x h
  unfold nIn at h
  by_cases hc : hd s = 48
  · rw [if_pos hc] at h
    cases s with
    | nil => simp at hc
    | cons c t =>
      simp at hc
      subst hc
      simp at h
      subst h; decide
  · rw [if_neg hc] at h; exact nd_all s x h
theorem nIn_le (s : List Nat) : nIn s ≤ s.length := by
  unfold nIn
  by_cases hc : hd s = 48
  · rw [if_pos hc]
    cases s with
    | nil => simp at hc
    | cons c t => simp
  · rw [if_neg hc]; exact nd_le s
theorem hd_at (s : List Nat) (i : Nat) (h : hd (s.drop i) ≠ 0) : s[i]? = some (hd (s.drop i)) := by
  unfold hd at h ⊢
  rw [List.getD_eq_getElem?_getD, List.getElem?_drop, Nat.add_zero] at h ⊢
  cases e : s[i]? with
  | none => rw [e] at h; simp at h
  | some x => rfl
/-- What is scanned is digits alone just if it ends behind the whole. -/
theorem scan_digits (s : List Nat) (n : Nat) (h : scan s = (n, true)) : n = nP5 s ∧ nP1 s < nP2 s ∧ nP2 s ≤ n ∧ ((∀ x ∈ (s.drop (nP1 s)).take (n - nP1 s), isd x = true) ↔ n = nP2 s) := by
  unfold scan at h
  by_cases c1 : nP2 s = nP1 s
  · rw [if_pos c1] at h; simp at h
  · by_cases c2 : nP3 s = nP2 s + 1
    · rw [if_neg c1, if_pos c2] at h; simp at h
    · by_cases c3 : isE (s.drop (nP3 s)) ∧ nP5 s = nP4 s
      · rw [if_neg c1, if_neg c2, if_pos c3] at h; simp at h
      · rw [if_neg c1, if_neg c2, if_neg c3] at h
        obtain rfl : n = nP5 s := by injection h with h; exact h.symm
        have e2 : nP2 s = nP1 s + nIn (s.drop (nP1 s)) := rfl
        have e3 : nP3 s = nP2 s + nFr (s.drop (nP2 s)) := rfl
        have e4 : nP4 s = nP3 s + nEh (s.drop (nP3 s)) := rfl
        have e5 : nP5 s = nP4 s + nEd (s.drop (nP3 s)) := rfl
        refine ⟨rfl, by omega, by omega, fun hall => ?_, fun he => ?_⟩
        · -- a byte that is none
          rcases Nat.lt_or_ge (nP2 s) (nP5 s) with hlt | hge
          · exfalso
            have hb : hd (s.drop (nP2 s)) = 46 ∨ hd (s.drop (nP2 s)) = 101 ∨ hd (s.drop (nP2 s)) = 69 := by
              by_cases f : hd (s.drop (nP2 s)) = 46
              · exact .inl f
              · right
                have hf : nFr (s.drop (nP2 s)) = 0 := by unfold nFr; rw [if_neg f]
                rw [hf, Nat.add_zero] at e3
                by_cases g : isE (s.drop (nP3 s))
                · unfold isE at g; rw [e3] at g; exact g
                · exfalso
                  have h1 : nEh (s.drop (nP3 s)) = 0 := by unfold nEh; rw [if_neg g]
                  have h2 : nEd (s.drop (nP3 s)) = 0 := by unfold nEd; rw [if_neg g]
                  omega
            have hat := hd_at s (nP2 s) (by omega)
            have hm : hd (s.drop (nP2 s)) ∈ (s.drop (nP1 s)).take (nP5 s - nP1 s) := by
              apply List.mem_of_getElem? (i := nP2 s - nP1 s)
              rw [List.getElem?_take_of_lt (by omega), List.getElem?_drop, show nP1 s + (nP2 s - nP1 s) = nP2 s by omega]
              exact hat
            have := hall _ hm
            simp [isd] at this
            omega
          · omega
        · rw [he, show nP2 s - nP1 s = nIn (s.drop (nP1 s)) by omega]
          exact nIn_all _
theorem token {s : List Nat} {n : Nat} (h : scan s = (n, true)) {L : List UInt8} (hL : L.map UInt8.toNat = s.take n) :
    (fits s → parseIntB 64 L = .ok (nVal s)) ∧ (¬ fits s → ∀ v, parseIntB 64 L ≠ .ok v) := by
  obtain ⟨hn, h12, h2n, hdig⟩ := scan_digits s n h
  have e2 : nP2 s = nP1 s + nIn (s.drop (nP1 s)) := rfl
  have hle : nP2 s ≤ s.length := by
    have := nIn_le (s.drop (nP1 s))
    rw [List.length_drop] at this
    omega
  by_cases h45 : hd s = 45
  · have p1 : nP1 s = 1 := by unfold nP1 nSg; rw [if_pos h45]
    rw [p1] at hdig e2 h12
    cases s with
    | nil => simp at h45
    | cons c0 s' =>
      simp at h45
      subst h45
      cases n with
      | zero => omega
      | succ m =>
        rw [List.take_succ_cons] at hL
        cases L with
        | nil => simp at hL
        | cons c r =>
          simp only [List.map_cons, List.cons.injEq] at hL
          obtain ⟨hc, hr⟩ := hL
          have hr0 : r ≠ [] := by
            intro e
            subst e
            have := congrArg List.length hr
            simp at this hle
            omega
          have pi := fun v => pi_neg c r hc hr0 v
          rw [hr] at pi
          simp only [List.drop_succ_cons, List.drop_zero, Nat.add_sub_cancel] at hdig e2
          have hv : nVal (45 :: s') = -(val (s'.take (nIn s')) : Nat) := by unfold nVal; rw [if_pos (by rfl)]; rfl
          constructor
          · rintro ⟨f1, f2, f3⟩
            have hm : m = nIn s' := by omega
            rw [pi]
            rw [hv] at f2 ⊢
            rw [hm]
            refine ⟨?_, rfl, by omega⟩
            rw [← hm]
            exact hdig.2 (by omega)
          · intro hf v hp
            obtain ⟨q1, q2, q3⟩ := (pi v).1 hp
            have hm := hdig.1 q1
            apply hf
            have hm2 : m = nIn s' := by omega
            refine ⟨by omega, ?_, ?_⟩
            · rw [hv, ← hm2]; omega
            · rw [hv]; omega
  · have p1 : nP1 s = 0 := by unfold nP1 nSg; rw [if_neg h45]
    rw [p1] at hdig e2 h12
    rw [List.drop_zero] at hdig e2
    rw [Nat.zero_add] at e2
    have hv : nVal s = (val (s.take (nIn s)) : Nat) := by unfold nVal; rw [if_neg h45]
    cases s with
    | nil => simp at hle; omega
    | cons c0 s' =>
      have hc0 : isd c0 = true := nIn_all (c0 :: s') c0 (by
        cases hq : nIn (c0 :: s') with
        | zero => omega
        | succ j => rw [List.take_succ_cons]; exact List.mem_cons_self ..)
      cases n with
      | zero => omega
      | succ m =>
        have hL' := hL
        rw [List.take_succ_cons] at hL
        cases L with
        | nil => simp at hL
        | cons c r =>
          simp only [List.map_cons, List.cons.injEq] at hL
          have hcd : 48 ≤ c.toNat ∧ c.toNat ≤ 57 := by rw [hL.1]; simpa [isd] using hc0
          have pi := fun v => pi_pos c r (by omega) (by omega) v
          rw [hL'] at pi
          rw [Nat.sub_zero] at hdig
          constructor
          · rintro ⟨f1, f2, f3⟩
            have hm : m + 1 = nIn (c0 :: s') := by omega
            rw [pi]
            rw [hv] at f3 ⊢
            refine ⟨hdig.2 (by omega), by rw [hm], ?_⟩
            rw [hm]; omega
          · intro hf v hp
            obtain ⟨q1, q2, q3⟩ := (pi v).1 hp
            have hm := hdig.1 q1
            apply hf
            have hm2 : m + 1 = nIn (c0 :: s') := by omega
            refine ⟨by omega, ?_, ?_⟩
            · rw [hv]; omega
            · rw [hv, ← hm2]; omega
end Go.Proofs.YteklcfimafplbaaDoor.Jr

/- The program's reader: a number. -/
namespace Go.Proofs.YteklcfimafplbaaDoor
open Go.RowKit
set_option linter.unusedVariables false
set_option maxRecDepth 100000

/-- A variable that holds an error, or none. -/
def ErrAt (w : World) (g : Nat) : Prop := ∃ ev, w.cell? ⟨g, 0, none⟩ = some ev ∧ (ev = .nilIface ∨ ∃ te pe, ev = .iface te pe)
/-- The library's two errors lie in their places. -/
def TabE (w : World) : Prop := ErrAt w 6 ∧ ErrAt w 7
def TabEAt (B : Nat) : Prop := 6 < B ∧ 7 < B
theorem cell_lt {w : World} {p : Addr} {v : Value} (h : w.cell? p = some v) : p.block < w.heap.size := by
  rcases Nat.lt_or_ge p.block w.heap.size with hlt | hge
  · exact hlt
  · simp [World.cell?, Array.getElem?_eq_none hge] at h
theorem TabE.size {w : World} (h : TabE w) : TabEAt w.heap.size := by
  obtain ⟨⟨_, h1, _⟩, ⟨_, h2, _⟩⟩ := h
  exact ⟨cell_lt h1, cell_lt h2⟩
theorem TabE.below {w w' : World} {B : Nat} (h : TabE w) (hB : TabEAt B) (hb : Below B w w') : TabE w' := by
  obtain ⟨⟨e1, h1, k1⟩, ⟨e2, h2, k2⟩⟩ := h
  exact ⟨⟨e1, (hb.cell (p := ⟨6, 0, none⟩) hB.1).trans h1, k1⟩, ⟨e2, (hb.cell (p := ⟨7, 0, none⟩) hB.2).trans h2, k2⟩⟩
theorem TabE.later {w w' : World} (h : TabE w) (hb : Below w.heap.size w w') : TabE w' := h.below h.size hb
theorem parse_ok (X : ByteArray) (hX : X.size ≤ 1048576) (v : Int) (h : Lib.parseIntB 64 X.data.toList = .ok v) (w : World) :
    Calls Tryd.prog 132 #[.string X, .int .i64 10, .int .i64 64] w fun e w' => e = .returned (.tuple #[.int .i64 v, .nilIface]) ∧ Below w.heap.size w w' :=
  (Tryd.strconv_ParseInt_10_at64_ok X (by omega) v h w).mono fun e w' ⟨h1, h2⟩ => ⟨h1, by
    rcases h2 with rfl | ⟨t, rfl⟩
    · exact Below.refl _ _
    · exact Lib.bytesWorld_below _ _ _⟩
theorem parse_no (X : ByteArray) (hX : X.size ≤ 1048576) (h : ∀ v, Lib.parseIntB 64 X.data.toList ≠ .ok v) (w : World) (T : TabE w) :
    Calls Tryd.prog 132 #[.string X, .int .i64 10, .int .i64 64] w fun e w' => ∃ z N, e = .returned (.tuple #[.int .i64 z, .iface 181 (.pointer (some ⟨N, 0, none⟩))]) ∧ Below w.heap.size w w' := by
  obtain ⟨⟨e1, h1, k1⟩, ⟨e2, h2, k2⟩⟩ := T
  cases he : Lib.parseIntB 64 X.data.toList with
  | ok v => exact absurd he (h v)
  | «range» => exact (Tryd.strconv_ParseInt_10_at64_range X (by omega) he e2 w h2 k2).mono fun e w' ⟨N, h3, _, _, h4⟩ => ⟨_, N, h3, h4⟩
  | _ => exact (Any.strconv_ParseInt_10_at64_syntax Tryd.laysC174 X (by omega) he e1 w h1 k1).mono fun e w' ⟨N, h3, _, _, h4⟩ => ⟨_, N, h3, h4⟩
theorem left_take {S : ByteArray} {a n : Nat} (h : a + n ≤ S.size) : bl (S.extract a (a + n)) = (left S a).take n := by
  rw [bl_extract, show a + n - a = n by omega]
set_option maxHeartbeats 8000000 in
theorem jtakeNumber {w : World} {B g : Nat} {S : ByteArray} {t : Jr.St} {ov tv : Value} {O : List Op1} (h : PS w B g S t ov tv O) (T : TabE w) (hTB : TabEAt B) (hm : S.size ≤ 1048576) (hc : Jr.cnt t.op t.root < 4000) :
    Calls Tryd.prog 101 #[.pointer (some ⟨g, 0, none⟩)] w fun e w' => e = .returned (.int .i64 (code (Jr.number t))) ∧ After w B g S (Jr.number t) w' := by
  obtain ⟨n, b, hs⟩ : ∃ n b, Jr.scan t.s = (n, b) := ⟨_, _, rfl⟩
  have hle := h.le
  have CS := Lib.hid (jskipNumber h.rp h.le hm n b (by rw [← h.s]; exact hs))
  obtain ⟨q, hq⟩ : ∃ q, q = t.at_ + n := ⟨_, rfl⟩
  rw [← hq] at CS
  obtain ⟨_, c1, _⟩ := h.rp.lie
  have HS := Lib.hid hs
  have H := Lib.hid h
  have HT := Lib.hid T
  have HQ := Lib.hid hq
  clear h hs T
  go_enter Tryd.func101, Tryd.ntmps101
  go_wp2_with fail
  ((with_reducible refine (CS.out).mono ?_); rintro e w1 ⟨rfl, hw, hn⟩)
  have HW := Lib.hid hw
  have HU := Lib.hid (PS.went (u := { t with at_ := q, s := left S q }) H.out hw rfl rfl rfl hn)
  have HB1 := Lib.hid (hw.below H.out.gB H.out.wB)
  clear hw CS
  cases b with
  | false =>
    have HE : Hid (Jr.number t = .inr (.err q 70)) := Lib.hid (by unfold Jr.number; rw [HS.out, hq]; rfl)
    clear hq
    go_wp2_with fail
    go_ret
    rw [HE.out]
    exact ⟨rfl, HB1.out, _, _, _, _, HU.out.rp⟩
  | true =>
    have ha0 : t.at_ ≤ q := by omega
    have ha1 : (t.at_ : Int) ≤ q := by omega
    have ha2 : (q : Int) ≤ S.size := by omega
    obtain ⟨d0, d1, _⟩ := HU.out.rp.lie
    have htk : bl (S.extract t.at_ q) = t.s.take n := by rw [hq, left_take (by omega), H.out.s]
    have hsz : (S.extract t.at_ q).size ≤ 1048576 := by rw [ByteArray.size_extract]; omega
    have hTK := Jr.token HS.out htk
    have HT1 := Lib.hid (HT.out.below hTB HB1.out)
    have f1 := Blk.frozen HU.out.rp 1
    by_cases hf : Jr.fits t.s
    · have CP := Lib.hid (parse_ok _ hsz _ (hTK.1 hf) w1.drew)
      have HE : Hid (Jr.number t = .inl (Jr.leaf t n 4 (Jr.nVal t.s) ⟨#[]⟩)) := Lib.hid (by unfold Jr.number; rw [HS.out, if_neg (by simp), if_pos hf])
      clear hTK htk hf hsz hq
      go_wp2_with fail
      go_region_with ((go_at_call 132; (with_reducible refine (CP.out).mono ?_); rintro e w2 ⟨rfl, b⟩))
      all_goals
        have b : Below w1.heap.size w1 w2 := (Below.refl _ _).drew.trans b
        have HU2 := Lib.hid (HU.out.later b)
        have HB2 := Lib.hid (HB1.out.trans (b.mono HU.out.wB))
        have CN := Lib.hid (mkNum (Jr.nVal t.s) w2)
        clear b CP
        go_wp2_with fail
        ((with_reducible refine (CN.out).mono ?_); rintro e w4 ⟨v, rfl, ho, b⟩)
        have H4 := Lib.hid (HU2.out.later b)
        have HO4 := Lib.hid ho
        have CP := Lib.hid (jput H4.out.rp H4.out.tape ho (fun k hk hk' => by have := (ho.lt k hk).1; have := (HU2.out.tape.lt k hk').2; omega) (by rw [Jr.zf_len]; show Jr.cnt t.op t.root ≤ 5000; omega) H4.out.wB)
        have HB4 := Lib.hid (HB2.out.trans (b.mono HU2.out.wB))
        clear ho b CN
        go_wp2_with fail
        ((with_reducible refine (CP.out).mono ?_); rintro e w5 ⟨rfl, hp⟩)
        have HP := Lib.hid hp
        clear hp
        go_wp2_with fail
        go_ret
        rw [HE.out]
        refine ⟨rfl, After.before HB4.out (leaf_after H4.out rfl rfl H.out.s HO4.out HU2.out.wB hc (by have := HQ.out; omega) ?_)⟩
        have := HP.out
        rw [HQ.out] at this
        exact this
    · have CP := Lib.hid (parse_no _ hsz (hTK.2 hf) w1.drew HT1.out)
      have HE : Hid (Jr.number t = .inr (.err t.at_ 73)) := Lib.hid (by unfold Jr.number; rw [HS.out, if_neg (by simp), if_neg hf])
      clear hTK htk hf hsz hq
      go_wp2_with fail
      go_region_with ((go_at_call 132; (with_reducible refine (CP.out).mono ?_); rintro e w2 ⟨z, N, rfl, b⟩))
      all_goals
        have b : Below w1.heap.size w1 w2 := (Below.refl _ _).drew.trans b
        have HU2 := Lib.hid (HU.out.later b)
        have HB2 := Lib.hid (HB1.out.trans (b.mono HU.out.wB))
        have f1 := Blk.frozen HU2.out.rp 1
        obtain ⟨_, d1, _⟩ := HU2.out.rp.lie
        clear b CP
        go_wp2_with fail
        go_ret
        rw [HE.out]
        refine ⟨rfl, HB2.out.trans ((Touch.below (touchG w2 g 1 _) (Nat.le_trans H.out.wB HB2.out.size) (fun i hi => by rw [hi]; exact H.out.gB))), _, _, _, _, HU2.out.rp.putA t.at_⟩
end Go.Proofs.YteklcfimafplbaaDoor

/- The program's reader: a member's key. -/
namespace Go.Proofs.YteklcfimafplbaaDoor
open Go.RowKit
set_option linter.unusedVariables false
set_option maxRecDepth 100000

theorem OR.other {w w' : World} {B j : Nat} (ht : Touch (fun i => i = j) w w') : ∀ {op : List Jr.Fr} {R : Fo} {O : List Op1}, OR w B op R O → (∀ x ∈ O, x.m ≠ some j) → OR w' B op R O
  | [], R, O, h, _ => h
  | f :: r, R, O, h, hn => by
    obtain ⟨O', m, rfl, h1, h2⟩ := h
    refine ⟨O', m, rfl, OR.other ht h1 (fun x hx => hn x (List.mem_append_left _ hx)), h2.imp id ?_⟩
    rintro ⟨hk, i, e2, h3, h4, h5⟩
    exact ⟨hk, i, e2, h3, h4.touch ht (fun e => hn ⟨Jr.cnt r R, Jr.endOf f.kind, m⟩ (by simp) (by rw [← e]; exact e2)), h5⟩
/-- A key more; the reader behind it. -/
theorem key_after {w2 : World} {B g n j : Nat} {S : ByteArray} {t : Jr.St} {ov tv : Value} {O O' : List Op1} {f : Jr.Fr} {r : List Jr.Fr} {y : ByteArray} (h : PS w2 B g S t ov tv O) (hop : t.op = f :: r) (hk : f.kind = 7) (hO : O = O' ++ [⟨Jr.cnt r t.root, Jr.endOf f.kind, some j⟩]) (h1 : OR w2 B r t.root O') (hB : B ≤ j) (hs : IsSet w2 j f.had) (hO' : ∀ x ∈ O', x.m ≠ some j) (hn : t.at_ + n ≤ S.size) :
    ∃ w3, w3 = tput w2 j f.had y ∧ w3.frozen? ⟨g, 3, none⟩ = false ∧ w3.cell? ⟨g, 3, none⟩ = some (.string t.key) ∧
    ∃ w4, w4 = w3.setCell ⟨g, 3, none⟩ (.string y) ∧ w4.frozen? ⟨g, 1, none⟩ = false ∧ w4.cell? ⟨g, 1, none⟩ = some (.int .i64 (t.at_ : Nat)) ∧
    ∃ w5, w5 = w4.setCell ⟨g, 1, none⟩ (.int .i64 ((t.at_ : Int) + n)) ∧ w5.frozen? ⟨g, 2, none⟩ = false ∧ w5.cell? ⟨g, 2, none⟩ = some (.int .i64 (nxn t.nx)) ∧
      Hid (After w2 B g S (.inl { at_ := t.at_ + n, s := t.s.drop n, nx := .colon, key := y, op := { f with had := f.had ++ [y] } :: r, root := t.root }) (w5.setCell ⟨g, 2, none⟩ (.int .i64 3))) := by
  have tt := touch_tput w2 j f.had y
  have hgj : g ≠ j := blk_set h.rp hs
  have r3 := h.rp.touch tt hgj
  have t3 := own_keep h.tape tt (fun i hi e => own_set' h.tape hs (by rw [← e]; exact hi))
  have o3 : OwnO _ B ov O := own_keep h.opn tt (fun i hi e => own_set' h.opn hs (by rw [← e]; exact hi))
  have s3 : OR _ B r t.root O' := OR.other tt h1 hO'
  have m3 := hs.put y
  refine ⟨_, rfl, Blk.frozen r3 3, r3.lie.2.2.2.1, ?_⟩
  have r4 := r3.putK y
  refine ⟨_, rfl, Blk.frozen r4 1, r4.lie.2.1, ?_⟩
  have r5 := r4.putA (t.at_ + n)
  simp only [Int.natCast_add] at r5
  refine ⟨_, rfl, Blk.frozen r5 2, r5.lie.2.2.1, Lib.hid ?_⟩
  have r6 := r5.putN 3
  have tg := ((touchG (tput w2 j f.had y) g 3 (.string y)).trans (touchG _ g 1 (.int .i64 ((t.at_ : Int) + n))) (fun i hi => .inl hi)).trans (touchG _ g 2 (.int .i64 3)) (fun i hi => .inl hi)
  have ta := (tt.mono (S' := fun i => i = j ∨ i = g) (fun i hi => .inl hi)).trans tg (fun i hi => .inl (.inr hi))
  have hgB := h.gB
  refine ⟨ta.below h.wB (fun i hi => by rcases hi with rfl | rfl <;> assumption), ov, tv, O, r6, ?_, own_keep o3 tg (fun i hi e => own_blk o3 r3 ne_rd.2.1 (by rw [← e]; exact hi)), ?_, hgB, Nat.le_trans h.wB ta.size, ?_, hn, ?_, ?_, h.tB⟩
  · have := h.tape
    rw [hop] at t3
    exact own_keep t3 tg (fun i hi e => own_blk t3 r3 ne_rd.1 (by rw [← e]; exact hi))
  · exact ⟨O', some j, hO, OR.touch tg (fun i ys hi e => blk_set r3 hi e.symm) s3, .inr ⟨hk, j, rfl, hB, m3.touch tg (fun e => hgj e.symm), hO'⟩⟩
  · show t.s.drop n = left S (t.at_ + n)
    rw [h.s, left_drop]
  · have := h.cnt
    rw [hop] at this
    exact this
  · have := h.deep
    rw [hop] at this
    exact this
set_option maxHeartbeats 8000000 in
theorem jtakeKey {w : World} {B g : Nat} {S : ByteArray} {t : Jr.St} {ov tv : Value} {O : List Op1} {f : Jr.Fr} {r : List Jr.Fr} (h : PS w B g S t ov tv O) (hop : t.op = f :: r) (hk : f.kind = 7) (hm : S.size ≤ 1048576) (hX : TxOk S) (T : Tab w) :
    Calls Tryd.prog 70 #[.pointer (some ⟨g, 0, none⟩)] w fun e w' => e = .returned (.int .i64 (code (Jr.stepK t))) ∧ After w B g S (Jr.stepK t) w' := by
  have hors := h.ors
  rw [hop] at hors
  obtain ⟨O', m, hO, h1, h2⟩ := hors
  obtain ⟨j, rfl, hBj, hsj, hOj⟩ : ∃ j, m = some j ∧ B ≤ j ∧ IsSet w j f.had ∧ ∀ x ∈ O', x.m ≠ some j := by
    rcases h2 with ⟨e, _⟩ | ⟨_, h⟩
    · omega
    · exact h
  obtain ⟨d, hd⟩ : ∃ d, Jr.hd (left S t.at_) = d := ⟨_, rfl⟩
  have C := Lib.hid (jhere h.rp h.le hm d hd)
  obtain ⟨c0, c1, _⟩ := h.rp.lie
  have H := Lib.hid h
  have HOP := Lib.hid hop
  have HO := Lib.hid hO
  have H1 := Lib.hid h1
  have HJ := Lib.hid (And.intro hBj (And.intro hsj hOj))
  have HD := Lib.hid hd
  have HT := Lib.hid T
  have hle := h.le
  have hle1 : (t.at_ : Int) ≤ S.size := by omega
  have HK : Hid (Jr.stepK t = if Jr.hd t.s ≠ 34 then .inr (.err t.at_ 70) else if (Utf.unq t.s).2.2 ≠ 0 then .inr (.err t.at_ (Utf.unq t.s).2.2) else if str (Utf.unq t.s).1 ∈ f.had then .inr (.err t.at_ 71) else .inl { at_ := t.at_ + (Utf.unq t.s).2.1, s := t.s.drop (Utf.unq t.s).2.1, nx := .colon, key := str (Utf.unq t.s).1, op := { f with had := f.had ++ [str (Utf.unq t.s).1] } :: r, root := t.root }) := Lib.hid (by unfold Jr.stepK; rw [hop])
  by_cases he : d = 34
  · have hne : ((d : Int) != 34) = false := by simp [he]
    have hS : S.size ≤ 1000000 := hX.lit (a := t.at_) (by rw [hd, he])
    obtain ⟨l, n, x, hu⟩ : ∃ l n x, Utf.unq t.s = (l, n, x) := ⟨_, _, _, rfl⟩
    have hex : (S.extract t.at_ S.size).size ≤ 1000000 := by rw [ByteArray.size_extract]; omega
    have CU := Lib.hid (fun (m : Nat) => unquote (S.extract t.at_ S.size) (w.drewN (m + 1)) T hex l n x (by rw [bl_from, ← hu, h.s]))
    unfold quad at CU
    have HU := Lib.hid hu
    have HE := Lib.hid (show Jr.hd t.s = 34 by rw [h.s, hd, he])
    clear h hop hO h1 h2 hBj hsj hOj hd T he hu
    go_enter Tryd.func70, Tryd.ntmps70
    go_wp2_with fail
    ((with_reducible refine (C.out).mono ?_); rintro e w1 ⟨rfl, mm, rfl⟩)
    have CU := Lib.hid (CU.out mm)
    go_wp2_with fail
    go_region_with ((go_at_call 102; (with_reducible refine (CU.out).mono ?_); rintro e w2 ⟨rfl, b⟩))
    all_goals
      have b : Below w.heap.size w w2 := (below_drewN (Below.refl _ _) (mm + 1)).trans b
      have H2 := Lib.hid (H.out.later b)
      have HB2 := Lib.hid b
      have R2 := Lib.hid (show OR w2 B r t.root O' from OR.touch (Touch.of_below (S := fun _ => False) b) (fun _ _ _ hf => hf) H1.out)
      have S2 := Lib.hid (HJ.out.2.1.later b)
      obtain ⟨d0, d1, d2, d3, d4, _⟩ := H2.out.rp.lie
      clear b CU
      by_cases hx : x = 0
      case' neg =>
        have hx1 : ((x : Int) != 0) = true := by simp; omega
        have e : Jr.stepK t = .inr (.err t.at_ x) := by rw [HK.out, HU.out, if_neg (by rw [HE.out]; simp), if_pos hx]
        have HE1 := Lib.hid e
        clear hx e
        go_wp2_with fail
        go_ret
        rw [HE1.out]
        exact ⟨rfl, HB2.out.mono H.out.wB, _, _, _, _, H2.out.rp⟩
      case' pos =>
        subst hx
        obtain ⟨g1, g2, g3, g4, _⟩ := unq_fine (by rw [H.out.s]; exact left_byte S _) HU.out
        rw [H.out.s, left_len] at g4
        have HN0 := Lib.hid (show t.at_ + n ≤ S.size by omega)
        have hn1 : n ≤ 1000000 := by omega
        clear g1 g2 g3 g4
        obtain ⟨p, hp⟩ : ∃ p, O'.length = p := ⟨_, rfl⟩
        obtain ⟨q, hq⟩ : ∃ q, O.length = q := ⟨_, rfl⟩
        have hnp : q = p + 1 := by rw [← hq, ← hp, HO.out]; simp
        obtain ⟨oa, oc, rfl⟩ := rdv (Gn.Own.rd opL H2.out.opn) q hq
        obtain ⟨ob, off, rfl, _, _, m2⟩ := last_open (Gn.Own.rd opL H2.out.opn) HO.out (Below.refl _ _)
        rw [hp] at m2
        simp only at m2
        have e1 : (q : Int) - 1 = (p : Nat) := by omega
        have e2 : (p : Int) < q := by omega
        have e3 : p < q := by omega
        have hp64 : q ≤ 65 := by have := H2.out.ors.len; have := H2.out.deep; omega
        have e4 : IntKind.i64.wrap ((q : Int) - 1) = (p : Nat) := by rw [IntWalk.i64_in _ ⟨by omega, by omega⟩]; exact e1
        have e5 : IntKind.i64.wrap (p : Int) = (p : Int) := IntWalk.i64_in _ ⟨by omega, by omega⟩
        clear hp hq hnp
        go_wp2_with fail
        go_quiet (fail)
        obtain ⟨w3, hw3⟩ : ∃ w3, w3 = w2.drewN nq := ⟨_, rfl⟩
        rw [← hw3]
        have b3 : Below w2.heap.size w2 w3 := by rw [hw3]; exact below_drewN (Below.refl _ _) nq
        have H3 := Lib.hid (H2.out.later b3)
        have S3 := Lib.hid (S2.out.later b3)
        have B3 := Lib.hid (HB2.out.trans (b3.mono HB2.out.size))
        have R3 := Lib.hid (OR.touch (Touch.of_below (S := fun _ => False) b3) (fun _ _ _ hf => hf) R2.out)
        clear hw3 b3 d0 d1 d2 d3 d4 m2
        by_cases hin : str l ∈ f.had
        case' pos =>
          have hl := set_some S3.out (str l) hin
          have e : Jr.stepK t = .inr (.err t.at_ 71) := by rw [HK.out, HU.out, if_neg (by rw [HE.out]; simp), if_neg (by simp), if_pos hin]
          have HE1 := Lib.hid e
          clear hin e
          go_wp2_with fail
          go_ret
          rw [HE1.out]
          exact ⟨rfl, ((B3.out).alloc B3.out.size _).mono H.out.wB, _, _, _, _, (H3.out.later (up_new _ _)).rp⟩
        case' neg =>
          have hl := set_none S3.out (str l) hin
          have e : Jr.stepK t = .inl { at_ := t.at_ + n, s := t.s.drop n, nx := .colon, key := str l, op := { f with had := f.had ++ [str l] } :: r, root := t.root } := by rw [HK.out, HU.out, if_neg (by rw [HE.out]; simp), if_neg (by simp), if_neg hin]
          have HE1 := Lib.hid e
          obtain ⟨w4, hw4⟩ : ∃ w4, w4 = w3.alloc (.cells #[] 120) := ⟨_, rfl⟩
          have b4 : Below w3.heap.size w3 w4 := by rw [hw4]; exact up_new _ _
          have H4 := Lib.hid (H3.out.later b4)
          have S4 := Lib.hid (S3.out.later b4)
          have R4 := Lib.hid (OR.touch (Touch.of_below (S := fun _ => False) b4) (fun _ _ _ hf => hf) R3.out)
          have B4 := Lib.hid (B3.out.trans (b4.mono B3.out.size))
          have hu := set_put S4.out (str l) hin
          obtain ⟨w5, hw5, f3, d3, w6, hw6, f1, d1, w7, hw7, f2, d2, HF⟩ := key_after (y := str l) H4.out HOP.out hk HO.out R4.out HJ.out.1 S4.out HJ.out.2.2 HN0.out
          have ew : IntKind.i64.wrap ((t.at_ : Int) + n) = (t.at_ : Int) + n := IntWalk.i64_in _ ⟨by omega, by omega⟩
          rw [← hw5] at hu
          have HF1 := Lib.hid HF.out
          rw [hw6] at f1 d1
          rw [hw7, hw6] at f2 d2 HF1
          have HW4 := Lib.hid hw4
          rw [hw4] at hu
          clear hin e hw4 b4 hw5 hw6 hw7 HF
          go_wp2_with fail
          go_ret
          rw [HE1.out]
          exact ⟨rfl, After.before (B4.out.mono H.out.wB) HF1.out⟩
  · have hne : ((d : Int) != 34) = true := by simp; omega
    have HE := Lib.hid (show Jr.hd t.s ≠ 34 by rw [h.s, hd]; exact he)
    clear h hop hO h1 h2 hBj hsj hOj hd T he
    go_enter Tryd.func70, Tryd.ntmps70
    go_wp2_with fail
    ((with_reducible refine (C.out).mono ?_); rintro e w1 ⟨rfl, m, rfl⟩)
    go_wp2_with fail
    go_ret
    rw [HK.out, if_pos HE.out]
    exact ⟨rfl, (below_drewN (Below.refl _ _) m).mono H.out.wB, _, _, _, _, H.out.rp.drew m⟩
end Go.Proofs.YteklcfimafplbaaDoor

/- The program's reader: a value. -/
namespace Go.Proofs.YteklcfimafplbaaDoor
open Go.RowKit
set_option linter.unusedVariables false
set_option maxRecDepth 100000

theorem word_after {w2 w3 : World} {B C g : Nat} {S W : ByteArray} {t : Jr.St} {ov tv v : Value} {O : List Op1} {k : Int} {e : Ending} (h : PS w2 B g S t ov tv O) (hv : OwnN w2 C v [nd1 k 0 ⟨#[]⟩]) (hC : B ≤ C) (hc : Jr.cnt t.op t.root < 4000)
    (hw : WordEnd w2 B g t.at_ S t.key (nxn t.nx) ov tv v (Jr.zf id t.op t.root) (nd1 k 0 ⟨#[]⟩) W e w3) : e = .returned (.int .i64 (code (Jr.word t (bl W) k))) ∧ After w2 B g S (Jr.word t (bl W) k) w3 := by
  unfold WordEnd at hw
  unfold Jr.word
  rw [h.s, bl_length]
  rcases hw with ⟨e1, rfl, h1, h2⟩ | ⟨e1, rfl, h1⟩
  · rw [if_pos e1]
    exact ⟨rfl, leaf_after h rfl rfl h.s hv hC hc h1 h2⟩
  · rw [if_neg e1]
    exact ⟨rfl, h1.below h.gB h.wB, _, _, _, _, h1.1⟩
theorem OR.lt {w : World} {B : Nat} : ∀ {op : List Jr.Fr} {R : Fo} {O : List Op1}, OR w B op R O → ∀ x ∈ O, ∀ j, x.m = some j → j < w.heap.size
  | [], R, O, h, x, hx, j, hj => by
    have h : O = [] := h
    rw [h] at hx
    cases hx
  | f :: r, R, O, h, x, hx, j, hj => by
    obtain ⟨O', m, rfl, h1, h2⟩ := h
    rcases List.mem_append.1 hx with hx | hx
    · exact OR.lt h1 x hx j hj
    · have hx : x = ⟨Jr.cnt r R, Jr.endOf f.kind, m⟩ := by simpa using hx
      subst hx
      rcases h2 with ⟨_, rfl⟩ | ⟨_, i, e2, _, h4, _⟩
      · cases hj
      · have hj : m = some j := hj
        rw [e2] at hj
        injection hj with hj
        rw [← hj]
        exact h4.lt
def vBegins : ByteArray := ⟨#[110, 102, 116, 45, 34, 91, 123, 48, 49, 50, 51, 52, 53, 54, 55, 56, 57]⟩
theorem bgn_in (d : Nat) : Jr.bgn d = true ↔ d ∈ bl vBegins := by
  have e : bl vBegins = [110, 102, 116, 45, 34, 91, 123, 48, 49, 50, 51, 52, 53, 54, 55, 56, 57] := by decide
  rw [e]
  unfold Jr.bgn Jr.isd
  simp
  omega
set_option maxHeartbeats 8000000 in
theorem jtakeValue {w : World} {B g : Nat} {S : ByteArray} {t : Jr.St} {ov tv : Value} {O : List Op1} (h : PS w B g S t ov tv O) (T : Tab w) (TE : TabE w) (hTB : TabEAt B) (hm : S.size ≤ 1048576) (hX : TxOk S) :
    Calls Tryd.prog 67 #[.pointer (some ⟨g, 0, none⟩)] w fun e w' => e = .returned (.int .i64 (code (Jr.stepV t))) ∧ After w B g S (Jr.stepV t) w' := by
  obtain ⟨d, hd⟩ : ∃ d, Jr.hd (left S t.at_) = d := ⟨_, rfl⟩
  obtain ⟨b, hb⟩ : ∃ b, Jr.bgn d = b := ⟨_, rfl⟩
  have CS := Lib.hid (jstands h.rp h.le hm vBegins b (by rw [hd, ← hb]; exact bgn_in d))
  unfold vBegins at CS
  obtain ⟨N, hN⟩ : ∃ N, Jr.cnt t.op t.root = N := ⟨_, rfl⟩
  obtain ⟨ta, tc, rfl⟩ := rdv (Gn.Own.rd ndL h.tape) N (by rw [Jr.zf_len]; exact hN)
  obtain ⟨D, hD⟩ : ∃ D, t.op.length = D := ⟨_, rfl⟩
  obtain ⟨oa, oc, rfl⟩ := rdv (Gn.Own.rd opL h.opn) D (h.ors.len.trans hD)
  obtain ⟨_, _, _, _, c4, c5⟩ := h.rp.lie
  have H := Lib.hid h
  have HT := Lib.hid T
  have HTE := Lib.hid TE
  have HTB := Lib.hid hTB
  have HN := Lib.hid hN
  have HD := Lib.hid hD
  have HS : Hid (Jr.hd t.s = d) := Lib.hid (by rw [h.s]; exact hd)
  have HB := Lib.hid hb
  have C := Lib.hid (fun m => jhere (h.rp.drew m) h.le hm d hd)
  have HK : Hid (Jr.stepV t = if b = false then .inr (.err t.at_ 70) else if 4000 ≤ N then .inr (.err t.at_ 5) else if 64 ≤ D then .inr (.err t.at_ 72) else Jr.valueB t) := Lib.hid (by unfold Jr.stepV; rw [HS.out, hb, hN, hD])
  have hdin : d ≠ 0 → t.at_ < S.size := fun h0 => hd_in (S := S) (by rw [hd]; exact h0)
  have HI := Lib.hid hdin
  clear h T TE hTB hN hD hb hd hdin
  cases b
  case false =>
    have HE : Hid (Jr.stepV t = .inr (.err t.at_ 70)) := Lib.hid (by rw [HK.out, if_pos rfl])
    clear HK
    go_enter Tryd.func67, Tryd.ntmps67
    go_wp2_with fail
    ((with_reducible refine (CS.out).mono ?_); rintro e w1 ⟨rfl, m, rfl⟩)
    go_wp2_with fail
    go_ret
    rw [HE.out]
    exact ⟨rfl, (below_drewN (Below.refl _ _) m).mono H.out.wB, _, _, _, _, H.out.rp.drew m⟩
  case true =>
    by_cases hc : 4000 ≤ N
    · have hc1 : (4000 : Int) ≤ N := by omega
      have HE : Hid (Jr.stepV t = .inr (.err t.at_ 5)) := Lib.hid (by rw [HK.out, if_neg (by simp), if_pos hc])
      go_enter Tryd.func67, Tryd.ntmps67
      go_wp2_with fail
      ((with_reducible refine (CS.out).mono ?_); rintro e w1 ⟨rfl, m, rfl⟩)
      go_wp2_with fail
      go_ret
      rw [HE.out]
      exact ⟨rfl, (below_drewN (Below.refl _ _) m).mono H.out.wB, _, _, _, _, H.out.rp.drew m⟩
    · have hc1 : ¬ (4000 : Int) ≤ N := by omega
      by_cases hp : 64 ≤ D
      · have hp1 : (64 : Int) ≤ D := by omega
        have HE : Hid (Jr.stepV t = .inr (.err t.at_ 72)) := Lib.hid (by rw [HK.out, if_neg (by simp), if_neg hc, if_pos hp])
        go_enter Tryd.func67, Tryd.ntmps67
        go_wp2_with fail
        ((with_reducible refine (CS.out).mono ?_); rintro e w1 ⟨rfl, m, rfl⟩)
        go_wp2_with fail
        go_ret
        rw [HE.out]
        exact ⟨rfl, (below_drewN (Below.refl _ _) m).mono H.out.wB, _, _, _, _, H.out.rp.drew m⟩
      · have hp1 : ¬ (64 : Int) ≤ D := by omega
        have HE : Hid (Jr.stepV t = Jr.valueB t) := Lib.hid (by rw [HK.out, if_neg (by simp), if_neg hc, if_neg hp])
        go_enter Tryd.func67, Tryd.ntmps67
        go_wp2_with fail
        ((with_reducible refine (CS.out).mono ?_); rintro e w1 ⟨rfl, m, rfl⟩)
        have C := Lib.hid (C.out m)
        go_wp2_with fail
        ((with_reducible refine (C.out).mono ?_); rintro e w2 ⟨rfl, m', rfl⟩)
        obtain ⟨w3, hw3⟩ : ∃ w3, w3 = (w.drewN m).drewN m' := ⟨_, rfl⟩
        rw [← hw3]
        have b3 : Below w.heap.size w w3 := by rw [hw3]; exact below_drewN (below_drewN (Below.refl _ _) m) m'
        have H3 := Lib.hid (H.out.later b3)
        have T3 := Lib.hid (HT.out.later b3)
        have E3 := Lib.hid (HTE.out.later b3)
        have B3 := Lib.hid (b3.mono H.out.wB)
        clear hw3 b3 c4 c5 C CS
        by_cases hd110 : d = 110
        case' pos =>
          have hHE : Hid (Jr.stepV t = Jr.word t (bl (⟨#[110, 117, 108, 108]⟩ : ByteArray)) 1) := Lib.hid (by rw [HE.out, show bl (⟨#[110, 117, 108, 108]⟩ : ByteArray) = [110, 117, 108, 108] by decide]; unfold Jr.valueB; rw [HS.out, if_pos hd110])
          have M := Lib.hid (mkNull w3)
          clear HE
          subst hd110
          go_wp2_with fail
          ((with_reducible refine (M.out).mono ?_); rintro e w4 ⟨v, rfl, ho, b⟩)
          have H4 := Lib.hid (H3.out.later b)
          have B4 := Lib.hid (B3.out.trans (b.mono H3.out.wB))
          have HO := Lib.hid ho
          have CW := Lib.hid (jtakeWord H4.out.rp H4.out.le hm H4.out.tape ho (fun k hk hk' => by have := (ho.lt k hk).1; have := (H3.out.tape.lt k hk').2; omega) (by rw [Jr.zf_len]; have := H4.out.cnt; omega) H4.out.wB ⟨#[110, 117, 108, 108]⟩ (by decide) (by decide))
          clear ho b M
          go_wp2_with fail
          ((with_reducible refine (CW.out).mono ?_); rintro e w5 hw)
          obtain ⟨rfl, HA⟩ := word_after H4.out HO.out H3.out.wB (by rw [HN.out]; omega) hw
          have HA := Lib.hid HA
          clear hw
          go_wp2_with fail
          go_ret
          rw [hHE.out]
          exact ⟨rfl, After.before B4.out HA.out⟩
        have hn110 : ((d : Int) == 110) = false := by simp; omega
        by_cases hd102 : d = 102
        case' pos =>
          have hHE : Hid (Jr.stepV t = Jr.word t (bl (⟨#[102, 97, 108, 115, 101]⟩ : ByteArray)) 2) := Lib.hid (by rw [HE.out, show bl (⟨#[102, 97, 108, 115, 101]⟩ : ByteArray) = [102, 97, 108, 115, 101] by decide]; unfold Jr.valueB; rw [HS.out, if_neg hd110, if_pos hd102])
          have M := Lib.hid (mkBool false w3)
          clear HE
          subst hd102
          go_wp2_with fail
          ((with_reducible refine (M.out).mono ?_); rintro e w4 ⟨v, rfl, ho, b⟩)
          have H4 := Lib.hid (H3.out.later b)
          have B4 := Lib.hid (B3.out.trans (b.mono H3.out.wB))
          have HO := Lib.hid ho
          have CW := Lib.hid (jtakeWord H4.out.rp H4.out.le hm H4.out.tape ho (fun k hk hk' => by have := (ho.lt k hk).1; have := (H3.out.tape.lt k hk').2; omega) (by rw [Jr.zf_len]; have := H4.out.cnt; omega) H4.out.wB ⟨#[102, 97, 108, 115, 101]⟩ (by decide) (by decide))
          clear ho b M
          go_wp2_with fail
          ((with_reducible refine (CW.out).mono ?_); rintro e w5 hw)
          obtain ⟨rfl, HA⟩ := word_after H4.out HO.out H3.out.wB (by rw [HN.out]; omega) hw
          have HA := Lib.hid HA
          clear hw
          go_wp2_with fail
          go_ret
          rw [hHE.out]
          exact ⟨rfl, After.before B4.out HA.out⟩
        have hn102 : ((d : Int) == 102) = false := by simp; omega
        by_cases hd116 : d = 116
        case' pos =>
          have hHE : Hid (Jr.stepV t = Jr.word t (bl (⟨#[116, 114, 117, 101]⟩ : ByteArray)) 3) := Lib.hid (by rw [HE.out, show bl (⟨#[116, 114, 117, 101]⟩ : ByteArray) = [116, 114, 117, 101] by decide]; unfold Jr.valueB; rw [HS.out, if_neg hd110, if_neg hd102, if_pos hd116])
          have M := Lib.hid (mkBool true w3)
          clear HE
          subst hd116
          go_wp2_with fail
          ((with_reducible refine (M.out).mono ?_); rintro e w4 ⟨v, rfl, ho, b⟩)
          have H4 := Lib.hid (H3.out.later b)
          have B4 := Lib.hid (B3.out.trans (b.mono H3.out.wB))
          have HO := Lib.hid ho
          have CW := Lib.hid (jtakeWord H4.out.rp H4.out.le hm H4.out.tape ho (fun k hk hk' => by have := (ho.lt k hk).1; have := (H3.out.tape.lt k hk').2; omega) (by rw [Jr.zf_len]; have := H4.out.cnt; omega) H4.out.wB ⟨#[116, 114, 117, 101]⟩ (by decide) (by decide))
          clear ho b M
          go_wp2_with fail
          ((with_reducible refine (CW.out).mono ?_); rintro e w5 hw)
          obtain ⟨rfl, HA⟩ := word_after H4.out HO.out H3.out.wB (by rw [HN.out]; omega) hw
          have HA := Lib.hid HA
          clear hw
          go_wp2_with fail
          go_ret
          rw [hHE.out]
          exact ⟨rfl, After.before B4.out HA.out⟩
        have hn116 : ((d : Int) == 116) = false := by simp; omega
        by_cases hd34 : d = 34
        case' pos =>
          have hHE : Hid (Jr.stepV t = Jr.text t) := Lib.hid (by rw [HE.out]; unfold Jr.valueB; rw [HS.out, if_neg hd110, if_neg hd102, if_neg hd116, if_pos hd34])
          have CW := Lib.hid (jtakeText H3.out T3.out (hX.lit (a := t.at_) (by rw [← H.out.s, HS.out, hd34])) (by rw [HN.out]; omega))
          clear HE
          subst hd34
          go_wp2_with fail
          ((with_reducible refine (CW.out).mono ?_); rintro e w5 ⟨rfl, HA⟩)
          have HA := Lib.hid HA
          go_wp2_with fail
          go_ret
          rw [hHE.out]
          exact ⟨rfl, After.before B3.out HA.out⟩
        have hn34 : ((d : Int) == 34) = false := by simp; omega
        by_cases hd91 : d = 91
        case' pos =>
          have hHE : Hid (Jr.stepV t = .inl (Jr.opn t 6)) := Lib.hid (by rw [HE.out]; unfold Jr.valueB; rw [HS.out, if_neg hd110, if_neg hd102, if_neg hd116, if_neg hd34, if_pos hd91])
          have CW := jbegin (k := 6) (m := none) H3.out (by rw [HN.out]; omega) (by rw [HD.out]; omega) (HI.out (by omega)) hm (.inl ⟨rfl, rfl⟩)
          have e93 : ((Jr.endOf 6 : Nat) : Int) = 93 := rfl
          rw [e93] at CW
          have CW := Lib.hid CW
          clear HE e93
          subst hd91
          go_wp2_with fail
          ((with_reducible refine (CW.out).mono ?_); rintro e w5 ⟨rfl, HA⟩)
          have HA := Lib.hid HA
          go_wp2_with fail
          go_ret
          rw [hHE.out]
          exact ⟨rfl, After.before B3.out HA.out⟩
        have hn91 : ((d : Int) == 91) = false := by simp; omega
        by_cases hd123 : d = 123
        case' pos =>
          have hHE : Hid (Jr.stepV t = .inl (Jr.opn t 7)) := Lib.hid (by rw [HE.out]; unfold Jr.valueB; rw [HS.out, if_neg hd110, if_neg hd102, if_neg hd116, if_neg hd34, if_neg hd91, if_pos hd123])
          have hbn : Below w3.heap.size w3 (w3.alloc (.map #[] 0)) := up_new _ _
          have CW := jbegin (k := 7) (m := some w3.heap.size) (H3.out.later hbn) (by rw [HN.out]; omega) (by rw [HD.out]; omega) (HI.out (by omega)) hm (.inr ⟨rfl, _, rfl, H3.out.wB, IsSet.new w3, fun x hx e => absurd (OR.lt H3.out.ors x hx _ e) (Nat.lt_irrefl _)⟩)
          have e93 : ((Jr.endOf 7 : Nat) : Int) = 125 := rfl
          rw [e93] at CW
          have CW := Lib.hid CW
          have hmm := @run_makeMap Tryd.prog
          have HBN := Lib.hid (B3.out.trans (hbn.mono H3.out.wB))
          clear HE e93 hbn
          subst hd123
          go_wp2_with fail
          ((with_reducible refine (CW.out).mono ?_); rintro e w5 ⟨rfl, HA⟩)
          have HA := Lib.hid HA
          go_wp2_with fail
          go_ret
          rw [hHE.out]
          exact ⟨rfl, After.before HBN.out HA.out⟩
        have hn123 : ((d : Int) == 123) = false := by simp; omega
        have hHE : Hid (Jr.stepV t = Jr.number t) := Lib.hid (by rw [HE.out]; unfold Jr.valueB; rw [HS.out, if_neg hd110, if_neg hd102, if_neg hd116, if_neg hd34, if_neg hd91, if_neg hd123])
        have CW := Lib.hid (jtakeNumber H3.out E3.out HTB.out hm (by rw [HN.out]; omega))
        clear HE
        go_wp2_with fail
        ((with_reducible refine (CW.out).mono ?_); rintro e w5 ⟨rfl, HA⟩)
        have HA := Lib.hid HA
        go_wp2_with fail
        go_ret
        rw [hHE.out]
        exact ⟨rfl, After.before B3.out HA.out⟩
end Go.Proofs.YteklcfimafplbaaDoor

/- The program's reader: a whole text. -/
namespace Go.Proofs.YteklcfimafplbaaDoor
open Go.RowKit
set_option linter.unusedVariables false
set_option maxRecDepth 100000

/-- What holds of where a reading stands. -/
def Jr.Ok (t : Jr.St) : Prop := (t.nx = .key → ∃ f r, t.op = f :: r ∧ f.kind = 7) ∧ (t.nx = .part → ∃ f r, t.op = f :: r)
theorem Jr.Ok.plain {t : Jr.St} (h : t.nx ≠ .key) (h1 : t.nx ≠ .part) : Jr.Ok t := ⟨fun e => absurd e h, fun e => absurd e h1⟩
theorem Jr.Ok.ahead {t : Jr.St} {f : Jr.Fr} {r : List Jr.Fr} (ho : t.op = f :: r) (h : t.nx = Jr.ahead (f :: r)) : Jr.Ok t := by
  have h : t.nx = if f.kind = 7 then Jr.Nx.key else Jr.Nx.value := h
  by_cases hk : f.kind = 7
  · exact ⟨fun _ => ⟨f, r, ho, hk⟩, fun _ => ⟨f, r, ho⟩⟩
  · rw [if_neg hk] at h
    exact Jr.Ok.plain (by rw [h]; decide) (by rw [h]; decide)
theorem ahead_part (op : List Jr.Fr) : Jr.ahead op ≠ .part := by
  unfold Jr.ahead
  split
  · decide
  · split <;> decide
/-- A step goes on. -/
def Jr.Less (t u : Jr.St) : Prop := t.at_ < u.at_ ∨ (t.at_ = u.at_ ∧ t.nx = .part ∧ u.nx ≠ .part)
def Jr.StepOk (t : Jr.St) (r : Jr.St ⊕ Jr.Res) : Prop := match r with
  | .inl u => Jr.Ok u ∧ Jr.Less t u
  | .inr (.err _ e) => e ≠ 0
  | .inr (.ok _) => True
theorem leaf_ok {t : Jr.St} {m : Nat} {k n : Int} {x : ByteArray} (hm : 0 < m) : Jr.StepOk t (.inl (Jr.leaf t m k n x)) :=
  ⟨Jr.Ok.plain (by simp [Jr.leaf]) (by simp [Jr.leaf]), .inl (by show t.at_ < t.at_ + m; omega)⟩
theorem go_ok {t : Jr.St} {m : Nat} {x : Jr.Nx} (hm : 0 < m) (h : x ≠ .key) (h1 : x ≠ .part) : Jr.StepOk t (.inl (Jr.go t m x)) :=
  ⟨Jr.Ok.plain h h1, .inl (by show t.at_ < t.at_ + m; omega)⟩
theorem cls_ok {t : Jr.St} {f : Jr.Fr} {r : List Jr.Fr} (ho : t.op = f :: r) : Jr.StepOk t (.inl (Jr.cls t)) := by
  unfold Jr.cls
  rw [ho]
  exact ⟨Jr.Ok.plain (by simp) (by simp), .inl (by show t.at_ < t.at_ + 1; omega)⟩
theorem err_ok {t : Jr.St} {a : Nat} {e : Int} (h : e ≠ 0) : Jr.StepOk t (.inr (.err a e)) := h
theorem word_ok (t : Jr.St) (W : List Nat) (k : Int) (h : 0 < W.length) : Jr.StepOk t (Jr.word t W k) := by
  unfold Jr.word
  split
  · exact leaf_ok h
  · exact err_ok (by decide)
theorem opn_ok (t : Jr.St) (k : Int) : Jr.StepOk t (.inl (Jr.opn t k)) :=
  ⟨⟨fun e => by simp [Jr.opn] at e, fun _ => ⟨_, _, rfl⟩⟩, .inl (by show t.at_ < t.at_ + 1; omega)⟩
theorem step_ok {t : Jr.St} (hb : ∀ x ∈ t.s, x < 256) : Jr.StepOk t (Jr.stepS t) := by
  unfold Jr.stepS
  split
  · unfold Jr.stepV
    split
    · exact err_ok (by decide)
    split
    · exact err_ok (by decide)
    split
    · exact err_ok (by decide)
    unfold Jr.valueB
    split
    · exact word_ok _ _ _ (by decide)
    split
    · exact word_ok _ _ _ (by decide)
    split
    · exact word_ok _ _ _ (by decide)
    split
    · unfold Jr.text
      split
      · rename_i h
        exact err_ok (by omega)
      · rename_i h
        obtain ⟨l, n, x, hu⟩ : ∃ l n x, Utf.unq t.s = (l, n, x) := ⟨_, _, _, rfl⟩
        rw [hu] at h ⊢
        have hx : x = 0 := by simpa using h
        subst hx
        have := unq_fine hb hu
        exact leaf_ok (show 0 < n by omega)
    split
    · exact opn_ok _ _
    split
    · exact opn_ok _ _
    unfold Jr.number
    split
    · exact err_ok (by decide)
    split
    · rename_i h _
      obtain ⟨n, b, hs⟩ : ∃ n b, Jr.scan t.s = (n, b) := ⟨_, _, rfl⟩
      rw [hs] at h ⊢
      have hb1 : b = true := by simpa using h
      subst hb1
      obtain ⟨_, h1, h2, _⟩ := Jr.scan_digits t.s n hs
      exact leaf_ok (show 0 < n by omega)
    · exact err_ok (by decide)
  · rename_i hp
    unfold Jr.stepP
    split
    · exact err_ok (by decide)
    · rename_i f r ho
      split
      · exact cls_ok ho
      · exact ⟨Jr.Ok.ahead ho (by rw [← ho]; rfl), .inr ⟨by show t.at_ = t.at_ + 0; omega, hp, ahead_part _⟩⟩
  · unfold Jr.stepK
    split
    · exact err_ok (by decide)
    · split
      · exact err_ok (by decide)
      split
      · rename_i h
        exact err_ok (by omega)
      split
      · exact err_ok (by decide)
      · rename_i _ h _
        obtain ⟨l, n, x, hu⟩ : ∃ l n x, Utf.unq t.s = (l, n, x) := ⟨_, _, _, rfl⟩
        rw [hu] at h ⊢
        have hx : x = 0 := by simpa using h
        subst hx
        have := unq_fine hb hu
        exact ⟨Jr.Ok.plain (by simp) (by simp), .inl (by show t.at_ < t.at_ + n; omega)⟩
  · unfold Jr.stepC
    split
    · exact err_ok (by decide)
    · exact go_ok (by decide) (by decide) (by decide)
  · unfold Jr.stepB
    split
    · split
      · trivial
      · exact err_ok (by decide)
    · rename_i f r ho
      split
      · exact cls_ok ho
      split
      · exact err_ok (by decide)
      · exact ⟨Jr.Ok.ahead ho (by rw [← ho]; rfl), .inl (by show t.at_ < t.at_ + 1; omega)⟩
/-- How far it is. -/
def mu (g N : Nat) (w : World) : Nat := 2 * (N - (match w.cell? ⟨g, 1, none⟩ with | some (.int _ z) => z.toNat | _ => 0)) + (match w.cell? ⟨g, 2, none⟩ with | some (.int _ z) => if z = 1 then 1 else 0 | _ => 0)
theorem mu_ps {w : World} {B g : Nat} {S : ByteArray} {t : Jr.St} {ov tv : Value} {O : List Op1} (h : PS w B g S t ov tv O) : mu g S.size w = 2 * (S.size - t.at_) + (if t.nx = .part then 1 else 0) := by
  obtain ⟨_, c1, c2, _⟩ := h.rp.lie
  unfold mu
  rw [c1, c2]
  simp only [Int.toNat_natCast]
  cases t.nx <;> simp [nxn]
theorem mu_less {w w' : World} {B g : Nat} {S : ByteArray} {t u : Jr.St} {ov tv ov' tv' : Value} {O O' : List Op1} (h : PS w B g S t ov tv O) (h' : PS w' B g S u ov' tv' O') (hl : Jr.Less (Jr.skip t) u) : mu g S.size w' < mu g S.size w := by
  rw [mu_ps h, mu_ps h']
  have := h'.le
  have e : t.at_ ≤ (Jr.skip t).at_ := by show t.at_ ≤ t.at_ + _; omega
  rcases hl with hl | ⟨h1, h2, h3⟩
  · split <;> split <;> omega
  · have h2 : t.nx = .part := h2
    rw [if_pos h2, if_neg h3]
    omega
/-- What Parse leaves. -/
def ParseEnd (w : World) (r : Jr.Res) (e : Ending) (w' : World) : Prop := match r with
  | .err a n => e = .returned (.tuple #[.slice none 0 0, .int .i64 (a : Nat), .int .i64 n]) ∧ Below w.heap.size w w'
  | .ok F => ∃ v, e = .returned (.tuple #[v, .int .i64 0, .int .i64 0]) ∧ OwnN w' w.heap.size v (Tp.flat F) ∧ Below w.heap.size w w'
def Parsed (w : World) (l : List Nat) (e : Ending) (w' : World) : Prop := ∃ r, Jr.Reads l r ∧ ParseEnd w r e w'
/-- The loop's. -/
def PInv (W : World) (g : Nat) (S : ByteArray) (w : World) (t : Jr.St) (ov tv : Value) (O : List Op1) : Prop := PS w W.heap.size g S t ov tv O ∧ Jr.Steps (Jr.init (bl S)) t ∧ Jr.Ok t ∧ Below W.heap.size W w
theorem PInv.next {W w w2 w3 : World} {g : Nat} {S : ByteArray} {t u : Jr.St} {ov tv : Value} {O : List Op1} (h : PInv W g S w t ov tv O) (hb : Below W.heap.size w w2) (ha : After w2 W.heap.size g S (.inl u) w3) (hs : Jr.stepS (Jr.skip t) = .inl u) : ∃ ov' tv' O', PInv W g S w3 u ov' tv' O' ∧ mu g S.size w3 < mu g S.size w := by
  obtain ⟨b, ov', tv', O', h1⟩ := ha
  have hk := step_ok (t := Jr.skip t) (by intro x hx; have := List.mem_of_mem_drop hx; rw [h.1.s] at this; exact left_byte S _ x this)
  rw [hs] at hk
  exact ⟨ov', tv', O', ⟨h1, h.2.1.trans (.one hs), hk.1, (h.2.2.2.trans hb).trans b⟩, mu_less h.1 h1 hk.2⟩
theorem PInv.skip {W w w2 : World} {g : Nat} {S : ByteArray} {t : Jr.St} {ov tv : Value} {O : List Op1} (h : PInv W g S w t ov tv O) (hw : Went w w2 g S (t.at_ + Jr.nb t.s) (nxn t.nx) t.key ov tv) (hl : t.at_ + Jr.nb t.s ≤ S.size) : PS w2 W.heap.size g S (Jr.skip t) ov tv O ∧ Below W.heap.size w w2 :=
  ⟨PS.went (u := Jr.skip t) h.1 hw rfl rfl (by show t.s.drop _ = left S (t.at_ + _); rw [h.1.s, left_drop]) hl, hw.below h.1.gB h.1.wB⟩
theorem PInv.fails {W w w2 w3 : World} {g a : Nat} {n : Int} {S : ByteArray} {t : Jr.St} {ov tv : Value} {O : List Op1} (hm : S.size ≤ 1048576) (h : PInv W g S w t ov tv O) (hb : Below W.heap.size w w2) (ha : Below W.heap.size w2 w3) (hs : Jr.stepS (Jr.skip t) = .inr (.err a n)) : Parsed W (bl S) (.returned (.tuple #[.slice none 0 0, .int .i64 (a : Nat), .int .i64 n])) w3 := by
  refine ⟨.err a n, ?_, rfl, (h.2.2.2.trans hb).trans ha⟩
  unfold Jr.Reads
  rw [bl_length, if_neg (by omega)]
  exact ⟨t, h.2.1, hs⟩
theorem PInv.ends {W w w2 w3 : World} {g : Nat} {S : ByteArray} {t : Jr.St} {ov tv tv' : Value} {O : List Op1} {F : Fo} (hm : S.size ≤ 1048576) (h : PInv W g S w t ov tv O) (hb : Below W.heap.size w w2) (ha : Below W.heap.size w2 w3) (ht : OwnN w3 W.heap.size tv' (Tp.flat F)) (hs : Jr.stepS (Jr.skip t) = .inr (.ok F)) : Parsed W (bl S) (.returned (.tuple #[tv', .int .i64 0, .int .i64 0])) w3 := by
  refine ⟨.ok F, ?_, tv', rfl, ht, (h.2.2.2.trans hb).trans ha⟩
  unfold Jr.Reads
  rw [bl_length, if_neg (by omega)]
  exact ⟨t, h.2.1, hs⟩
end Go.Proofs.YteklcfimafplbaaDoor

/- The program's Parse. -/
namespace Go.Proofs.YteklcfimafplbaaDoor
open Go.RowKit
set_option linter.unusedVariables false
set_option maxRecDepth 100000

theorem jr_start (w : World) (S : ByteArray) (T : Tab w) : PInv w w.heap.size S (w.alloc (.cells #[.string S, .int .i64 0, .int .i64 0, .string ⟨#[]⟩, .slice none 0 0, .slice none 0 0] 81)) (Jr.init (bl S)) (.slice none 0 0) (.slice none 0 0) [] := by
  refine ⟨⟨?_, Gn.Own.nil .., Gn.Own.nil .., rfl, Nat.le_refl _, by simp, ?_, Nat.zero_le _, Nat.zero_le _, Nat.zero_le _, T.size⟩, .refl _, Jr.Ok.plain (by simp [Jr.init]) (by simp [Jr.init]), up_new _ _⟩
  · exact Blk.new w 81 #[.string S, .int .i64 0, .int .i64 0, .string ⟨#[]⟩, .slice none 0 0, .slice none 0 0]
  · show bl S = left S 0
    unfold left
    rw [List.drop_zero]
theorem part_after {w3 : World} {B g : Nat} {S : ByteArray} {t : Jr.St} {ov tv : Value} {O : List Op1} (h : PS w3 B g S t ov tv O) (m : Nat) (x : Jr.Nx) : After w3 B g S (.inl (Jr.go t 0 x)) ((w3.drewN m).setCell ⟨g, 2, none⟩ (.int .i64 (nxn x))) := by
  have hw : Went w3 ((w3.drewN m).setCell ⟨g, 2, none⟩ (.int .i64 (nxn x))) g S t.at_ (nxn x) t.key ov tv := ⟨(h.rp.drew m).putN _, (touchD w3 _ m).trans (touchG _ g 2 _) (fun i hi => .inl hi)⟩
  exact ⟨hw.below h.gB h.wB, ov, tv, O, PS.went (u := Jr.go t 0 x) h hw rfl rfl (by show t.s.drop 0 = left S (t.at_ + 0); rw [List.drop_zero]; exact h.s) h.le⟩
set_option maxHeartbeats 8000000 in
theorem jparse {w : World} (S : ByteArray) (T : Tab w) (TE : TabE w) (hX : TxOk S) : Calls Tryd.prog 26 #[.string S] w fun e w' => Parsed w (bl S) e w' := by
  have HT := Lib.hid T
  have HTE := Lib.hid TE
  by_cases hm : S.size ≤ 1048576
  case neg =>
    have hm1 : (1048576 : Int) < S.size := by omega
    have HR : Hid (Parsed w (bl S) (.returned (.tuple #[.slice none 0 0, .int .i64 ((0 : Nat) : Int), .int .i64 5])) w) := Lib.hid ⟨.err 0 5, by unfold Jr.Reads; rw [bl_length, if_pos (by omega)], rfl, Below.refl _ _⟩
    go_enter Tryd.func26, Tryd.ntmps26
    go_wp2_with fail
    go_step3
    go_wp2_with fail
    try rw [Exit.noGoto_ret]
    go_ret3
    exact HR.out
  case pos =>
    have hm1 : ¬ (1048576 : Int) < S.size := by omega
    have HM := Lib.hid hm
    have HX := Lib.hid hX
    obtain ⟨w0, hw0⟩ : ∃ w0, w0 = w.alloc (.cells #[.string S, .int .i64 0, .int .i64 0, .string ⟨#[]⟩, .slice none 0 0, .slice none 0 0] 81) := ⟨_, rfl⟩
    have HI0 : Hid (PInv w w.heap.size S w0 (Jr.init (bl S)) (.slice none 0 0) (.slice none 0 0) []) := Lib.hid (by rw [hw0]; exact jr_start w S T)
    obtain ⟨g, hg⟩ : ∃ g, g = w.heap.size := ⟨_, rfl⟩
    have HG := Lib.hid hg
    have HW0 := Lib.hid hw0
    have HTB : Hid (TabAt w.heap.size) := Lib.hid T.size
    have HEB : Hid (TabEAt w.heap.size) := Lib.hid TE.size
    rw [← hg] at HI0
    clear hw0 hg T TE hX hm
    go_enter Tryd.func26, Tryd.ntmps26
    go_wp2_with fail
    go_step3
    go_wp2_with fail
    rw [← HW0.out, ← HG.out]
    go_step3
    go_wp2_with fail
    go_loopw [4] (fun iv wx => iv = .int .i64 0 ∧ ∃ t ov tv O, Hid (PInv w g S wx t ov tv O)) (fun _ wx => mu g S.size wx)
    case atStart => exact ⟨rfl, _, _, _, _, HI0⟩
    case round =>
      obtain ⟨rfl, t, ov, tv, O, HP⟩ := hrel
      have CB := Lib.hid (jskipBlanks HP.out.1.rp HP.out.1.le HM.out (Jr.nb t.s) (by rw [HP.out.1.s]))
      go_wp2_with fail
      ((with_reducible refine (CB.out).mono ?_); rintro e w2 ⟨rfl, hwt, hwl⟩)
      obtain ⟨h2, hb2⟩ := HP.out.skip hwt hwl
      have H2 := Lib.hid h2
      have HB2 := Lib.hid hb2
      have T2 := Lib.hid (HT.out.below HTB.out (HP.out.2.2.2.trans hb2))
      have E2 := Lib.hid (HTE.out.below HEB.out (HP.out.2.2.2.trans hb2))
      obtain ⟨_, c1, c2, _, c4, c5⟩ := h2.rp.lie
      obtain ⟨r, hr⟩ : ∃ r, Jr.stepS (Jr.skip t) = r := ⟨_, rfl⟩
      have HK : Hid (Jr.StepOk (Jr.skip t) r) := Lib.hid (by rw [← hr]; exact step_ok (by rw [h2.s]; exact left_byte S _))
      have HR := Lib.hid hr
      obtain ⟨x, hx⟩ : ∃ x, (Jr.skip t).nx = x := ⟨_, rfl⟩
      have D2 : Hid (w2.cell? ⟨g, 2, none⟩ = some (.int .i64 (nxn x))) := Lib.hid (by rw [← hx]; exact c2)
      have HN : Hid ((Jr.skip t).nx = x) := Lib.hid hx
      clear h2 hb2 hwt hwl hr CB hx c2
      cases x
      case value =>
        have d2 : w2.cell? ⟨g, 2, none⟩ = some (.int .i64 0) := D2.out
        have CV : Hid (Calls Tryd.prog 67 #[.pointer (some ⟨g, 0, none⟩)] w2 fun e w' => e = .returned (.int .i64 (code r)) ∧ After w2 w.heap.size g S r w') := Lib.hid (by
          have h := jtakeValue H2.out T2.out E2.out HEB.out HM.out HX.out
          have e : Jr.stepV (Jr.skip t) = r := by rw [← HR.out]; unfold Jr.stepS; rw [HN.out]
          rwa [e] at h)
        cases r with
        | inl u =>
          unfold code at CV
          go_wp2_with fail
          ((with_reducible refine (CV.out).mono ?_); rintro e w3 ⟨rfl, HA⟩)
          obtain ⟨ov', tv', O', HQ, hmu⟩ := HP.out.next HB2.out HA HR.out
          have HQ := Lib.hid HQ
          have HMU := Lib.hid hmu
          clear HA hmu CV
          go_wp2_with fail
          go_roundw
          case rel => exact ⟨rfl, _, _, _, _, HQ⟩
          case measure => exact HMU.out
        | inr q =>
          cases q with
          | ok F =>
            go_wp2_with fail
            ((with_reducible refine (CV.out).mono ?_); rintro e w3 ⟨rfl, HA⟩)
            exact absurd HA.2 id
          | err a n =>
            have hn0 : n ≠ 0 := HK.out
            have hn1 : (n != 0) = true := by simp; omega
            unfold code at CV
            go_wp2_with fail
            ((with_reducible refine (CV.out).mono ?_); rintro e w3 ⟨rfl, HA⟩)
            have HF := Lib.hid (fun m => HP.out.fails HM.out HB2.out (below_drewN HA.1 m) HR.out)
            obtain ⟨_, _, _, _, _, hrp⟩ := HA
            obtain ⟨_, d1, _⟩ := hrp.lie
            clear hrp CV hn0 c1 c4 c5
            go_wp2_with fail
            go_quiet (fail)
            go_wp2_with fail
            go_ret3
            exact HF.out nq
      case key =>
        have d2 : w2.cell? ⟨g, 2, none⟩ = some (.int .i64 2) := D2.out
        obtain ⟨f, rr, hop, hk7⟩ := HP.out.2.2.1.1 HN.out
        have CV : Hid (Calls Tryd.prog 70 #[.pointer (some ⟨g, 0, none⟩)] w2 fun e w' => e = .returned (.int .i64 (code r)) ∧ After w2 w.heap.size g S r w') := Lib.hid (by
          have h := jtakeKey H2.out hop hk7 HM.out HX.out T2.out
          have e : Jr.stepK (Jr.skip t) = r := by rw [← HR.out]; unfold Jr.stepS; rw [HN.out]
          rwa [e] at h)
        clear hop hk7
        cases r with
        | inl u =>
          unfold code at CV
          go_wp2_with fail
          ((with_reducible refine (CV.out).mono ?_); rintro e w3 ⟨rfl, HA⟩)
          obtain ⟨ov', tv', O', HQ, hmu⟩ := HP.out.next HB2.out HA HR.out
          have HQ := Lib.hid HQ
          have HMU := Lib.hid hmu
          clear HA hmu CV
          go_wp2_with fail
          go_roundw
          case rel => exact ⟨rfl, _, _, _, _, HQ⟩
          case measure => exact HMU.out
        | inr q =>
          cases q with
          | ok F =>
            go_wp2_with fail
            ((with_reducible refine (CV.out).mono ?_); rintro e w3 ⟨rfl, HA⟩)
            exact absurd HA.2 id
          | err a n =>
            have hn0 : n ≠ 0 := HK.out
            have hn1 : (n != 0) = true := by simp; omega
            unfold code at CV
            go_wp2_with fail
            ((with_reducible refine (CV.out).mono ?_); rintro e w3 ⟨rfl, HA⟩)
            have HF := Lib.hid (fun m => HP.out.fails HM.out HB2.out (below_drewN HA.1 m) HR.out)
            obtain ⟨_, _, _, _, _, hrp⟩ := HA
            obtain ⟨_, d1, _⟩ := hrp.lie
            clear hrp CV hn0 c1 c4 c5
            go_wp2_with fail
            go_quiet (fail)
            go_wp2_with fail
            go_ret3
            exact HF.out nq
      case colon =>
        have d2 : w2.cell? ⟨g, 2, none⟩ = some (.int .i64 3) := D2.out
        have CV : Hid (Calls Tryd.prog 71 #[.pointer (some ⟨g, 0, none⟩), .int .u8 58, .int .i64 0] w2 fun e w' => e = .returned (.int .i64 (code r)) ∧ After w2 w.heap.size g S r w') := Lib.hid (by
          have h := jtakeMark H2.out HM.out 58 (by decide) (by decide) .value
          have e : Jr.stepC (Jr.skip t) = r := by rw [← HR.out]; unfold Jr.stepS; rw [HN.out]
          unfold Jr.stepC at e
          rw [e] at h
          exact h)
        cases r with
        | inl u =>
          unfold code at CV
          go_wp2_with fail
          ((with_reducible refine (CV.out).mono ?_); rintro e w3 ⟨rfl, HA⟩)
          obtain ⟨ov', tv', O', HQ, hmu⟩ := HP.out.next HB2.out HA HR.out
          have HQ := Lib.hid HQ
          have HMU := Lib.hid hmu
          clear HA hmu CV
          go_wp2_with fail
          go_roundw
          case rel => exact ⟨rfl, _, _, _, _, HQ⟩
          case measure => exact HMU.out
        | inr q =>
          cases q with
          | ok F =>
            go_wp2_with fail
            ((with_reducible refine (CV.out).mono ?_); rintro e w3 ⟨rfl, HA⟩)
            exact absurd HA.2 id
          | err a n =>
            have hn0 : n ≠ 0 := HK.out
            have hn1 : (n != 0) = true := by simp; omega
            unfold code at CV
            go_wp2_with fail
            ((with_reducible refine (CV.out).mono ?_); rintro e w3 ⟨rfl, HA⟩)
            have HF := Lib.hid (fun m => HP.out.fails HM.out HB2.out (below_drewN HA.1 m) HR.out)
            obtain ⟨_, _, _, _, _, hrp⟩ := HA
            obtain ⟨_, d1, _⟩ := hrp.lie
            clear hrp CV hn0 c1 c4 c5
            go_wp2_with fail
            go_quiet (fail)
            go_wp2_with fail
            go_ret3
            exact HF.out nq
      case part =>
        have d2 : w2.cell? ⟨g, 2, none⟩ = some (.int .i64 1) := D2.out
        obtain ⟨f, rr, hop⟩ := HP.out.2.2.1.2 HN.out
        have hop : (Jr.skip t).op = f :: rr := hop
        have CE := Lib.hid (jtakeEnd H2.out hop HM.out)
        have HOP := Lib.hid hop
        have HS : Hid (r = if Jr.hd (Jr.skip t).s = Jr.endOf f.kind then .inl (Jr.cls (Jr.skip t)) else .inl (Jr.go (Jr.skip t) 0 (Jr.ahead (Jr.skip t).op))) := Lib.hid (by rw [← HR.out]; unfold Jr.stepS Jr.stepP; rw [HN.out, hop])
        clear hop
        go_wp2_with fail
        ((with_reducible refine (CE.out).mono ?_); rintro e w3 (⟨hy, rfl, HA⟩ | ⟨hy, rfl, h3, b3⟩))
        case inl =>
          have hs := HS.out
          rw [if_pos hy] at hs
          have HS1 := Lib.hid hs
          clear hs hy
          obtain ⟨ov', tv', O', HQ, hmu⟩ := HP.out.next HB2.out HA (HR.out.trans HS1.out)
          have HQ := Lib.hid HQ
          have HMU := Lib.hid hmu
          clear HA hmu CE
          go_wp2_with fail
          go_roundw
          case rel => exact ⟨rfl, _, _, _, _, HQ⟩
          case measure => exact HMU.out
        case inr =>
          have hs := HS.out
          rw [if_neg hy] at hs
          have HS1 := Lib.hid hs
          have CA := Lib.hid (jahead h3 HOP.out)
          have H3 := Lib.hid h3
          have B3 := Lib.hid b3
          clear hs hy CE h3 b3
          go_wp2_with fail
          ((with_reducible refine (CA.out).mono ?_); rintro e w4 ⟨rfl, m, rfl⟩)
          have f2 := Blk.frozen (H3.out.rp.drew m) 2
          obtain ⟨_, _, d3, _⟩ := (H3.out.rp.drew m).lie
          obtain ⟨ov', tv', O', HQ, hmu⟩ := HP.out.next HB2.out (After.before (B3.out.mono H2.out.wB) (part_after H3.out m (Jr.ahead (Jr.skip t).op))) (HR.out.trans HS1.out)
          have HQ := Lib.hid HQ
          have HMU := Lib.hid hmu
          clear hmu CA
          go_wp2_with fail
          go_roundw
          case rel => exact ⟨rfl, _, _, _, _, HQ⟩
          case measure => exact HMU.out
      case behind =>
        have d2 : w2.cell? ⟨g, 2, none⟩ = some (.int .i64 4) := D2.out
        obtain ⟨D, hD⟩ : ∃ D, (Jr.skip t).op.length = D := ⟨_, rfl⟩
        obtain ⟨oa, oc, rfl⟩ := rdv (Gn.Own.rd opL H2.out.opn) D (H2.out.ors.len.trans hD)
        cases hop : (Jr.skip t).op with
        | nil =>
          obtain rfl : D = 0 := by rw [← hD, hop]; rfl
          by_cases hl : (Jr.skip t).at_ < S.size
          · have hl1 : ((Jr.skip t).at_ : Int) < S.size := by omega
            have HS : Hid (Jr.stepS (Jr.skip t) = .inr (.err (Jr.skip t).at_ 70)) := Lib.hid (by
              unfold Jr.stepS Jr.stepB
              rw [HN.out, hop]
              simp only
              rw [if_neg (by rw [H2.out.s]; intro e; have := left_len S (Jr.skip t).at_; rw [e] at this; simp at this; omega)])
            have HF := Lib.hid (fun m => HP.out.fails HM.out HB2.out (below_drewN (Below.refl _ w2) m) HS.out)
            clear hD hop
            go_wp2_with fail
            go_quiet (fail)
            go_wp2_with fail
            go_ret3
            exact HF.out nq
          · have hl1 : ¬ ((Jr.skip t).at_ : Int) < S.size := by omega
            have HS : Hid (Jr.stepS (Jr.skip t) = .inr (.ok (Jr.skip t).root)) := Lib.hid (by
              unfold Jr.stepS Jr.stepB
              rw [HN.out, hop]
              simp only
              rw [if_pos (by rw [H2.out.s]; exact List.eq_nil_of_length_eq_zero (by rw [left_len]; omega))])
            have HF := Lib.hid (HP.out.ends (tv' := tv) HM.out HB2.out (Below.refl _ _) (by have := H2.out.tape; rw [hop] at this; exact this) HS.out)
            clear hD hop
            go_wp2_with fail
            go_ret3
            exact HF.out
        | cons f rr =>
          have hD0 : ((D : Int) == 0) = false := by rw [hop] at hD; simp at hD; simp; omega
          have CE := Lib.hid (jtakeEnd H2.out hop HM.out)
          have HOP := Lib.hid hop
          have HS : Hid (r = if Jr.hd (Jr.skip t).s = Jr.endOf f.kind then .inl (Jr.cls (Jr.skip t)) else if Jr.hd (Jr.skip t).s ≠ 44 then .inr (.err (Jr.skip t).at_ 70) else .inl (Jr.go (Jr.skip t) 1 (Jr.ahead (Jr.skip t).op))) := Lib.hid (by rw [← HR.out]; unfold Jr.stepS Jr.stepB; rw [HN.out, hop])
          clear hop hD
          go_wp2_with fail
          ((with_reducible refine (CE.out).mono ?_); rintro e w3 (⟨hy, rfl, HA⟩ | ⟨hy, rfl, h3, b3⟩))
          case inl =>
            have hs := HS.out
            rw [if_pos hy] at hs
            have HS1 := Lib.hid hs
            clear hs hy
            obtain ⟨ov', tv', O', HQ, hmu⟩ := HP.out.next HB2.out HA (HR.out.trans HS1.out)
            have HQ := Lib.hid HQ
            have HMU := Lib.hid hmu
            clear HA hmu CE
            go_wp2_with fail
            go_roundw
            case rel => exact ⟨rfl, _, _, _, _, HQ⟩
            case measure => exact HMU.out
          case inr =>
            have hs := HS.out
            rw [if_neg hy] at hs
            have CA := Lib.hid (jahead h3 HOP.out)
            have CV : Hid (∀ m, Calls Tryd.prog 71 #[.pointer (some ⟨g, 0, none⟩), .int .u8 44, .int .i64 (nxn (Jr.ahead (Jr.skip t).op))] (w3.drewN m) fun e w' => e = .returned (.int .i64 (code r)) ∧ After (w3.drewN m) w.heap.size g S r w') := Lib.hid (fun m => by
              have h := jtakeMark (h3.drew m) HM.out 44 (by decide) (by decide) (Jr.ahead (Jr.skip t).op)
              rw [← hs] at h
              exact h)
            have B3 := Lib.hid (fun m => HB2.out.trans ((below_drewN b3 m).mono H2.out.wB))
            clear hs hy CE h3 b3
            go_wp2_with fail
            ((with_reducible refine (CA.out).mono ?_); rintro e w4 ⟨rfl, m, rfl⟩)
            have CV := Lib.hid (CV.out m)
            have B4 := Lib.hid (B3.out m)
            cases r with
            | inl u =>
              unfold code at CV
              go_wp2_with fail
              ((with_reducible refine (CV.out).mono ?_); rintro e w5 ⟨rfl, HA⟩)
              obtain ⟨ov', tv', O', HQ, hmu⟩ := HP.out.next B4.out HA HR.out
              have HQ := Lib.hid HQ
              have HMU := Lib.hid hmu
              clear HA hmu CV
              go_wp2_with fail
              go_roundw
              case rel => exact ⟨rfl, _, _, _, _, HQ⟩
              case measure => exact HMU.out
            | inr q =>
              cases q with
              | ok F =>
                go_wp2_with fail
                ((with_reducible refine (CV.out).mono ?_); rintro e w5 ⟨rfl, HA⟩)
                exact absurd HA.2 id
              | err a n =>
                have hn0 : n ≠ 0 := HK.out
                have hn1 : (n != 0) = true := by simp; omega
                unfold code at CV
                go_wp2_with fail
                ((with_reducible refine (CV.out).mono ?_); rintro e w5 ⟨rfl, HA⟩)
                have HF := Lib.hid (fun m => HP.out.fails HM.out B4.out (below_drewN HA.1 m) HR.out)
                obtain ⟨_, _, _, _, _, hrp⟩ := HA
                obtain ⟨_, d1, _⟩ := hrp.lie
                clear hrp CV hn0 c1 c4 c5
                go_wp2_with fail
                go_quiet (fail)
                go_wp2_with fail
                go_ret3
                exact HF.out nq
end Go.Proofs.YteklcfimafplbaaDoor

/- The law's: rows that are compared; a text that reads, or fails. -/
namespace Go.Proofs.YteklcfimafplbaaDoor
open Go.RowKit
set_option linter.unusedVariables false
set_option maxRecDepth 100000

set_option maxHeartbeats 4000000 in
theorem jlawEq (v1 v2 : Value) (l1 l2 : List Nd) (w : World) (h1 : RdN w w.heap.size v1 l1) (h2 : RdN w w.heap.size v2 l2) (hl : l1.length ≤ 1000000) (b : Bool) (hb : b = true ↔ l1 = l2) :
    Calls Tryd.prog 72 #[v1, v2] w fun e w' => e = .returned (.bool b) ∧ Below w.heap.size w w' := by
  have HR1 := Lib.hid h1
  have HR2 := Lib.hid h2
  have HB := Lib.hid hb
  obtain ⟨a1, c1, rfl, _⟩ := Gn.Rd.form h1
  obtain ⟨a2, c2, rfl, _⟩ := Gn.Rd.form h2
  clear h1 h2 hb
  by_cases hn : l1.length = l2.length
  · have hn' : ((l1.length : Int) != (l2.length : Nat)) = false := by simp; omega
    go_enter Tryd.func72, Tryd.ntmps72
    go_wp2_with fail
    go_loopw [5] (fun i wr => ∃ k : Nat, k ≤ l1.length ∧ i = .int .i64 (k : Nat) ∧ Hid (∀ j, j < k → l1[j]? = l2[j]?) ∧ Hid (Below w.heap.size w wr)) (fun i _ => l1.length - (intOf i).toNat)
    case atStart => exact ⟨0, by omega, by rfl, Lib.hid (fun j hj => by omega), Lib.hid (Below.refl _ _)⟩
    case round =>
      obtain ⟨k, hk, rfl, HE, HU⟩ := hrel
      by_cases hlt : k < l1.length
      · have hlt1 : (k : Int) < l1.length := by omega
        have hlt2 : (k : Int) < l2.length := by omega
        obtain ⟨x, hx⟩ : ∃ x, l1[k]? = some x := ⟨_, List.getElem?_eq_getElem hlt⟩
        obtain ⟨y, hy⟩ : ∃ y, l2[k]? = some y := ⟨_, List.getElem?_eq_getElem (by omega)⟩
        obtain ⟨b1, o1, rfl, p0, p1, p2, p3, p4⟩ := rdN_cells HR1.out HU.out.drew hx
        obtain ⟨b2, o2, rfl, q0, q1, q2, q3, q4⟩ := rdN_cells HR2.out HU.out.drew hy
        have heq := fun w => run_eqn x y w
        unfold ndv at heq
        have HU2 := Lib.hid HU.out.drew
        by_cases hxy : x = y
        · have e1 : eqn x y = true := (eqn_iff x y).2 hxy
          rw [e1] at heq
          have HE2 := Lib.hid (show ∀ j, j < k + 1 → l1[j]? = l2[j]? from fun j hj => by
            rcases Nat.lt_succ_iff_lt_or_eq.1 hj with h | rfl
            · exact HE.out j h
            · rw [hx, hy, hxy])
          clear hx hy hxy e1 hn
          go_wp2_with fail
          go_region
          all_goals
            go_wp2_with fail
            go_roundw
            case rel => exact ⟨k + 1, by omega, by go_num, HE2, HU2⟩
            case measure => simp [intOf]; omega
        · have e1 : eqn x y = false := by
            cases he : eqn x y with
            | false => rfl
            | true => exact absurd ((eqn_iff x y).1 he) hxy
          rw [e1] at heq
          obtain rfl : b = false := false_of HB.out (fun e => hxy (by rw [e, hy] at hx; injection hx with e; exact e.symm))
          clear hx hy hxy e1 hn
          go_wp2_with fail
          go_region
          all_goals
            go_wp2_with fail
            go_ret
            exact ⟨rfl, HU2.out⟩
      · have hlt1 : ¬ (k : Int) < l1.length := by omega
        have hbt : b = true := HB.out.2 (List.ext_getElem? fun j => by
          rcases Nat.lt_or_ge j k with h | h
          · exact HE.out j h
          · rw [List.getElem?_eq_none (by omega), List.getElem?_eq_none (by omega)])
        subst hbt
        clear hn
        go_wp2_with fail
        go_ret
        exact ⟨rfl, HU.out⟩
  · have hn' : ((l1.length : Int) != (l2.length : Nat)) = true := by simp; omega
    obtain rfl : b = false := false_of HB.out (fun e => hn (by rw [e]))
    clear hn
    go_enter Tryd.func72, Tryd.ntmps72
    go_wp2_with fail
    go_ret
    exact ⟨rfl, Below.refl _ _⟩
theorem parsed_only {w w' : World} {l : List Nat} {e : Ending} {r : Jr.Res} (h : Parsed w l e w') (hr : Jr.Reads l r) : ParseEnd w r e w' := by
  obtain ⟨q, h1, h2⟩ := h
  rwa [h1.only hr] at h2
set_option maxHeartbeats 2000000 in
theorem jfails (s : ByteArray) (a : Nat) (n : Int) (w : World) (T : Tab w) (TE : TabE w) (hX : TxOk s) (hr : Jr.Reads (bl s) (.err a n)) :
    Calls Tryd.prog 33 #[.string s, .int .i64 (a : Nat), .int .i64 n] w fun e w' => e = .returned (.bool true) ∧ Below w.heap.size w w' := by
  have C := Lib.hid (jparse s T TE hX)
  have HR := Lib.hid hr
  have q1 : ((a : Int) == a) = true := by simp
  have q2 : ((n : Int) == n) = true := by simp
  clear T TE hX hr
  go_enter Tryd.func33, Tryd.ntmps33
  go_wp2_with fail
  ((with_reducible refine (C.out).mono ?_); rintro e w2 hp)
  obtain ⟨rfl, hb⟩ := parsed_only hp HR.out
  have HB := Lib.hid hb
  clear hp hb C
  go_wp2_with fail
  go_ret
  exact ⟨rfl, HB.out⟩
set_option maxHeartbeats 4000000 in
theorem jreads (s : ByteArray) (F : Fo) (v : Value) (w : World) (T : Tab w) (TE : TabE w) (hX : TxOk s) (hr : Jr.Reads (bl s) (.ok F)) (hv : RdN w w.heap.size v (Tp.flat F)) (h0 : 0 < (Tp.flat F).length) (h1 : (Tp.flat F).length ≤ 1000000) :
    Calls Tryd.prog 28 #[.string s, v] w fun e w' => e = .returned (.bool true) ∧ Below w.heap.size w w' := by
  have C := Lib.hid (jparse s T TE hX)
  have HR := Lib.hid hr
  have HV := Lib.hid hv
  obtain ⟨N, hN⟩ : ∃ N, (Tp.flat F).length = N := ⟨_, rfl⟩
  obtain ⟨va, vc, rfl⟩ := rdv hv N hN
  have hN0 : (0 : Int) < N := by omega
  have HN := Lib.hid h1
  clear T TE hX hr hv h0 h1 hN
  go_enter Tryd.func28, Tryd.ntmps28
  go_wp2_with fail
  ((with_reducible refine (C.out).mono ?_); rintro e w2 hp)
  obtain ⟨u, rfl, ho, hb⟩ := parsed_only hp HR.out
  have HB := Lib.hid hb
  have CE := Lib.hid (jlawEq u _ _ _ w2 (Gn.Own.rd ndL ho) (Gn.Rd.later HV.out hb) HN.out true ⟨fun _ => rfl, fun _ => rfl⟩)
  clear hp hb ho C
  go_wp2_with fail
  ((with_reducible refine (CE.out).mono ?_); rintro e w3 ⟨rfl, hb⟩)
  have HB3 := Lib.hid (up HB.out hb)
  clear hb CE
  go_wp2_with fail
  go_ret
  exact ⟨rfl, HB3.out⟩
end Go.Proofs.YteklcfimafplbaaDoor

/- The law's examples. -/
namespace Go.Proofs.YteklcfimafplbaaDoor
open Go.RowKit
set_option linter.unusedVariables false
set_option maxRecDepth 100000

theorem reads_lit (X : ByteArray) (l : List Nat) (r : Jr.Res) (hl : bl X = l) (hs : l.length ≤ 1000) (h : Jr.run 60 (Jr.init l) = some r) : Jr.Reads (bl X) r := by
  unfold Jr.Reads
  rw [hl, if_neg (by omega)]
  exact Jr.run_ends 60 _ _ h
theorem jx0 : Jr.Reads (bl ⟨#[48, 49]⟩) (.err 1 70) := reads_lit _ [48, 49] _ (by rfl) (by decide) (by kernel_rfl)
theorem jx1 : Jr.Reads (bl ⟨#[49, 46, 53]⟩) (.err 0 73) := reads_lit _ [49, 46, 53] _ (by rfl) (by decide) (by kernel_rfl)
theorem jx2 : Jr.Reads (bl ⟨#[49, 46]⟩) (.err 2 70) := reads_lit _ [49, 46] _ (by rfl) (by decide) (by kernel_rfl)
theorem jx3 : Jr.Reads (bl ⟨#[45]⟩) (.err 1 70) := reads_lit _ [45] _ (by rfl) (by decide) (by kernel_rfl)
theorem jx4 : Jr.Reads (bl ⟨#[49, 101, 43, 51]⟩) (.err 0 73) := reads_lit _ [49, 101, 43, 51] _ (by rfl) (by decide) (by kernel_rfl)
theorem jx5 : Jr.Reads (bl ⟨#[57, 50, 50, 51, 51, 55, 50, 48, 51, 54, 56, 53, 52, 55, 55, 53, 56, 48, 56]⟩) (.err 0 73) := reads_lit _ [57, 50, 50, 51, 51, 55, 50, 48, 51, 54, 56, 53, 52, 55, 55, 53, 56, 48, 56] _ (by rfl) (by decide) (by kernel_rfl)
theorem jx6 : Jr.Reads (bl ⟨#[91, 49, 44, 93]⟩) (.err 3 70) := reads_lit _ [91, 49, 44, 93] _ (by rfl) (by decide) (by kernel_rfl)
theorem jx7 : Jr.Reads (bl ⟨#[123, 34, 97, 34, 58, 49, 44, 34, 97, 34, 58, 50, 125]⟩) (.err 7 71) := reads_lit _ [123, 34, 97, 34, 58, 49, 44, 34, 97, 34, 58, 50, 125] _ (by rfl) (by decide) (by kernel_rfl)
theorem jx8 : Jr.Reads (bl ⟨#[91, 34, 92, 120, 34, 93]⟩) (.err 1 41) := reads_lit _ [91, 34, 92, 120, 34, 93] _ (by rfl) (by decide) (by kernel_rfl)
theorem jx9 : Jr.Reads (bl ⟨#[116, 114, 117]⟩) (.err 3 70) := reads_lit _ [116, 114, 117] _ (by rfl) (by decide) (by kernel_rfl)
theorem jx10 : Jr.Reads (bl ⟨#[]⟩) (.err 0 70) := reads_lit _ [] _ (by rfl) (by decide) (by kernel_rfl)
theorem jx11 : Jr.Reads (bl ⟨#[91, 49, 93, 32, 50]⟩) (.err 4 70) := reads_lit _ [91, 49, 93, 32, 50] _ (by rfl) (by decide) (by kernel_rfl)
theorem jx12 : Jr.Reads (bl ⟨#[123, 34, 97, 34, 32, 49, 125]⟩) (.err 5 70) := reads_lit _ [123, 34, 97, 34, 32, 49, 125] _ (by rfl) (by decide) (by kernel_rfl)
theorem jx13 : Jr.Reads (bl ⟨#[91, 91, 49, 46, 48, 120]⟩) (.err 2 73) := reads_lit _ [91, 91, 49, 46, 48, 120] _ (by rfl) (by decide) (by kernel_rfl)
theorem jx14 : Jr.Reads (bl ⟨#[91, 49, 32, 120]⟩) (.err 3 70) := reads_lit _ [91, 49, 32, 120] _ (by rfl) (by decide) (by kernel_rfl)
theorem jx15 : Jr.Reads (bl ⟨#[34, 97]⟩) (.err 0 3) := reads_lit _ [34, 97] _ (by rfl) (by decide) (by kernel_rfl)
def jwant : Fo := .node 7 ⟨#[]⟩ 0 ⟨#[]⟩ (.node 6 ⟨#[97]⟩ 0 ⟨#[]⟩ (.node 4 ⟨#[]⟩ 1 ⟨#[]⟩ .nil (.node 4 ⟨#[]⟩ (-20) ⟨#[]⟩ .nil (.node 5 ⟨#[]⟩ 0 ⟨#[120, 10]⟩ .nil .nil))) (.node 1 ⟨#[98]⟩ 0 ⟨#[]⟩ .nil .nil)) .nil
theorem jxw : Jr.Reads (bl ⟨#[123, 34, 97, 34, 58, 32, 91, 49, 44, 32, 45, 50, 48, 44, 32, 34, 120, 92, 110, 34, 93, 44, 32, 34, 98, 34, 58, 110, 117, 108, 108, 125]⟩) (.ok jwant) := reads_lit _ [123, 34, 97, 34, 58, 32, 91, 49, 44, 32, 45, 50, 48, 44, 32, 34, 120, 92, 110, 34, 93, 44, 32, 34, 98, 34, 58, 110, 117, 108, 108, 125] _ (by rfl) (by decide) (by kernel_rfl)
theorem jxn : Jr.Reads (bl ⟨#[45, 57, 50, 50, 51, 51, 55, 50, 48, 51, 54, 56, 53, 52, 55, 55, 53, 56, 48, 56]⟩) (.ok (Jr.nd1 4 ⟨#[]⟩ (-9223372036854775808) ⟨#[]⟩ .nil)) := reads_lit _ [45, 57, 50, 50, 51, 51, 55, 50, 48, 51, 54, 56, 53, 52, 55, 55, 53, 56, 48, 56] _ (by rfl) (by decide) (by kernel_rfl)
end Go.Proofs.YteklcfimafplbaaDoor

/- The law's examples, walked. -/
namespace Go.Proofs.YteklcfimafplbaaDoor
open Go.RowKit
set_option linter.unusedVariables false
set_option maxRecDepth 100000

theorem TabE.drewN {w : World} (h : TabE w) (m : Nat) : TabE (w.drewN m) := h.later (below_drewN (Below.refl _ _) m)
set_option maxHeartbeats 16000000 in
theorem jworks (w : World) (T : Tab w) (TE : TabE w) : Calls Tryd.prog 27 #[] w fun e w' => e = .returned (.bool true) ∧ Below w.heap.size w w' := by
  obtain ⟨w0, hw0⟩ : ∃ w0, w0 = w.alloc (.cells (Gn.cells ndc (Tp.flat jwant)).toArray 36) := ⟨_, rfl⟩
  have b0 : Below w.heap.size w w0 := by rw [hw0]; exact up_new _ _
  have HV : Hid (RdN w0 w0.heap.size (.slice (some ⟨w.heap.size, 0, none⟩) 6 6) (Tp.flat jwant)) := Lib.hid (by rw [hw0]; exact Gn.Own.rd ndL (Gn.Own.lit (T := 36) ndL w w.heap.size (Tp.flat jwant) _ 6 6 rfl rfl rfl (by decide) (Nat.le_refl _)))
  have hc : (Gn.cells ndc (Tp.flat jwant)).toArray = #[.int .i64 7, .string ⟨#[]⟩, .int .i64 0, .string ⟨#[]⟩, .int .i64 6, .int .i64 6, .string ⟨#[97]⟩, .int .i64 0, .string ⟨#[]⟩, .int .i64 4, .int .i64 4, .string ⟨#[]⟩, .int .i64 1, .string ⟨#[]⟩, .int .i64 1, .int .i64 4, .string ⟨#[]⟩, .int .i64 (-20), .string ⟨#[]⟩, .int .i64 1, .int .i64 5, .string ⟨#[]⟩, .int .i64 0, .string ⟨#[120, 10]⟩, .int .i64 1, .int .i64 1, .string ⟨#[98]⟩, .int .i64 0, .string ⟨#[]⟩, .int .i64 1] := by rfl
  rw [hc] at hw0
  have HW0 := Lib.hid hw0
  have HB := Lib.hid b0
  have HT := Lib.hid (T.later b0)
  have HTE := Lib.hid (TE.later b0)
  obtain ⟨g, hg⟩ : ∃ g, g = w.heap.size := ⟨_, rfl⟩
  rw [← hg] at HV
  have HG := Lib.hid hg
  clear T TE b0 hc hw0 hg
  go_enter Tryd.func27, Tryd.ntmps27
  go_wp2_with fail
  rw [← HW0.out, ← HG.out]
  have CF := Lib.hid (show Calls Tryd.prog 28 #[.string ⟨#[123, 34, 97, 34, 58, 32, 91, 49, 44, 32, 45, 50, 48, 44, 32, 34, 120, 92, 110, 34, 93, 44, 32, 34, 98, 34, 58, 110, 117, 108, 108, 125]⟩, .slice (some ⟨g, 0, none⟩) 6 6] w0 fun e w' => e = .returned (.bool true) ∧ Below w0.heap.size w0 w' from jreads _ jwant _ w0 HT.out HTE.out (.inl (by decide)) jxw HV.out (by decide) (by decide))
  go_wp2_with fail
  ((with_reducible refine (CF.out).mono ?_); rintro e w1 ⟨rfl, b⟩)
  replace HB := Lib.hid (up HB.out b)
  replace HT := Lib.hid (HT.out.later b)
  replace HTE := Lib.hid (HTE.out.later b)
  clear b CF
  have CF := Lib.hid (show Calls Tryd.prog 33 #[.string ⟨#[48, 49]⟩, .int .i64 1, .int .i64 70] w1 fun e w' => e = .returned (.bool true) ∧ Below w1.heap.size w1 w' from jfails _ 1 70 w1 HT.out HTE.out (.inl (by decide)) jx0)
  go_wp2_with fail
  ((with_reducible refine (CF.out).mono ?_); rintro e w2 ⟨rfl, b⟩)
  replace HB := Lib.hid (up HB.out b)
  replace HT := Lib.hid (HT.out.later b)
  replace HTE := Lib.hid (HTE.out.later b)
  clear b CF
  have CF := Lib.hid (show Calls Tryd.prog 33 #[.string ⟨#[49, 46, 53]⟩, .int .i64 0, .int .i64 73] w2 fun e w' => e = .returned (.bool true) ∧ Below w2.heap.size w2 w' from jfails _ 0 73 w2 HT.out HTE.out (.inl (by decide)) jx1)
  go_wp2_with fail
  ((with_reducible refine (CF.out).mono ?_); rintro e w3 ⟨rfl, b⟩)
  replace HB := Lib.hid (up HB.out b)
  replace HT := Lib.hid (HT.out.later b)
  replace HTE := Lib.hid (HTE.out.later b)
  clear b CF
  have CF := Lib.hid (show Calls Tryd.prog 33 #[.string ⟨#[49, 46]⟩, .int .i64 2, .int .i64 70] w3 fun e w' => e = .returned (.bool true) ∧ Below w3.heap.size w3 w' from jfails _ 2 70 w3 HT.out HTE.out (.inl (by decide)) jx2)
  go_wp2_with fail
  ((with_reducible refine (CF.out).mono ?_); rintro e w4 ⟨rfl, b⟩)
  replace HB := Lib.hid (up HB.out b)
  replace HT := Lib.hid (HT.out.later b)
  replace HTE := Lib.hid (HTE.out.later b)
  clear b CF
  have CF := Lib.hid (show Calls Tryd.prog 33 #[.string ⟨#[45]⟩, .int .i64 1, .int .i64 70] w4 fun e w' => e = .returned (.bool true) ∧ Below w4.heap.size w4 w' from jfails _ 1 70 w4 HT.out HTE.out (.inl (by decide)) jx3)
  go_wp2_with fail
  ((with_reducible refine (CF.out).mono ?_); rintro e w5 ⟨rfl, b⟩)
  replace HB := Lib.hid (up HB.out b)
  replace HT := Lib.hid (HT.out.later b)
  replace HTE := Lib.hid (HTE.out.later b)
  clear b CF
  have CF := Lib.hid (show Calls Tryd.prog 33 #[.string ⟨#[49, 101, 43, 51]⟩, .int .i64 0, .int .i64 73] w5 fun e w' => e = .returned (.bool true) ∧ Below w5.heap.size w5 w' from jfails _ 0 73 w5 HT.out HTE.out (.inl (by decide)) jx4)
  go_wp2_with fail
  ((with_reducible refine (CF.out).mono ?_); rintro e w6 ⟨rfl, b⟩)
  replace HB := Lib.hid (up HB.out b)
  replace HT := Lib.hid (HT.out.later b)
  replace HTE := Lib.hid (HTE.out.later b)
  clear b CF
  have CF := Lib.hid (show Calls Tryd.prog 33 #[.string ⟨#[57, 50, 50, 51, 51, 55, 50, 48, 51, 54, 56, 53, 52, 55, 55, 53, 56, 48, 56]⟩, .int .i64 0, .int .i64 73] w6 fun e w' => e = .returned (.bool true) ∧ Below w6.heap.size w6 w' from jfails _ 0 73 w6 HT.out HTE.out (.inl (by decide)) jx5)
  go_wp2_with fail
  ((with_reducible refine (CF.out).mono ?_); rintro e w7 ⟨rfl, b⟩)
  replace HB := Lib.hid (up HB.out b)
  replace HT := Lib.hid (HT.out.later b)
  replace HTE := Lib.hid (HTE.out.later b)
  clear b CF
  have CN := Lib.hid (mkNum (-9223372036854775808) w7)
  go_wp2_with fail
  ((with_reducible refine (CN.out).mono ?_); rintro e w8 ⟨v, rfl, ho, b⟩)
  have HN := Lib.hid (Gn.Own.rd ndL ho)
  obtain ⟨va, vc, rfl⟩ := rdv HN.out 1 rfl
  replace HB := Lib.hid (up HB.out b)
  replace HT := Lib.hid (HT.out.later b)
  replace HTE := Lib.hid (HTE.out.later b)
  clear b CN ho
  have CF := Lib.hid (show Calls Tryd.prog 28 #[.string ⟨#[45, 57, 50, 50, 51, 51, 55, 50, 48, 51, 54, 56, 53, 52, 55, 55, 53, 56, 48, 56]⟩, .slice va 1 vc] w8 fun e w' => e = .returned (.bool true) ∧ Below w8.heap.size w8 w' from jreads _ (Jr.nd1 4 ⟨#[]⟩ (-9223372036854775808) ⟨#[]⟩ .nil) _ w8 HT.out HTE.out (.inl (by decide)) jxn HN.out (by decide) (by decide))
  go_wp2_with fail
  ((with_reducible refine (CF.out).mono ?_); rintro e w9 ⟨rfl, b⟩)
  replace HB := Lib.hid (up HB.out b)
  replace HT := Lib.hid (HT.out.later b)
  replace HTE := Lib.hid (HTE.out.later b)
  clear b CF
  have CF := Lib.hid (show Calls Tryd.prog 33 #[.string ⟨#[91, 49, 44, 93]⟩, .int .i64 3, .int .i64 70] w9 fun e w' => e = .returned (.bool true) ∧ Below w9.heap.size w9 w' from jfails _ 3 70 w9 HT.out HTE.out (.inl (by decide)) jx6)
  go_wp2_with fail
  ((with_reducible refine (CF.out).mono ?_); rintro e w10 ⟨rfl, b⟩)
  replace HB := Lib.hid (up HB.out b)
  replace HT := Lib.hid (HT.out.later b)
  replace HTE := Lib.hid (HTE.out.later b)
  clear b CF
  have CF := Lib.hid (show Calls Tryd.prog 33 #[.string ⟨#[123, 34, 97, 34, 58, 49, 44, 34, 97, 34, 58, 50, 125]⟩, .int .i64 7, .int .i64 71] w10 fun e w' => e = .returned (.bool true) ∧ Below w10.heap.size w10 w' from jfails _ 7 71 w10 HT.out HTE.out (.inl (by decide)) jx7)
  go_wp2_with fail
  ((with_reducible refine (CF.out).mono ?_); rintro e w11 ⟨rfl, b⟩)
  replace HB := Lib.hid (up HB.out b)
  replace HT := Lib.hid (HT.out.later b)
  replace HTE := Lib.hid (HTE.out.later b)
  clear b CF
  have CF := Lib.hid (show Calls Tryd.prog 33 #[.string ⟨#[91, 34, 92, 120, 34, 93]⟩, .int .i64 1, .int .i64 41] w11 fun e w' => e = .returned (.bool true) ∧ Below w11.heap.size w11 w' from jfails _ 1 41 w11 HT.out HTE.out (.inl (by decide)) jx8)
  go_wp2_with fail
  ((with_reducible refine (CF.out).mono ?_); rintro e w12 ⟨rfl, b⟩)
  replace HB := Lib.hid (up HB.out b)
  replace HT := Lib.hid (HT.out.later b)
  replace HTE := Lib.hid (HTE.out.later b)
  clear b CF
  have CF := Lib.hid (show Calls Tryd.prog 33 #[.string ⟨#[116, 114, 117]⟩, .int .i64 3, .int .i64 70] w12 fun e w' => e = .returned (.bool true) ∧ Below w12.heap.size w12 w' from jfails _ 3 70 w12 HT.out HTE.out (.inl (by decide)) jx9)
  go_wp2_with fail
  ((with_reducible refine (CF.out).mono ?_); rintro e w13 ⟨rfl, b⟩)
  replace HB := Lib.hid (up HB.out b)
  replace HT := Lib.hid (HT.out.later b)
  replace HTE := Lib.hid (HTE.out.later b)
  clear b CF
  have CF := Lib.hid (show Calls Tryd.prog 33 #[.string ⟨#[]⟩, .int .i64 0, .int .i64 70] w13 fun e w' => e = .returned (.bool true) ∧ Below w13.heap.size w13 w' from jfails _ 0 70 w13 HT.out HTE.out (.inl (by decide)) jx10)
  go_wp2_with fail
  ((with_reducible refine (CF.out).mono ?_); rintro e w14 ⟨rfl, b⟩)
  replace HB := Lib.hid (up HB.out b)
  replace HT := Lib.hid (HT.out.later b)
  replace HTE := Lib.hid (HTE.out.later b)
  clear b CF
  have CF := Lib.hid (show Calls Tryd.prog 33 #[.string ⟨#[91, 49, 93, 32, 50]⟩, .int .i64 4, .int .i64 70] w14 fun e w' => e = .returned (.bool true) ∧ Below w14.heap.size w14 w' from jfails _ 4 70 w14 HT.out HTE.out (.inl (by decide)) jx11)
  go_wp2_with fail
  ((with_reducible refine (CF.out).mono ?_); rintro e w15 ⟨rfl, b⟩)
  replace HB := Lib.hid (up HB.out b)
  replace HT := Lib.hid (HT.out.later b)
  replace HTE := Lib.hid (HTE.out.later b)
  clear b CF
  have CF := Lib.hid (show Calls Tryd.prog 33 #[.string ⟨#[123, 34, 97, 34, 32, 49, 125]⟩, .int .i64 5, .int .i64 70] w15 fun e w' => e = .returned (.bool true) ∧ Below w15.heap.size w15 w' from jfails _ 5 70 w15 HT.out HTE.out (.inl (by decide)) jx12)
  go_wp2_with fail
  ((with_reducible refine (CF.out).mono ?_); rintro e w16 ⟨rfl, b⟩)
  replace HB := Lib.hid (up HB.out b)
  replace HT := Lib.hid (HT.out.later b)
  replace HTE := Lib.hid (HTE.out.later b)
  clear b CF
  have CF := Lib.hid (show Calls Tryd.prog 33 #[.string ⟨#[91, 91, 49, 46, 48, 120]⟩, .int .i64 2, .int .i64 73] w16 fun e w' => e = .returned (.bool true) ∧ Below w16.heap.size w16 w' from jfails _ 2 73 w16 HT.out HTE.out (.inl (by decide)) jx13)
  go_wp2_with fail
  ((with_reducible refine (CF.out).mono ?_); rintro e w17 ⟨rfl, b⟩)
  replace HB := Lib.hid (up HB.out b)
  replace HT := Lib.hid (HT.out.later b)
  replace HTE := Lib.hid (HTE.out.later b)
  clear b CF
  have CF := Lib.hid (show Calls Tryd.prog 33 #[.string ⟨#[91, 49, 32, 120]⟩, .int .i64 3, .int .i64 70] w17 fun e w' => e = .returned (.bool true) ∧ Below w17.heap.size w17 w' from jfails _ 3 70 w17 HT.out HTE.out (.inl (by decide)) jx14)
  go_wp2_with fail
  ((with_reducible refine (CF.out).mono ?_); rintro e w18 ⟨rfl, b⟩)
  replace HB := Lib.hid (up HB.out b)
  replace HT := Lib.hid (HT.out.later b)
  replace HTE := Lib.hid (HTE.out.later b)
  clear b CF
  have CF := Lib.hid (show Calls Tryd.prog 33 #[.string ⟨#[34, 97]⟩, .int .i64 0, .int .i64 3] w18 fun e w' => e = .returned (.bool true) ∧ Below w18.heap.size w18 w' from jfails _ 0 3 w18 HT.out HTE.out (.inl (by decide)) jx15)
  go_wp2_with fail
  ((with_reducible refine (CF.out).mono ?_); rintro e w19 ⟨rfl, b⟩)
  replace HB := Lib.hid (up HB.out b)
  replace HT := Lib.hid (HT.out.later b)
  replace HTE := Lib.hid (HTE.out.later b)
  clear b CF
  go_wp2_with fail
  go_ret
  exact ⟨rfl, HB.out⟩
end Go.Proofs.YteklcfimafplbaaDoor

/- What is read may be: plain. -/
namespace Go.Proofs.YteklcfimafplbaaDoor
open Go.RowKit
set_option linter.unusedVariables false
set_option maxRecDepth 100000

/-- A value's key fits where it comes. -/
def Jr.Kfit : List Jr.Fr → ByteArray → Prop
  | [], y => y.size = 0
  | f :: _, y => (f.kind = 6 ∧ y.size = 0) ∨ (f.kind = 7 ∧ f.had = Tp.keys f.done ++ [y] ∧ Utf.vld (bl y) = true ∧ y ∉ Tp.keys f.done)
/-- No key is waiting. -/
def Jr.Rest : List Jr.Fr → Prop
  | [] => True
  | f :: _ => f.kind = 7 → f.had = Tp.keys f.done
def Jr.OpOk : List Jr.Fr → Prop
  | [] => True
  | f :: r => (f.kind = 6 ∨ f.kind = 7) ∧ Tp.good f.done ∧ Tp.ko f.kind (Tp.keys f.done) ∧ r.length + 1 + Tp.dep f.done ≤ 64 ∧ Jr.Kfit r f.key ∧ Jr.OpOk r
/-- A whole value. -/
def Jr.Whole (R : Fo) : Prop := (∃ k y n s c, R = .node k y n s c .nil ∧ y.size = 0) ∧ Tp.good R ∧ Tp.dep R ≤ 64
/-- Texts and numbers fit. -/
def Jr.Fit (x : Nd) : Prop := x.key.size ≤ maxLen ∧ (-9223372036854775808 ≤ x.n ∧ x.n ≤ 9223372036854775807) ∧ x.s.size ≤ maxLen
structure Jr.MInv (N : Nat) (t : Jr.St) : Prop where
  op : Jr.OpOk t.op
  fit : ∀ x ∈ Jr.zf id t.op t.root, Jr.Fit x
  key : t.key.size ≤ maxLen
  at_ : t.at_ + t.s.length = N
  byte : ∀ x ∈ t.s, x < 256
  cnt : Jr.cnt t.op t.root ≤ 4000
  nx : match t.nx with
    | .value => Jr.Kfit t.op t.key ∧ t.root = .nil
    | .part => t.op ≠ [] ∧ t.key.size = 0 ∧ Jr.Rest t.op ∧ t.root = .nil
    | .key => t.op ≠ [] ∧ Jr.Rest t.op ∧ t.root = .nil
    | .colon => t.op ≠ [] ∧ Jr.Kfit t.op t.key ∧ t.root = .nil
    | .behind => t.key.size = 0 ∧ Jr.Rest t.op ∧ (t.op = [] → Jr.Whole t.root) ∧ (t.op ≠ [] → t.root = .nil)
theorem place_ok {op : List Jr.Fr} {R : Fo} {k n : Int} {y x : ByteArray} {c : Fo} (ho : Jr.OpOk op) (hk : Jr.Kfit op y) (hh : Tp.hf k n x) (hc : k ≤ 5 → c = .nil) (hko : Tp.ko k (Tp.keys c)) (hg : Tp.good c) (hd : op.length + (1 + Tp.dep c) ≤ 64) (hR : R = .nil) :
    Jr.OpOk (Jr.place (.node k y n x c .nil) op R).1 ∧ Jr.Rest (Jr.place (.node k y n x c .nil) op R).1 ∧ ((Jr.place (.node k y n x c .nil) op R).1 = [] → Jr.Whole (Jr.place (.node k y n x c .nil) op R).2) ∧ ((Jr.place (.node k y n x c .nil) op R).1 ≠ [] → (Jr.place (.node k y n x c .nil) op R).2 = .nil) := by
  subst hR
  have gT : Tp.good (.node k y n x c .nil) := ⟨hh, hc, hko, hg, trivial⟩
  cases op with
  | nil =>
    refine ⟨trivial, trivial, fun _ => ⟨⟨k, y, n, x, c, rfl, hk⟩, gT, ?_⟩, fun h => absurd rfl h⟩
    show max (1 + Tp.dep c) 0 ≤ 64
    simp at hd
    omega
  | cons f r =>
    obtain ⟨h1, h2, h3, h4, h5, h6⟩ := ho
    have ek : Tp.keys (Tp.app f.done (.node k y n x c .nil)) = Tp.keys f.done ++ [y] := by rw [Tp.keys_app]; rfl
    have a3 : Tp.ko f.kind (Tp.keys (Tp.app f.done (.node k y n x c .nil))) := by
      rw [ek, Tp.ko_snoc]
      refine ⟨h3, ?_⟩
      unfold Tp.k1
      rcases hk with ⟨e, hy⟩ | ⟨e, _, hv, hn⟩
      · rw [if_neg (by omega)]; exact hy
      · rw [if_pos e]; exact ⟨hv, hn⟩
    have a4 : r.length + 1 + Tp.dep (Tp.app f.done (.node k y n x c .nil)) ≤ 64 := by
      rw [Tp.dep_app]
      show r.length + 1 + max _ (max (1 + Tp.dep c) 0) ≤ 64
      simp at hd
      omega
    have a5 : f.kind = 7 → f.had = Tp.keys (Tp.app f.done (.node k y n x c .nil)) := by
      intro e
      rw [ek]
      rcases hk with ⟨e6, _⟩ | ⟨_, hh, _⟩
      · omega
      · exact hh
    have aO : Jr.OpOk ({ f with done := Tp.app f.done (.node k y n x c .nil) } :: r) := ⟨h1, (Tp.good_app _ _).2 ⟨h2, gT⟩, a3, a4, h5, h6⟩
    exact ⟨aO, a5, fun h => by simp [Jr.place] at h, fun _ => rfl⟩
theorem init_inv (l : List Nat) (hb : ∀ x ∈ l, x < 256) : Jr.MInv l.length (Jr.init l) :=
  ⟨trivial, fun x hx => by simp [Jr.init, Jr.zf] at hx, Nat.zero_le _, by simp [Jr.init], hb, Nat.zero_le _, ⟨rfl, rfl⟩⟩
theorem nd_le : ∀ s : List Nat, Jr.nd s ≤ s.length
  | [] => by simp [Jr.nd]
  | c :: t => by have := nd_le t; unfold Jr.nd; split <;> simp <;> omega
theorem hd_len {s : List Nat} (h : Jr.hd s ≠ 0) : 0 < s.length := by
  cases s with
  | nil => exact absurd rfl h
  | cons c t => simp
theorem wd_le : ∀ (W s : List Nat), Jr.wd W s ≤ s.length
  | [], s => by simp [Jr.wd]
  | c :: W, s => by
    have := wd_le W (s.drop 1)
    unfold Jr.wd
    split
    · rename_i h
      have : 0 < s.length := by cases s with
        | nil => exact absurd rfl h.2
        | cons c t => simp
      simp only [List.length_drop] at *
      omega
    · omega
theorem scan_le (s : List Nat) : (Jr.scan s).1 ≤ s.length := by
  have e1 : Jr.nP1 s ≤ s.length := by
    unfold Jr.nP1 Jr.nSg
    split
    · rename_i h; have := hd_len (s := s) (by omega); omega
    · omega
  have e2 : Jr.nP2 s ≤ s.length := by
    unfold Jr.nP2 Jr.nIn
    have := nd_le (s.drop (Jr.nP1 s))
    rw [List.length_drop] at this
    split
    · rename_i h; have := hd_len (s := s.drop (Jr.nP1 s)) (by omega); rw [List.length_drop] at this; omega
    · omega
  have e3 : Jr.nP3 s ≤ s.length := by
    unfold Jr.nP3 Jr.nFr
    have := nd_le ((s.drop (Jr.nP2 s)).drop 1)
    rw [List.length_drop, List.length_drop] at this
    split
    · rename_i h; have := hd_len (s := s.drop (Jr.nP2 s)) (by omega); rw [List.length_drop] at this; omega
    · omega
  have e4 : Jr.nP4 s ≤ s.length := by
    unfold Jr.nP4 Jr.nEh
    split
    · rename_i h
      have h1 := hd_len (s := s.drop (Jr.nP3 s)) (by rcases h with h | h <;> omega)
      rw [List.length_drop] at h1
      unfold Jr.nPm
      split
      · rename_i h2
        have h3 := hd_len (s := (s.drop (Jr.nP3 s)).drop 1) (by rcases h2 with h | h <;> omega)
        rw [List.length_drop, List.length_drop] at h3
        omega
      · omega
    · omega
  have e5 : Jr.nP5 s ≤ s.length := by
    unfold Jr.nP5 Jr.nEd
    split
    · rename_i h
      have := nd_le ((s.drop (Jr.nP3 s)).drop (Jr.nEh (s.drop (Jr.nP3 s))))
      rw [List.length_drop, List.length_drop] at this
      have e : Jr.nP4 s = Jr.nP3 s + Jr.nEh (s.drop (Jr.nP3 s)) := rfl
      omega
    · omega
  unfold Jr.scan
  split
  · exact e1
  split
  · exact e3
  split
  · exact e4
  · exact e5
theorem skip_inv {N : Nat} {t : Jr.St} (h : Jr.MInv N t) : Jr.MInv N (Jr.skip t) :=
  ⟨h.op, h.fit, h.key, by have := h.at_; have := Jr.nb_le t.s; show t.at_ + _ + (t.s.drop _).length = N; rw [List.length_drop]; omega, fun x hx => h.byte x (List.mem_of_mem_drop hx), h.cnt, h.nx⟩
/-- A step keeps it. -/
theorem leaf_inv {N m : Nat} {t : Jr.St} {k n : Int} {x : ByteArray} (h : Jr.MInv N t) (hnx : t.nx = .value) (hh : Tp.hf k n x) (hn : -9223372036854775808 ≤ n ∧ n ≤ 9223372036854775807) (hx : x.size ≤ maxLen) (hm : m ≤ t.s.length) (hd : t.op.length < 64) (hc : Jr.cnt t.op t.root < 4000) : Jr.MInv N (Jr.leaf t m k n x) := by
  have hv := h.nx
  rw [hnx] at hv
  obtain ⟨h1, h2⟩ := hv
  obtain ⟨p1, p2, p3, p4⟩ := place_ok (c := .nil) h.op h1 hh (fun _ => rfl) (Tp.ko_nil k) trivial (by show t.op.length + (1 + 0) ≤ 64; omega) h2
  refine ⟨p1, ?_, Nat.zero_le _, ?_, fun z hz => h.byte z (List.mem_of_mem_drop hz), ?_, ⟨rfl, p2, p3, p4⟩⟩
  · intro z hz
    have hz : z ∈ Jr.zf id (Jr.place (Jr.nd1 k t.key n x .nil) t.op t.root).1 (Jr.place (Jr.nd1 k t.key n x .nil) t.op t.root).2 := hz
    rw [Jr.place_zf] at hz
    rcases List.mem_append.1 hz with hz | hz
    · exact h.fit z hz
    · have e : z = ⟨k, t.key, n, x, 1⟩ := by
        unfold Jr.nd1 at hz
        rw [Tp.flat_node] at hz
        simpa using hz
      subst e
      exact ⟨h.key, hn, hx⟩
  · have := h.at_
    show t.at_ + m + (t.s.drop m).length = N
    rw [List.length_drop]; omega
  · show Jr.cnt (Jr.place _ t.op t.root).1 (Jr.place _ t.op t.root).2 ≤ 4000
    rw [Jr.place_cnt]
    unfold Jr.nd1
    rw [Tp.sz_node, Tp.sz_nil]
    omega
theorem opn_inv {N : Nat} {t : Jr.St} {k : Int} (h : Jr.MInv N t) (hnx : t.nx = .value) (hk : k = 6 ∨ k = 7) (hl : 0 < t.s.length) (hd : t.op.length < 64) (hc : Jr.cnt t.op t.root < 4000) : Jr.MInv N (Jr.opn t k) := by
  have hv := h.nx
  rw [hnx] at hv
  obtain ⟨h1, h2⟩ := hv
  have aO : Jr.OpOk (⟨k, t.key, [], .nil⟩ :: t.op) := ⟨hk, trivial, Tp.ko_nil k, by show t.op.length + 1 + 0 ≤ 64; omega, h1, h.op⟩
  refine ⟨aO, ?_, Nat.zero_le _, ?_, fun z hz => h.byte z (List.mem_of_mem_drop hz), by show Jr.cnt t.op t.root + (1 + 0) ≤ 4000; omega, ⟨by simp [Jr.opn], rfl, fun _ => rfl, h2⟩⟩
  · intro z hz
    have hz : z ∈ Jr.zf id t.op t.root ++ [⟨k, t.key, 0, ⟨#[]⟩, 0⟩] := hz
    rcases List.mem_append.1 hz with hz | hz
    · exact h.fit z hz
    · have e : z = ⟨k, t.key, 0, ⟨#[]⟩, 0⟩ := by simpa using hz
      subst e
      exact ⟨h.key, ⟨by show (-9223372036854775808 : Int) ≤ 0; omega, by show (0 : Int) ≤ 9223372036854775807; omega⟩, Nat.zero_le _⟩
  · have := h.at_
    show t.at_ + 1 + (t.s.drop 1).length = N
    rw [List.length_drop]; omega
theorem cls_inv {N : Nat} {t : Jr.St} {f : Jr.Fr} {r : List Jr.Fr} (h : Jr.MInv N t) (ho : t.op = f :: r) (hy : t.key.size = 0) (hr : Jr.Rest t.op) (hR : t.root = .nil) (hl : 0 < t.s.length) : Jr.MInv N (Jr.cls t) := by
  have hop := h.op
  rw [ho] at hop hr
  obtain ⟨a1, a2, a3, a4, a5, a6⟩ := hop
  obtain ⟨p1, p2, p3, p4⟩ := place_ok (x := ⟨#[]⟩) (n := 0) a6 a5 (.inr (.inr (.inr ⟨a1, rfl, rfl⟩))) (fun e => by omega) a3 a2 (by omega) hR
  unfold Jr.cls
  rw [ho]
  refine ⟨p1, ?_, h.key, ?_, fun z hz => h.byte z (List.mem_of_mem_drop hz), ?_, ⟨hy, p2, p3, p4⟩⟩
  · intro z hz
    have hz : z ∈ Jr.zf id (Jr.place (Jr.nd1 f.kind f.key 0 ⟨#[]⟩ f.done) r t.root).1 (Jr.place (Jr.nd1 f.kind f.key 0 ⟨#[]⟩ f.done) r t.root).2 := hz
    have hf := h.fit
    rw [ho] at hf
    have hf : ∀ x ∈ Jr.zf id r t.root ++ ⟨id f.kind, f.key, 0, ⟨#[]⟩, 0⟩ :: Tp.flat f.done, Jr.Fit x := hf
    rw [Jr.place_zf] at hz
    rcases List.mem_append.1 hz with hz | hz
    · exact hf z (List.mem_append_left _ hz)
    · unfold Jr.nd1 at hz
      rw [Tp.flat_node] at hz
      rcases List.mem_cons.1 hz with e | hz
      · have := hf ⟨id f.kind, f.key, 0, ⟨#[]⟩, 0⟩ (List.mem_append_right _ (List.mem_cons_self ..))
        rw [e]
        exact this
      · have hz : z ∈ Tp.flat f.done := by simpa using hz
        exact hf z (List.mem_append_right _ (List.mem_cons_of_mem _ hz))
  · have := h.at_
    show t.at_ + 1 + (t.s.drop 1).length = N
    rw [List.length_drop]; omega
  · show Jr.cnt (Jr.place _ r t.root).1 (Jr.place _ r t.root).2 ≤ 4000
    rw [Jr.place_cnt]
    unfold Jr.nd1
    rw [Tp.sz_node, Tp.sz_nil]
    have hc := h.cnt
    rw [ho] at hc
    have hc : Jr.cnt r t.root + (1 + Tp.sz f.done) ≤ 4000 := hc
    omega
theorem go_inv {N m : Nat} {t : Jr.St} {f : Jr.Fr} {r : List Jr.Fr} (h : Jr.MInv N t) (ho : t.op = f :: r) (hy : t.key.size = 0) (hr : Jr.Rest t.op) (hR : t.root = .nil) (hm : m ≤ t.s.length) : Jr.MInv N (Jr.go t m (Jr.ahead t.op)) := by
  refine ⟨h.op, h.fit, h.key, ?_, fun z hz => h.byte z (List.mem_of_mem_drop hz), h.cnt, ?_⟩
  · have := h.at_
    show t.at_ + m + (t.s.drop m).length = N
    rw [List.length_drop]; omega
  · have hop := h.op
    rw [ho] at hop
    have ea : Jr.ahead t.op = if f.kind = 7 then .key else .value := by rw [ho]; rfl
    rcases hop.1 with e | e
    · rw [if_neg (by omega)] at ea
      have e1 : (Jr.go t m (Jr.ahead t.op)).nx = .value := ea
      rw [e1]
      refine ⟨?_, hR⟩
      show Jr.Kfit t.op t.key
      rw [ho]
      exact .inl ⟨e, hy⟩
    · rw [if_pos e] at ea
      have e1 : (Jr.go t m (Jr.ahead t.op)).nx = .key := ea
      rw [e1]
      exact ⟨by show t.op ≠ []; rw [ho]; simp, hr, hR⟩
def Jr.MRes (N : Nat) (r : Jr.St ⊕ Jr.Res) : Prop := match r with
  | .inl u => Jr.MInv N u
  | .inr (.ok F) => Jr.Whole F ∧ (∀ x ∈ Tp.flat F, Jr.Fit x) ∧ Tp.sz F ≤ 4000
  | .inr (.err a _) => a ≤ N
theorem err_res {N a : Nat} {e : Int} (h : a ≤ N) : Jr.MRes N (.inr (.err a e)) := h
theorem word_res {N : Nat} {t : Jr.St} (h : Jr.MInv N t) (hnx : t.nx = .value) (hd : t.op.length < 64) (hc : Jr.cnt t.op t.root < 4000) (W : List Nat) (k : Int) (hk : k = 1 ∨ k = 2 ∨ k = 3) : Jr.MRes N (Jr.word t W k) := by
  have h1 := wd_le W t.s
  have h2 := h.at_
  unfold Jr.word
  split
  · rename_i e
    exact leaf_inv h hnx (.inl ⟨hk, rfl, rfl⟩) ⟨by omega, by omega⟩ (Nat.zero_le _) (by omega) hd hc
  · exact err_res (by omega)
theorem step_res {N : Nat} {t : Jr.St} (hN : N ≤ 1000000) (h : Jr.MInv N t) (hok : Jr.Ok t) : Jr.MRes N (Jr.stepS t) := by
  have h2 := h.at_
  have hv := h.nx
  unfold Jr.stepS
  cases hnx : t.nx with
  | value =>
    simp only
    unfold Jr.stepV
    split
    · exact err_res (by omega)
    split
    · exact err_res (by omega)
    split
    · exact err_res (by omega)
    rename_i hc hd
    have hc : Jr.cnt t.op t.root < 4000 := by omega
    have hd : t.op.length < 64 := by omega
    unfold Jr.valueB
    split
    · exact word_res h hnx hd hc _ _ (by omega)
    split
    · exact word_res h hnx hd hc _ _ (by omega)
    split
    · exact word_res h hnx hd hc _ _ (by omega)
    split
    · obtain ⟨l, n, x, hu⟩ : ∃ l n x, Utf.unq t.s = (l, n, x) := ⟨_, _, _, rfl⟩
      unfold Jr.text
      rw [hu]
      split
      · exact err_res (by omega)
      · rename_i hx
        have hx : x = 0 := by simpa using hx
        subst hx
        obtain ⟨g1, g2, g3, g4, _⟩ := unq_fine h.byte hu
        exact leaf_inv h hnx (.inr (.inr (.inl ⟨rfl, rfl, by rw [bl_str l g2]; exact g1⟩))) ⟨by omega, by omega⟩ (by show (str l).size ≤ maxLen; rw [str_size]; unfold maxLen; omega) (show n ≤ _ by omega) hd hc
    split
    · rename_i e
      exact opn_inv h hnx (.inl rfl) (hd_len (by omega)) hd hc
    split
    · rename_i e
      exact opn_inv h hnx (.inr rfl) (hd_len (by omega)) hd hc
    have h3 := scan_le t.s
    unfold Jr.number
    split
    · exact err_res (by omega)
    split
    · rename_i hf
      exact leaf_inv h hnx (.inr (.inl ⟨rfl, rfl⟩)) hf.2 (Nat.zero_le _) h3 hd hc
    · exact err_res (by omega)
  | part =>
    rw [hnx] at hv
    obtain ⟨v1, v2, v3, v4⟩ := hv
    simp only
    unfold Jr.stepP
    split
    · exact err_res (by omega)
    · rename_i f r ho
      split
      · rename_i e
        have := (endOf_ne f.kind).1
        exact cls_inv h ho v2 v3 v4 (hd_len (by omega))
      · exact go_inv h ho v2 v3 v4 (Nat.zero_le _)
  | key =>
    rw [hnx] at hv
    obtain ⟨v1, v3, v4⟩ := hv
    obtain ⟨f', r', ho', hk7⟩ := hok.1 hnx
    simp only
    unfold Jr.stepK
    split
    · exact err_res (by omega)
    · rename_i f r ho
      obtain ⟨rfl, rfl⟩ : f = f' ∧ r = r' := by rw [ho] at ho'; injection ho' with e1 e2; exact ⟨e1, e2⟩
      split
      · exact err_res (by omega)
      obtain ⟨l, n, x, hu⟩ : ∃ l n x, Utf.unq t.s = (l, n, x) := ⟨_, _, _, rfl⟩
      rw [hu]
      split
      · exact err_res (by omega)
      split
      · exact err_res (by omega)
      rename_i hx hin
      have hx : x = 0 := by simpa using hx
      subst hx
      obtain ⟨g1, g2, g3, g4, _⟩ := unq_fine h.byte hu
      have hop := h.op
      have hf := h.fit
      rw [ho] at hop hf v3
      have e7 : f.had = Tp.keys f.done := v3 hk7
      have hcn := h.cnt
      rw [ho] at hcn
      have hop2 : Jr.OpOk ({ f with had := f.had ++ [str l] } :: r) := hop
      refine ⟨hop2, hf, ?_, ?_, fun z hz => h.byte z (List.mem_of_mem_drop hz), hcn, ⟨by simp, .inr ⟨hk7, ?_, ?_, ?_⟩, v4⟩⟩
      · show (str l).size ≤ maxLen
        rw [str_size]; unfold maxLen; omega
      · show t.at_ + n + (t.s.drop n).length = N
        rw [List.length_drop]; omega
      · show f.had ++ [str l] = Tp.keys f.done ++ [str l]
        rw [e7]
      · show Utf.vld (bl (str l)) = true
        rw [bl_str l g2]; exact g1
      · show str l ∉ Tp.keys f.done
        rw [← e7]; exact hin
  | colon =>
    rw [hnx] at hv
    obtain ⟨v1, v3, v4⟩ := hv
    simp only
    unfold Jr.stepC
    split
    · exact err_res (by omega)
    · rename_i e
      have := hd_len (s := t.s) (by omega)
      exact ⟨h.op, h.fit, h.key, by show t.at_ + 1 + (t.s.drop 1).length = N; rw [List.length_drop]; omega, fun z hz => h.byte z (List.mem_of_mem_drop hz), h.cnt, ⟨v3, v4⟩⟩
  | behind =>
    rw [hnx] at hv
    obtain ⟨v1, v2, v3, v4⟩ := hv
    simp only
    unfold Jr.stepB
    split
    · rename_i ho
      split
      · have hf := h.fit
        have hc := h.cnt
        rw [ho] at hf hc
        exact ⟨v3 ho, hf, hc⟩
      · exact err_res (by omega)
    · rename_i f r ho
      have v4 := v4 (by rw [ho]; simp)
      split
      · rename_i e
        have := (endOf_ne f.kind).1
        exact cls_inv h ho v1 v2 v4 (hd_len (by omega))
      split
      · exact err_res (by omega)
      · have := hd_len (s := t.s) (by omega)
        exact go_inv h ho v1 v2 v4 (by omega)
theorem steps_inv {N : Nat} {t u : Jr.St} (hN : N ≤ 1000000) (h : Jr.MInv N t) (hok : Jr.Ok t) (hs : Jr.Steps t u) : Jr.MInv N u ∧ Jr.Ok u := by
  induction hs with
  | refl t => exact ⟨h, hok⟩
  | next h1 _ ih =>
    have k1 := step_res hN (skip_inv h) hok
    have k2 := step_ok (skip_inv h).byte
    unfold Jr.step at h1
    rw [h1] at k1 k2
    exact ih k1 k2.1
theorem reads_res {l : List Nat} {r : Jr.Res} (hl : l.length ≤ 1000000) (hb : ∀ x ∈ l, x < 256) (h : Jr.Reads l r) : Jr.MRes l.length (.inr r) := by
  unfold Jr.Reads at h
  rw [if_neg (by omega)] at h
  obtain ⟨u, h1, h2⟩ := h
  obtain ⟨k1, k2⟩ := steps_inv hl (init_inv l hb) (Jr.Ok.plain (by simp [Jr.init]) (by simp [Jr.init])) h1
  have := step_res hl (skip_inv k1) k2
  unfold Jr.step at h2
  rwa [h2] at this
theorem size_fit : ∀ (F : Fo) (x : Nd), x ∈ Tp.flat F → 0 ≤ x.size ∧ x.size ≤ (Tp.sz F : Nat)
  | .nil, x, h => by simp at h
  | .node k y n s c r, x, h => by
    rw [Tp.flat_node] at h
    rw [Tp.sz_node]
    rcases List.mem_cons.1 h with rfl | h
    · show (0 : Int) ≤ 1 + (Tp.sz c : Nat) ∧ (1 + (Tp.sz c : Nat) : Int) ≤ _
      omega
    · rcases List.mem_append.1 h with h | h
      · have := size_fit c x h; omega
      · have := size_fit r x h; omega
theorem kind_fit : ∀ (F : Fo) (x : Nd), Tp.good F → x ∈ Tp.flat F → 1 ≤ x.kind ∧ x.kind ≤ 7
  | .nil, x, _, h => by simp at h
  | .node k y n s c r, x, hg, h => by
    obtain ⟨g1, _, _, g4, g5⟩ := hg
    rw [Tp.flat_node] at h
    rcases List.mem_cons.1 h with rfl | h
    · exact Tp.hf_kind g1
    · rcases List.mem_append.1 h with h | h
      · exact kind_fit c x g4 h
      · exact kind_fit r x g5 h
/-- What is read may be. -/
theorem whole_may {F : Fo} (h : Jr.Whole F) (hf : ∀ x ∈ Tp.flat F, Jr.Fit x) (hs : Tp.sz F ≤ 4000) : chk (Tp.flat F) = 0 ∧ ∀ x ∈ Tp.flat F, Nok x := by
  obtain ⟨h1, h2, h3⟩ := h
  refine ⟨(may_chk (F := F) ⟨hs, ⟨h1, h2, rfl⟩, h3⟩).1, fun x hx => ?_⟩
  have a := size_fit F x hx
  have b := kind_fit F x h2 hx
  obtain ⟨f1, f2, f3⟩ := hf x hx
  exact ⟨⟨by omega, by omega⟩, f1, f2, f3, ⟨by omega, by omega⟩⟩
end Go.Proofs.YteklcfimafplbaaDoor

/- Texts that begin with a number, plainly. -/
namespace Go.Proofs.YteklcfimafplbaaDoor.Jr
open Go.Lib
set_option linter.unusedVariables false

/-- A number's digits. -/
def dcs (u : Nat) : List Nat := (decDigits u).map UInt8.toNat
theorem u8_dig (d : Nat) (h : d < 10) : (UInt8.ofNat (48 + d)).toNat = 48 + d := by
  rw [UInt8.toNat_ofNat']; omega
theorem dcs_small {u : Nat} (h : u < 10) : dcs u = [48 + u] := by
  unfold dcs
  rw [decDigits, dif_pos h, List.map_singleton, u8_dig u h]
theorem dcs_big {u : Nat} (h : ¬ u < 10) : dcs u = dcs (u / 10) ++ [48 + u % 10] := by
  unfold dcs
  rw [decDigits, dif_neg h, List.map_append, List.map_singleton, u8_dig _ (by omega)]
theorem dcs_isd (u : Nat) : ∀ c ∈ dcs u, isd c = true := by
  induction u using Nat.strongRecOn with
  | ind u ih =>
    intro c hc
    by_cases h : u < 10
    · rw [dcs_small h] at hc
      have : c = 48 + u := by simpa using hc
      subst this
      simp [isd]; omega
    · rw [dcs_big h] at hc
      rcases List.mem_append.1 hc with hc | hc
      · exact ih (u / 10) (by omega) c hc
      · have : c = 48 + u % 10 := by simpa using hc
        subst this
        simp [isd]; omega
theorem val_snoc (l : List Nat) (c : Nat) : val (l ++ [c]) = 10 * val l + (c - 48) := by
  unfold val
  rw [List.foldl_append]; rfl
theorem dcs_val (u : Nat) : val (dcs u) = u := by
  induction u using Nat.strongRecOn with
  | ind u ih =>
    by_cases h : u < 10
    · rw [dcs_small h]; simp [val]
    · rw [dcs_big h, val_snoc, ih (u / 10) (by omega)]; omega
theorem dcs_ne (u : Nat) : dcs u ≠ [] := by
  by_cases h : u < 10
  · rw [dcs_small h]; simp
  · rw [dcs_big h]; simp
theorem hd_app {l : List Nat} (h : l ≠ []) (t : List Nat) : hd (l ++ t) = hd l := by
  cases l with
  | nil => exact absurd rfl h
  | cons c l => rfl
theorem dcs_head (u : Nat) (hu : u ≠ 0) : hd (dcs u) ≠ 48 := by
  induction u using Nat.strongRecOn with
  | ind u ih =>
    by_cases h : u < 10
    · rw [dcs_small h]; show 48 + u ≠ 48; omega
    · rw [dcs_big h, hd_app (dcs_ne _)]
      exact ih (u / 10) (by omega) (by omega)
/-- Digits without a leading zero. -/
def Dg (D : List Nat) : Prop := D ≠ [] ∧ (∀ c ∈ D, isd c = true) ∧ (hd D = 48 → D = [48])
theorem dcs_dg (u : Nat) : Dg (dcs u) := ⟨dcs_ne u, dcs_isd u, fun e => by
  by_cases h : u = 0
  · subst h; rw [dcs_small (by omega)]
  · exact absurd e (dcs_head u h)⟩
theorem nd_app : ∀ (D t : List Nat), (∀ c ∈ D, isd c = true) → isd (hd t) = false → nd (D ++ t) = D.length
  | [], t, _, h => by
    cases t with
    | nil => rfl
    | cons c t =>
      have h : isd c = false := h
      show nd (c :: t) = 0
      unfold nd
      rw [if_neg (by rw [h]; simp)]
  | c :: D, t, h1, h2 => by
    have := nd_app D t (fun x hx => h1 x (List.mem_cons_of_mem _ hx)) h2
    show nd (c :: (D ++ t)) = _
    unfold nd
    rw [if_pos (h1 c (List.mem_cons_self ..)), this]
    simp
theorem isd_hd {D : List Nat} (h : Dg D) : isd (hd D) = true := by
  cases D with
  | nil => exact absurd rfl h.1
  | cons c D => exact h.2.1 c (List.mem_cons_self ..)
theorem nIn_app {D t : List Nat} (h : Dg D) (ht : isd (hd t) = false) : nIn (D ++ t) = D.length := by
  unfold nIn
  rw [hd_app h.1]
  by_cases e : hd D = 48
  · rw [if_pos e, h.2.2 e]; rfl
  · rw [if_neg e, nd_app D t h.2.1 ht]
/-- A sign, or none. -/
def sgn (b : Bool) : List Nat := if b then [45] else []
/-- Where the whole part ends, and what it is. -/
theorem nm {b : Bool} {D t : List Nat} (h : Dg D) (ht : isd (hd t) = false) : nP1 (sgn b ++ (D ++ t)) = (sgn b).length ∧ nP2 (sgn b ++ (D ++ t)) = (sgn b).length + D.length ∧ (sgn b ++ (D ++ t)).drop ((sgn b).length + D.length) = t ∧ nVal (sgn b ++ (D ++ t)) = if b then -((val D : Nat) : Int) else ((val D : Nat) : Int) := by
  have hD := isd_hd h
  have h45 : hd (D ++ t) ≠ 45 := by
    rw [hd_app h.1]; intro e; rw [e] at hD; simp [isd] at hD
  have hn := nIn_app h ht
  cases b with
  | true =>
    have e1 : nP1 (sgn true ++ (D ++ t)) = 1 := rfl
    refine ⟨e1, ?_, ?_, ?_⟩
    · unfold nP2
      rw [e1]
      show 1 + nIn (D ++ t) = 1 + D.length
      rw [hn]
    · show (45 :: (D ++ t)).drop (1 + D.length) = t
      rw [Nat.add_comm, List.drop_succ_cons]; simp
    · show nVal (45 :: (D ++ t)) = _
      unfold nVal
      rw [if_pos (by rfl), if_pos rfl]
      show -((val ((D ++ t).take (nIn (D ++ t))) : Nat) : Int) = _
      rw [hn]; simp
  | false =>
    have e1 : nP1 (sgn false ++ (D ++ t)) = 0 := by
      show nSg (D ++ t) = 0
      unfold nSg
      rw [if_neg h45]
    refine ⟨e1, ?_, ?_, ?_⟩
    · unfold nP2
      rw [e1]
      show 0 + nIn (D ++ t) = 0 + D.length
      rw [hn]
    · show (D ++ t).drop (0 + D.length) = t
      rw [Nat.zero_add]; simp
    · show nVal (D ++ t) = _
      unfold nVal
      rw [if_neg h45, hn]; simp
section
variable {b : Bool} {D t : List Nat}
theorem at_p (h : Dg D) (ht : isd (hd t) = false) : nP2 (sgn b ++ (D ++ t)) ≠ nP1 (sgn b ++ (D ++ t)) ∧ (sgn b ++ (D ++ t)).drop (nP2 (sgn b ++ (D ++ t))) = t := by
  obtain ⟨h1, h2, h3, _⟩ := nm (b := b) h ht
  have hl : 0 < D.length := List.length_pos_iff.2 h.1
  rw [h1, h2]
  exact ⟨by omega, h3⟩
/-- Nothing behind. -/
theorem scan_end (h : Dg D) : scan (sgn b ++ (D ++ [])) = ((sgn b).length + D.length, true) ∧ nP5 (sgn b ++ (D ++ [])) = nP2 (sgn b ++ (D ++ [])) := by
  have ht : isd (hd []) = false := rfl
  obtain ⟨h1, h2, h3, _⟩ := nm (b := b) h ht
  obtain ⟨k1, k2⟩ := at_p (b := b) h ht
  generalize sgn b ++ (D ++ []) = s at *
  have e3 : nP3 s = nP2 s := by unfold nP3; rw [k2]; rfl
  have n1 : ¬ isE (s.drop (nP3 s)) := by rw [e3, k2]; decide
  have e4 : nP4 s = nP3 s := by unfold nP4 nEh; rw [if_neg n1]; rfl
  have e5 : nP5 s = nP4 s := by unfold nP5 nEd; rw [if_neg n1]; rfl
  refine ⟨?_, by omega⟩
  unfold scan
  rw [if_neg k1, if_neg (by omega), if_neg (fun c => n1 c.1)]
  rw [e5, e4, e3, h2]
/-- A point and digits. -/
theorem scan_point {E : List Nat} (h : Dg D) (hE : E ≠ [] ∧ ∀ c ∈ E, isd c = true) : (scan (sgn b ++ (D ++ 46 :: E))).2 = true ∧ nP5 (sgn b ++ (D ++ 46 :: E)) ≠ nP2 (sgn b ++ (D ++ 46 :: E)) := by
  have ht : isd (hd (46 :: E)) = false := by simp [isd]
  obtain ⟨k1, k2⟩ := at_p (b := b) h ht
  generalize sgn b ++ (D ++ 46 :: E) = s at *
  have hl : 0 < E.length := List.length_pos_iff.2 hE.1
  have hn : nd E = E.length := by have := nd_app E [] hE.2 rfl; rwa [List.append_nil] at this
  have e3 : nP3 s = nP2 s + (1 + E.length) := by unfold nP3; rw [k2]; unfold nFr; rw [if_pos (by rfl)]; show nP2 s + (1 + nd E) = _; rw [hn]
  have d3 : s.drop (nP3 s) = [] := by rw [e3, ← List.drop_drop, k2, Nat.add_comm 1, List.drop_succ_cons]; simp
  have n1 : ¬ isE (s.drop (nP3 s)) := by rw [d3]; decide
  have e4 : nP4 s = nP3 s := by unfold nP4 nEh; rw [if_neg n1]; rfl
  have e5 : nP5 s = nP4 s := by unfold nP5 nEd; rw [if_neg n1]; rfl
  refine ⟨?_, by omega⟩
  unfold scan
  rw [if_neg k1, if_neg (by omega), if_neg (fun c => n1 c.1)]
/-- An e, perhaps a sign, and digits, or none. -/
theorem scan_e {x : Nat} {m E : List Nat} (hx : x = 101 ∨ x = 69) (hm : m = [] ∨ m = [43] ∨ m = [45]) (h : Dg D) (hE : ∀ c ∈ E, isd c = true) :
    scan (sgn b ++ (D ++ x :: (m ++ E))) = ((sgn b).length + D.length + (1 + m.length + E.length), decide (E ≠ [])) ∧ nP5 (sgn b ++ (D ++ x :: (m ++ E))) ≠ nP2 (sgn b ++ (D ++ x :: (m ++ E))) := by
  have ht : isd (hd (x :: (m ++ E))) = false := by rcases hx with rfl | rfl <;> simp [isd]
  obtain ⟨h1, h2, h3, _⟩ := nm (b := b) h ht
  obtain ⟨k1, k2⟩ := at_p (b := b) h ht
  generalize sgn b ++ (D ++ x :: (m ++ E)) = s at *
  have hn : nd E = E.length := by have := nd_app E [] hE rfl; rwa [List.append_nil] at this
  have e3 : nP3 s = nP2 s := by unfold nP3; rw [k2]; unfold nFr; rw [if_neg (by rcases hx with rfl | rfl <;> simp [hd])]; rfl
  have d3 : s.drop (nP3 s) = x :: (m ++ E) := by rw [e3, k2]
  have y1 : isE (s.drop (nP3 s)) := by rw [d3]; rcases hx with rfl | rfl <;> simp [isE, hd]
  have hp : nPm (m ++ E) = m.length := by
    unfold nPm
    rcases hm with rfl | rfl | rfl
    · rw [List.nil_append, if_neg]
      · rfl
      · intro c
        cases E with
        | nil => simp [hd] at c
        | cons z E =>
          have := hE z (List.mem_cons_self ..)
          have c : z = 43 ∨ z = 45 := c
          rcases c with rfl | rfl <;> simp [isd] at this
    · rfl
    · rfl
  have e4 : nP4 s = nP3 s + (1 + m.length) := by unfold nP4 nEh; rw [if_pos y1, d3]; show nP3 s + (1 + nPm (m ++ E)) = _; rw [hp]
  have e5 : nP5 s = nP4 s + E.length := by
    unfold nP5 nEd
    rw [if_pos y1]
    have : nEh (s.drop (nP3 s)) = 1 + m.length := by unfold nEh; rw [if_pos y1, d3]; show 1 + nPm (m ++ E) = _; rw [hp]
    rw [this, d3, Nat.add_comm 1, List.drop_succ_cons]
    simp [hn]
  refine ⟨?_, by omega⟩
  unfold scan
  rw [if_neg k1, if_neg (by omega)]
  by_cases hE0 : E = []
  · subst hE0
    rw [if_pos ⟨y1, by simpa using e5⟩, e4, e3, h2]
    simp
  · have : 0 < E.length := List.length_pos_iff.2 hE0
    rw [if_neg (fun c => by have := c.2; omega), e5, e4, e3, h2]
    simp [hE0]; omega
/-- A point without digits. -/
theorem scan_dot {E : List Nat} (h : Dg D) (hE : isd (hd E) = false) : scan (sgn b ++ (D ++ 46 :: E)) = ((sgn b).length + D.length + 1, false) := by
  have ht : isd (hd (46 :: E)) = false := by simp [isd]
  obtain ⟨h1, h2, h3, _⟩ := nm (b := b) h ht
  obtain ⟨k1, k2⟩ := at_p (b := b) h ht
  generalize sgn b ++ (D ++ 46 :: E) = s at *
  have hn : nd E = 0 := nd_app [] E (by simp) hE
  have e3 : nP3 s = nP2 s + 1 := by unfold nP3; rw [k2]; unfold nFr; rw [if_pos (by rfl)]; show nP2 s + (1 + nd E) = _; rw [hn]
  unfold scan
  rw [if_neg k1, if_pos e3, e3, h2]
end
end Go.Proofs.YteklcfimafplbaaDoor.Jr

/- What reading texts that begin with a number gives. -/
namespace Go.Proofs.YteklcfimafplbaaDoor
open Go.RowKit
set_option linter.unusedVariables false

namespace Jr
theorem nb_no {s : List Nat} (h : hd s = 45 ∨ isd (hd s) = true) : nb s = 0 := by
  apply nb_zero
  rcases h with h | h
  · rw [h]; decide
  · simp [isd] at h
    simp [blank]; omega
theorem skip_no {t : St} (h : hd t.s = 45 ∨ isd (hd t.s) = true) : skip t = t := by
  unfold skip
  rw [nb_no h]
  simp
theorem stepV_num {t : St} (h : hd t.s = 45 ∨ isd (hd t.s) = true) (hc : cnt t.op t.root < 4000) (hp : t.op.length < 64) : stepV t = number t := by
  have hx : hd t.s = 45 ∨ (48 ≤ hd t.s ∧ hd t.s ≤ 57) := by
    rcases h with h | h
    · exact .inl h
    · simp [isd] at h; exact .inr h
  have hb : bgn (hd t.s) = true := by
    unfold bgn
    rcases hx with e | e
    · rw [e]; decide
    · simp [isd, e]
  unfold stepV
  rw [if_neg (by rw [hb]; simp), if_neg (by omega), if_neg (by omega)]
  unfold valueB
  rw [if_neg (by omega), if_neg (by omega), if_neg (by omega), if_neg (by omega), if_neg (by omega), if_neg (by omega)]
theorem sgn_hd {b : Bool} {D t : List Nat} (h : Dg D) : hd (sgn b ++ (D ++ t)) = 45 ∨ isd (hd (sgn b ++ (D ++ t))) = true := by
  cases b with
  | true => exact .inl rfl
  | false =>
    right
    show isd (hd (D ++ t)) = true
    rw [hd_app h.1]
    exact isd_hd h
/-- At the text's beginning. -/
theorem init_num {s : List Nat} (h : hd s = 45 ∨ isd (hd s) = true) : step (init s) = number (init s) := by
  unfold step
  rw [skip_no (t := init s) h]
  exact stepV_num (t := init s) h (by show (0 : Nat) < 4000; omega) (by show (0 : Nat) < 64; omega)
theorem reads_first {s : List Nat} {a : Nat} {e : Int} (hl : s.length ≤ 1000) (h : hd s = 45 ∨ isd (hd s) = true) (hn : number (init s) = .inr (.err a e)) : Reads s (.err a e) := by
  unfold Reads
  rw [if_neg (by omega)]
  exact Ends.now ((init_num h).trans hn)
section
variable {b : Bool} {D : List Nat}
theorem r_ok (h : Dg D) (hl : (sgn b ++ (D ++ [])).length ≤ 1000) (v : Int) (hv : v = if b then -((val D : Nat) : Int) else ((val D : Nat) : Int)) (hr : -9223372036854775808 ≤ v ∧ v ≤ 9223372036854775807) : Reads (sgn b ++ (D ++ [])) (.ok (nd1 4 ⟨#[]⟩ v ⟨#[]⟩ .nil)) := by
  obtain ⟨h1, h2⟩ := scan_end (b := b) h
  have h3 := (nm (b := b) (t := []) h rfl).2.2.2
  have hn : number (init (sgn b ++ (D ++ []))) = .inl (leaf (init (sgn b ++ (D ++ []))) ((sgn b).length + D.length) 4 v ⟨#[]⟩) := by
    unfold number
    show (if (scan (sgn b ++ (D ++ []))).2 = false then _ else if fits (sgn b ++ (D ++ [])) then _ else _) = _
    rw [if_neg (by rw [h1]; simp), if_pos ⟨h2, by rw [h3, ← hv]; exact hr⟩]
    show Sum.inl (leaf _ (scan (sgn b ++ (D ++ []))).1 4 (nVal (sgn b ++ (D ++ []))) _) = _
    rw [h1, h3, ← hv]
  unfold Reads
  rw [if_neg (by omega)]
  refine ⟨_, .next ((init_num (sgn_hd h)).trans hn) (.refl _), ?_⟩
  have hs : (leaf (init (sgn b ++ (D ++ []))) ((sgn b).length + D.length) 4 v ⟨#[]⟩).s = [] := by
    show (sgn b ++ (D ++ [])).drop _ = []
    rw [List.append_nil, ← List.length_append, List.drop_length]
  unfold step stepS
  show stepB (skip (leaf _ _ 4 v ⟨#[]⟩)) = _
  unfold stepB
  show (if (skip (leaf _ _ 4 v ⟨#[]⟩)).s = [] then _ else _) = _
  rw [if_pos (by show (leaf _ _ 4 v ⟨#[]⟩).s.drop _ = []; rw [hs]; simp)]
  rfl
theorem r_whole {t : List Nat} (h : Dg D) (hl : (sgn b ++ (D ++ t)).length ≤ 1000) (hs : (scan (sgn b ++ (D ++ t))).2 = true) (hf : ¬ fits (sgn b ++ (D ++ t))) : Reads (sgn b ++ (D ++ t)) (.err 0 73) := by
  refine reads_first hl (sgn_hd h) ?_
  unfold number
  show (if (scan (sgn b ++ (D ++ t))).2 = false then _ else if fits (sgn b ++ (D ++ t)) then _ else _) = _
  rw [if_neg (by rw [hs]; simp), if_neg hf]
  rfl
theorem r_json {t : List Nat} {n : Nat} (h : Dg D) (hl : (sgn b ++ (D ++ t)).length ≤ 1000) (hs : scan (sgn b ++ (D ++ t)) = (n, false)) : Reads (sgn b ++ (D ++ t)) (.err n 70) := by
  refine reads_first hl (sgn_hd h) ?_
  unfold number
  show (if (scan (sgn b ++ (D ++ t))).2 = false then Sum.inr (Res.err (0 + (scan (sgn b ++ (D ++ t))).1) 70) else _) = _
  rw [hs, if_pos rfl, Nat.zero_add]
/-- Behind a blank. -/
theorem r_blank {t : List Nat} (h : Dg D) (hl : (sgn b ++ (D ++ t)).length ≤ 999) (hs : (scan (sgn b ++ (D ++ t))).2 = true) (hf : ¬ fits (sgn b ++ (D ++ t))) : Reads (32 :: (sgn b ++ (D ++ t))) (.err 1 73) := by
  have hh := sgn_hd (b := b) (t := t) h
  generalize sgn b ++ (D ++ t) = s at *
  have hk : skip (init (32 :: s)) = { init (32 :: s) with at_ := 1, s := s } := by
    have : nb (32 :: s) = 1 := by show (if blank 32 then nb s + 1 else 0) = 1; rw [nb_no hh]; rfl
    unfold skip
    show ({ init (32 :: s) with at_ := 0 + nb (32 :: s), s := (32 :: s).drop (nb (32 :: s)) } : St) = _
    rw [this]; rfl
  unfold Reads
  rw [if_neg (by simp; omega)]
  refine Ends.now ?_
  unfold step
  rw [hk]
  show stepV ({ init (32 :: s) with at_ := 1, s := s } : St) = _
  rw [stepV_num (t := { init (32 :: s) with at_ := 1, s := s }) hh (by show (0 : Nat) < 4000; omega) (by show (0 : Nat) < 64; omega)]
  unfold number
  show (if (scan s).2 = false then _ else if fits s then _ else _) = _
  rw [if_neg (by rw [hs]; simp), if_neg hf]
/-- In a list. -/
theorem r_list {t : List Nat} {n : Nat} (h : Dg D) (hl : (sgn b ++ (D ++ t)).length ≤ 999) (hs : scan (sgn b ++ (D ++ t)) = (n, false)) : Reads (91 :: (sgn b ++ (D ++ t))) (.err (1 + n) 70) := by
  have hh := sgn_hd (b := b) (t := t) h
  generalize sgn b ++ (D ++ t) = s at *
  have h1 : step (init (91 :: s)) = .inl (opn (init (91 :: s)) 6) := by
    have hk : skip (init (91 :: s)) = init (91 :: s) := by
      have : nb (91 :: s) = 0 := rfl
      unfold skip
      show ({ init (91 :: s) with at_ := 0 + nb (91 :: s), s := (91 :: s).drop (nb (91 :: s)) } : St) = _
      rw [this]; rfl
    unfold step
    rw [hk]
    rfl
  have hq : (opn (init (91 :: s)) 6).s = s := rfl
  have h2 : step (opn (init (91 :: s)) 6) = .inl (go (opn (init (91 :: s)) 6) 0 .value) := by
    unfold step
    rw [skip_no (t := opn (init (91 :: s)) 6) hh]
    show stepP (opn (init (91 :: s)) 6) = _
    unfold stepP
    show (if hd s = endOf 6 then _ else _) = _
    have e93 : endOf 6 = 93 := rfl
    have hne : ¬ hd s = endOf 6 := by
      rw [e93]
      rcases hh with e | e
      · omega
      · simp [isd] at e; omega
    rw [if_neg hne]
    rfl
  have h3 : step (go (opn (init (91 :: s)) 6) 0 .value) = .inr (.err (1 + n) 70) := by
    unfold step
    have hg : hd (go (opn (init (91 :: s)) 6) 0 .value).s = 45 ∨ isd (hd (go (opn (init (91 :: s)) 6) 0 .value).s) = true := hh
    rw [skip_no hg]
    show stepV (go (opn (init (91 :: s)) 6) 0 .value) = _
    rw [stepV_num hg (by show (0 : Nat) + (1 + 0) < 4000; omega) (by show (1 : Nat) < 64; omega)]
    unfold number
    show (if (scan s).2 = false then Sum.inr (Res.err (0 + 1 + 0 + (scan s).1) 70) else _) = _
    rw [hs, if_pos rfl]
  unfold Reads
  rw [if_neg (by simp; omega)]
  exact ⟨_, .next h1 (.next h2 (.refl _)), h3⟩
theorem fold_ten : ∀ (E : List Nat) (a : Nat), (∀ c ∈ E, isd c = true) → a * 10 ^ E.length ≤ fold a E
  | [], a, _ => by simp [fold]
  | c :: E, a, h => by
    have := fold_ten E (10 * a + (c - 48)) (fun x hx => h x (List.mem_cons_of_mem _ hx))
    show a * 10 ^ (E.length + 1) ≤ fold (10 * a + (c - 48)) E
    have h2 : a * 10 ^ (E.length + 1) = (10 * a) * 10 ^ E.length := by rw [Nat.pow_succ, Nat.mul_comm 10 a, Nat.mul_assoc, Nat.mul_comm (10 ^ _) 10]
    rw [h2]
    exact Nat.le_trans (Nat.mul_le_mul_right _ (by omega)) this
theorem val_app (D E : List Nat) : val (D ++ E) = fold (val D) E := by unfold val fold; rw [List.foldl_append]
/-- Many digits are too great. -/
theorem many {E : List Nat} (h : 1 ≤ val D) (hE : ∀ c ∈ E, isd c = true) (hl : 19 ≤ E.length) : 10000000000000000000 ≤ val (D ++ E) := by
  rw [val_app]
  have h1 := fold_ten E (val D) hE
  have h2 : 10 ^ 19 ≤ 10 ^ E.length := Nat.pow_le_pow_right (by omega) hl
  have h3 : 1 * 10 ^ E.length ≤ val D * 10 ^ E.length := Nat.mul_le_mul_right _ h
  omega
end
end Jr
end Go.Proofs.YteklcfimafplbaaDoor

/- JreadNumbers: the walk. -/
namespace Go.Proofs.YteklcfimafplbaaDoor
open Go.RowKit
set_option linter.unusedVariables false
set_option maxRecDepth 100000

theorem jbring_eq (x n : Int) (hn : 0 < n) (hn' : n ≤ 1152921504606846976) : (x.tmod n < 0 → wrap64 (x.tmod n + n) = x % n) ∧ (0 ≤ x.tmod n → x.tmod n = x % n) := by
  unfold wrap64
  have h := Int.tmod_eq_emod (a := x) (b := n)
  have h2 := Int.emod_nonneg x (b := n) (by omega)
  have h3 := Int.emod_lt_of_pos x hn
  split at h <;> constructor <;> intro h5 <;> omega
/-- The library's two errors and its table lie in their places. -/
def TabP (w : World) : Prop := Lib.TabIs Tryd.prog w "internal/strconv.uint64pow10" .u64 Lib.pow10Tab
theorem TabP.later {w w' : World} (h : TabP w) (hb : Below w.heap.size w w') : TabP w' := by
  unfold TabP Lib.TabIs World.var? at h ⊢
  have hg : Tryd.prog.globalNamed "internal/strconv.uint64pow10" = some 0 := by kernel_rfl
  rw [hg] at h ⊢
  simp only [Option.bind_some] at h ⊢
  have hlt : 0 < w.heap.size := by
    rcases Nat.lt_or_ge 0 w.heap.size with h' | h'
    · exact h'
    · rw [Array.getElem?_eq_none h'] at h; cases h
  rw [hb.block 0 hlt]
  exact h
/-- A number's text. -/
def itS (n : Int) : ByteArray := ⟨(Lib.itoa n).toArray⟩
theorem bl_arr (l : List UInt8) : bl ⟨l.toArray⟩ = l.map UInt8.toNat := by unfold bl; simp
theorem itS_bl (n : Int) : bl (itS n) = Jr.sgn (decide (n < 0)) ++ (Jr.dcs n.natAbs ++ []) := by
  unfold itS
  rw [bl_arr, List.append_nil]
  unfold Lib.itoa Jr.dcs Jr.sgn
  by_cases h : n < 0
  · rw [if_pos h, if_pos (by simp [h])]; rfl
  · rw [if_neg h, if_neg (by simp [h]), show n.natAbs = n.toNat by omega]; rfl
theorem itS_size (n : Int) (h0 : -9223372036854775808 ≤ n) (h1 : n ≤ 9223372036854775807) : (itS n).size ≤ 21 := by
  have := Lib.itoa_length_le n h0 h1
  rw [← bl_length]
  unfold itS
  rw [bl_arr, List.length_map]
  exact this
theorem jfmt (n : Int) (h0 : -9223372036854775808 ≤ n) (h1 : n ≤ 9223372036854775807) (w : World) (T : TabP w) : Calls Tryd.prog 29 #[.int .i64 n, .int .i64 10] w fun e w' => e = .returned (.string (itS n)) ∧ Below w.heap.size w w' :=
  (Tryd.strconv_FormatInt_10 n h0 h1 w T).mono fun e w' ⟨h2, k, os, h3⟩ => ⟨h2, by rw [h3]; exact Lib.below_grow _ _ (Nat.le_refl _) _ _⟩
theorem jitoa (n : Int) (h0 : -9223372036854775808 ≤ n) (h1 : n ≤ 9223372036854775807) (w : World) (T : TabP w) : Calls Tryd.prog 30 #[.int .i64 n] w fun e w' => e = .returned (.string (itS n)) ∧ Below w.heap.size w w' :=
  (Tryd.strconv_Itoa n h0 h1 w T).mono fun e w' ⟨h2, k, os, h3⟩ => ⟨h2, by rw [h3]; exact Lib.below_grow _ _ (Nat.le_refl _) _ _⟩
def sevens (c : Nat) : ByteArray := ⟨(Lib.repeatL (⟨#[55]⟩ : ByteArray).data.toList c).toArray⟩
theorem sevens_bl (c : Nat) : bl (sevens c) = List.replicate c 55 := by
  unfold sevens
  rw [bl_arr]
  induction c with
  | zero => rfl
  | succ c ih =>
    show ([55] ++ Lib.repeatL _ c).map UInt8.toNat = _
    rw [List.map_append, ih, List.replicate_succ]; rfl
theorem jrepeat (c : Nat) (h : 2 ≤ c) (h1 : c ≤ 100) (w : World) : Calls Tryd.prog 31 #[.string ⟨#[55]⟩, .int .i64 (c : Nat)] w fun e w' => e = .returned (.string (sevens c)) ∧ Below w.heap.size w w' :=
  Tryd.strings_Repeat_main ⟨#[55]⟩ c w h (by omega) (by show 1 * c ≤ _; omega) (by decide)
set_option maxHeartbeats 400000 in
theorem jbring (x n : Int) (w : World) (h0 : -9223372036854775808 ≤ x) (h1 : x ≤ 9223372036854775807) (hn : 0 < n) (hn' : n ≤ 1152921504606846976) :
    Calls Tryd.prog 18 #[.int .i64 x, .int .i64 n] w fun e w' => e = .returned (.int .i64 (x % n)) ∧ w = w' := by
  have he := Lib.hid (jbring_eq x n hn hn')
  go_enter Tryd.func18, Tryd.ntmps18
  go_wp2
  · go_ret
    exact ⟨congrArg Ending.returned (congrArg (Value.int IntKind.i64) (he.out.1 (by assumption))), rfl⟩
  · go_ret
    exact ⟨congrArg Ending.returned (congrArg (Value.int IntKind.i64) (he.out.2 (by assumption))), rfl⟩
theorem jfails' (s : ByteArray) (z : Int) (a : Nat) (n : Int) (w : World) (hz : z = (a : Nat)) (T : Tab w) (TE : TabE w) (hX : s.size ≤ 1000) (hr : Jr.Reads (bl s) (.err a n)) :
    Calls Tryd.prog 33 #[.string s, .int .i64 z, .int .i64 n] w fun e w' => e = .returned (.bool true) ∧ Below w.heap.size w w' := by
  subst hz
  exact jfails s a n w T TE (.inl (by omega)) hr
section
variable (n : Int) (h0 : -9223372036854775808 ≤ n) (h1 : n ≤ 9223372036854775807)
include h0 h1
theorem its_val : n = if decide (n < 0) then -((Jr.val (Jr.dcs n.natAbs) : Nat) : Int) else ((Jr.val (Jr.dcs n.natAbs) : Nat) : Int) := by
  rw [Jr.dcs_val]
  by_cases h : n < 0
  · rw [if_pos (by simp [h])]; omega
  · rw [if_neg (by simp [h])]; omega
omit h0 h1 in
theorem its_len : (Jr.sgn (decide (n < 0)) ++ Jr.dcs n.natAbs).length = (itS n).size := by
  rw [← bl_length, itS_bl, List.append_nil]
theorem its_ok : Jr.Reads (bl (itS n)) (.ok (Jr.nd1 4 ⟨#[]⟩ n ⟨#[]⟩ .nil)) := by
  have hz := itS_size n h0 h1
  have hl := its_len n
  rw [itS_bl]
  exact Jr.r_ok (Jr.dcs_dg _) (by rw [List.append_nil, hl]; omega) n (its_val n h0 h1) ⟨h0, h1⟩
theorem its_long (c : Nat) (hc : 19 ≤ c) (hc2 : c ≤ 100) : Jr.Reads (bl (if n = 0 then (⟨#[49]⟩ : ByteArray) ++ (itS n ++ sevens c) else itS n ++ sevens c)) (.err 0 73) := by
  have hz := itS_size n h0 h1
  have hl := its_len n
  rw [List.length_append] at hl
  have h7 : ∀ x ∈ List.replicate c 55, Jr.isd x = true := fun x hx => by rw [List.eq_of_mem_replicate hx]; rfl
  have key : ∀ (b : Bool) (D : List Nat), Jr.Dg D → (Jr.sgn b ++ D).length ≤ 500 → 10000000000000000000 ≤ Jr.val D → Jr.Reads (Jr.sgn b ++ (D ++ [])) (.err 0 73) := fun b D hD hL hv => by
    obtain ⟨e1, e2⟩ := Jr.scan_end (b := b) hD
    have e3 := (Jr.nm (b := b) (t := []) hD rfl).2.2.2
    refine Jr.r_whole hD (by rw [List.append_nil]; omega) (by rw [e1]) (fun hf => ?_)
    obtain ⟨_, f1, f2⟩ := hf
    rw [e3] at f1 f2
    cases b with
    | true => rw [if_pos rfl] at f1; omega
    | false => rw [if_neg (by simp)] at f2; omega
  by_cases hn : n = 0
  · rw [if_pos hn, bl_append, bl_append, sevens_bl, itS_bl, hn]
    have e : bl (⟨#[49]⟩ : ByteArray) ++ (Jr.sgn (decide ((0 : Int) < 0)) ++ (Jr.dcs (0 : Int).natAbs ++ []) ++ List.replicate c 55) = Jr.sgn false ++ (([49] ++ 48 :: List.replicate c 55) ++ []) := by
      rw [show Jr.dcs (0 : Int).natAbs = [48] from Jr.dcs_small (by decide), List.append_nil, List.append_nil]; rfl
    rw [e]
    have h48 : ∀ x ∈ 48 :: List.replicate c 55, Jr.isd x = true := fun x hx => by
      rcases List.mem_cons.1 hx with rfl | hx
      · rfl
      · exact h7 x hx
    refine key false _ ⟨by simp, fun x hx => ?_, fun e => by simp at e⟩ (by simp [Jr.sgn]; omega) (Jr.many (by decide) h48 (by simp; omega))
    rcases List.mem_append.1 hx with hx | hx
    · have : x = 49 := by simpa using hx
      subst this; rfl
    · exact h48 x hx
  · rw [if_neg hn, bl_append, sevens_bl, itS_bl]
    have e : Jr.sgn (decide (n < 0)) ++ (Jr.dcs n.natAbs ++ []) ++ List.replicate c 55 = Jr.sgn (decide (n < 0)) ++ ((Jr.dcs n.natAbs ++ List.replicate c 55) ++ []) := by simp
    rw [e]
    obtain ⟨g1, g2, g3⟩ := Jr.dcs_dg n.natAbs
    refine key _ _ ⟨by simp [g1], fun x hx => ?_, fun e => ?_⟩ (by rw [List.length_append, List.length_append, List.length_replicate]; omega) (Jr.many (by rw [Jr.dcs_val]; omega) h7 (by simp; omega))
    · rcases List.mem_append.1 hx with hx | hx
      · exact g2 x hx
      · exact h7 x hx
    · rw [Jr.hd_app g1] at e
      exact absurd e (Jr.dcs_head _ (by omega))
omit h0 h1 in
theorem itS_dig (r : Int) (h2 : 0 ≤ r) : ∃ E, bl (itS r) = E ∧ E ≠ [] ∧ ∀ c ∈ E, Jr.isd c = true := by
  refine ⟨Jr.dcs r.natAbs, ?_, Jr.dcs_ne _, Jr.dcs_isd _⟩
  rw [itS_bl, List.append_nil, show decide (r < 0) = false by simp; omega]; rfl
theorem its_point (r : Int) (h2 : 0 ≤ r) (h3 : r < 1000) : Jr.Reads (bl ((itS n ++ (⟨#[46]⟩ : ByteArray)) ++ itS r)) (.err 0 73) := by
  have hz := itS_size n h0 h1
  have hz2 := itS_size r (by omega) (by omega)
  have hl := its_len n
  obtain ⟨E, hE, e1, e2⟩ := itS_dig r h2
  have hEl : E.length = (itS r).size := by rw [← hE, bl_length]
  rw [bl_append, bl_append, hE, itS_bl]
  have e : Jr.sgn (decide (n < 0)) ++ (Jr.dcs n.natAbs ++ []) ++ bl (⟨#[46]⟩ : ByteArray) ++ E = Jr.sgn (decide (n < 0)) ++ (Jr.dcs n.natAbs ++ 46 :: E) := by
    rw [show bl (⟨#[46]⟩ : ByteArray) = [46] from rfl]; simp
  rw [e]
  rw [List.length_append] at hl
  obtain ⟨s1, s2⟩ := Jr.scan_point (b := decide (n < 0)) (Jr.dcs_dg n.natAbs) ⟨e1, e2⟩
  exact Jr.r_whole (Jr.dcs_dg _) (by rw [List.length_append, List.length_append, List.length_cons]; omega) s1 (fun hf => s2 hf.1)
theorem its_e (r : Int) (h2 : 0 ≤ r) (h3 : r < 1000) : Jr.Reads (bl ((((⟨#[32]⟩ : ByteArray) ++ itS n) ++ (⟨#[101]⟩ : ByteArray)) ++ itS r)) (.err 1 73) := by
  have hz := itS_size n h0 h1
  have hz2 := itS_size r (by omega) (by omega)
  have hl := its_len n
  obtain ⟨E, hE, e1, e2⟩ := itS_dig r h2
  have hEl : E.length = (itS r).size := by rw [← hE, bl_length]
  rw [bl_append, bl_append, bl_append, hE, itS_bl]
  have e : bl (⟨#[32]⟩ : ByteArray) ++ (Jr.sgn (decide (n < 0)) ++ (Jr.dcs n.natAbs ++ [])) ++ bl (⟨#[101]⟩ : ByteArray) ++ E = 32 :: (Jr.sgn (decide (n < 0)) ++ (Jr.dcs n.natAbs ++ 101 :: ([] ++ E))) := by
    rw [show bl (⟨#[101]⟩ : ByteArray) = [101] from rfl, show bl (⟨#[32]⟩ : ByteArray) = [32] from rfl]; simp
  rw [e]
  rw [List.length_append] at hl
  obtain ⟨s1, s2⟩ := Jr.scan_e (b := decide (n < 0)) (.inl rfl) (.inl rfl) (Jr.dcs_dg n.natAbs) e2
  exact Jr.r_blank (Jr.dcs_dg _) (by rw [List.length_append, List.length_append, List.length_cons]; simp; omega) (by rw [s1]; simp [e1]) (fun hf => s2 hf.1)
theorem its_em (r : Int) (h2 : 0 ≤ r) (h3 : r < 1000) : Jr.Reads (bl ((itS n ++ (⟨#[69, 45]⟩ : ByteArray)) ++ itS r)) (.err 0 73) := by
  have hz := itS_size n h0 h1
  have hz2 := itS_size r (by omega) (by omega)
  have hl := its_len n
  obtain ⟨E, hE, e1, e2⟩ := itS_dig r h2
  have hEl : E.length = (itS r).size := by rw [← hE, bl_length]
  rw [bl_append, bl_append, hE, itS_bl]
  have e : Jr.sgn (decide (n < 0)) ++ (Jr.dcs n.natAbs ++ []) ++ bl (⟨#[69, 45]⟩ : ByteArray) ++ E = Jr.sgn (decide (n < 0)) ++ (Jr.dcs n.natAbs ++ 69 :: ([45] ++ E)) := by
    rw [show bl (⟨#[69, 45]⟩ : ByteArray) = [69, 45] from rfl]; simp
  rw [e]
  rw [List.length_append] at hl
  obtain ⟨s1, s2⟩ := Jr.scan_e (b := decide (n < 0)) (.inr rfl) (.inr (.inr rfl)) (Jr.dcs_dg n.natAbs) e2
  exact Jr.r_whole (Jr.dcs_dg _) (by rw [List.length_append, List.length_append, List.length_cons]; simp; omega) (by rw [s1]; simp [e1]) (fun hf => s2 hf.1)
theorem its_dot : Jr.Reads (bl (((⟨#[91]⟩ : ByteArray) ++ itS n) ++ (⟨#[46, 93]⟩ : ByteArray))) (.err (1 + ((itS n).size + 1)) 70) := by
  have hz := itS_size n h0 h1
  have hl := its_len n
  rw [bl_append, bl_append, itS_bl]
  have e : bl (⟨#[91]⟩ : ByteArray) ++ (Jr.sgn (decide (n < 0)) ++ (Jr.dcs n.natAbs ++ [])) ++ bl (⟨#[46, 93]⟩ : ByteArray) = 91 :: (Jr.sgn (decide (n < 0)) ++ (Jr.dcs n.natAbs ++ 46 :: [93])) := by
    rw [show bl (⟨#[46, 93]⟩ : ByteArray) = [46, 93] from rfl, show bl (⟨#[91]⟩ : ByteArray) = [91] from rfl]; simp
  rw [e, ← hl, List.length_append]
  rw [List.length_append] at hl
  exact Jr.r_list (Jr.dcs_dg _) (by rw [List.length_append, List.length_append, List.length_cons]; simp; omega) (Jr.scan_dot (Jr.dcs_dg _) rfl)
theorem its_e0 : Jr.Reads (bl (itS n ++ (⟨#[101]⟩ : ByteArray))) (.err ((itS n).size + 1) 70) := by
  have hz := itS_size n h0 h1
  have hl := its_len n
  rw [bl_append, itS_bl]
  have e : Jr.sgn (decide (n < 0)) ++ (Jr.dcs n.natAbs ++ []) ++ bl (⟨#[101]⟩ : ByteArray) = Jr.sgn (decide (n < 0)) ++ (Jr.dcs n.natAbs ++ 101 :: ([] ++ [])) := by
    rw [show bl (⟨#[101]⟩ : ByteArray) = [101] from rfl]; simp
  rw [e, ← hl, List.length_append]
  rw [List.length_append] at hl
  exact Jr.r_json (Jr.dcs_dg _) (by rw [List.length_append, List.length_append, List.length_cons]; simp; omega) (Jr.scan_e (.inl rfl) (.inl rfl) (Jr.dcs_dg _) (by simp)).1
theorem its_e1 : Jr.Reads (bl (itS n ++ (⟨#[101, 43]⟩ : ByteArray))) (.err ((itS n).size + 2) 70) := by
  have hz := itS_size n h0 h1
  have hl := its_len n
  rw [bl_append, itS_bl]
  have e : Jr.sgn (decide (n < 0)) ++ (Jr.dcs n.natAbs ++ []) ++ bl (⟨#[101, 43]⟩ : ByteArray) = Jr.sgn (decide (n < 0)) ++ (Jr.dcs n.natAbs ++ 101 :: ([43] ++ [])) := by
    rw [show bl (⟨#[101, 43]⟩ : ByteArray) = [101, 43] from rfl]; simp
  rw [e, ← hl, List.length_append]
  rw [List.length_append] at hl
  exact Jr.r_json (Jr.dcs_dg _) (by rw [List.length_append, List.length_append, List.length_cons]; simp; omega) (Jr.scan_e (.inl rfl) (.inr (.inl rfl)) (Jr.dcs_dg _) (by simp)).1
end
set_option maxHeartbeats 16000000 in
theorem jreadNumbers (n more a : Int) (w : World) (h0 : -9223372036854775808 ≤ n) (h1 : n ≤ 9223372036854775807) (m0 : -9223372036854775808 ≤ more) (m1 : more ≤ 9223372036854775807) (a0 : -9223372036854775808 ≤ a) (a1 : a ≤ 9223372036854775807) (T : Tab w) (TE : TabE w) (TP : TabP w) :
    Calls Tryd.prog 8 #[.int .i64 n, .int .i64 more, .int .i64 a] w fun e w' => e = .returned (.bool true) ∧ Below w.heap.size w w' := by
  obtain ⟨r, hr⟩ : ∃ r, a % 1000 = r := ⟨_, rfl⟩
  have hr0 : 0 ≤ r := by omega
  have hr1 : r < 1000 := by omega
  obtain ⟨q, hq⟩ : ∃ q : Nat, more % 30 = (q : Nat) := ⟨(more % 30).toNat, by omega⟩
  have hq1 : q < 30 := by omega
  obtain ⟨s, hs⟩ : ∃ s, itS n = s := ⟨_, rfl⟩
  obtain ⟨d, hd⟩ : ∃ d, itS r = d := ⟨_, rfl⟩
  obtain ⟨u, hu⟩ : ∃ u, sevens (19 + q) = u := ⟨_, rfl⟩
  have hsz : s.size ≤ 21 := by rw [← hs]; exact itS_size n h0 h1
  have hdz : d.size ≤ 21 := by rw [← hd]; exact itS_size r (by omega) (by omega)
  have huz : u.size ≤ 50 := by rw [← hu, ← bl_length, sevens_bl, List.length_replicate]; omega
  have K1 := Lib.hid (its_ok n h0 h1)
  have K2 := Lib.hid (its_long n h0 h1 (19 + q) (by omega) (by omega))
  have K3 := Lib.hid (its_point n h0 h1 r hr0 hr1)
  have K4 := Lib.hid (its_e n h0 h1 r hr0 hr1)
  have K5 := Lib.hid (its_em n h0 h1 r hr0 hr1)
  have K6 := Lib.hid (its_dot n h0 h1)
  have K7 := Lib.hid (its_e0 n h0 h1)
  have K8 := Lib.hid (its_e1 n h0 h1)
  have CF := Lib.hid (jfmt n h0 h1 w TP)
  have CB := Lib.hid (fun w => jbring a 1000 w a0 a1 (by omega) (by omega))
  have CM := Lib.hid (fun w => jbring more 30 w m0 m1 (by omega) (by omega))
  have CD := Lib.hid (fun w (T : TabP w) => jitoa r (by omega) (by omega) w T)
  have CR := Lib.hid (fun w => jrepeat (19 + q) (by omega) (by omega) w)
  rw [hs] at K1 K2 K3 K4 K5 K6 K7 K8 CF
  rw [hd] at K3 K4 K5 CD
  rw [hu] at K2 CR
  rw [hr] at CB
  rw [hq] at CM
  have e19n : ((19 + q : Nat) : Int) = 19 + (q : Int) := by omega
  simp only [e19n] at CR
  have HT := Lib.hid T
  have HTE := Lib.hid TE
  have HTP := Lib.hid TP
  have HS := Lib.hid (And.intro hsz (And.intro hdz huz))
  have e19 : IntKind.i64.wrap (19 + (q : Int)) = 19 + (q : Int) := IntWalk.i64_in _ ⟨by omega, by omega⟩
  have e2 : IntKind.i64.wrap (2 + (s.size : Int)) = 2 + (s.size : Int) := IntWalk.i64_in _ ⟨by omega, by omega⟩
  have e1 : IntKind.i64.wrap ((s.size : Int) + 1) = (s.size : Int) + 1 := IntWalk.i64_in _ ⟨by omega, by omega⟩
  have e3 : IntKind.i64.wrap ((s.size : Int) + 2) = (s.size : Int) + 2 := IntWalk.i64_in _ ⟨by omega, by omega⟩
  have z1 : s.size + u.size ≤ 9223372036854775807 := by omega
  have z2 : (⟨#[49]⟩ : ByteArray).size + (s ++ u).size ≤ 9223372036854775807 := by rw [ByteArray.size_append]; show 1 + _ ≤ _; omega
  have z3 : s.size + (⟨#[46]⟩ : ByteArray).size ≤ 9223372036854775807 := by show _ + 1 ≤ _; omega
  have z4 : (s ++ (⟨#[46]⟩ : ByteArray)).size + d.size ≤ 9223372036854775807 := by rw [ByteArray.size_append]; show _ + 1 + _ ≤ _; omega
  have z5 : (⟨#[32]⟩ : ByteArray).size + s.size ≤ 9223372036854775807 := by show 1 + _ ≤ _; omega
  have z6 : ((⟨#[32]⟩ : ByteArray) ++ s).size + (⟨#[101]⟩ : ByteArray).size ≤ 9223372036854775807 := by rw [ByteArray.size_append]; show 1 + _ + 1 ≤ _; omega
  have z7 : ((⟨#[32]⟩ : ByteArray) ++ s ++ (⟨#[101]⟩ : ByteArray)).size + d.size ≤ 9223372036854775807 := by rw [ByteArray.size_append, ByteArray.size_append]; show 1 + _ + 1 + _ ≤ _; omega
  have z8 : s.size + (⟨#[69, 45]⟩ : ByteArray).size ≤ 9223372036854775807 := by show _ + 2 ≤ _; omega
  have z9 : (s ++ (⟨#[69, 45]⟩ : ByteArray)).size + d.size ≤ 9223372036854775807 := by rw [ByteArray.size_append]; show _ + 2 + _ ≤ _; omega
  have za : (⟨#[91]⟩ : ByteArray).size + s.size ≤ 9223372036854775807 := by show 1 + _ ≤ _; omega
  have zb : ((⟨#[91]⟩ : ByteArray) ++ s).size + (⟨#[46, 93]⟩ : ByteArray).size ≤ 9223372036854775807 := by rw [ByteArray.size_append]; show 1 + _ + 2 ≤ _; omega
  have zc : s.size + (⟨#[101]⟩ : ByteArray).size ≤ 9223372036854775807 := by show _ + 1 ≤ _; omega
  have zd : s.size + (⟨#[101, 43]⟩ : ByteArray).size ≤ 9223372036854775807 := by show _ + 2 ≤ _; omega
  have y0 : Hid (((⟨#[49]⟩ : ByteArray) ++ (s ++ u)).size ≤ 1000) := Lib.hid (by rw [ByteArray.size_append, ByteArray.size_append]; show 1 + (_ + _) ≤ _; omega)
  have y2 : Hid ((s ++ u).size ≤ 1000) := Lib.hid (by rw [ByteArray.size_append]; omega)
  have y3 : Hid (((s ++ (⟨#[46]⟩ : ByteArray)) ++ d).size ≤ 1000) := Lib.hid (by rw [ByteArray.size_append, ByteArray.size_append]; show _ + 1 + _ ≤ _; omega)
  have y4 : Hid (((((⟨#[32]⟩ : ByteArray) ++ s) ++ (⟨#[101]⟩ : ByteArray)) ++ d).size ≤ 1000) := Lib.hid (by rw [ByteArray.size_append, ByteArray.size_append, ByteArray.size_append]; show 1 + _ + 1 + _ ≤ _; omega)
  have y5 : Hid (((s ++ (⟨#[69, 45]⟩ : ByteArray)) ++ d).size ≤ 1000) := Lib.hid (by rw [ByteArray.size_append, ByteArray.size_append]; show _ + 2 + _ ≤ _; omega)
  have y6 : Hid ((((⟨#[91]⟩ : ByteArray) ++ s) ++ (⟨#[46, 93]⟩ : ByteArray)).size ≤ 1000) := Lib.hid (by rw [ByteArray.size_append, ByteArray.size_append]; show 1 + _ + 2 ≤ _; omega)
  have y7 : Hid ((s ++ (⟨#[101]⟩ : ByteArray)).size ≤ 1000) := Lib.hid (by rw [ByteArray.size_append]; show _ + 1 ≤ _; omega)
  have y8 : Hid ((s ++ (⟨#[101, 43]⟩ : ByteArray)).size ≤ 1000) := Lib.hid (by rw [ByteArray.size_append]; show _ + 2 ≤ _; omega)
  clear e19n hr hq hs hd hu hsz hdz huz T TE TP h0 h1 m0 m1 a0 a1 hr0 hr1 hq1
  go_enter Tryd.func8, Tryd.ntmps8
  go_wp2_with fail
  ((with_reducible refine (CF.out).mono ?_); rintro e w1 ⟨rfl, b⟩)
  have HB := Lib.hid b
  replace HT := Lib.hid (HT.out.later b)
  replace HTE := Lib.hid (HTE.out.later b)
  replace HTP := Lib.hid (HTP.out.later b)
  clear b CF
  go_wp2_with fail
  ((with_reducible refine (CB.out _).mono ?_); rintro e w2 ⟨rfl, rfl⟩)
  go_wp2_with fail
  ((with_reducible refine (CD.out _ HTP.out).mono ?_); rintro e w3 ⟨rfl, b⟩)
  replace HB := Lib.hid (up HB.out b)
  replace HT := Lib.hid (HT.out.later b)
  replace HTE := Lib.hid (HTE.out.later b)
  clear b CB CD HTP
  go_wp2_with fail
  ((with_reducible refine (CM.out _).mono ?_); rintro e w4 ⟨rfl, rfl⟩)
  go_wp2_with fail
  ((with_reducible refine (CR.out _).mono ?_); rintro e w5 ⟨rfl, b⟩)
  replace HB := Lib.hid (up HB.out b)
  replace HT := Lib.hid (HT.out.later b)
  replace HTE := Lib.hid (HTE.out.later b)
  clear b CM CR
  by_cases hn : n = 0
  · subst hn
    have K2 := Lib.hid (show Jr.Reads (bl ((⟨#[49]⟩ : ByteArray) ++ (s ++ u))) (.err 0 73) by have := K2.out; rwa [if_pos rfl] at this)
    have CN := Lib.hid (mkNum (0) w5)
    go_wp2_with fail
    ((with_reducible refine (CN.out).mono ?_); rintro e w6 ⟨v, rfl, ho, b⟩)
    have HN := Lib.hid (Gn.Own.rd ndL ho)
    obtain ⟨va, vc, rfl⟩ := rdv HN.out 1 rfl
    replace HB := Lib.hid (up HB.out b)
    replace HT := Lib.hid (HT.out.later b)
    replace HTE := Lib.hid (HTE.out.later b)
    clear b CN ho
    have CX := Lib.hid (show Calls Tryd.prog 28 #[.string s, .slice va 1 vc] w6 fun e w' => e = .returned (.bool true) ∧ Below w6.heap.size w6 w' from jreads _ (Jr.nd1 4 ⟨#[]⟩ (0) ⟨#[]⟩ .nil) _ w6 HT.out HTE.out (.inl (by have := HS.out; omega)) K1.out HN.out (show 0 < 1 by decide) (show 1 ≤ 1000000 by decide))
    go_wp2_with fail
    ((with_reducible refine (CX.out).mono ?_); rintro e w7 ⟨rfl, b⟩)
    replace HB := Lib.hid (up HB.out b)
    replace HT := Lib.hid (HT.out.later b)
    replace HTE := Lib.hid (HTE.out.later b)
    clear b CX
    have CX := Lib.hid (show Calls Tryd.prog 33 #[.string ((⟨#[49]⟩ : ByteArray) ++ (s ++ u)), .int .i64 (0), .int .i64 73] w7 fun e w' => e = .returned (.bool true) ∧ Below w7.heap.size w7 w' from jfails' _ _ (0) 73 w7 (by omega) HT.out HTE.out y0.out K2.out)
    go_wp2_with fail
    ((with_reducible refine (CX.out).mono ?_); rintro e w8 ⟨rfl, b⟩)
    replace HB := Lib.hid (up HB.out b)
    replace HT := Lib.hid (HT.out.later b)
    replace HTE := Lib.hid (HTE.out.later b)
    clear b CX
    have CX := Lib.hid (show Calls Tryd.prog 33 #[.string ((s ++ (⟨#[46]⟩ : ByteArray)) ++ d), .int .i64 (0), .int .i64 73] w8 fun e w' => e = .returned (.bool true) ∧ Below w8.heap.size w8 w' from jfails' _ _ (0) 73 w8 (by omega) HT.out HTE.out y3.out K3.out)
    go_wp2_with fail
    ((with_reducible refine (CX.out).mono ?_); rintro e w9 ⟨rfl, b⟩)
    replace HB := Lib.hid (up HB.out b)
    replace HT := Lib.hid (HT.out.later b)
    replace HTE := Lib.hid (HTE.out.later b)
    clear b CX
    have CX := Lib.hid (show Calls Tryd.prog 33 #[.string ((((⟨#[32]⟩ : ByteArray) ++ s) ++ (⟨#[101]⟩ : ByteArray)) ++ d), .int .i64 (1), .int .i64 73] w9 fun e w' => e = .returned (.bool true) ∧ Below w9.heap.size w9 w' from jfails' _ _ (1) 73 w9 (by omega) HT.out HTE.out y4.out K4.out)
    go_wp2_with fail
    ((with_reducible refine (CX.out).mono ?_); rintro e w10 ⟨rfl, b⟩)
    replace HB := Lib.hid (up HB.out b)
    replace HT := Lib.hid (HT.out.later b)
    replace HTE := Lib.hid (HTE.out.later b)
    clear b CX
    have CX := Lib.hid (show Calls Tryd.prog 33 #[.string ((s ++ (⟨#[69, 45]⟩ : ByteArray)) ++ d), .int .i64 (0), .int .i64 73] w10 fun e w' => e = .returned (.bool true) ∧ Below w10.heap.size w10 w' from jfails' _ _ (0) 73 w10 (by omega) HT.out HTE.out y5.out K5.out)
    go_wp2_with fail
    ((with_reducible refine (CX.out).mono ?_); rintro e w11 ⟨rfl, b⟩)
    replace HB := Lib.hid (up HB.out b)
    replace HT := Lib.hid (HT.out.later b)
    replace HTE := Lib.hid (HTE.out.later b)
    clear b CX
    have CX := Lib.hid (show Calls Tryd.prog 33 #[.string (((⟨#[91]⟩ : ByteArray) ++ s) ++ (⟨#[46, 93]⟩ : ByteArray)), .int .i64 (2 + (s.size : Int)), .int .i64 70] w11 fun e w' => e = .returned (.bool true) ∧ Below w11.heap.size w11 w' from jfails' _ _ (1 + (s.size + 1)) 70 w11 (by omega) HT.out HTE.out y6.out K6.out)
    go_wp2_with fail
    ((with_reducible refine (CX.out).mono ?_); rintro e w12 ⟨rfl, b⟩)
    replace HB := Lib.hid (up HB.out b)
    replace HT := Lib.hid (HT.out.later b)
    replace HTE := Lib.hid (HTE.out.later b)
    clear b CX
    have CX := Lib.hid (show Calls Tryd.prog 33 #[.string (s ++ (⟨#[101]⟩ : ByteArray)), .int .i64 ((s.size : Int) + 1), .int .i64 70] w12 fun e w' => e = .returned (.bool true) ∧ Below w12.heap.size w12 w' from jfails' _ _ (s.size + 1) 70 w12 (by omega) HT.out HTE.out y7.out K7.out)
    go_wp2_with fail
    ((with_reducible refine (CX.out).mono ?_); rintro e w13 ⟨rfl, b⟩)
    replace HB := Lib.hid (up HB.out b)
    replace HT := Lib.hid (HT.out.later b)
    replace HTE := Lib.hid (HTE.out.later b)
    clear b CX
    have CX := Lib.hid (show Calls Tryd.prog 33 #[.string (s ++ (⟨#[101, 43]⟩ : ByteArray)), .int .i64 ((s.size : Int) + 2), .int .i64 70] w13 fun e w' => e = .returned (.bool true) ∧ Below w13.heap.size w13 w' from jfails' _ _ (s.size + 2) 70 w13 (by omega) HT.out HTE.out y8.out K8.out)
    go_wp2_with fail
    ((with_reducible refine (CX.out).mono ?_); rintro e w14 ⟨rfl, b⟩)
    replace HB := Lib.hid (up HB.out b)
    replace HT := Lib.hid (HT.out.later b)
    replace HTE := Lib.hid (HTE.out.later b)
    clear b CX
    have CW := Lib.hid (jworks w14 HT.out HTE.out)
    go_wp2_with fail
    ((with_reducible refine (CW.out).mono ?_); rintro e w15 ⟨rfl, b⟩)
    replace HB := Lib.hid (up HB.out b)
    clear b CW
    go_wp2_with fail
    go_ret
    exact ⟨rfl, HB.out⟩
  · have hn0 : (n == 0) = false := by simp; exact hn
    have K2 := Lib.hid (show Jr.Reads (bl (s ++ u)) (.err 0 73) by have := K2.out; rwa [if_neg hn] at this)
    have CN := Lib.hid (mkNum (n) w5)
    go_wp2_with fail
    ((with_reducible refine (CN.out).mono ?_); rintro e w6 ⟨v, rfl, ho, b⟩)
    have HN := Lib.hid (Gn.Own.rd ndL ho)
    obtain ⟨va, vc, rfl⟩ := rdv HN.out 1 rfl
    replace HB := Lib.hid (up HB.out b)
    replace HT := Lib.hid (HT.out.later b)
    replace HTE := Lib.hid (HTE.out.later b)
    clear b CN ho
    have CX := Lib.hid (show Calls Tryd.prog 28 #[.string s, .slice va 1 vc] w6 fun e w' => e = .returned (.bool true) ∧ Below w6.heap.size w6 w' from jreads _ (Jr.nd1 4 ⟨#[]⟩ (n) ⟨#[]⟩ .nil) _ w6 HT.out HTE.out (.inl (by have := HS.out; omega)) K1.out HN.out (show 0 < 1 by decide) (show 1 ≤ 1000000 by decide))
    go_wp2_with fail
    ((with_reducible refine (CX.out).mono ?_); rintro e w7 ⟨rfl, b⟩)
    replace HB := Lib.hid (up HB.out b)
    replace HT := Lib.hid (HT.out.later b)
    replace HTE := Lib.hid (HTE.out.later b)
    clear b CX
    have CX := Lib.hid (show Calls Tryd.prog 33 #[.string (s ++ u), .int .i64 (0), .int .i64 73] w7 fun e w' => e = .returned (.bool true) ∧ Below w7.heap.size w7 w' from jfails' _ _ (0) 73 w7 (by omega) HT.out HTE.out y2.out K2.out)
    go_wp2_with fail
    ((with_reducible refine (CX.out).mono ?_); rintro e w8 ⟨rfl, b⟩)
    replace HB := Lib.hid (up HB.out b)
    replace HT := Lib.hid (HT.out.later b)
    replace HTE := Lib.hid (HTE.out.later b)
    clear b CX
    have CX := Lib.hid (show Calls Tryd.prog 33 #[.string ((s ++ (⟨#[46]⟩ : ByteArray)) ++ d), .int .i64 (0), .int .i64 73] w8 fun e w' => e = .returned (.bool true) ∧ Below w8.heap.size w8 w' from jfails' _ _ (0) 73 w8 (by omega) HT.out HTE.out y3.out K3.out)
    go_wp2_with fail
    ((with_reducible refine (CX.out).mono ?_); rintro e w9 ⟨rfl, b⟩)
    replace HB := Lib.hid (up HB.out b)
    replace HT := Lib.hid (HT.out.later b)
    replace HTE := Lib.hid (HTE.out.later b)
    clear b CX
    have CX := Lib.hid (show Calls Tryd.prog 33 #[.string ((((⟨#[32]⟩ : ByteArray) ++ s) ++ (⟨#[101]⟩ : ByteArray)) ++ d), .int .i64 (1), .int .i64 73] w9 fun e w' => e = .returned (.bool true) ∧ Below w9.heap.size w9 w' from jfails' _ _ (1) 73 w9 (by omega) HT.out HTE.out y4.out K4.out)
    go_wp2_with fail
    ((with_reducible refine (CX.out).mono ?_); rintro e w10 ⟨rfl, b⟩)
    replace HB := Lib.hid (up HB.out b)
    replace HT := Lib.hid (HT.out.later b)
    replace HTE := Lib.hid (HTE.out.later b)
    clear b CX
    have CX := Lib.hid (show Calls Tryd.prog 33 #[.string ((s ++ (⟨#[69, 45]⟩ : ByteArray)) ++ d), .int .i64 (0), .int .i64 73] w10 fun e w' => e = .returned (.bool true) ∧ Below w10.heap.size w10 w' from jfails' _ _ (0) 73 w10 (by omega) HT.out HTE.out y5.out K5.out)
    go_wp2_with fail
    ((with_reducible refine (CX.out).mono ?_); rintro e w11 ⟨rfl, b⟩)
    replace HB := Lib.hid (up HB.out b)
    replace HT := Lib.hid (HT.out.later b)
    replace HTE := Lib.hid (HTE.out.later b)
    clear b CX
    have CX := Lib.hid (show Calls Tryd.prog 33 #[.string (((⟨#[91]⟩ : ByteArray) ++ s) ++ (⟨#[46, 93]⟩ : ByteArray)), .int .i64 (2 + (s.size : Int)), .int .i64 70] w11 fun e w' => e = .returned (.bool true) ∧ Below w11.heap.size w11 w' from jfails' _ _ (1 + (s.size + 1)) 70 w11 (by omega) HT.out HTE.out y6.out K6.out)
    go_wp2_with fail
    ((with_reducible refine (CX.out).mono ?_); rintro e w12 ⟨rfl, b⟩)
    replace HB := Lib.hid (up HB.out b)
    replace HT := Lib.hid (HT.out.later b)
    replace HTE := Lib.hid (HTE.out.later b)
    clear b CX
    have CX := Lib.hid (show Calls Tryd.prog 33 #[.string (s ++ (⟨#[101]⟩ : ByteArray)), .int .i64 ((s.size : Int) + 1), .int .i64 70] w12 fun e w' => e = .returned (.bool true) ∧ Below w12.heap.size w12 w' from jfails' _ _ (s.size + 1) 70 w12 (by omega) HT.out HTE.out y7.out K7.out)
    go_wp2_with fail
    ((with_reducible refine (CX.out).mono ?_); rintro e w13 ⟨rfl, b⟩)
    replace HB := Lib.hid (up HB.out b)
    replace HT := Lib.hid (HT.out.later b)
    replace HTE := Lib.hid (HTE.out.later b)
    clear b CX
    have CX := Lib.hid (show Calls Tryd.prog 33 #[.string (s ++ (⟨#[101, 43]⟩ : ByteArray)), .int .i64 ((s.size : Int) + 2), .int .i64 70] w13 fun e w' => e = .returned (.bool true) ∧ Below w13.heap.size w13 w' from jfails' _ _ (s.size + 2) 70 w13 (by omega) HT.out HTE.out y8.out K8.out)
    go_wp2_with fail
    ((with_reducible refine (CX.out).mono ?_); rintro e w14 ⟨rfl, b⟩)
    replace HB := Lib.hid (up HB.out b)
    replace HT := Lib.hid (HT.out.later b)
    replace HTE := Lib.hid (HTE.out.later b)
    clear b CX
    have CW := Lib.hid (jworks w14 HT.out HTE.out)
    go_wp2_with fail
    ((with_reducible refine (CW.out).mono ?_); rintro e w15 ⟨rfl, b⟩)
    replace HB := Lib.hid (up HB.out b)
    clear b CW
    go_wp2_with fail
    go_ret
    exact ⟨rfl, HB.out⟩
end Go.Proofs.YteklcfimafplbaaDoor

/- What the rows' frames share: the listed variables lie in memory. -/
namespace Go.Proofs.YteklcfimafplbaaDoor
open Go.ChangeShapes Go.WideShapes Go.ChangeAt Go.RowKit Go.Deep
set_option linter.unusedVariables false

theorem own : ownKnob Tryd.prog.godebug = none := by kernel_rfl
theorem laidOut : laidOutB Tryd.prog = true := by kernel_rfl

def laidList : List (String × DataW Unit) := [("math/bits.deBruijn32tab", Rows.laid_math_bits_deBruijn32tab), ("math/bits.deBruijn64tab", Rows.laid_math_bits_deBruijn64tab), ("internal/strconv.uint64pow10", Rows.laid_internal_strconv_uint64pow10), ("unicode/utf8.acceptRanges", Rows.laid_unicode_utf8_acceptRanges), ("strconv.ErrRange", Rows.laid_strconv_ErrRange), ("strconv.ErrSyntax", Rows.laid_strconv_ErrSyntax), ("unicode/utf8.first", Rows.laid_unicode_utf8_first)]
set_option maxRecDepth 100000 in
theorem extra : U8Extra Tryd.prog Tryd.lays260_ren := { n3 := by kernel_rfl, n4 := by kernel_rfl, y3 := by kernel_rfl, y4 := by kernel_rfl, c5 := by kernel_rfl, c119 := by kernel_rfl, c138 := by kernel_rfl }
theorem first_eq : Rows.laid_unicode_utf8_first = Lib.firstData := by kernel_rfl
theorem accept_eq : (Rows.laid_unicode_utf8_acceptRanges : DataW Unit) = Lib.acceptData := by kernel_rfl
theorem err_of {W : World} {n nm : String} {d : DataW Unit} {g : Nat} {ti : TypeId} {ms : Array (String × TypeId)} (h : Lib.VarReads Tryd.prog W n (.iface nm d)) (hg : Tryd.prog.globalNamed n = some g) (ht : (Tryd.prog.globals[g]?).map (·.type) = some ti) (hi : Tryd.prog.underlying ti = some (.interface ms)) : ErrAt W g := by
  obtain ⟨g', t', cs, fuel, p, h1, h2, h3, h4⟩ := h
  obtain rfl := Option.some.inj (hg.symm.trans h1)
  obtain rfl := Option.some.inj (ht.symm.trans h2)
  obtain ⟨f1, u, v, e, _⟩ := iface_of_trod hi h4
  refine ⟨.iface u v, ?_, .inr ⟨u, v, rfl⟩⟩
  rw [World.var?_cell hg h3 0, ← Array.getElem?_toList, e]
  rfl
theorem pow_eq : (Rows.laid_internal_strconv_uint64pow10 : DataW Unit) = Lib.tabData .u64 Lib.pow10Tab := by kernel_rfl
set_option maxRecDepth 100000 in
/-- What the condition gives the walks: the tables and the two errors lie in their places. -/
theorem tab_of_laid {W : World} (h : laidMetH Tryd.prog laidList W) : Tab W ∧ TabE W ∧ TabP W := by
  rw [MakeChecks.laidMetH_plain _ _ _ (by kernel_rfl)] at h
  have h4 := Lib.laidMet.reads h (n := "unicode/utf8.acceptRanges") (d := Rows.laid_unicode_utf8_acceptRanges) (by simp [laidList])
  have h3 := Lib.laidMet.reads h (n := "unicode/utf8.first") (d := Rows.laid_unicode_utf8_first) (by simp [laidList])
  have h1 := Lib.laidMet.reads h (n := "strconv.ErrSyntax") (d := Rows.laid_strconv_ErrSyntax) (by simp [laidList])
  have h2 := Lib.laidMet.reads h (n := "strconv.ErrRange") (d := Rows.laid_strconv_ErrRange) (by simp [laidList])
  have h5 : laidMet Tryd.prog _ W := h.tail.tail
  rw [pow_eq] at h5
  rw [accept_eq] at h4
  rw [first_eq] at h3
  exact ⟨utf8Tabs_of_reads Tryd.lays260 extra h3 h4, ⟨err_of h1 (by kernel_rfl) (by kernel_rfl) Tryd.underlying94, err_of h2 (by kernel_rfl) (by kernel_rfl) Tryd.underlying94⟩, Lib.tabIs_of_head (g := 0) (by kernel_rfl) (by kernel_rfl) Tryd.underlying156 Tryd.underlying123 (by kernel_rfl) (by kernel_rfl) h5⟩
/-- The witness's heap meets the condition. -/
theorem door_met (os : Os) (args : Array Value) : laidMetH Tryd.prog laidList ((World.laidAll Tryd.prog os laidList).forCall (fun _ _ => 0) ⟨#[], args, []⟩).memory := by
  rw [MakeChecks.laidMetH_plain _ _ _ (by kernel_rfl)]
  exact laidMet_laidAll _ (by kernel_rfl) (by kernel_rfl)
end Go.Proofs.YteklcfimafplbaaDoor
