/- The program's reader: a literal, a list or an object that begins. -/
import Derived.Test.YteklcfimafplbaaDoorPut
import Derived.Test.YteklcfimafplbaaDoorUpart
namespace Go.Proofs.YteklcfimafplbaaDoor
open Go.RowKit
set_option linter.unusedVariables false
set_option maxRecDepth 100000

theorem escs_ge : ∀ l : List Nat, l.length ≤ (Utf.escs l).length
  | [] => Nat.le_refl _
  | c :: l => by
    have := (Utf.escB_len c).1
    have := escs_ge l
    rw [Utf.escs_cons, List.length_append, List.length_cons]; omega
/-- A literal that is right: what it says is UTF-8, and it ends within the bytes. -/
theorem unq_fine {l t : List Nat} {n : Nat} (hl : ∀ x ∈ l, x < 256) (h : Utf.unq l = (t, n, 0)) : Utf.vld t = true ∧ (∀ x ∈ t, x < 256) ∧ t.length + 2 ≤ n ∧ n ≤ l.length ∧ Jr.hd l = 34 := by
  unfold Utf.unq at h
  by_cases h0 : l = []
  · rw [if_pos h0] at h; simp at h
  · by_cases h1 : l.getD 0 0 ≠ 34
    · rw [if_neg h0, if_pos h1] at h; simp at h
    · by_cases h2 : (Utf.ub (l.drop 1)).2.2 ≠ 0
      · rw [if_neg h0, if_neg h1, if_pos h2] at h
        simp only [Prod.mk.injEq] at h
        exact absurd h.2.2 h2
      · rw [if_neg h0, if_neg h1, if_neg h2] at h
        simp only [Prod.mk.injEq] at h
        obtain ⟨e1, e2, _⟩ := h
        obtain ⟨⟨rs, hr, he⟩, g2, g3⟩ := Utf.ub_good (l.drop 1).length (l.drop 1) (Nat.le_refl _) (fun x hx => hl x (List.mem_of_mem_drop hx)) (by omega)
        have g4 := escs_ge (Utf.ub (l.drop 1)).1
        have hp : 0 < l.length := by cases l with | nil => exact absurd rfl h0 | cons => simp
        rw [List.length_drop] at g3
        refine ⟨by rw [← e1, he]; exact Utf.vld_of rs hr, ?_, by rw [← e1, ← e2]; omega, by omega, by unfold Jr.hd; omega⟩
        rw [← e1, he]
        exact Utf.encs_byte rs hr
def nxn : Jr.Nx → Int | .value => 0 | .part => 1 | .key => 2 | .colon => 3 | .behind => 4
/-- The reader's memory, where a reading stands so. -/
structure PS (w : World) (B g : Nat) (S : ByteArray) (t : Jr.St) (ov tv : Value) (O : List Op1) : Prop where
  rp : RP w g S t.at_ (nxn t.nx) t.key ov tv
  tape : OwnN w B tv (Jr.zf id t.op t.root)
  opn : OwnO w B ov O
  ors : OR w B t.op t.root O
  gB : B ≤ g
  wB : B ≤ w.heap.size
  s : t.s = left S t.at_
  le : t.at_ ≤ S.size
  cnt : Jr.cnt t.op t.root ≤ 4000
  deep : t.op.length ≤ 64
  tB : TabAt B
theorem PS.later {w w' : World} {B g : Nat} {S : ByteArray} {t : Jr.St} {ov tv : Value} {O : List Op1} (h : PS w B g S t ov tv O) (hb : Below w.heap.size w w') : PS w' B g S t ov tv O :=
  ⟨h.rp.later hb, Gn.Own.later h.tape hb, Gn.Own.later h.opn hb, OR.touch (Touch.of_below (S := fun _ => False) hb) (fun _ _ _ hf => hf) h.ors, h.gB, Nat.le_trans h.wB hb.size, h.s, h.le, h.cnt, h.deep, h.tB⟩
/-- The reader itself has gone on. -/
theorem PS.went {w w' : World} {B g : Nat} {S : ByteArray} {t u : Jr.St} {ov tv : Value} {O : List Op1} (h : PS w B g S t ov tv O) (hw : Went w w' g S u.at_ (nxn u.nx) u.key ov tv) (ho : u.op = t.op) (hr : u.root = t.root) (hs : u.s = left S u.at_) (hl : u.at_ ≤ S.size) : PS w' B g S u ov tv O :=
  ⟨hw.1, by rw [ho, hr]; exact own_went h.tape h.rp hw ne_rd.1, own_went h.opn h.rp hw ne_rd.2.1, by rw [ho, hr]; exact OR.touch hw.2 (fun j ys hs e => blk_set h.rp hs e.symm) h.ors, h.gB, Nat.le_trans h.wB hw.2.size, hs, hl, by rw [ho, hr]; exact h.cnt, by rw [ho]; exact h.deep, h.tB⟩
theorem Went.below {w w' : World} {g a B : Nat} {S y : ByteArray} {nx : Int} {ov tv : Value} (h : Went w w' g S a nx y ov tv) (hg : B ≤ g) (hB : B ≤ w.heap.size) : Below B w w' := h.2.below hB (fun i e => by rw [e]; exact hg)
/-- A step's number. -/
def code : Jr.St ⊕ Jr.Res → Int
  | .inl _ => 0
  | .inr (.err _ e) => e
  | .inr (.ok _) => 0
/-- What a step leaves. -/
def After (w : World) (B g : Nat) (S : ByteArray) (r : Jr.St ⊕ Jr.Res) (w' : World) : Prop :=
  Below B w w' ∧ match r with
    | .inl u => ∃ ov tv O, PS w' B g S u ov tv O
    | .inr (.err a _) => ∃ nx y ov tv, RP w' g S a nx y ov tv
    | .inr (.ok _) => False
theorem After.before {w w1 w2 : World} {B g : Nat} {S : ByteArray} {r : Jr.St ⊕ Jr.Res} (hb : Below B w w1) (h : After w1 B g S r w2) : After w B g S r w2 := ⟨hb.trans h.1, h.2⟩
/-- A value of one node is laid; the reader itself may have gone on. -/
theorem leaf_after {w w' : World} {B C g m : Nat} {S : ByteArray} {t u : Jr.St} {ov tv v : Value} {O : List Op1} {k n : Int} {x : ByteArray} {l : List Nd} (h : PS w B g S u ov tv O) (ho : u.op = t.op) (hr : u.root = t.root) (hs : t.s = left S t.at_) (hv : OwnN w C v l) (hC : B ≤ C) (hc : Jr.cnt t.op t.root < 4000) (hm : t.at_ + m ≤ S.size)
    (hp : PutEnd w B g (t.at_ + m) S ov tv v (Jr.zf id t.op t.root ++ [⟨k, t.key, n, x, 1⟩]) w') : After w B g S (.inl (Jr.leaf t m k n x)) w' := by
  obtain ⟨tv', h1, h2, h3⟩ := hp
  have hb : Below B w w' := h3.below h.wB (fun i hi => by
    rcases hi with rfl | hi | hi
    · exact h.gB
    · exact (h.tape.lt i hi).1
    · exact Nat.le_trans hC (hv.lt i hi).1)
  refine ⟨hb, ov, tv', O, ?_⟩
  have e1 : Tp.flat (Jr.nd1 k t.key n x .nil) = [⟨k, t.key, n, x, 1⟩] := by
    unfold Jr.nd1
    rw [Tp.flat_node]
    simp
  refine ⟨h1, ?_, ?_, ?_, h.gB, Nat.le_trans h.wB h3.size, ?_, hm, ?_, ?_, h.tB⟩
  · show OwnN w' B tv' (Jr.zf id (Jr.place _ t.op t.root).1 (Jr.place _ t.op t.root).2)
    rw [Jr.place_zf, e1]
    exact h2
  · refine own_keep h.opn h3 (fun i hi e => ?_)
    rcases e with rfl | e | e
    · exact own_blk h.opn h.rp ne_rd.2.1 hi
    · exact own_dj h.opn h.tape ne_rd.2.2 i hi e
    · exact own_dj h.opn hv ne_rd.2.2 i hi e
  · have hor := h.ors
    rw [ho, hr] at hor
    refine OR.place _ (OR.touch h3 (fun j ys hs e => ?_) hor)
    rcases e with rfl | e | e
    · exact blk_set h.rp hs rfl
    · exact own_set' h.tape hs e
    · exact own_set' hv hs e
  · show t.s.drop m = left S (t.at_ + m)
    rw [hs, left_drop]
  · show Jr.cnt (Jr.place _ t.op t.root).1 (Jr.place _ t.op t.root).2 ≤ 4000
    rw [Jr.place_cnt]
    have : Tp.sz (Jr.nd1 k t.key n x .nil) = 1 := by unfold Tp.sz; rw [e1]; rfl
    omega
  · show (Jr.place _ t.op t.root).1.length ≤ 64
    rw [Jr.place_len, ← ho]
    exact h.deep
/-- A text whose literals the reader may take: short, or without any. -/
def TxOk (S : ByteArray) : Prop := S.size ≤ 1000000 ∨ 34 ∉ bl S
theorem TxOk.lit {S : ByteArray} (h : TxOk S) {a : Nat} (hd : Jr.hd (left S a) = 34) : S.size ≤ 1000000 := by
  rcases h with h | h
  · exact h
  · exfalso
    apply h
    have hlt := hd_in (S := S) (a := a) (by rw [hd]; decide)
    have hl : a < (bl S).length := by rw [bl_length]; exact hlt
    rw [left_hd, List.getD_eq_getElem?_getD, List.getElem?_eq_getElem hl] at hd
    rw [← hd]
    exact List.getElem_mem hl

set_option maxHeartbeats 8000000 in
theorem jtakeText {w : World} {B g : Nat} {S : ByteArray} {t : Jr.St} {ov tv : Value} {O : List Op1} (h : PS w B g S t ov tv O) (T : Tab w) (hS : S.size ≤ 1000000) (hc : Jr.cnt t.op t.root < 4000) :
    Calls Tryd.prog 99 #[.pointer (some ⟨g, 0, none⟩)] w fun e w' => e = .returned (.int .i64 (code (Jr.text t))) ∧ After w B g S (Jr.text t) w' := by
  obtain ⟨l, n, x, hu⟩ : ∃ l n x, Utf.unq t.s = (l, n, x) := ⟨_, _, _, rfl⟩
  have hle := h.le
  have hle1 : (t.at_ : Int) ≤ S.size := by omega
  have hex : (S.extract t.at_ S.size).size ≤ 1000000 := by rw [ByteArray.size_extract]; omega
  have CU := Lib.hid (unquote (S.extract t.at_ S.size) w.drew T hex l n x (by rw [bl_from, ← hu, h.s]))
  unfold quad at CU
  obtain ⟨c0, c1, _⟩ := h.rp.lie
  have HT := Lib.hid T
  have H := Lib.hid h
  have HU := Lib.hid hu
  clear h T hu
  go_enter Tryd.func99, Tryd.ntmps99
  go_wp2_with fail
  go_region_with ((go_at_call 102; (with_reducible refine (CU.out).mono ?_); rintro e w2 ⟨rfl, b⟩))
  all_goals
    have b : Below w.heap.size w w2 := (Below.refl _ _).drew.trans b
    have H2 := Lib.hid (H.out.later b)
    have HT2 := Lib.hid (HT.out.later b)
    have HB2 := Lib.hid b
    obtain ⟨_, d1, _⟩ := H2.out.rp.lie
    have f1 := Blk.frozen H2.out.rp 1
    clear b
    by_cases hx : x = 0
    case' neg =>
      have hx1 : ((x : Int) != 0) = true := by simp; omega
      have e : Jr.text t = .inr (.err t.at_ x) := by unfold Jr.text; rw [HU.out, if_pos hx]
      have HE := Lib.hid e
      clear hx e
      go_wp2_with fail
      go_ret
      rw [HE.out]
      exact ⟨rfl, HB2.out.mono H.out.wB, _, _, _, _, H2.out.rp⟩
    case' pos =>
      subst hx
      obtain ⟨g1, g2, g3, g4, _⟩ := unq_fine (by rw [H.out.s]; exact left_byte S _) HU.out
      rw [H.out.s, left_len] at g4
      have hle2 : t.at_ + n ≤ S.size := by omega
      obtain ⟨w3, hw3⟩ : ∃ w3, w3 = w2.setCell ⟨g, 1, none⟩ (.int .i64 ((t.at_ + n : Nat) : Int)) := ⟨_, rfl⟩
      have HW : Hid (Went w2 w3 g S (t.at_ + n) (nxn t.nx) t.key ov tv) := Lib.hid ⟨by rw [hw3]; exact H2.out.rp.putA _, by rw [hw3]; exact touchG _ g 1 _⟩
      have HU3 := Lib.hid (PS.went (u := { t with at_ := t.at_ + n, s := left S (t.at_ + n) }) H2.out HW.out rfl rfl rfl hle2)
      have HT3 := Lib.hid (HT2.out.below H.out.tB (HW.out.below H.out.gB (Nat.le_trans H.out.wB HB2.out.size)))
      have CS := Lib.hid (mkStr (str l) w3 HT3.out (by rw [str_size]; unfold maxLen; omega))
      have HG := Lib.hid (And.intro g1 g2)
      have HN0 := Lib.hid (show n ≤ S.size - t.at_ from g4)
      have HW3 := Lib.hid hw3
      rw [hw3] at CS
      simp only [Int.natCast_add] at CS
      clear hw3 g1 g2 g3 g4
      go_wp2_with fail
      ((with_reducible refine (CS.out).mono ?_); rintro e w4 ⟨v, rfl, ho, b⟩)
      have e3 := HW3.out
      simp only [Int.natCast_add] at e3
      rw [← e3] at ho b
      have es : strL (str l) = [nd1 5 0 (str l)] := by unfold strL; rw [bl_str l HG.out.2, if_pos HG.out.1]
      rw [es] at ho
      have H4 := Lib.hid (HU3.out.later b)
      have HO4 := Lib.hid ho
      have CP := Lib.hid (jput H4.out.rp H4.out.tape ho (fun k hk hk' => by have := (ho.lt k hk).1; have := (HU3.out.tape.lt k hk').2; omega) (by rw [Jr.zf_len]; show Jr.cnt t.op t.root ≤ 5000; omega) H4.out.wB)
      have HB4 := Lib.hid ((HB2.out.mono H.out.wB).trans ((HW.out.below H.out.gB (Nat.le_trans H.out.wB HB2.out.size)).trans (b.mono HU3.out.wB)))
      have HC4 := Lib.hid HU3.out.wB
      clear e3 ho b es
      go_wp2_with fail
      ((with_reducible refine (CP.out).mono ?_); rintro e w5 ⟨rfl, hp⟩)
      have HP := Lib.hid hp
      clear hp
      go_wp2_with fail
      go_ret
      have e : Jr.text t = .inl (Jr.leaf t n 5 0 (str l)) := by
        unfold Jr.text
        rw [HU.out, if_neg (by simp)]
      rw [e]
      exact ⟨rfl, After.before HB4.out (leaf_after H4.out rfl rfl H.out.s HO4.out HC4.out hc (by have := HN0.out; have := H.out.le; omega) HP.out)⟩
end Go.Proofs.YteklcfimafplbaaDoor
