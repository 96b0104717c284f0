/- Several texts in one: FrameJ, Keyt, Lawp, Mayp, Mayw, Pars, Parse, Seven, Vale, Workj. -/
import Derived.Test.YteklcfimafplbaaDoorClos
import Derived.Test.YteklcfimafplbaaDoorDigi
import Derived.Test.YteklcfimafplbaaDoorEq
import Derived.Test.YteklcfimafplbaaDoorCheck
import Derived.Test.YteklcfimafplbaaDoorRows
import Derived.ProofKit
import Derived.OpenShut
import Derived.ShutString
import Derived.ChangeOld
import Derived.LaidMore
import Derived.Lay
import Derived.Stop.Joined
import Derived.Lib.LaidU8
import Derived.Deep.Slices
import Derived.Deep.Fields
/- The program's reader: a member's key. -/
namespace Go.Proofs.YteklcfimafplbaaDoor
open Go.RowKit
set_option linter.unusedVariables false
set_option maxRecDepth 100000

theorem OR.other {w w' : World} {B j : Nat} (ht : Touch (fun i => i = j) w w') : ∀ {op : List Jr.Fr} {R : Fo} {O : List Op1}, OR w B op R O → (∀ x ∈ O, x.m ≠ some j) → OR w' B op R O
  | [], R, O, h, _ => h
  | f :: r, R, O, h, hn => by
    obtain ⟨O', m, rfl, h1, h2⟩ := h
    refine ⟨O', m, rfl, OR.other ht h1 (fun x hx => hn x (List.mem_append_left _ hx)), h2.imp id ?_⟩
    rintro ⟨hk, i, e2, h3, h4, h5⟩
    exact ⟨hk, i, e2, h3, h4.touch ht (fun e => hn ⟨Jr.cnt r R, Jr.endOf f.kind, m⟩ (by simp) (by rw [← e]; exact e2)), h5⟩
/-- A key more; the reader behind it. -/
theorem key_after {w2 : World} {B g n j : Nat} {S : ByteArray} {t : Jr.St} {ov tv : Value} {O O' : List Op1} {f : Jr.Fr} {r : List Jr.Fr} {y : ByteArray} (h : PS w2 B g S t ov tv O) (hop : t.op = f :: r) (hk : f.kind = 7) (hO : O = O' ++ [⟨Jr.cnt r t.root, Jr.endOf f.kind, some j⟩]) (h1 : OR w2 B r t.root O') (hB : B ≤ j) (hs : IsSet w2 j f.had) (hO' : ∀ x ∈ O', x.m ≠ some j) (hn : t.at_ + n ≤ S.size) :
    ∃ w3, w3 = tput w2 j f.had y ∧ w3.frozen? ⟨g, 3, none⟩ = false ∧ w3.cell? ⟨g, 3, none⟩ = some (.string t.key) ∧
    ∃ w4, w4 = w3.setCell ⟨g, 3, none⟩ (.string y) ∧ w4.frozen? ⟨g, 1, none⟩ = false ∧ w4.cell? ⟨g, 1, none⟩ = some (.int .i64 (t.at_ : Nat)) ∧
    ∃ w5, w5 = w4.setCell ⟨g, 1, none⟩ (.int .i64 ((t.at_ : Int) + n)) ∧ w5.frozen? ⟨g, 2, none⟩ = false ∧ w5.cell? ⟨g, 2, none⟩ = some (.int .i64 (nxn t.nx)) ∧
      Hid (After w2 B g S (.inl { at_ := t.at_ + n, s := t.s.drop n, nx := .colon, key := y, op := { f with had := f.had ++ [y] } :: r, root := t.root }) (w5.setCell ⟨g, 2, none⟩ (.int .i64 3))) := by
  have tt := touch_tput w2 j f.had y
  have hgj : g ≠ j := blk_set h.rp hs
  have r3 := h.rp.touch tt hgj
  have t3 := own_keep h.tape tt (fun i hi e => own_set' h.tape hs (by rw [← e]; exact hi))
  have o3 : OwnO _ B ov O := own_keep h.opn tt (fun i hi e => own_set' h.opn hs (by rw [← e]; exact hi))
  have s3 : OR _ B r t.root O' := OR.other tt h1 hO'
  have m3 := hs.put y
  refine ⟨_, rfl, Blk.frozen r3 3, r3.lie.2.2.2.1, ?_⟩
  have r4 := r3.putK y
  refine ⟨_, rfl, Blk.frozen r4 1, r4.lie.2.1, ?_⟩
  have r5 := r4.putA (t.at_ + n)
  simp only [Int.natCast_add] at r5
  refine ⟨_, rfl, Blk.frozen r5 2, r5.lie.2.2.1, Lib.hid ?_⟩
  have r6 := r5.putN 3
  have tg := ((touchG (tput w2 j f.had y) g 3 (.string y)).trans (touchG _ g 1 (.int .i64 ((t.at_ : Int) + n))) (fun i hi => .inl hi)).trans (touchG _ g 2 (.int .i64 3)) (fun i hi => .inl hi)
  have ta := (tt.mono (S' := fun i => i = j ∨ i = g) (fun i hi => .inl hi)).trans tg (fun i hi => .inl (.inr hi))
  have hgB := h.gB
  refine ⟨ta.below h.wB (fun i hi => by rcases hi with rfl | rfl <;> assumption), ov, tv, O, r6, ?_, own_keep o3 tg (fun i hi e => own_blk o3 r3 ne_rd.2.1 (by rw [← e]; exact hi)), ?_, hgB, Nat.le_trans h.wB ta.size, ?_, hn, ?_, ?_, h.tB⟩
  · have := h.tape
    rw [hop] at t3
    exact own_keep t3 tg (fun i hi e => own_blk t3 r3 ne_rd.1 (by rw [← e]; exact hi))
  · exact ⟨O', some j, hO, OR.touch tg (fun i ys hi e => blk_set r3 hi e.symm) s3, .inr ⟨hk, j, rfl, hB, m3.touch tg (fun e => hgj e.symm), hO'⟩⟩
  · show t.s.drop n = left S (t.at_ + n)
    rw [h.s, left_drop]
  · have := h.cnt
    rw [hop] at this
    exact this
  · have := h.deep
    rw [hop] at this
    exact this
set_option maxHeartbeats 8000000 in
theorem jtakeKey {w : World} {B g : Nat} {S : ByteArray} {t : Jr.St} {ov tv : Value} {O : List Op1} {f : Jr.Fr} {r : List Jr.Fr} (h : PS w B g S t ov tv O) (hop : t.op = f :: r) (hk : f.kind = 7) (hm : S.size ≤ 1048576) (hX : TxOk S) (T : Tab w) :
    Calls Tryd.prog 70 #[.pointer (some ⟨g, 0, none⟩)] w fun e w' => e = .returned (.int .i64 (code (Jr.stepK t))) ∧ After w B g S (Jr.stepK t) w' := by
  have hors := h.ors
  rw [hop] at hors
  obtain ⟨O', m, hO, h1, h2⟩ := hors
  obtain ⟨j, rfl, hBj, hsj, hOj⟩ : ∃ j, m = some j ∧ B ≤ j ∧ IsSet w j f.had ∧ ∀ x ∈ O', x.m ≠ some j := by
    rcases h2 with ⟨e, _⟩ | ⟨_, h⟩
    · omega
    · exact h
  obtain ⟨d, hd⟩ : ∃ d, Jr.hd (left S t.at_) = d := ⟨_, rfl⟩
  have C := Lib.hid (jhere h.rp h.le hm d hd)
  obtain ⟨c0, c1, _⟩ := h.rp.lie
  have H := Lib.hid h
  have HOP := Lib.hid hop
  have HO := Lib.hid hO
  have H1 := Lib.hid h1
  have HJ := Lib.hid (And.intro hBj (And.intro hsj hOj))
  have HD := Lib.hid hd
  have HT := Lib.hid T
  have hle := h.le
  have hle1 : (t.at_ : Int) ≤ S.size := by omega
  have HK : Hid (Jr.stepK t = if Jr.hd t.s ≠ 34 then .inr (.err t.at_ 70) else if (Utf.unq t.s).2.2 ≠ 0 then .inr (.err t.at_ (Utf.unq t.s).2.2) else if str (Utf.unq t.s).1 ∈ f.had then .inr (.err t.at_ 71) else .inl { at_ := t.at_ + (Utf.unq t.s).2.1, s := t.s.drop (Utf.unq t.s).2.1, nx := .colon, key := str (Utf.unq t.s).1, op := { f with had := f.had ++ [str (Utf.unq t.s).1] } :: r, root := t.root }) := Lib.hid (by unfold Jr.stepK; rw [hop])
  by_cases he : d = 34
  · have hne : ((d : Int) != 34) = false := by simp [he]
    have hS : S.size ≤ 1000000 := hX.lit (a := t.at_) (by rw [hd, he])
    obtain ⟨l, n, x, hu⟩ : ∃ l n x, Utf.unq t.s = (l, n, x) := ⟨_, _, _, rfl⟩
    have hex : (S.extract t.at_ S.size).size ≤ 1000000 := by rw [ByteArray.size_extract]; omega
    have CU := Lib.hid (fun (m : Nat) => unquote (S.extract t.at_ S.size) (w.drewN (m + 1)) T hex l n x (by rw [bl_from, ← hu, h.s]))
    unfold quad at CU
    have HU := Lib.hid hu
    have HE := Lib.hid (show Jr.hd t.s = 34 by rw [h.s, hd, he])
    clear h hop hO h1 h2 hBj hsj hOj hd T he hu
    go_enter Tryd.func70, Tryd.ntmps70
    go_wp2_with fail
    ((with_reducible refine (C.out).mono ?_); rintro e w1 ⟨rfl, mm, rfl⟩)
    have CU := Lib.hid (CU.out mm)
    go_wp2_with fail
    go_region_with ((go_at_call 102; (with_reducible refine (CU.out).mono ?_); rintro e w2 ⟨rfl, b⟩))
    all_goals
      have b : Below w.heap.size w w2 := (below_drewN (Below.refl _ _) (mm + 1)).trans b
      have H2 := Lib.hid (H.out.later b)
      have HB2 := Lib.hid b
      have R2 := Lib.hid (show OR w2 B r t.root O' from OR.touch (Touch.of_below (S := fun _ => False) b) (fun _ _ _ hf => hf) H1.out)
      have S2 := Lib.hid (HJ.out.2.1.later b)
      obtain ⟨d0, d1, d2, d3, d4, _⟩ := H2.out.rp.lie
      clear b CU
      by_cases hx : x = 0
      case' neg =>
        have hx1 : ((x : Int) != 0) = true := by simp; omega
        have e : Jr.stepK t = .inr (.err t.at_ x) := by rw [HK.out, HU.out, if_neg (by rw [HE.out]; simp), if_pos hx]
        have HE1 := Lib.hid e
        clear hx e
        go_wp2_with fail
        go_ret
        rw [HE1.out]
        exact ⟨rfl, HB2.out.mono H.out.wB, _, _, _, _, H2.out.rp⟩
      case' pos =>
        subst hx
        obtain ⟨g1, g2, g3, g4, _⟩ := unq_fine (by rw [H.out.s]; exact left_byte S _) HU.out
        rw [H.out.s, left_len] at g4
        have HN0 := Lib.hid (show t.at_ + n ≤ S.size by omega)
        have hn1 : n ≤ 1000000 := by omega
        clear g1 g2 g3 g4
        obtain ⟨p, hp⟩ : ∃ p, O'.length = p := ⟨_, rfl⟩
        obtain ⟨q, hq⟩ : ∃ q, O.length = q := ⟨_, rfl⟩
        have hnp : q = p + 1 := by rw [← hq, ← hp, HO.out]; simp
        obtain ⟨oa, oc, rfl⟩ := rdv (Gn.Own.rd opL H2.out.opn) q hq
        obtain ⟨ob, off, rfl, _, _, m2⟩ := last_open (Gn.Own.rd opL H2.out.opn) HO.out (Below.refl _ _)
        rw [hp] at m2
        simp only at m2
        have e1 : (q : Int) - 1 = (p : Nat) := by omega
        have e2 : (p : Int) < q := by omega
        have e3 : p < q := by omega
        have hp64 : q ≤ 65 := by have := H2.out.ors.len; have := H2.out.deep; omega
        have e4 : IntKind.i64.wrap ((q : Int) - 1) = (p : Nat) := by rw [IntWalk.i64_in _ ⟨by omega, by omega⟩]; exact e1
        have e5 : IntKind.i64.wrap (p : Int) = (p : Int) := IntWalk.i64_in _ ⟨by omega, by omega⟩
        clear hp hq hnp
        go_wp2_with fail
        go_quiet (fail)
        obtain ⟨w3, hw3⟩ : ∃ w3, w3 = w2.drewN nq := ⟨_, rfl⟩
        rw [← hw3]
        have b3 : Below w2.heap.size w2 w3 := by rw [hw3]; exact below_drewN (Below.refl _ _) nq
        have H3 := Lib.hid (H2.out.later b3)
        have S3 := Lib.hid (S2.out.later b3)
        have B3 := Lib.hid (HB2.out.trans (b3.mono HB2.out.size))
        have R3 := Lib.hid (OR.touch (Touch.of_below (S := fun _ => False) b3) (fun _ _ _ hf => hf) R2.out)
        clear hw3 b3 d0 d1 d2 d3 d4 m2
        by_cases hin : str l ∈ f.had
        case' pos =>
          have hl := set_some S3.out (str l) hin
          have e : Jr.stepK t = .inr (.err t.at_ 71) := by rw [HK.out, HU.out, if_neg (by rw [HE.out]; simp), if_neg (by simp), if_pos hin]
          have HE1 := Lib.hid e
          clear hin e
          go_wp2_with fail
          go_ret
          rw [HE1.out]
          exact ⟨rfl, ((B3.out).alloc B3.out.size _).mono H.out.wB, _, _, _, _, (H3.out.later (up_new _ _)).rp⟩
        case' neg =>
          have hl := set_none S3.out (str l) hin
          have e : Jr.stepK t = .inl { at_ := t.at_ + n, s := t.s.drop n, nx := .colon, key := str l, op := { f with had := f.had ++ [str l] } :: r, root := t.root } := by rw [HK.out, HU.out, if_neg (by rw [HE.out]; simp), if_neg (by simp), if_neg hin]
          have HE1 := Lib.hid e
          obtain ⟨w4, hw4⟩ : ∃ w4, w4 = w3.alloc (.cells #[] 120) := ⟨_, rfl⟩
          have b4 : Below w3.heap.size w3 w4 := by rw [hw4]; exact up_new _ _
          have H4 := Lib.hid (H3.out.later b4)
          have S4 := Lib.hid (S3.out.later b4)
          have R4 := Lib.hid (OR.touch (Touch.of_below (S := fun _ => False) b4) (fun _ _ _ hf => hf) R3.out)
          have B4 := Lib.hid (B3.out.trans (b4.mono B3.out.size))
          have hu := set_put S4.out (str l) hin
          obtain ⟨w5, hw5, f3, d3, w6, hw6, f1, d1, w7, hw7, f2, d2, HF⟩ := key_after (y := str l) H4.out HOP.out hk HO.out R4.out HJ.out.1 S4.out HJ.out.2.2 HN0.out
          have ew : IntKind.i64.wrap ((t.at_ : Int) + n) = (t.at_ : Int) + n := IntWalk.i64_in _ ⟨by omega, by omega⟩
          rw [← hw5] at hu
          have HF1 := Lib.hid HF.out
          rw [hw6] at f1 d1
          rw [hw7, hw6] at f2 d2 HF1
          have HW4 := Lib.hid hw4
          rw [hw4] at hu
          clear hin e hw4 b4 hw5 hw6 hw7 HF
          go_wp2_with fail
          go_ret
          rw [HE1.out]
          exact ⟨rfl, After.before (B4.out.mono H.out.wB) HF1.out⟩
  · have hne : ((d : Int) != 34) = true := by simp; omega
    have HE := Lib.hid (show Jr.hd t.s ≠ 34 by rw [h.s, hd]; exact he)
    clear h hop hO h1 h2 hBj hsj hOj hd T he
    go_enter Tryd.func70, Tryd.ntmps70
    go_wp2_with fail
    ((with_reducible refine (C.out).mono ?_); rintro e w1 ⟨rfl, m, rfl⟩)
    go_wp2_with fail
    go_ret
    rw [HK.out, if_pos HE.out]
    exact ⟨rfl, (below_drewN (Below.refl _ _) m).mono H.out.wB, _, _, _, _, H.out.rp.drew m⟩
end Go.Proofs.YteklcfimafplbaaDoor

/- The program's reader: a value. -/
namespace Go.Proofs.YteklcfimafplbaaDoor
open Go.RowKit
set_option linter.unusedVariables false
set_option maxRecDepth 100000

theorem word_after {w2 w3 : World} {B C g : Nat} {S W : ByteArray} {t : Jr.St} {ov tv v : Value} {O : List Op1} {k : Int} {e : Ending} (h : PS w2 B g S t ov tv O) (hv : OwnN w2 C v [nd1 k 0 ⟨#[]⟩]) (hC : B ≤ C) (hc : Jr.cnt t.op t.root < 4000)
    (hw : WordEnd w2 B g t.at_ S t.key (nxn t.nx) ov tv v (Jr.zf id t.op t.root) (nd1 k 0 ⟨#[]⟩) W e w3) : e = .returned (.int .i64 (code (Jr.word t (bl W) k))) ∧ After w2 B g S (Jr.word t (bl W) k) w3 := by
  unfold WordEnd at hw
  unfold Jr.word
  rw [h.s, bl_length]
  rcases hw with ⟨e1, rfl, h1, h2⟩ | ⟨e1, rfl, h1⟩
  · rw [if_pos e1]
    exact ⟨rfl, leaf_after h rfl rfl h.s hv hC hc h1 h2⟩
  · rw [if_neg e1]
    exact ⟨rfl, h1.below h.gB h.wB, _, _, _, _, h1.1⟩
theorem OR.lt {w : World} {B : Nat} : ∀ {op : List Jr.Fr} {R : Fo} {O : List Op1}, OR w B op R O → ∀ x ∈ O, ∀ j, x.m = some j → j < w.heap.size
  | [], R, O, h, x, hx, j, hj => by
    have h : O = [] := h
    rw [h] at hx
    cases hx
  | f :: r, R, O, h, x, hx, j, hj => by
    obtain ⟨O', m, rfl, h1, h2⟩ := h
    rcases List.mem_append.1 hx with hx | hx
    · exact OR.lt h1 x hx j hj
    · have hx : x = ⟨Jr.cnt r R, Jr.endOf f.kind, m⟩ := by simpa using hx
      subst hx
      rcases h2 with ⟨_, rfl⟩ | ⟨_, i, e2, _, h4, _⟩
      · cases hj
      · have hj : m = some j := hj
        rw [e2] at hj
        injection hj with hj
        rw [← hj]
        exact h4.lt
def vBegins : ByteArray := ⟨#[110, 102, 116, 45, 34, 91, 123, 48, 49, 50, 51, 52, 53, 54, 55, 56, 57]⟩
theorem bgn_in (d : Nat) : Jr.bgn d = true ↔ d ∈ bl vBegins := by
  have e : bl vBegins = [110, 102, 116, 45, 34, 91, 123, 48, 49, 50, 51, 52, 53, 54, 55, 56, 57] := by decide
  rw [e]
  unfold Jr.bgn Jr.isd
  simp
  omega
set_option maxHeartbeats 8000000 in
theorem jtakeValue {w : World} {B g : Nat} {S : ByteArray} {t : Jr.St} {ov tv : Value} {O : List Op1} (h : PS w B g S t ov tv O) (T : Tab w) (TE : TabE w) (hTB : TabEAt B) (hm : S.size ≤ 1048576) (hX : TxOk S) :
    Calls Tryd.prog 67 #[.pointer (some ⟨g, 0, none⟩)] w fun e w' => e = .returned (.int .i64 (code (Jr.stepV t))) ∧ After w B g S (Jr.stepV t) w' := by
  obtain ⟨d, hd⟩ : ∃ d, Jr.hd (left S t.at_) = d := ⟨_, rfl⟩
  obtain ⟨b, hb⟩ : ∃ b, Jr.bgn d = b := ⟨_, rfl⟩
  have CS := Lib.hid (jstands h.rp h.le hm vBegins b (by rw [hd, ← hb]; exact bgn_in d))
  unfold vBegins at CS
  obtain ⟨N, hN⟩ : ∃ N, Jr.cnt t.op t.root = N := ⟨_, rfl⟩
  obtain ⟨ta, tc, rfl⟩ := rdv (Gn.Own.rd ndL h.tape) N (by rw [Jr.zf_len]; exact hN)
  obtain ⟨D, hD⟩ : ∃ D, t.op.length = D := ⟨_, rfl⟩
  obtain ⟨oa, oc, rfl⟩ := rdv (Gn.Own.rd opL h.opn) D (h.ors.len.trans hD)
  obtain ⟨_, _, _, _, c4, c5⟩ := h.rp.lie
  have H := Lib.hid h
  have HT := Lib.hid T
  have HTE := Lib.hid TE
  have HTB := Lib.hid hTB
  have HN := Lib.hid hN
  have HD := Lib.hid hD
  have HS : Hid (Jr.hd t.s = d) := Lib.hid (by rw [h.s]; exact hd)
  have HB := Lib.hid hb
  have C := Lib.hid (fun m => jhere (h.rp.drew m) h.le hm d hd)
  have HK : Hid (Jr.stepV t = if b = false then .inr (.err t.at_ 70) else if 4000 ≤ N then .inr (.err t.at_ 5) else if 64 ≤ D then .inr (.err t.at_ 72) else Jr.valueB t) := Lib.hid (by unfold Jr.stepV; rw [HS.out, hb, hN, hD])
  have hdin : d ≠ 0 → t.at_ < S.size := fun h0 => hd_in (S := S) (by rw [hd]; exact h0)
  have HI := Lib.hid hdin
  clear h T TE hTB hN hD hb hd hdin
  cases b
  case false =>
    have HE : Hid (Jr.stepV t = .inr (.err t.at_ 70)) := Lib.hid (by rw [HK.out, if_pos rfl])
    clear HK
    go_enter Tryd.func67, Tryd.ntmps67
    go_wp2_with fail
    ((with_reducible refine (CS.out).mono ?_); rintro e w1 ⟨rfl, m, rfl⟩)
    go_wp2_with fail
    go_ret
    rw [HE.out]
    exact ⟨rfl, (below_drewN (Below.refl _ _) m).mono H.out.wB, _, _, _, _, H.out.rp.drew m⟩
  case true =>
    by_cases hc : 4000 ≤ N
    · have hc1 : (4000 : Int) ≤ N := by omega
      have HE : Hid (Jr.stepV t = .inr (.err t.at_ 5)) := Lib.hid (by rw [HK.out, if_neg (by simp), if_pos hc])
      go_enter Tryd.func67, Tryd.ntmps67
      go_wp2_with fail
      ((with_reducible refine (CS.out).mono ?_); rintro e w1 ⟨rfl, m, rfl⟩)
      go_wp2_with fail
      go_ret
      rw [HE.out]
      exact ⟨rfl, (below_drewN (Below.refl _ _) m).mono H.out.wB, _, _, _, _, H.out.rp.drew m⟩
    · have hc1 : ¬ (4000 : Int) ≤ N := by omega
      by_cases hp : 64 ≤ D
      · have hp1 : (64 : Int) ≤ D := by omega
        have HE : Hid (Jr.stepV t = .inr (.err t.at_ 72)) := Lib.hid (by rw [HK.out, if_neg (by simp), if_neg hc, if_pos hp])
        go_enter Tryd.func67, Tryd.ntmps67
        go_wp2_with fail
        ((with_reducible refine (CS.out).mono ?_); rintro e w1 ⟨rfl, m, rfl⟩)
        go_wp2_with fail
        go_ret
        rw [HE.out]
        exact ⟨rfl, (below_drewN (Below.refl _ _) m).mono H.out.wB, _, _, _, _, H.out.rp.drew m⟩
      · have hp1 : ¬ (64 : Int) ≤ D := by omega
        have HE : Hid (Jr.stepV t = Jr.valueB t) := Lib.hid (by rw [HK.out, if_neg (by simp), if_neg hc, if_neg hp])
        go_enter Tryd.func67, Tryd.ntmps67
        go_wp2_with fail
        ((with_reducible refine (CS.out).mono ?_); rintro e w1 ⟨rfl, m, rfl⟩)
        have C := Lib.hid (C.out m)
        go_wp2_with fail
        ((with_reducible refine (C.out).mono ?_); rintro e w2 ⟨rfl, m', rfl⟩)
        obtain ⟨w3, hw3⟩ : ∃ w3, w3 = (w.drewN m).drewN m' := ⟨_, rfl⟩
        rw [← hw3]
        have b3 : Below w.heap.size w w3 := by rw [hw3]; exact below_drewN (below_drewN (Below.refl _ _) m) m'
        have H3 := Lib.hid (H.out.later b3)
        have T3 := Lib.hid (HT.out.later b3)
        have E3 := Lib.hid (HTE.out.later b3)
        have B3 := Lib.hid (b3.mono H.out.wB)
        clear hw3 b3 c4 c5 C CS
        by_cases hd110 : d = 110
        case' pos =>
          have hHE : Hid (Jr.stepV t = Jr.word t (bl (⟨#[110, 117, 108, 108]⟩ : ByteArray)) 1) := Lib.hid (by rw [HE.out, show bl (⟨#[110, 117, 108, 108]⟩ : ByteArray) = [110, 117, 108, 108] by decide]; unfold Jr.valueB; rw [HS.out, if_pos hd110])
          have M := Lib.hid (mkNull w3)
          clear HE
          subst hd110
          go_wp2_with fail
          ((with_reducible refine (M.out).mono ?_); rintro e w4 ⟨v, rfl, ho, b⟩)
          have H4 := Lib.hid (H3.out.later b)
          have B4 := Lib.hid (B3.out.trans (b.mono H3.out.wB))
          have HO := Lib.hid ho
          have CW := Lib.hid (jtakeWord H4.out.rp H4.out.le hm H4.out.tape ho (fun k hk hk' => by have := (ho.lt k hk).1; have := (H3.out.tape.lt k hk').2; omega) (by rw [Jr.zf_len]; have := H4.out.cnt; omega) H4.out.wB ⟨#[110, 117, 108, 108]⟩ (by decide) (by decide))
          clear ho b M
          go_wp2_with fail
          ((with_reducible refine (CW.out).mono ?_); rintro e w5 hw)
          obtain ⟨rfl, HA⟩ := word_after H4.out HO.out H3.out.wB (by rw [HN.out]; omega) hw
          have HA := Lib.hid HA
          clear hw
          go_wp2_with fail
          go_ret
          rw [hHE.out]
          exact ⟨rfl, After.before B4.out HA.out⟩
        have hn110 : ((d : Int) == 110) = false := by simp; omega
        by_cases hd102 : d = 102
        case' pos =>
          have hHE : Hid (Jr.stepV t = Jr.word t (bl (⟨#[102, 97, 108, 115, 101]⟩ : ByteArray)) 2) := Lib.hid (by rw [HE.out, show bl (⟨#[102, 97, 108, 115, 101]⟩ : ByteArray) = [102, 97, 108, 115, 101] by decide]; unfold Jr.valueB; rw [HS.out, if_neg hd110, if_pos hd102])
          have M := Lib.hid (mkBool false w3)
          clear HE
          subst hd102
          go_wp2_with fail
          ((with_reducible refine (M.out).mono ?_); rintro e w4 ⟨v, rfl, ho, b⟩)
          have H4 := Lib.hid (H3.out.later b)
          have B4 := Lib.hid (B3.out.trans (b.mono H3.out.wB))
          have HO := Lib.hid ho
          have CW := Lib.hid (jtakeWord H4.out.rp H4.out.le hm H4.out.tape ho (fun k hk hk' => by have := (ho.lt k hk).1; have := (H3.out.tape.lt k hk').2; omega) (by rw [Jr.zf_len]; have := H4.out.cnt; omega) H4.out.wB ⟨#[102, 97, 108, 115, 101]⟩ (by decide) (by decide))
          clear ho b M
          go_wp2_with fail
          ((with_reducible refine (CW.out).mono ?_); rintro e w5 hw)
          obtain ⟨rfl, HA⟩ := word_after H4.out HO.out H3.out.wB (by rw [HN.out]; omega) hw
          have HA := Lib.hid HA
          clear hw
          go_wp2_with fail
          go_ret
          rw [hHE.out]
          exact ⟨rfl, After.before B4.out HA.out⟩
        have hn102 : ((d : Int) == 102) = false := by simp; omega
        by_cases hd116 : d = 116
        case' pos =>
          have hHE : Hid (Jr.stepV t = Jr.word t (bl (⟨#[116, 114, 117, 101]⟩ : ByteArray)) 3) := Lib.hid (by rw [HE.out, show bl (⟨#[116, 114, 117, 101]⟩ : ByteArray) = [116, 114, 117, 101] by decide]; unfold Jr.valueB; rw [HS.out, if_neg hd110, if_neg hd102, if_pos hd116])
          have M := Lib.hid (mkBool true w3)
          clear HE
          subst hd116
          go_wp2_with fail
          ((with_reducible refine (M.out).mono ?_); rintro e w4 ⟨v, rfl, ho, b⟩)
          have H4 := Lib.hid (H3.out.later b)
          have B4 := Lib.hid (B3.out.trans (b.mono H3.out.wB))
          have HO := Lib.hid ho
          have CW := Lib.hid (jtakeWord H4.out.rp H4.out.le hm H4.out.tape ho (fun k hk hk' => by have := (ho.lt k hk).1; have := (H3.out.tape.lt k hk').2; omega) (by rw [Jr.zf_len]; have := H4.out.cnt; omega) H4.out.wB ⟨#[116, 114, 117, 101]⟩ (by decide) (by decide))
          clear ho b M
          go_wp2_with fail
          ((with_reducible refine (CW.out).mono ?_); rintro e w5 hw)
          obtain ⟨rfl, HA⟩ := word_after H4.out HO.out H3.out.wB (by rw [HN.out]; omega) hw
          have HA := Lib.hid HA
          clear hw
          go_wp2_with fail
          go_ret
          rw [hHE.out]
          exact ⟨rfl, After.before B4.out HA.out⟩
        have hn116 : ((d : Int) == 116) = false := by simp; omega
        by_cases hd34 : d = 34
        case' pos =>
          have hHE : Hid (Jr.stepV t = Jr.text t) := Lib.hid (by rw [HE.out]; unfold Jr.valueB; rw [HS.out, if_neg hd110, if_neg hd102, if_neg hd116, if_pos hd34])
          have CW := Lib.hid (jtakeText H3.out T3.out (hX.lit (a := t.at_) (by rw [← H.out.s, HS.out, hd34])) (by rw [HN.out]; omega))
          clear HE
          subst hd34
          go_wp2_with fail
          ((with_reducible refine (CW.out).mono ?_); rintro e w5 ⟨rfl, HA⟩)
          have HA := Lib.hid HA
          go_wp2_with fail
          go_ret
          rw [hHE.out]
          exact ⟨rfl, After.before B3.out HA.out⟩
        have hn34 : ((d : Int) == 34) = false := by simp; omega
        by_cases hd91 : d = 91
        case' pos =>
          have hHE : Hid (Jr.stepV t = .inl (Jr.opn t 6)) := Lib.hid (by rw [HE.out]; unfold Jr.valueB; rw [HS.out, if_neg hd110, if_neg hd102, if_neg hd116, if_neg hd34, if_pos hd91])
          have CW := jbegin (k := 6) (m := none) H3.out (by rw [HN.out]; omega) (by rw [HD.out]; omega) (HI.out (by omega)) hm (.inl ⟨rfl, rfl⟩)
          have e93 : ((Jr.endOf 6 : Nat) : Int) = 93 := rfl
          rw [e93] at CW
          have CW := Lib.hid CW
          clear HE e93
          subst hd91
          go_wp2_with fail
          ((with_reducible refine (CW.out).mono ?_); rintro e w5 ⟨rfl, HA⟩)
          have HA := Lib.hid HA
          go_wp2_with fail
          go_ret
          rw [hHE.out]
          exact ⟨rfl, After.before B3.out HA.out⟩
        have hn91 : ((d : Int) == 91) = false := by simp; omega
        by_cases hd123 : d = 123
        case' pos =>
          have hHE : Hid (Jr.stepV t = .inl (Jr.opn t 7)) := Lib.hid (by rw [HE.out]; unfold Jr.valueB; rw [HS.out, if_neg hd110, if_neg hd102, if_neg hd116, if_neg hd34, if_neg hd91, if_pos hd123])
          have hbn : Below w3.heap.size w3 (w3.alloc (.map #[] 0)) := up_new _ _
          have CW := jbegin (k := 7) (m := some w3.heap.size) (H3.out.later hbn) (by rw [HN.out]; omega) (by rw [HD.out]; omega) (HI.out (by omega)) hm (.inr ⟨rfl, _, rfl, H3.out.wB, IsSet.new w3, fun x hx e => absurd (OR.lt H3.out.ors x hx _ e) (Nat.lt_irrefl _)⟩)
          have e93 : ((Jr.endOf 7 : Nat) : Int) = 125 := rfl
          rw [e93] at CW
          have CW := Lib.hid CW
          have hmm := @run_makeMap Tryd.prog
          have HBN := Lib.hid (B3.out.trans (hbn.mono H3.out.wB))
          clear HE e93 hbn
          subst hd123
          go_wp2_with fail
          ((with_reducible refine (CW.out).mono ?_); rintro e w5 ⟨rfl, HA⟩)
          have HA := Lib.hid HA
          go_wp2_with fail
          go_ret
          rw [hHE.out]
          exact ⟨rfl, After.before HBN.out HA.out⟩
        have hn123 : ((d : Int) == 123) = false := by simp; omega
        have hHE : Hid (Jr.stepV t = Jr.number t) := Lib.hid (by rw [HE.out]; unfold Jr.valueB; rw [HS.out, if_neg hd110, if_neg hd102, if_neg hd116, if_neg hd34, if_neg hd91, if_neg hd123])
        have CW := Lib.hid (jtakeNumber H3.out E3.out HTB.out hm (by rw [HN.out]; omega))
        clear HE
        go_wp2_with fail
        ((with_reducible refine (CW.out).mono ?_); rintro e w5 ⟨rfl, HA⟩)
        have HA := Lib.hid HA
        go_wp2_with fail
        go_ret
        rw [hHE.out]
        exact ⟨rfl, After.before B3.out HA.out⟩
end Go.Proofs.YteklcfimafplbaaDoor

/- The program's reader: a whole text. -/
namespace Go.Proofs.YteklcfimafplbaaDoor
open Go.RowKit
set_option linter.unusedVariables false
set_option maxRecDepth 100000

/-- What holds of where a reading stands. -/
def Jr.Ok (t : Jr.St) : Prop := (t.nx = .key → ∃ f r, t.op = f :: r ∧ f.kind = 7) ∧ (t.nx = .part → ∃ f r, t.op = f :: r)
theorem Jr.Ok.plain {t : Jr.St} (h : t.nx ≠ .key) (h1 : t.nx ≠ .part) : Jr.Ok t := ⟨fun e => absurd e h, fun e => absurd e h1⟩
theorem Jr.Ok.ahead {t : Jr.St} {f : Jr.Fr} {r : List Jr.Fr} (ho : t.op = f :: r) (h : t.nx = Jr.ahead (f :: r)) : Jr.Ok t := by
  have h : t.nx = if f.kind = 7 then Jr.Nx.key else Jr.Nx.value := h
  by_cases hk : f.kind = 7
  · exact ⟨fun _ => ⟨f, r, ho, hk⟩, fun _ => ⟨f, r, ho⟩⟩
  · rw [if_neg hk] at h
    exact Jr.Ok.plain (by rw [h]; decide) (by rw [h]; decide)
theorem ahead_part (op : List Jr.Fr) : Jr.ahead op ≠ .part := by
  unfold Jr.ahead
  split
  · decide
  · split <;> decide
/-- A step goes on. -/
def Jr.Less (t u : Jr.St) : Prop := t.at_ < u.at_ ∨ (t.at_ = u.at_ ∧ t.nx = .part ∧ u.nx ≠ .part)
def Jr.StepOk (t : Jr.St) (r : Jr.St ⊕ Jr.Res) : Prop := match r with
  | .inl u => Jr.Ok u ∧ Jr.Less t u
  | .inr (.err _ e) => e ≠ 0
  | .inr (.ok _) => True
theorem leaf_ok {t : Jr.St} {m : Nat} {k n : Int} {x : ByteArray} (hm : 0 < m) : Jr.StepOk t (.inl (Jr.leaf t m k n x)) :=
  ⟨Jr.Ok.plain (by simp [Jr.leaf]) (by simp [Jr.leaf]), .inl (by show t.at_ < t.at_ + m; omega)⟩
theorem go_ok {t : Jr.St} {m : Nat} {x : Jr.Nx} (hm : 0 < m) (h : x ≠ .key) (h1 : x ≠ .part) : Jr.StepOk t (.inl (Jr.go t m x)) :=
  ⟨Jr.Ok.plain h h1, .inl (by show t.at_ < t.at_ + m; omega)⟩
theorem cls_ok {t : Jr.St} {f : Jr.Fr} {r : List Jr.Fr} (ho : t.op = f :: r) : Jr.StepOk t (.inl (Jr.cls t)) := by
  unfold Jr.cls
  rw [ho]
  exact ⟨Jr.Ok.plain (by simp) (by simp), .inl (by show t.at_ < t.at_ + 1; omega)⟩
theorem err_ok {t : Jr.St} {a : Nat} {e : Int} (h : e ≠ 0) : Jr.StepOk t (.inr (.err a e)) := h
theorem word_ok (t : Jr.St) (W : List Nat) (k : Int) (h : 0 < W.length) : Jr.StepOk t (Jr.word t W k) := by
  unfold Jr.word
  split
  · exact leaf_ok h
  · exact err_ok (by decide)
theorem opn_ok (t : Jr.St) (k : Int) : Jr.StepOk t (.inl (Jr.opn t k)) :=
  ⟨⟨fun e => by simp [Jr.opn] at e, fun _ => ⟨_, _, rfl⟩⟩, .inl (by show t.at_ < t.at_ + 1; omega)⟩
theorem step_ok {t : Jr.St} (hb : ∀ x ∈ t.s, x < 256) : Jr.StepOk t (Jr.stepS t) := by
  unfold Jr.stepS
  split
  · unfold Jr.stepV
    split
    · exact err_ok (by decide)
    split
    · exact err_ok (by decide)
    split
    · exact err_ok (by decide)
    unfold Jr.valueB
    split
    · exact word_ok _ _ _ (by decide)
    split
    · exact word_ok _ _ _ (by decide)
    split
    · exact word_ok _ _ _ (by decide)
    split
    · unfold Jr.text
      split
      · rename_i h
        exact err_ok (by omega)
      · rename_i h
        obtain ⟨l, n, x, hu⟩ : ∃ l n x, Utf.unq t.s = (l, n, x) := ⟨_, _, _, rfl⟩
        rw [hu] at h ⊢
        have hx : x = 0 := by simpa using h
        subst hx
        have := unq_fine hb hu
        exact leaf_ok (show 0 < n by omega)
    split
    · exact opn_ok _ _
    split
    · exact opn_ok _ _
    unfold Jr.number
    split
    · exact err_ok (by decide)
    split
    · rename_i h _
      obtain ⟨n, b, hs⟩ : ∃ n b, Jr.scan t.s = (n, b) := ⟨_, _, rfl⟩
      rw [hs] at h ⊢
      have hb1 : b = true := by simpa using h
      subst hb1
      obtain ⟨_, h1, h2, _⟩ := Jr.scan_digits t.s n hs
      exact leaf_ok (show 0 < n by omega)
    · exact err_ok (by decide)
  · rename_i hp
    unfold Jr.stepP
    split
    · exact err_ok (by decide)
    · rename_i f r ho
      split
      · exact cls_ok ho
      · exact ⟨Jr.Ok.ahead ho (by rw [← ho]; rfl), .inr ⟨by show t.at_ = t.at_ + 0; omega, hp, ahead_part _⟩⟩
  · unfold Jr.stepK
    split
    · exact err_ok (by decide)
    · split
      · exact err_ok (by decide)
      split
      · rename_i h
        exact err_ok (by omega)
      split
      · exact err_ok (by decide)
      · rename_i _ h _
        obtain ⟨l, n, x, hu⟩ : ∃ l n x, Utf.unq t.s = (l, n, x) := ⟨_, _, _, rfl⟩
        rw [hu] at h ⊢
        have hx : x = 0 := by simpa using h
        subst hx
        have := unq_fine hb hu
        exact ⟨Jr.Ok.plain (by simp) (by simp), .inl (by show t.at_ < t.at_ + n; omega)⟩
  · unfold Jr.stepC
    split
    · exact err_ok (by decide)
    · exact go_ok (by decide) (by decide) (by decide)
  · unfold Jr.stepB
    split
    · split
      · trivial
      · exact err_ok (by decide)
    · rename_i f r ho
      split
      · exact cls_ok ho
      split
      · exact err_ok (by decide)
      · exact ⟨Jr.Ok.ahead ho (by rw [← ho]; rfl), .inl (by show t.at_ < t.at_ + 1; omega)⟩
/-- How far it is. -/
def mu (g N : Nat) (w : World) : Nat := 2 * (N - (match w.cell? ⟨g, 1, none⟩ with | some (.int _ z) => z.toNat | _ => 0)) + (match w.cell? ⟨g, 2, none⟩ with | some (.int _ z) => if z = 1 then 1 else 0 | _ => 0)
theorem mu_ps {w : World} {B g : Nat} {S : ByteArray} {t : Jr.St} {ov tv : Value} {O : List Op1} (h : PS w B g S t ov tv O) : mu g S.size w = 2 * (S.size - t.at_) + (if t.nx = .part then 1 else 0) := by
  obtain ⟨_, c1, c2, _⟩ := h.rp.lie
  unfold mu
  rw [c1, c2]
  simp only [Int.toNat_natCast]
  cases t.nx <;> simp [nxn]
theorem mu_less {w w' : World} {B g : Nat} {S : ByteArray} {t u : Jr.St} {ov tv ov' tv' : Value} {O O' : List Op1} (h : PS w B g S t ov tv O) (h' : PS w' B g S u ov' tv' O') (hl : Jr.Less (Jr.skip t) u) : mu g S.size w' < mu g S.size w := by
  rw [mu_ps h, mu_ps h']
  have := h'.le
  have e : t.at_ ≤ (Jr.skip t).at_ := by show t.at_ ≤ t.at_ + _; omega
  rcases hl with hl | ⟨h1, h2, h3⟩
  · split <;> split <;> omega
  · have h2 : t.nx = .part := h2
    rw [if_pos h2, if_neg h3]
    omega
/-- What Parse leaves. -/
def ParseEnd (w : World) (r : Jr.Res) (e : Ending) (w' : World) : Prop := match r with
  | .err a n => e = .returned (.tuple #[.slice none 0 0, .int .i64 (a : Nat), .int .i64 n]) ∧ Below w.heap.size w w'
  | .ok F => ∃ v, e = .returned (.tuple #[v, .int .i64 0, .int .i64 0]) ∧ OwnN w' w.heap.size v (Tp.flat F) ∧ Below w.heap.size w w'
def Parsed (w : World) (l : List Nat) (e : Ending) (w' : World) : Prop := ∃ r, Jr.Reads l r ∧ ParseEnd w r e w'
/-- The loop's. -/
def PInv (W : World) (g : Nat) (S : ByteArray) (w : World) (t : Jr.St) (ov tv : Value) (O : List Op1) : Prop := PS w W.heap.size g S t ov tv O ∧ Jr.Steps (Jr.init (bl S)) t ∧ Jr.Ok t ∧ Below W.heap.size W w
theorem PInv.next {W w w2 w3 : World} {g : Nat} {S : ByteArray} {t u : Jr.St} {ov tv : Value} {O : List Op1} (h : PInv W g S w t ov tv O) (hb : Below W.heap.size w w2) (ha : After w2 W.heap.size g S (.inl u) w3) (hs : Jr.stepS (Jr.skip t) = .inl u) : ∃ ov' tv' O', PInv W g S w3 u ov' tv' O' ∧ mu g S.size w3 < mu g S.size w := by
  obtain ⟨b, ov', tv', O', h1⟩ := ha
  have hk := step_ok (t := Jr.skip t) (by intro x hx; have := List.mem_of_mem_drop hx; rw [h.1.s] at this; exact left_byte S _ x this)
  rw [hs] at hk
  exact ⟨ov', tv', O', ⟨h1, h.2.1.trans (.one hs), hk.1, (h.2.2.2.trans hb).trans b⟩, mu_less h.1 h1 hk.2⟩
theorem PInv.skip {W w w2 : World} {g : Nat} {S : ByteArray} {t : Jr.St} {ov tv : Value} {O : List Op1} (h : PInv W g S w t ov tv O) (hw : Went w w2 g S (t.at_ + Jr.nb t.s) (nxn t.nx) t.key ov tv) (hl : t.at_ + Jr.nb t.s ≤ S.size) : PS w2 W.heap.size g S (Jr.skip t) ov tv O ∧ Below W.heap.size w w2 :=
  ⟨PS.went (u := Jr.skip t) h.1 hw rfl rfl (by show t.s.drop _ = left S (t.at_ + _); rw [h.1.s, left_drop]) hl, hw.below h.1.gB h.1.wB⟩
theorem PInv.fails {W w w2 w3 : World} {g a : Nat} {n : Int} {S : ByteArray} {t : Jr.St} {ov tv : Value} {O : List Op1} (hm : S.size ≤ 1048576) (h : PInv W g S w t ov tv O) (hb : Below W.heap.size w w2) (ha : Below W.heap.size w2 w3) (hs : Jr.stepS (Jr.skip t) = .inr (.err a n)) : Parsed W (bl S) (.returned (.tuple #[.slice none 0 0, .int .i64 (a : Nat), .int .i64 n])) w3 := by
  refine ⟨.err a n, ?_, rfl, (h.2.2.2.trans hb).trans ha⟩
  unfold Jr.Reads
  rw [bl_length, if_neg (by omega)]
  exact ⟨t, h.2.1, hs⟩
theorem PInv.ends {W w w2 w3 : World} {g : Nat} {S : ByteArray} {t : Jr.St} {ov tv tv' : Value} {O : List Op1} {F : Fo} (hm : S.size ≤ 1048576) (h : PInv W g S w t ov tv O) (hb : Below W.heap.size w w2) (ha : Below W.heap.size w2 w3) (ht : OwnN w3 W.heap.size tv' (Tp.flat F)) (hs : Jr.stepS (Jr.skip t) = .inr (.ok F)) : Parsed W (bl S) (.returned (.tuple #[tv', .int .i64 0, .int .i64 0])) w3 := by
  refine ⟨.ok F, ?_, tv', rfl, ht, (h.2.2.2.trans hb).trans ha⟩
  unfold Jr.Reads
  rw [bl_length, if_neg (by omega)]
  exact ⟨t, h.2.1, hs⟩
end Go.Proofs.YteklcfimafplbaaDoor

/- The program's Parse. -/
namespace Go.Proofs.YteklcfimafplbaaDoor
open Go.RowKit
set_option linter.unusedVariables false
set_option maxRecDepth 100000

theorem jr_start (w : World) (S : ByteArray) (T : Tab w) : PInv w w.heap.size S (w.alloc (.cells #[.string S, .int .i64 0, .int .i64 0, .string ⟨#[]⟩, .slice none 0 0, .slice none 0 0] 81)) (Jr.init (bl S)) (.slice none 0 0) (.slice none 0 0) [] := by
  refine ⟨⟨?_, Gn.Own.nil .., Gn.Own.nil .., rfl, Nat.le_refl _, by simp, ?_, Nat.zero_le _, Nat.zero_le _, Nat.zero_le _, T.size⟩, .refl _, Jr.Ok.plain (by simp [Jr.init]) (by simp [Jr.init]), up_new _ _⟩
  · exact Blk.new w 81 #[.string S, .int .i64 0, .int .i64 0, .string ⟨#[]⟩, .slice none 0 0, .slice none 0 0]
  · show bl S = left S 0
    unfold left
    rw [List.drop_zero]
theorem part_after {w3 : World} {B g : Nat} {S : ByteArray} {t : Jr.St} {ov tv : Value} {O : List Op1} (h : PS w3 B g S t ov tv O) (m : Nat) (x : Jr.Nx) : After w3 B g S (.inl (Jr.go t 0 x)) ((w3.drewN m).setCell ⟨g, 2, none⟩ (.int .i64 (nxn x))) := by
  have hw : Went w3 ((w3.drewN m).setCell ⟨g, 2, none⟩ (.int .i64 (nxn x))) g S t.at_ (nxn x) t.key ov tv := ⟨(h.rp.drew m).putN _, (touchD w3 _ m).trans (touchG _ g 2 _) (fun i hi => .inl hi)⟩
  exact ⟨hw.below h.gB h.wB, ov, tv, O, PS.went (u := Jr.go t 0 x) h hw rfl rfl (by show t.s.drop 0 = left S (t.at_ + 0); rw [List.drop_zero]; exact h.s) h.le⟩
set_option maxHeartbeats 8000000 in
theorem jparse {w : World} (S : ByteArray) (T : Tab w) (TE : TabE w) (hX : TxOk S) : Calls Tryd.prog 26 #[.string S] w fun e w' => Parsed w (bl S) e w' := by
  have HT := Lib.hid T
  have HTE := Lib.hid TE
  by_cases hm : S.size ≤ 1048576
  case neg =>
    have hm1 : (1048576 : Int) < S.size := by omega
    have HR : Hid (Parsed w (bl S) (.returned (.tuple #[.slice none 0 0, .int .i64 ((0 : Nat) : Int), .int .i64 5])) w) := Lib.hid ⟨.err 0 5, by unfold Jr.Reads; rw [bl_length, if_pos (by omega)], rfl, Below.refl _ _⟩
    go_enter Tryd.func26, Tryd.ntmps26
    go_wp2_with fail
    go_step3
    go_wp2_with fail
    try rw [Exit.noGoto_ret]
    go_ret3
    exact HR.out
  case pos =>
    have hm1 : ¬ (1048576 : Int) < S.size := by omega
    have HM := Lib.hid hm
    have HX := Lib.hid hX
    obtain ⟨w0, hw0⟩ : ∃ w0, w0 = w.alloc (.cells #[.string S, .int .i64 0, .int .i64 0, .string ⟨#[]⟩, .slice none 0 0, .slice none 0 0] 81) := ⟨_, rfl⟩
    have HI0 : Hid (PInv w w.heap.size S w0 (Jr.init (bl S)) (.slice none 0 0) (.slice none 0 0) []) := Lib.hid (by rw [hw0]; exact jr_start w S T)
    obtain ⟨g, hg⟩ : ∃ g, g = w.heap.size := ⟨_, rfl⟩
    have HG := Lib.hid hg
    have HW0 := Lib.hid hw0
    have HTB : Hid (TabAt w.heap.size) := Lib.hid T.size
    have HEB : Hid (TabEAt w.heap.size) := Lib.hid TE.size
    rw [← hg] at HI0
    clear hw0 hg T TE hX hm
    go_enter Tryd.func26, Tryd.ntmps26
    go_wp2_with fail
    go_step3
    go_wp2_with fail
    rw [← HW0.out, ← HG.out]
    go_step3
    go_wp2_with fail
    go_loopw [4] (fun iv wx => iv = .int .i64 0 ∧ ∃ t ov tv O, Hid (PInv w g S wx t ov tv O)) (fun _ wx => mu g S.size wx)
    case atStart => exact ⟨rfl, _, _, _, _, HI0⟩
    case round =>
      obtain ⟨rfl, t, ov, tv, O, HP⟩ := hrel
      have CB := Lib.hid (jskipBlanks HP.out.1.rp HP.out.1.le HM.out (Jr.nb t.s) (by rw [HP.out.1.s]))
      go_wp2_with fail
      ((with_reducible refine (CB.out).mono ?_); rintro e w2 ⟨rfl, hwt, hwl⟩)
      obtain ⟨h2, hb2⟩ := HP.out.skip hwt hwl
      have H2 := Lib.hid h2
      have HB2 := Lib.hid hb2
      have T2 := Lib.hid (HT.out.below HTB.out (HP.out.2.2.2.trans hb2))
      have E2 := Lib.hid (HTE.out.below HEB.out (HP.out.2.2.2.trans hb2))
      obtain ⟨_, c1, c2, _, c4, c5⟩ := h2.rp.lie
      obtain ⟨r, hr⟩ : ∃ r, Jr.stepS (Jr.skip t) = r := ⟨_, rfl⟩
      have HK : Hid (Jr.StepOk (Jr.skip t) r) := Lib.hid (by rw [← hr]; exact step_ok (by rw [h2.s]; exact left_byte S _))
      have HR := Lib.hid hr
      obtain ⟨x, hx⟩ : ∃ x, (Jr.skip t).nx = x := ⟨_, rfl⟩
      have D2 : Hid (w2.cell? ⟨g, 2, none⟩ = some (.int .i64 (nxn x))) := Lib.hid (by rw [← hx]; exact c2)
      have HN : Hid ((Jr.skip t).nx = x) := Lib.hid hx
      clear h2 hb2 hwt hwl hr CB hx c2
      cases x
      case value =>
        have d2 : w2.cell? ⟨g, 2, none⟩ = some (.int .i64 0) := D2.out
        have CV : Hid (Calls Tryd.prog 67 #[.pointer (some ⟨g, 0, none⟩)] w2 fun e w' => e = .returned (.int .i64 (code r)) ∧ After w2 w.heap.size g S r w') := Lib.hid (by
          have h := jtakeValue H2.out T2.out E2.out HEB.out HM.out HX.out
          have e : Jr.stepV (Jr.skip t) = r := by rw [← HR.out]; unfold Jr.stepS; rw [HN.out]
          rwa [e] at h)
        cases r with
        | inl u =>
          unfold code at CV
          go_wp2_with fail
          ((with_reducible refine (CV.out).mono ?_); rintro e w3 ⟨rfl, HA⟩)
          obtain ⟨ov', tv', O', HQ, hmu⟩ := HP.out.next HB2.out HA HR.out
          have HQ := Lib.hid HQ
          have HMU := Lib.hid hmu
          clear HA hmu CV
          go_wp2_with fail
          go_roundw
          case rel => exact ⟨rfl, _, _, _, _, HQ⟩
          case measure => exact HMU.out
        | inr q =>
          cases q with
          | ok F =>
            go_wp2_with fail
            ((with_reducible refine (CV.out).mono ?_); rintro e w3 ⟨rfl, HA⟩)
            exact absurd HA.2 id
          | err a n =>
            have hn0 : n ≠ 0 := HK.out
            have hn1 : (n != 0) = true := by simp; omega
            unfold code at CV
            go_wp2_with fail
            ((with_reducible refine (CV.out).mono ?_); rintro e w3 ⟨rfl, HA⟩)
            have HF := Lib.hid (fun m => HP.out.fails HM.out HB2.out (below_drewN HA.1 m) HR.out)
            obtain ⟨_, _, _, _, _, hrp⟩ := HA
            obtain ⟨_, d1, _⟩ := hrp.lie
            clear hrp CV hn0 c1 c4 c5
            go_wp2_with fail
            go_quiet (fail)
            go_wp2_with fail
            go_ret3
            exact HF.out nq
      case key =>
        have d2 : w2.cell? ⟨g, 2, none⟩ = some (.int .i64 2) := D2.out
        obtain ⟨f, rr, hop, hk7⟩ := HP.out.2.2.1.1 HN.out
        have CV : Hid (Calls Tryd.prog 70 #[.pointer (some ⟨g, 0, none⟩)] w2 fun e w' => e = .returned (.int .i64 (code r)) ∧ After w2 w.heap.size g S r w') := Lib.hid (by
          have h := jtakeKey H2.out hop hk7 HM.out HX.out T2.out
          have e : Jr.stepK (Jr.skip t) = r := by rw [← HR.out]; unfold Jr.stepS; rw [HN.out]
          rwa [e] at h)
        clear hop hk7
        cases r with
        | inl u =>
          unfold code at CV
          go_wp2_with fail
          ((with_reducible refine (CV.out).mono ?_); rintro e w3 ⟨rfl, HA⟩)
          obtain ⟨ov', tv', O', HQ, hmu⟩ := HP.out.next HB2.out HA HR.out
          have HQ := Lib.hid HQ
          have HMU := Lib.hid hmu
          clear HA hmu CV
          go_wp2_with fail
          go_roundw
          case rel => exact ⟨rfl, _, _, _, _, HQ⟩
          case measure => exact HMU.out
        | inr q =>
          cases q with
          | ok F =>
            go_wp2_with fail
            ((with_reducible refine (CV.out).mono ?_); rintro e w3 ⟨rfl, HA⟩)
            exact absurd HA.2 id
          | err a n =>
            have hn0 : n ≠ 0 := HK.out
            have hn1 : (n != 0) = true := by simp; omega
            unfold code at CV
            go_wp2_with fail
            ((with_reducible refine (CV.out).mono ?_); rintro e w3 ⟨rfl, HA⟩)
            have HF := Lib.hid (fun m => HP.out.fails HM.out HB2.out (below_drewN HA.1 m) HR.out)
            obtain ⟨_, _, _, _, _, hrp⟩ := HA
            obtain ⟨_, d1, _⟩ := hrp.lie
            clear hrp CV hn0 c1 c4 c5
            go_wp2_with fail
            go_quiet (fail)
            go_wp2_with fail
            go_ret3
            exact HF.out nq
      case colon =>
        have d2 : w2.cell? ⟨g, 2, none⟩ = some (.int .i64 3) := D2.out
        have CV : Hid (Calls Tryd.prog 71 #[.pointer (some ⟨g, 0, none⟩), .int .u8 58, .int .i64 0] w2 fun e w' => e = .returned (.int .i64 (code r)) ∧ After w2 w.heap.size g S r w') := Lib.hid (by
          have h := jtakeMark H2.out HM.out 58 (by decide) (by decide) .value
          have e : Jr.stepC (Jr.skip t) = r := by rw [← HR.out]; unfold Jr.stepS; rw [HN.out]
          unfold Jr.stepC at e
          rw [e] at h
          exact h)
        cases r with
        | inl u =>
          unfold code at CV
          go_wp2_with fail
          ((with_reducible refine (CV.out).mono ?_); rintro e w3 ⟨rfl, HA⟩)
          obtain ⟨ov', tv', O', HQ, hmu⟩ := HP.out.next HB2.out HA HR.out
          have HQ := Lib.hid HQ
          have HMU := Lib.hid hmu
          clear HA hmu CV
          go_wp2_with fail
          go_roundw
          case rel => exact ⟨rfl, _, _, _, _, HQ⟩
          case measure => exact HMU.out
        | inr q =>
          cases q with
          | ok F =>
            go_wp2_with fail
            ((with_reducible refine (CV.out).mono ?_); rintro e w3 ⟨rfl, HA⟩)
            exact absurd HA.2 id
          | err a n =>
            have hn0 : n ≠ 0 := HK.out
            have hn1 : (n != 0) = true := by simp; omega
            unfold code at CV
            go_wp2_with fail
            ((with_reducible refine (CV.out).mono ?_); rintro e w3 ⟨rfl, HA⟩)
            have HF := Lib.hid (fun m => HP.out.fails HM.out HB2.out (below_drewN HA.1 m) HR.out)
            obtain ⟨_, _, _, _, _, hrp⟩ := HA
            obtain ⟨_, d1, _⟩ := hrp.lie
            clear hrp CV hn0 c1 c4 c5
            go_wp2_with fail
            go_quiet (fail)
            go_wp2_with fail
            go_ret3
            exact HF.out nq
      case part =>
        have d2 : w2.cell? ⟨g, 2, none⟩ = some (.int .i64 1) := D2.out
        obtain ⟨f, rr, hop⟩ := HP.out.2.2.1.2 HN.out
        have hop : (Jr.skip t).op = f :: rr := hop
        have CE := Lib.hid (jtakeEnd H2.out hop HM.out)
        have HOP := Lib.hid hop
        have HS : Hid (r = if Jr.hd (Jr.skip t).s = Jr.endOf f.kind then .inl (Jr.cls (Jr.skip t)) else .inl (Jr.go (Jr.skip t) 0 (Jr.ahead (Jr.skip t).op))) := Lib.hid (by rw [← HR.out]; unfold Jr.stepS Jr.stepP; rw [HN.out, hop])
        clear hop
        go_wp2_with fail
        ((with_reducible refine (CE.out).mono ?_); rintro e w3 (⟨hy, rfl, HA⟩ | ⟨hy, rfl, h3, b3⟩))
        case inl =>
          have hs := HS.out
          rw [if_pos hy] at hs
          have HS1 := Lib.hid hs
          clear hs hy
          obtain ⟨ov', tv', O', HQ, hmu⟩ := HP.out.next HB2.out HA (HR.out.trans HS1.out)
          have HQ := Lib.hid HQ
          have HMU := Lib.hid hmu
          clear HA hmu CE
          go_wp2_with fail
          go_roundw
          case rel => exact ⟨rfl, _, _, _, _, HQ⟩
          case measure => exact HMU.out
        case inr =>
          have hs := HS.out
          rw [if_neg hy] at hs
          have HS1 := Lib.hid hs
          have CA := Lib.hid (jahead h3 HOP.out)
          have H3 := Lib.hid h3
          have B3 := Lib.hid b3
          clear hs hy CE h3 b3
          go_wp2_with fail
          ((with_reducible refine (CA.out).mono ?_); rintro e w4 ⟨rfl, m, rfl⟩)
          have f2 := Blk.frozen (H3.out.rp.drew m) 2
          obtain ⟨_, _, d3, _⟩ := (H3.out.rp.drew m).lie
          obtain ⟨ov', tv', O', HQ, hmu⟩ := HP.out.next HB2.out (After.before (B3.out.mono H2.out.wB) (part_after H3.out m (Jr.ahead (Jr.skip t).op))) (HR.out.trans HS1.out)
          have HQ := Lib.hid HQ
          have HMU := Lib.hid hmu
          clear hmu CA
          go_wp2_with fail
          go_roundw
          case rel => exact ⟨rfl, _, _, _, _, HQ⟩
          case measure => exact HMU.out
      case behind =>
        have d2 : w2.cell? ⟨g, 2, none⟩ = some (.int .i64 4) := D2.out
        obtain ⟨D, hD⟩ : ∃ D, (Jr.skip t).op.length = D := ⟨_, rfl⟩
        obtain ⟨oa, oc, rfl⟩ := rdv (Gn.Own.rd opL H2.out.opn) D (H2.out.ors.len.trans hD)
        cases hop : (Jr.skip t).op with
        | nil =>
          obtain rfl : D = 0 := by rw [← hD, hop]; rfl
          by_cases hl : (Jr.skip t).at_ < S.size
          · have hl1 : ((Jr.skip t).at_ : Int) < S.size := by omega
            have HS : Hid (Jr.stepS (Jr.skip t) = .inr (.err (Jr.skip t).at_ 70)) := Lib.hid (by
              unfold Jr.stepS Jr.stepB
              rw [HN.out, hop]
              simp only
              rw [if_neg (by rw [H2.out.s]; intro e; have := left_len S (Jr.skip t).at_; rw [e] at this; simp at this; omega)])
            have HF := Lib.hid (fun m => HP.out.fails HM.out HB2.out (below_drewN (Below.refl _ w2) m) HS.out)
            clear hD hop
            go_wp2_with fail
            go_quiet (fail)
            go_wp2_with fail
            go_ret3
            exact HF.out nq
          · have hl1 : ¬ ((Jr.skip t).at_ : Int) < S.size := by omega
            have HS : Hid (Jr.stepS (Jr.skip t) = .inr (.ok (Jr.skip t).root)) := Lib.hid (by
              unfold Jr.stepS Jr.stepB
              rw [HN.out, hop]
              simp only
              rw [if_pos (by rw [H2.out.s]; exact List.eq_nil_of_length_eq_zero (by rw [left_len]; omega))])
            have HF := Lib.hid (HP.out.ends (tv' := tv) HM.out HB2.out (Below.refl _ _) (by have := H2.out.tape; rw [hop] at this; exact this) HS.out)
            clear hD hop
            go_wp2_with fail
            go_ret3
            exact HF.out
        | cons f rr =>
          have hD0 : ((D : Int) == 0) = false := by rw [hop] at hD; simp at hD; simp; omega
          have CE := Lib.hid (jtakeEnd H2.out hop HM.out)
          have HOP := Lib.hid hop
          have HS : Hid (r = if Jr.hd (Jr.skip t).s = Jr.endOf f.kind then .inl (Jr.cls (Jr.skip t)) else if Jr.hd (Jr.skip t).s ≠ 44 then .inr (.err (Jr.skip t).at_ 70) else .inl (Jr.go (Jr.skip t) 1 (Jr.ahead (Jr.skip t).op))) := Lib.hid (by rw [← HR.out]; unfold Jr.stepS Jr.stepB; rw [HN.out, hop])
          clear hop hD
          go_wp2_with fail
          ((with_reducible refine (CE.out).mono ?_); rintro e w3 (⟨hy, rfl, HA⟩ | ⟨hy, rfl, h3, b3⟩))
          case inl =>
            have hs := HS.out
            rw [if_pos hy] at hs
            have HS1 := Lib.hid hs
            clear hs hy
            obtain ⟨ov', tv', O', HQ, hmu⟩ := HP.out.next HB2.out HA (HR.out.trans HS1.out)
            have HQ := Lib.hid HQ
            have HMU := Lib.hid hmu
            clear HA hmu CE
            go_wp2_with fail
            go_roundw
            case rel => exact ⟨rfl, _, _, _, _, HQ⟩
            case measure => exact HMU.out
          case inr =>
            have hs := HS.out
            rw [if_neg hy] at hs
            have CA := Lib.hid (jahead h3 HOP.out)
            have CV : Hid (∀ m, Calls Tryd.prog 71 #[.pointer (some ⟨g, 0, none⟩), .int .u8 44, .int .i64 (nxn (Jr.ahead (Jr.skip t).op))] (w3.drewN m) fun e w' => e = .returned (.int .i64 (code r)) ∧ After (w3.drewN m) w.heap.size g S r w') := Lib.hid (fun m => by
              have h := jtakeMark (h3.drew m) HM.out 44 (by decide) (by decide) (Jr.ahead (Jr.skip t).op)
              rw [← hs] at h
              exact h)
            have B3 := Lib.hid (fun m => HB2.out.trans ((below_drewN b3 m).mono H2.out.wB))
            clear hs hy CE h3 b3
            go_wp2_with fail
            ((with_reducible refine (CA.out).mono ?_); rintro e w4 ⟨rfl, m, rfl⟩)
            have CV := Lib.hid (CV.out m)
            have B4 := Lib.hid (B3.out m)
            cases r with
            | inl u =>
              unfold code at CV
              go_wp2_with fail
              ((with_reducible refine (CV.out).mono ?_); rintro e w5 ⟨rfl, HA⟩)
              obtain ⟨ov', tv', O', HQ, hmu⟩ := HP.out.next B4.out HA HR.out
              have HQ := Lib.hid HQ
              have HMU := Lib.hid hmu
              clear HA hmu CV
              go_wp2_with fail
              go_roundw
              case rel => exact ⟨rfl, _, _, _, _, HQ⟩
              case measure => exact HMU.out
            | inr q =>
              cases q with
              | ok F =>
                go_wp2_with fail
                ((with_reducible refine (CV.out).mono ?_); rintro e w5 ⟨rfl, HA⟩)
                exact absurd HA.2 id
              | err a n =>
                have hn0 : n ≠ 0 := HK.out
                have hn1 : (n != 0) = true := by simp; omega
                unfold code at CV
                go_wp2_with fail
                ((with_reducible refine (CV.out).mono ?_); rintro e w5 ⟨rfl, HA⟩)
                have HF := Lib.hid (fun m => HP.out.fails HM.out B4.out (below_drewN HA.1 m) HR.out)
                obtain ⟨_, _, _, _, _, hrp⟩ := HA
                obtain ⟨_, d1, _⟩ := hrp.lie
                clear hrp CV hn0 c1 c4 c5
                go_wp2_with fail
                go_quiet (fail)
                go_wp2_with fail
                go_ret3
                exact HF.out nq
end Go.Proofs.YteklcfimafplbaaDoor

/- The law's: rows that are compared; a text that reads, or fails. -/
namespace Go.Proofs.YteklcfimafplbaaDoor
open Go.RowKit
set_option linter.unusedVariables false
set_option maxRecDepth 100000

set_option maxHeartbeats 4000000 in
theorem jlawEq (v1 v2 : Value) (l1 l2 : List Nd) (w : World) (h1 : RdN w w.heap.size v1 l1) (h2 : RdN w w.heap.size v2 l2) (hl : l1.length ≤ 1000000) (b : Bool) (hb : b = true ↔ l1 = l2) :
    Calls Tryd.prog 72 #[v1, v2] w fun e w' => e = .returned (.bool b) ∧ Below w.heap.size w w' := by
  have HR1 := Lib.hid h1
  have HR2 := Lib.hid h2
  have HB := Lib.hid hb
  obtain ⟨a1, c1, rfl, _⟩ := Gn.Rd.form h1
  obtain ⟨a2, c2, rfl, _⟩ := Gn.Rd.form h2
  clear h1 h2 hb
  by_cases hn : l1.length = l2.length
  · have hn' : ((l1.length : Int) != (l2.length : Nat)) = false := by simp; omega
    go_enter Tryd.func72, Tryd.ntmps72
    go_wp2_with fail
    go_loopw [5] (fun i wr => ∃ k : Nat, k ≤ l1.length ∧ i = .int .i64 (k : Nat) ∧ Hid (∀ j, j < k → l1[j]? = l2[j]?) ∧ Hid (Below w.heap.size w wr)) (fun i _ => l1.length - (intOf i).toNat)
    case atStart => exact ⟨0, by omega, by rfl, Lib.hid (fun j hj => by omega), Lib.hid (Below.refl _ _)⟩
    case round =>
      obtain ⟨k, hk, rfl, HE, HU⟩ := hrel
      by_cases hlt : k < l1.length
      · have hlt1 : (k : Int) < l1.length := by omega
        have hlt2 : (k : Int) < l2.length := by omega
        obtain ⟨x, hx⟩ : ∃ x, l1[k]? = some x := ⟨_, List.getElem?_eq_getElem hlt⟩
        obtain ⟨y, hy⟩ : ∃ y, l2[k]? = some y := ⟨_, List.getElem?_eq_getElem (by omega)⟩
        obtain ⟨b1, o1, rfl, p0, p1, p2, p3, p4⟩ := rdN_cells HR1.out HU.out.drew hx
        obtain ⟨b2, o2, rfl, q0, q1, q2, q3, q4⟩ := rdN_cells HR2.out HU.out.drew hy
        have heq := fun w => run_eqn x y w
        unfold ndv at heq
        have HU2 := Lib.hid HU.out.drew
        by_cases hxy : x = y
        · have e1 : eqn x y = true := (eqn_iff x y).2 hxy
          rw [e1] at heq
          have HE2 := Lib.hid (show ∀ j, j < k + 1 → l1[j]? = l2[j]? from fun j hj => by
            rcases Nat.lt_succ_iff_lt_or_eq.1 hj with h | rfl
            · exact HE.out j h
            · rw [hx, hy, hxy])
          clear hx hy hxy e1 hn
          go_wp2_with fail
          go_region
          all_goals
            go_wp2_with fail
            go_roundw
            case rel => exact ⟨k + 1, by omega, by go_num, HE2, HU2⟩
            case measure => simp [intOf]; omega
        · have e1 : eqn x y = false := by
            cases he : eqn x y with
            | false => rfl
            | true => exact absurd ((eqn_iff x y).1 he) hxy
          rw [e1] at heq
          obtain rfl : b = false := false_of HB.out (fun e => hxy (by rw [e, hy] at hx; injection hx with e; exact e.symm))
          clear hx hy hxy e1 hn
          go_wp2_with fail
          go_region
          all_goals
            go_wp2_with fail
            go_ret
            exact ⟨rfl, HU2.out⟩
      · have hlt1 : ¬ (k : Int) < l1.length := by omega
        have hbt : b = true := HB.out.2 (List.ext_getElem? fun j => by
          rcases Nat.lt_or_ge j k with h | h
          · exact HE.out j h
          · rw [List.getElem?_eq_none (by omega), List.getElem?_eq_none (by omega)])
        subst hbt
        clear hn
        go_wp2_with fail
        go_ret
        exact ⟨rfl, HU.out⟩
  · have hn' : ((l1.length : Int) != (l2.length : Nat)) = true := by simp; omega
    obtain rfl : b = false := false_of HB.out (fun e => hn (by rw [e]))
    clear hn
    go_enter Tryd.func72, Tryd.ntmps72
    go_wp2_with fail
    go_ret
    exact ⟨rfl, Below.refl _ _⟩
theorem parsed_only {w w' : World} {l : List Nat} {e : Ending} {r : Jr.Res} (h : Parsed w l e w') (hr : Jr.Reads l r) : ParseEnd w r e w' := by
  obtain ⟨q, h1, h2⟩ := h
  rwa [h1.only hr] at h2
set_option maxHeartbeats 2000000 in
theorem jfails (s : ByteArray) (a : Nat) (n : Int) (w : World) (T : Tab w) (TE : TabE w) (hX : TxOk s) (hr : Jr.Reads (bl s) (.err a n)) :
    Calls Tryd.prog 33 #[.string s, .int .i64 (a : Nat), .int .i64 n] w fun e w' => e = .returned (.bool true) ∧ Below w.heap.size w w' := by
  have C := Lib.hid (jparse s T TE hX)
  have HR := Lib.hid hr
  have q1 : ((a : Int) == a) = true := by simp
  have q2 : ((n : Int) == n) = true := by simp
  clear T TE hX hr
  go_enter Tryd.func33, Tryd.ntmps33
  go_wp2_with fail
  ((with_reducible refine (C.out).mono ?_); rintro e w2 hp)
  obtain ⟨rfl, hb⟩ := parsed_only hp HR.out
  have HB := Lib.hid hb
  clear hp hb C
  go_wp2_with fail
  go_ret
  exact ⟨rfl, HB.out⟩
set_option maxHeartbeats 4000000 in
theorem jreads (s : ByteArray) (F : Fo) (v : Value) (w : World) (T : Tab w) (TE : TabE w) (hX : TxOk s) (hr : Jr.Reads (bl s) (.ok F)) (hv : RdN w w.heap.size v (Tp.flat F)) (h0 : 0 < (Tp.flat F).length) (h1 : (Tp.flat F).length ≤ 1000000) :
    Calls Tryd.prog 28 #[.string s, v] w fun e w' => e = .returned (.bool true) ∧ Below w.heap.size w w' := by
  have C := Lib.hid (jparse s T TE hX)
  have HR := Lib.hid hr
  have HV := Lib.hid hv
  obtain ⟨N, hN⟩ : ∃ N, (Tp.flat F).length = N := ⟨_, rfl⟩
  obtain ⟨va, vc, rfl⟩ := rdv hv N hN
  have hN0 : (0 : Int) < N := by omega
  have HN := Lib.hid h1
  clear T TE hX hr hv h0 h1 hN
  go_enter Tryd.func28, Tryd.ntmps28
  go_wp2_with fail
  ((with_reducible refine (C.out).mono ?_); rintro e w2 hp)
  obtain ⟨u, rfl, ho, hb⟩ := parsed_only hp HR.out
  have HB := Lib.hid hb
  have CE := Lib.hid (jlawEq u _ _ _ w2 (Gn.Own.rd ndL ho) (Gn.Rd.later HV.out hb) HN.out true ⟨fun _ => rfl, fun _ => rfl⟩)
  clear hp hb ho C
  go_wp2_with fail
  ((with_reducible refine (CE.out).mono ?_); rintro e w3 ⟨rfl, hb⟩)
  have HB3 := Lib.hid (up HB.out hb)
  clear hb CE
  go_wp2_with fail
  go_ret
  exact ⟨rfl, HB3.out⟩
end Go.Proofs.YteklcfimafplbaaDoor

/- The law's examples. -/
namespace Go.Proofs.YteklcfimafplbaaDoor
open Go.RowKit
set_option linter.unusedVariables false
set_option maxRecDepth 100000

theorem reads_lit (X : ByteArray) (l : List Nat) (r : Jr.Res) (hl : bl X = l) (hs : l.length ≤ 1000) (h : Jr.run 60 (Jr.init l) = some r) : Jr.Reads (bl X) r := by
  unfold Jr.Reads
  rw [hl, if_neg (by omega)]
  exact Jr.run_ends 60 _ _ h
theorem jx0 : Jr.Reads (bl ⟨#[48, 49]⟩) (.err 1 70) := reads_lit _ [48, 49] _ (by rfl) (by decide) (by kernel_rfl)
theorem jx1 : Jr.Reads (bl ⟨#[49, 46, 53]⟩) (.err 0 73) := reads_lit _ [49, 46, 53] _ (by rfl) (by decide) (by kernel_rfl)
theorem jx2 : Jr.Reads (bl ⟨#[49, 46]⟩) (.err 2 70) := reads_lit _ [49, 46] _ (by rfl) (by decide) (by kernel_rfl)
theorem jx3 : Jr.Reads (bl ⟨#[45]⟩) (.err 1 70) := reads_lit _ [45] _ (by rfl) (by decide) (by kernel_rfl)
theorem jx4 : Jr.Reads (bl ⟨#[49, 101, 43, 51]⟩) (.err 0 73) := reads_lit _ [49, 101, 43, 51] _ (by rfl) (by decide) (by kernel_rfl)
theorem jx5 : Jr.Reads (bl ⟨#[57, 50, 50, 51, 51, 55, 50, 48, 51, 54, 56, 53, 52, 55, 55, 53, 56, 48, 56]⟩) (.err 0 73) := reads_lit _ [57, 50, 50, 51, 51, 55, 50, 48, 51, 54, 56, 53, 52, 55, 55, 53, 56, 48, 56] _ (by rfl) (by decide) (by kernel_rfl)
theorem jx6 : Jr.Reads (bl ⟨#[91, 49, 44, 93]⟩) (.err 3 70) := reads_lit _ [91, 49, 44, 93] _ (by rfl) (by decide) (by kernel_rfl)
theorem jx7 : Jr.Reads (bl ⟨#[123, 34, 97, 34, 58, 49, 44, 34, 97, 34, 58, 50, 125]⟩) (.err 7 71) := reads_lit _ [123, 34, 97, 34, 58, 49, 44, 34, 97, 34, 58, 50, 125] _ (by rfl) (by decide) (by kernel_rfl)
theorem jx8 : Jr.Reads (bl ⟨#[91, 34, 92, 120, 34, 93]⟩) (.err 1 41) := reads_lit _ [91, 34, 92, 120, 34, 93] _ (by rfl) (by decide) (by kernel_rfl)
theorem jx9 : Jr.Reads (bl ⟨#[116, 114, 117]⟩) (.err 3 70) := reads_lit _ [116, 114, 117] _ (by rfl) (by decide) (by kernel_rfl)
theorem jx10 : Jr.Reads (bl ⟨#[]⟩) (.err 0 70) := reads_lit _ [] _ (by rfl) (by decide) (by kernel_rfl)
theorem jx11 : Jr.Reads (bl ⟨#[91, 49, 93, 32, 50]⟩) (.err 4 70) := reads_lit _ [91, 49, 93, 32, 50] _ (by rfl) (by decide) (by kernel_rfl)
theorem jx12 : Jr.Reads (bl ⟨#[123, 34, 97, 34, 32, 49, 125]⟩) (.err 5 70) := reads_lit _ [123, 34, 97, 34, 32, 49, 125] _ (by rfl) (by decide) (by kernel_rfl)
theorem jx13 : Jr.Reads (bl ⟨#[91, 91, 49, 46, 48, 120]⟩) (.err 2 73) := reads_lit _ [91, 91, 49, 46, 48, 120] _ (by rfl) (by decide) (by kernel_rfl)
theorem jx14 : Jr.Reads (bl ⟨#[91, 49, 32, 120]⟩) (.err 3 70) := reads_lit _ [91, 49, 32, 120] _ (by rfl) (by decide) (by kernel_rfl)
theorem jx15 : Jr.Reads (bl ⟨#[34, 97]⟩) (.err 0 3) := reads_lit _ [34, 97] _ (by rfl) (by decide) (by kernel_rfl)
def jwant : Fo := .node 7 ⟨#[]⟩ 0 ⟨#[]⟩ (.node 6 ⟨#[97]⟩ 0 ⟨#[]⟩ (.node 4 ⟨#[]⟩ 1 ⟨#[]⟩ .nil (.node 4 ⟨#[]⟩ (-20) ⟨#[]⟩ .nil (.node 5 ⟨#[]⟩ 0 ⟨#[120, 10]⟩ .nil .nil))) (.node 1 ⟨#[98]⟩ 0 ⟨#[]⟩ .nil .nil)) .nil
theorem jxw : Jr.Reads (bl ⟨#[123, 34, 97, 34, 58, 32, 91, 49, 44, 32, 45, 50, 48, 44, 32, 34, 120, 92, 110, 34, 93, 44, 32, 34, 98, 34, 58, 110, 117, 108, 108, 125]⟩) (.ok jwant) := reads_lit _ [123, 34, 97, 34, 58, 32, 91, 49, 44, 32, 45, 50, 48, 44, 32, 34, 120, 92, 110, 34, 93, 44, 32, 34, 98, 34, 58, 110, 117, 108, 108, 125] _ (by rfl) (by decide) (by kernel_rfl)
theorem jxn : Jr.Reads (bl ⟨#[45, 57, 50, 50, 51, 51, 55, 50, 48, 51, 54, 56, 53, 52, 55, 55, 53, 56, 48, 56]⟩) (.ok (Jr.nd1 4 ⟨#[]⟩ (-9223372036854775808) ⟨#[]⟩ .nil)) := reads_lit _ [45, 57, 50, 50, 51, 51, 55, 50, 48, 51, 54, 56, 53, 52, 55, 55, 53, 56, 48, 56] _ (by rfl) (by decide) (by kernel_rfl)
end Go.Proofs.YteklcfimafplbaaDoor

/- The law's examples, walked. -/
namespace Go.Proofs.YteklcfimafplbaaDoor
open Go.RowKit
set_option linter.unusedVariables false
set_option maxRecDepth 100000

theorem TabE.drewN {w : World} (h : TabE w) (m : Nat) : TabE (w.drewN m) := h.later (below_drewN (Below.refl _ _) m)
set_option maxHeartbeats 16000000 in
theorem jworks (w : World) (T : Tab w) (TE : TabE w) : Calls Tryd.prog 27 #[] w fun e w' => e = .returned (.bool true) ∧ Below w.heap.size w w' := by
  obtain ⟨w0, hw0⟩ : ∃ w0, w0 = w.alloc (.cells (Gn.cells ndc (Tp.flat jwant)).toArray 36) := ⟨_, rfl⟩
  have b0 : Below w.heap.size w w0 := by rw [hw0]; exact up_new _ _
  have HV : Hid (RdN w0 w0.heap.size (.slice (some ⟨w.heap.size, 0, none⟩) 6 6) (Tp.flat jwant)) := Lib.hid (by rw [hw0]; exact Gn.Own.rd ndL (Gn.Own.lit (T := 36) ndL w w.heap.size (Tp.flat jwant) _ 6 6 rfl rfl rfl (by decide) (Nat.le_refl _)))
  have hc : (Gn.cells ndc (Tp.flat jwant)).toArray = #[.int .i64 7, .string ⟨#[]⟩, .int .i64 0, .string ⟨#[]⟩, .int .i64 6, .int .i64 6, .string ⟨#[97]⟩, .int .i64 0, .string ⟨#[]⟩, .int .i64 4, .int .i64 4, .string ⟨#[]⟩, .int .i64 1, .string ⟨#[]⟩, .int .i64 1, .int .i64 4, .string ⟨#[]⟩, .int .i64 (-20), .string ⟨#[]⟩, .int .i64 1, .int .i64 5, .string ⟨#[]⟩, .int .i64 0, .string ⟨#[120, 10]⟩, .int .i64 1, .int .i64 1, .string ⟨#[98]⟩, .int .i64 0, .string ⟨#[]⟩, .int .i64 1] := by rfl
  rw [hc] at hw0
  have HW0 := Lib.hid hw0
  have HB := Lib.hid b0
  have HT := Lib.hid (T.later b0)
  have HTE := Lib.hid (TE.later b0)
  obtain ⟨g, hg⟩ : ∃ g, g = w.heap.size := ⟨_, rfl⟩
  rw [← hg] at HV
  have HG := Lib.hid hg
  clear T TE b0 hc hw0 hg
  go_enter Tryd.func27, Tryd.ntmps27
  go_wp2_with fail
  rw [← HW0.out, ← HG.out]
  have CF := Lib.hid (show Calls Tryd.prog 28 #[.string ⟨#[123, 34, 97, 34, 58, 32, 91, 49, 44, 32, 45, 50, 48, 44, 32, 34, 120, 92, 110, 34, 93, 44, 32, 34, 98, 34, 58, 110, 117, 108, 108, 125]⟩, .slice (some ⟨g, 0, none⟩) 6 6] w0 fun e w' => e = .returned (.bool true) ∧ Below w0.heap.size w0 w' from jreads _ jwant _ w0 HT.out HTE.out (.inl (by decide)) jxw HV.out (by decide) (by decide))
  go_wp2_with fail
  ((with_reducible refine (CF.out).mono ?_); rintro e w1 ⟨rfl, b⟩)
  replace HB := Lib.hid (up HB.out b)
  replace HT := Lib.hid (HT.out.later b)
  replace HTE := Lib.hid (HTE.out.later b)
  clear b CF
  have CF := Lib.hid (show Calls Tryd.prog 33 #[.string ⟨#[48, 49]⟩, .int .i64 1, .int .i64 70] w1 fun e w' => e = .returned (.bool true) ∧ Below w1.heap.size w1 w' from jfails _ 1 70 w1 HT.out HTE.out (.inl (by decide)) jx0)
  go_wp2_with fail
  ((with_reducible refine (CF.out).mono ?_); rintro e w2 ⟨rfl, b⟩)
  replace HB := Lib.hid (up HB.out b)
  replace HT := Lib.hid (HT.out.later b)
  replace HTE := Lib.hid (HTE.out.later b)
  clear b CF
  have CF := Lib.hid (show Calls Tryd.prog 33 #[.string ⟨#[49, 46, 53]⟩, .int .i64 0, .int .i64 73] w2 fun e w' => e = .returned (.bool true) ∧ Below w2.heap.size w2 w' from jfails _ 0 73 w2 HT.out HTE.out (.inl (by decide)) jx1)
  go_wp2_with fail
  ((with_reducible refine (CF.out).mono ?_); rintro e w3 ⟨rfl, b⟩)
  replace HB := Lib.hid (up HB.out b)
  replace HT := Lib.hid (HT.out.later b)
  replace HTE := Lib.hid (HTE.out.later b)
  clear b CF
  have CF := Lib.hid (show Calls Tryd.prog 33 #[.string ⟨#[49, 46]⟩, .int .i64 2, .int .i64 70] w3 fun e w' => e = .returned (.bool true) ∧ Below w3.heap.size w3 w' from jfails _ 2 70 w3 HT.out HTE.out (.inl (by decide)) jx2)
  go_wp2_with fail
  ((with_reducible refine (CF.out).mono ?_); rintro e w4 ⟨rfl, b⟩)
  replace HB := Lib.hid (up HB.out b)
  replace HT := Lib.hid (HT.out.later b)
  replace HTE := Lib.hid (HTE.out.later b)
  clear b CF
  have CF := Lib.hid (show Calls Tryd.prog 33 #[.string ⟨#[45]⟩, .int .i64 1, .int .i64 70] w4 fun e w' => e = .returned (.bool true) ∧ Below w4.heap.size w4 w' from jfails _ 1 70 w4 HT.out HTE.out (.inl (by decide)) jx3)
  go_wp2_with fail
  ((with_reducible refine (CF.out).mono ?_); rintro e w5 ⟨rfl, b⟩)
  replace HB := Lib.hid (up HB.out b)
  replace HT := Lib.hid (HT.out.later b)
  replace HTE := Lib.hid (HTE.out.later b)
  clear b CF
  have CF := Lib.hid (show Calls Tryd.prog 33 #[.string ⟨#[49, 101, 43, 51]⟩, .int .i64 0, .int .i64 73] w5 fun e w' => e = .returned (.bool true) ∧ Below w5.heap.size w5 w' from jfails _ 0 73 w5 HT.out HTE.out (.inl (by decide)) jx4)
  go_wp2_with fail
  ((with_reducible refine (CF.out).mono ?_); rintro e w6 ⟨rfl, b⟩)
  replace HB := Lib.hid (up HB.out b)
  replace HT := Lib.hid (HT.out.later b)
  replace HTE := Lib.hid (HTE.out.later b)
  clear b CF
  have CF := Lib.hid (show Calls Tryd.prog 33 #[.string ⟨#[57, 50, 50, 51, 51, 55, 50, 48, 51, 54, 56, 53, 52, 55, 55, 53, 56, 48, 56]⟩, .int .i64 0, .int .i64 73] w6 fun e w' => e = .returned (.bool true) ∧ Below w6.heap.size w6 w' from jfails _ 0 73 w6 HT.out HTE.out (.inl (by decide)) jx5)
  go_wp2_with fail
  ((with_reducible refine (CF.out).mono ?_); rintro e w7 ⟨rfl, b⟩)
  replace HB := Lib.hid (up HB.out b)
  replace HT := Lib.hid (HT.out.later b)
  replace HTE := Lib.hid (HTE.out.later b)
  clear b CF
  have CN := Lib.hid (mkNum (-9223372036854775808) w7)
  go_wp2_with fail
  ((with_reducible refine (CN.out).mono ?_); rintro e w8 ⟨v, rfl, ho, b⟩)
  have HN := Lib.hid (Gn.Own.rd ndL ho)
  obtain ⟨va, vc, rfl⟩ := rdv HN.out 1 rfl
  replace HB := Lib.hid (up HB.out b)
  replace HT := Lib.hid (HT.out.later b)
  replace HTE := Lib.hid (HTE.out.later b)
  clear b CN ho
  have CF := Lib.hid (show Calls Tryd.prog 28 #[.string ⟨#[45, 57, 50, 50, 51, 51, 55, 50, 48, 51, 54, 56, 53, 52, 55, 55, 53, 56, 48, 56]⟩, .slice va 1 vc] w8 fun e w' => e = .returned (.bool true) ∧ Below w8.heap.size w8 w' from jreads _ (Jr.nd1 4 ⟨#[]⟩ (-9223372036854775808) ⟨#[]⟩ .nil) _ w8 HT.out HTE.out (.inl (by decide)) jxn HN.out (by decide) (by decide))
  go_wp2_with fail
  ((with_reducible refine (CF.out).mono ?_); rintro e w9 ⟨rfl, b⟩)
  replace HB := Lib.hid (up HB.out b)
  replace HT := Lib.hid (HT.out.later b)
  replace HTE := Lib.hid (HTE.out.later b)
  clear b CF
  have CF := Lib.hid (show Calls Tryd.prog 33 #[.string ⟨#[91, 49, 44, 93]⟩, .int .i64 3, .int .i64 70] w9 fun e w' => e = .returned (.bool true) ∧ Below w9.heap.size w9 w' from jfails _ 3 70 w9 HT.out HTE.out (.inl (by decide)) jx6)
  go_wp2_with fail
  ((with_reducible refine (CF.out).mono ?_); rintro e w10 ⟨rfl, b⟩)
  replace HB := Lib.hid (up HB.out b)
  replace HT := Lib.hid (HT.out.later b)
  replace HTE := Lib.hid (HTE.out.later b)
  clear b CF
  have CF := Lib.hid (show Calls Tryd.prog 33 #[.string ⟨#[123, 34, 97, 34, 58, 49, 44, 34, 97, 34, 58, 50, 125]⟩, .int .i64 7, .int .i64 71] w10 fun e w' => e = .returned (.bool true) ∧ Below w10.heap.size w10 w' from jfails _ 7 71 w10 HT.out HTE.out (.inl (by decide)) jx7)
  go_wp2_with fail
  ((with_reducible refine (CF.out).mono ?_); rintro e w11 ⟨rfl, b⟩)
  replace HB := Lib.hid (up HB.out b)
  replace HT := Lib.hid (HT.out.later b)
  replace HTE := Lib.hid (HTE.out.later b)
  clear b CF
  have CF := Lib.hid (show Calls Tryd.prog 33 #[.string ⟨#[91, 34, 92, 120, 34, 93]⟩, .int .i64 1, .int .i64 41] w11 fun e w' => e = .returned (.bool true) ∧ Below w11.heap.size w11 w' from jfails _ 1 41 w11 HT.out HTE.out (.inl (by decide)) jx8)
  go_wp2_with fail
  ((with_reducible refine (CF.out).mono ?_); rintro e w12 ⟨rfl, b⟩)
  replace HB := Lib.hid (up HB.out b)
  replace HT := Lib.hid (HT.out.later b)
  replace HTE := Lib.hid (HTE.out.later b)
  clear b CF
  have CF := Lib.hid (show Calls Tryd.prog 33 #[.string ⟨#[116, 114, 117]⟩, .int .i64 3, .int .i64 70] w12 fun e w' => e = .returned (.bool true) ∧ Below w12.heap.size w12 w' from jfails _ 3 70 w12 HT.out HTE.out (.inl (by decide)) jx9)
  go_wp2_with fail
  ((with_reducible refine (CF.out).mono ?_); rintro e w13 ⟨rfl, b⟩)
  replace HB := Lib.hid (up HB.out b)
  replace HT := Lib.hid (HT.out.later b)
  replace HTE := Lib.hid (HTE.out.later b)
  clear b CF
  have CF := Lib.hid (show Calls Tryd.prog 33 #[.string ⟨#[]⟩, .int .i64 0, .int .i64 70] w13 fun e w' => e = .returned (.bool true) ∧ Below w13.heap.size w13 w' from jfails _ 0 70 w13 HT.out HTE.out (.inl (by decide)) jx10)
  go_wp2_with fail
  ((with_reducible refine (CF.out).mono ?_); rintro e w14 ⟨rfl, b⟩)
  replace HB := Lib.hid (up HB.out b)
  replace HT := Lib.hid (HT.out.later b)
  replace HTE := Lib.hid (HTE.out.later b)
  clear b CF
  have CF := Lib.hid (show Calls Tryd.prog 33 #[.string ⟨#[91, 49, 93, 32, 50]⟩, .int .i64 4, .int .i64 70] w14 fun e w' => e = .returned (.bool true) ∧ Below w14.heap.size w14 w' from jfails _ 4 70 w14 HT.out HTE.out (.inl (by decide)) jx11)
  go_wp2_with fail
  ((with_reducible refine (CF.out).mono ?_); rintro e w15 ⟨rfl, b⟩)
  replace HB := Lib.hid (up HB.out b)
  replace HT := Lib.hid (HT.out.later b)
  replace HTE := Lib.hid (HTE.out.later b)
  clear b CF
  have CF := Lib.hid (show Calls Tryd.prog 33 #[.string ⟨#[123, 34, 97, 34, 32, 49, 125]⟩, .int .i64 5, .int .i64 70] w15 fun e w' => e = .returned (.bool true) ∧ Below w15.heap.size w15 w' from jfails _ 5 70 w15 HT.out HTE.out (.inl (by decide)) jx12)
  go_wp2_with fail
  ((with_reducible refine (CF.out).mono ?_); rintro e w16 ⟨rfl, b⟩)
  replace HB := Lib.hid (up HB.out b)
  replace HT := Lib.hid (HT.out.later b)
  replace HTE := Lib.hid (HTE.out.later b)
  clear b CF
  have CF := Lib.hid (show Calls Tryd.prog 33 #[.string ⟨#[91, 91, 49, 46, 48, 120]⟩, .int .i64 2, .int .i64 73] w16 fun e w' => e = .returned (.bool true) ∧ Below w16.heap.size w16 w' from jfails _ 2 73 w16 HT.out HTE.out (.inl (by decide)) jx13)
  go_wp2_with fail
  ((with_reducible refine (CF.out).mono ?_); rintro e w17 ⟨rfl, b⟩)
  replace HB := Lib.hid (up HB.out b)
  replace HT := Lib.hid (HT.out.later b)
  replace HTE := Lib.hid (HTE.out.later b)
  clear b CF
  have CF := Lib.hid (show Calls Tryd.prog 33 #[.string ⟨#[91, 49, 32, 120]⟩, .int .i64 3, .int .i64 70] w17 fun e w' => e = .returned (.bool true) ∧ Below w17.heap.size w17 w' from jfails _ 3 70 w17 HT.out HTE.out (.inl (by decide)) jx14)
  go_wp2_with fail
  ((with_reducible refine (CF.out).mono ?_); rintro e w18 ⟨rfl, b⟩)
  replace HB := Lib.hid (up HB.out b)
  replace HT := Lib.hid (HT.out.later b)
  replace HTE := Lib.hid (HTE.out.later b)
  clear b CF
  have CF := Lib.hid (show Calls Tryd.prog 33 #[.string ⟨#[34, 97]⟩, .int .i64 0, .int .i64 3] w18 fun e w' => e = .returned (.bool true) ∧ Below w18.heap.size w18 w' from jfails _ 0 3 w18 HT.out HTE.out (.inl (by decide)) jx15)
  go_wp2_with fail
  ((with_reducible refine (CF.out).mono ?_); rintro e w19 ⟨rfl, b⟩)
  replace HB := Lib.hid (up HB.out b)
  replace HT := Lib.hid (HT.out.later b)
  replace HTE := Lib.hid (HTE.out.later b)
  clear b CF
  go_wp2_with fail
  go_ret
  exact ⟨rfl, HB.out⟩
end Go.Proofs.YteklcfimafplbaaDoor

/- What is read may be: plain. -/
namespace Go.Proofs.YteklcfimafplbaaDoor
open Go.RowKit
set_option linter.unusedVariables false
set_option maxRecDepth 100000

/-- A value's key fits where it comes. -/
def Jr.Kfit : List Jr.Fr → ByteArray → Prop
  | [], y => y.size = 0
  | f :: _, y => (f.kind = 6 ∧ y.size = 0) ∨ (f.kind = 7 ∧ f.had = Tp.keys f.done ++ [y] ∧ Utf.vld (bl y) = true ∧ y ∉ Tp.keys f.done)
/-- No key is waiting. -/
def Jr.Rest : List Jr.Fr → Prop
  | [] => True
  | f :: _ => f.kind = 7 → f.had = Tp.keys f.done
def Jr.OpOk : List Jr.Fr → Prop
  | [] => True
  | f :: r => (f.kind = 6 ∨ f.kind = 7) ∧ Tp.good f.done ∧ Tp.ko f.kind (Tp.keys f.done) ∧ r.length + 1 + Tp.dep f.done ≤ 64 ∧ Jr.Kfit r f.key ∧ Jr.OpOk r
/-- A whole value. -/
def Jr.Whole (R : Fo) : Prop := (∃ k y n s c, R = .node k y n s c .nil ∧ y.size = 0) ∧ Tp.good R ∧ Tp.dep R ≤ 64
/-- Texts and numbers fit. -/
def Jr.Fit (x : Nd) : Prop := x.key.size ≤ maxLen ∧ (-9223372036854775808 ≤ x.n ∧ x.n ≤ 9223372036854775807) ∧ x.s.size ≤ maxLen
structure Jr.MInv (N : Nat) (t : Jr.St) : Prop where
  op : Jr.OpOk t.op
  fit : ∀ x ∈ Jr.zf id t.op t.root, Jr.Fit x
  key : t.key.size ≤ maxLen
  at_ : t.at_ + t.s.length = N
  byte : ∀ x ∈ t.s, x < 256
  cnt : Jr.cnt t.op t.root ≤ 4000
  nx : match t.nx with
    | .value => Jr.Kfit t.op t.key ∧ t.root = .nil
    | .part => t.op ≠ [] ∧ t.key.size = 0 ∧ Jr.Rest t.op ∧ t.root = .nil
    | .key => t.op ≠ [] ∧ Jr.Rest t.op ∧ t.root = .nil
    | .colon => t.op ≠ [] ∧ Jr.Kfit t.op t.key ∧ t.root = .nil
    | .behind => t.key.size = 0 ∧ Jr.Rest t.op ∧ (t.op = [] → Jr.Whole t.root) ∧ (t.op ≠ [] → t.root = .nil)
theorem place_ok {op : List Jr.Fr} {R : Fo} {k n : Int} {y x : ByteArray} {c : Fo} (ho : Jr.OpOk op) (hk : Jr.Kfit op y) (hh : Tp.hf k n x) (hc : k ≤ 5 → c = .nil) (hko : Tp.ko k (Tp.keys c)) (hg : Tp.good c) (hd : op.length + (1 + Tp.dep c) ≤ 64) (hR : R = .nil) :
    Jr.OpOk (Jr.place (.node k y n x c .nil) op R).1 ∧ Jr.Rest (Jr.place (.node k y n x c .nil) op R).1 ∧ ((Jr.place (.node k y n x c .nil) op R).1 = [] → Jr.Whole (Jr.place (.node k y n x c .nil) op R).2) ∧ ((Jr.place (.node k y n x c .nil) op R).1 ≠ [] → (Jr.place (.node k y n x c .nil) op R).2 = .nil) := by
  subst hR
  have gT : Tp.good (.node k y n x c .nil) := ⟨hh, hc, hko, hg, trivial⟩
  cases op with
  | nil =>
    refine ⟨trivial, trivial, fun _ => ⟨⟨k, y, n, x, c, rfl, hk⟩, gT, ?_⟩, fun h => absurd rfl h⟩
    show max (1 + Tp.dep c) 0 ≤ 64
    simp at hd
    omega
  | cons f r =>
    obtain ⟨h1, h2, h3, h4, h5, h6⟩ := ho
    have ek : Tp.keys (Tp.app f.done (.node k y n x c .nil)) = Tp.keys f.done ++ [y] := by rw [Tp.keys_app]; rfl
    have a3 : Tp.ko f.kind (Tp.keys (Tp.app f.done (.node k y n x c .nil))) := by
      rw [ek, Tp.ko_snoc]
      refine ⟨h3, ?_⟩
      unfold Tp.k1
      rcases hk with ⟨e, hy⟩ | ⟨e, _, hv, hn⟩
      · rw [if_neg (by omega)]; exact hy
      · rw [if_pos e]; exact ⟨hv, hn⟩
    have a4 : r.length + 1 + Tp.dep (Tp.app f.done (.node k y n x c .nil)) ≤ 64 := by
      rw [Tp.dep_app]
      show r.length + 1 + max _ (max (1 + Tp.dep c) 0) ≤ 64
      simp at hd
      omega
    have a5 : f.kind = 7 → f.had = Tp.keys (Tp.app f.done (.node k y n x c .nil)) := by
      intro e
      rw [ek]
      rcases hk with ⟨e6, _⟩ | ⟨_, hh, _⟩
      · omega
      · exact hh
    have aO : Jr.OpOk ({ f with done := Tp.app f.done (.node k y n x c .nil) } :: r) := ⟨h1, (Tp.good_app _ _).2 ⟨h2, gT⟩, a3, a4, h5, h6⟩
    exact ⟨aO, a5, fun h => by simp [Jr.place] at h, fun _ => rfl⟩
theorem init_inv (l : List Nat) (hb : ∀ x ∈ l, x < 256) : Jr.MInv l.length (Jr.init l) :=
  ⟨trivial, fun x hx => by simp [Jr.init, Jr.zf] at hx, Nat.zero_le _, by simp [Jr.init], hb, Nat.zero_le _, ⟨rfl, rfl⟩⟩
theorem nd_le : ∀ s : List Nat, Jr.nd s ≤ s.length
  | [] => by simp [Jr.nd]
  | c :: t => by have := nd_le t; unfold Jr.nd; split <;> simp <;> omega
theorem hd_len {s : List Nat} (h : Jr.hd s ≠ 0) : 0 < s.length := by
  cases s with
  | nil => exact absurd rfl h
  | cons c t => simp
theorem wd_le : ∀ (W s : List Nat), Jr.wd W s ≤ s.length
  | [], s => by simp [Jr.wd]
  | c :: W, s => by
    have := wd_le W (s.drop 1)
    unfold Jr.wd
    split
    · rename_i h
      have : 0 < s.length := by cases s with
        | nil => exact absurd rfl h.2
        | cons c t => simp
      simp only [List.length_drop] at *
      omega
    · omega
theorem scan_le (s : List Nat) : (Jr.scan s).1 ≤ s.length := by
  have e1 : Jr.nP1 s ≤ s.length := by
    unfold Jr.nP1 Jr.nSg
    split
    · rename_i h; have := hd_len (s := s) (by omega); omega
    · omega
  have e2 : Jr.nP2 s ≤ s.length := by
    unfold Jr.nP2 Jr.nIn
    have := nd_le (s.drop (Jr.nP1 s))
    rw [List.length_drop] at this
    split
    · rename_i h; have := hd_len (s := s.drop (Jr.nP1 s)) (by omega); rw [List.length_drop] at this; omega
    · omega
  have e3 : Jr.nP3 s ≤ s.length := by
    unfold Jr.nP3 Jr.nFr
    have := nd_le ((s.drop (Jr.nP2 s)).drop 1)
    rw [List.length_drop, List.length_drop] at this
    split
    · rename_i h; have := hd_len (s := s.drop (Jr.nP2 s)) (by omega); rw [List.length_drop] at this; omega
    · omega
  have e4 : Jr.nP4 s ≤ s.length := by
    unfold Jr.nP4 Jr.nEh
    split
    · rename_i h
      have h1 := hd_len (s := s.drop (Jr.nP3 s)) (by rcases h with h | h <;> omega)
      rw [List.length_drop] at h1
      unfold Jr.nPm
      split
      · rename_i h2
        have h3 := hd_len (s := (s.drop (Jr.nP3 s)).drop 1) (by rcases h2 with h | h <;> omega)
        rw [List.length_drop, List.length_drop] at h3
        omega
      · omega
    · omega
  have e5 : Jr.nP5 s ≤ s.length := by
    unfold Jr.nP5 Jr.nEd
    split
    · rename_i h
      have := nd_le ((s.drop (Jr.nP3 s)).drop (Jr.nEh (s.drop (Jr.nP3 s))))
      rw [List.length_drop, List.length_drop] at this
      have e : Jr.nP4 s = Jr.nP3 s + Jr.nEh (s.drop (Jr.nP3 s)) := rfl
      omega
    · omega
  unfold Jr.scan
  split
  · exact e1
  split
  · exact e3
  split
  · exact e4
  · exact e5
theorem skip_inv {N : Nat} {t : Jr.St} (h : Jr.MInv N t) : Jr.MInv N (Jr.skip t) :=
  ⟨h.op, h.fit, h.key, by have := h.at_; have := Jr.nb_le t.s; show t.at_ + _ + (t.s.drop _).length = N; rw [List.length_drop]; omega, fun x hx => h.byte x (List.mem_of_mem_drop hx), h.cnt, h.nx⟩
/-- A step keeps it. -/
theorem leaf_inv {N m : Nat} {t : Jr.St} {k n : Int} {x : ByteArray} (h : Jr.MInv N t) (hnx : t.nx = .value) (hh : Tp.hf k n x) (hn : -9223372036854775808 ≤ n ∧ n ≤ 9223372036854775807) (hx : x.size ≤ maxLen) (hm : m ≤ t.s.length) (hd : t.op.length < 64) (hc : Jr.cnt t.op t.root < 4000) : Jr.MInv N (Jr.leaf t m k n x) := by
  have hv := h.nx
  rw [hnx] at hv
  obtain ⟨h1, h2⟩ := hv
  obtain ⟨p1, p2, p3, p4⟩ := place_ok (c := .nil) h.op h1 hh (fun _ => rfl) (Tp.ko_nil k) trivial (by show t.op.length + (1 + 0) ≤ 64; omega) h2
  refine ⟨p1, ?_, Nat.zero_le _, ?_, fun z hz => h.byte z (List.mem_of_mem_drop hz), ?_, ⟨rfl, p2, p3, p4⟩⟩
  · intro z hz
    have hz : z ∈ Jr.zf id (Jr.place (Jr.nd1 k t.key n x .nil) t.op t.root).1 (Jr.place (Jr.nd1 k t.key n x .nil) t.op t.root).2 := hz
    rw [Jr.place_zf] at hz
    rcases List.mem_append.1 hz with hz | hz
    · exact h.fit z hz
    · have e : z = ⟨k, t.key, n, x, 1⟩ := by
        unfold Jr.nd1 at hz
        rw [Tp.flat_node] at hz
        simpa using hz
      subst e
      exact ⟨h.key, hn, hx⟩
  · have := h.at_
    show t.at_ + m + (t.s.drop m).length = N
    rw [List.length_drop]; omega
  · show Jr.cnt (Jr.place _ t.op t.root).1 (Jr.place _ t.op t.root).2 ≤ 4000
    rw [Jr.place_cnt]
    unfold Jr.nd1
    rw [Tp.sz_node, Tp.sz_nil]
    omega
theorem opn_inv {N : Nat} {t : Jr.St} {k : Int} (h : Jr.MInv N t) (hnx : t.nx = .value) (hk : k = 6 ∨ k = 7) (hl : 0 < t.s.length) (hd : t.op.length < 64) (hc : Jr.cnt t.op t.root < 4000) : Jr.MInv N (Jr.opn t k) := by
  have hv := h.nx
  rw [hnx] at hv
  obtain ⟨h1, h2⟩ := hv
  have aO : Jr.OpOk (⟨k, t.key, [], .nil⟩ :: t.op) := ⟨hk, trivial, Tp.ko_nil k, by show t.op.length + 1 + 0 ≤ 64; omega, h1, h.op⟩
  refine ⟨aO, ?_, Nat.zero_le _, ?_, fun z hz => h.byte z (List.mem_of_mem_drop hz), by show Jr.cnt t.op t.root + (1 + 0) ≤ 4000; omega, ⟨by simp [Jr.opn], rfl, fun _ => rfl, h2⟩⟩
  · intro z hz
    have hz : z ∈ Jr.zf id t.op t.root ++ [⟨k, t.key, 0, ⟨#[]⟩, 0⟩] := hz
    rcases List.mem_append.1 hz with hz | hz
    · exact h.fit z hz
    · have e : z = ⟨k, t.key, 0, ⟨#[]⟩, 0⟩ := by simpa using hz
      subst e
      exact ⟨h.key, ⟨by show (-9223372036854775808 : Int) ≤ 0; omega, by show (0 : Int) ≤ 9223372036854775807; omega⟩, Nat.zero_le _⟩
  · have := h.at_
    show t.at_ + 1 + (t.s.drop 1).length = N
    rw [List.length_drop]; omega
theorem cls_inv {N : Nat} {t : Jr.St} {f : Jr.Fr} {r : List Jr.Fr} (h : Jr.MInv N t) (ho : t.op = f :: r) (hy : t.key.size = 0) (hr : Jr.Rest t.op) (hR : t.root = .nil) (hl : 0 < t.s.length) : Jr.MInv N (Jr.cls t) := by
  have hop := h.op
  rw [ho] at hop hr
  obtain ⟨a1, a2, a3, a4, a5, a6⟩ := hop
  obtain ⟨p1, p2, p3, p4⟩ := place_ok (x := ⟨#[]⟩) (n := 0) a6 a5 (.inr (.inr (.inr ⟨a1, rfl, rfl⟩))) (fun e => by omega) a3 a2 (by omega) hR
  unfold Jr.cls
  rw [ho]
  refine ⟨p1, ?_, h.key, ?_, fun z hz => h.byte z (List.mem_of_mem_drop hz), ?_, ⟨hy, p2, p3, p4⟩⟩
  · intro z hz
    have hz : z ∈ Jr.zf id (Jr.place (Jr.nd1 f.kind f.key 0 ⟨#[]⟩ f.done) r t.root).1 (Jr.place (Jr.nd1 f.kind f.key 0 ⟨#[]⟩ f.done) r t.root).2 := hz
    have hf := h.fit
    rw [ho] at hf
    have hf : ∀ x ∈ Jr.zf id r t.root ++ ⟨id f.kind, f.key, 0, ⟨#[]⟩, 0⟩ :: Tp.flat f.done, Jr.Fit x := hf
    rw [Jr.place_zf] at hz
    rcases List.mem_append.1 hz with hz | hz
    · exact hf z (List.mem_append_left _ hz)
    · unfold Jr.nd1 at hz
      rw [Tp.flat_node] at hz
      rcases List.mem_cons.1 hz with e | hz
      · have := hf ⟨id f.kind, f.key, 0, ⟨#[]⟩, 0⟩ (List.mem_append_right _ (List.mem_cons_self ..))
        rw [e]
        exact this
      · have hz : z ∈ Tp.flat f.done := by simpa using hz
        exact hf z (List.mem_append_right _ (List.mem_cons_of_mem _ hz))
  · have := h.at_
    show t.at_ + 1 + (t.s.drop 1).length = N
    rw [List.length_drop]; omega
  · show Jr.cnt (Jr.place _ r t.root).1 (Jr.place _ r t.root).2 ≤ 4000
    rw [Jr.place_cnt]
    unfold Jr.nd1
    rw [Tp.sz_node, Tp.sz_nil]
    have hc := h.cnt
    rw [ho] at hc
    have hc : Jr.cnt r t.root + (1 + Tp.sz f.done) ≤ 4000 := hc
    omega
theorem go_inv {N m : Nat} {t : Jr.St} {f : Jr.Fr} {r : List Jr.Fr} (h : Jr.MInv N t) (ho : t.op = f :: r) (hy : t.key.size = 0) (hr : Jr.Rest t.op) (hR : t.root = .nil) (hm : m ≤ t.s.length) : Jr.MInv N (Jr.go t m (Jr.ahead t.op)) := by
  refine ⟨h.op, h.fit, h.key, ?_, fun z hz => h.byte z (List.mem_of_mem_drop hz), h.cnt, ?_⟩
  · have := h.at_
    show t.at_ + m + (t.s.drop m).length = N
    rw [List.length_drop]; omega
  · have hop := h.op
    rw [ho] at hop
    have ea : Jr.ahead t.op = if f.kind = 7 then .key else .value := by rw [ho]; rfl
    rcases hop.1 with e | e
    · rw [if_neg (by omega)] at ea
      have e1 : (Jr.go t m (Jr.ahead t.op)).nx = .value := ea
      rw [e1]
      refine ⟨?_, hR⟩
      show Jr.Kfit t.op t.key
      rw [ho]
      exact .inl ⟨e, hy⟩
    · rw [if_pos e] at ea
      have e1 : (Jr.go t m (Jr.ahead t.op)).nx = .key := ea
      rw [e1]
      exact ⟨by show t.op ≠ []; rw [ho]; simp, hr, hR⟩
def Jr.MRes (N : Nat) (r : Jr.St ⊕ Jr.Res) : Prop := match r with
  | .inl u => Jr.MInv N u
  | .inr (.ok F) => Jr.Whole F ∧ (∀ x ∈ Tp.flat F, Jr.Fit x) ∧ Tp.sz F ≤ 4000
  | .inr (.err a _) => a ≤ N
theorem err_res {N a : Nat} {e : Int} (h : a ≤ N) : Jr.MRes N (.inr (.err a e)) := h
theorem word_res {N : Nat} {t : Jr.St} (h : Jr.MInv N t) (hnx : t.nx = .value) (hd : t.op.length < 64) (hc : Jr.cnt t.op t.root < 4000) (W : List Nat) (k : Int) (hk : k = 1 ∨ k = 2 ∨ k = 3) : Jr.MRes N (Jr.word t W k) := by
  have h1 := wd_le W t.s
  have h2 := h.at_
  unfold Jr.word
  split
  · rename_i e
    exact leaf_inv h hnx (.inl ⟨hk, rfl, rfl⟩) ⟨by omega, by omega⟩ (Nat.zero_le _) (by omega) hd hc
  · exact err_res (by omega)
theorem step_res {N : Nat} {t : Jr.St} (hN : N ≤ 1000000) (h : Jr.MInv N t) (hok : Jr.Ok t) : Jr.MRes N (Jr.stepS t) := by
  have h2 := h.at_
  have hv := h.nx
  unfold Jr.stepS
  cases hnx : t.nx with
  | value =>
    simp only
    unfold Jr.stepV
    split
    · exact err_res (by omega)
    split
    · exact err_res (by omega)
    split
    · exact err_res (by omega)
    rename_i hc hd
    have hc : Jr.cnt t.op t.root < 4000 := by omega
    have hd : t.op.length < 64 := by omega
    unfold Jr.valueB
    split
    · exact word_res h hnx hd hc _ _ (by omega)
    split
    · exact word_res h hnx hd hc _ _ (by omega)
    split
    · exact word_res h hnx hd hc _ _ (by omega)
    split
    · obtain ⟨l, n, x, hu⟩ : ∃ l n x, Utf.unq t.s = (l, n, x) := ⟨_, _, _, rfl⟩
      unfold Jr.text
      rw [hu]
      split
      · exact err_res (by omega)
      · rename_i hx
        have hx : x = 0 := by simpa using hx
        subst hx
        obtain ⟨g1, g2, g3, g4, _⟩ := unq_fine h.byte hu
        exact leaf_inv h hnx (.inr (.inr (.inl ⟨rfl, rfl, by rw [bl_str l g2]; exact g1⟩))) ⟨by omega, by omega⟩ (by show (str l).size ≤ maxLen; rw [str_size]; unfold maxLen; omega) (show n ≤ _ by omega) hd hc
    split
    · rename_i e
      exact opn_inv h hnx (.inl rfl) (hd_len (by omega)) hd hc
    split
    · rename_i e
      exact opn_inv h hnx (.inr rfl) (hd_len (by omega)) hd hc
    have h3 := scan_le t.s
    unfold Jr.number
    split
    · exact err_res (by omega)
    split
    · rename_i hf
      exact leaf_inv h hnx (.inr (.inl ⟨rfl, rfl⟩)) hf.2 (Nat.zero_le _) h3 hd hc
    · exact err_res (by omega)
  | part =>
    rw [hnx] at hv
    obtain ⟨v1, v2, v3, v4⟩ := hv
    simp only
    unfold Jr.stepP
    split
    · exact err_res (by omega)
    · rename_i f r ho
      split
      · rename_i e
        have := (endOf_ne f.kind).1
        exact cls_inv h ho v2 v3 v4 (hd_len (by omega))
      · exact go_inv h ho v2 v3 v4 (Nat.zero_le _)
  | key =>
    rw [hnx] at hv
    obtain ⟨v1, v3, v4⟩ := hv
    obtain ⟨f', r', ho', hk7⟩ := hok.1 hnx
    simp only
    unfold Jr.stepK
    split
    · exact err_res (by omega)
    · rename_i f r ho
      obtain ⟨rfl, rfl⟩ : f = f' ∧ r = r' := by rw [ho] at ho'; injection ho' with e1 e2; exact ⟨e1, e2⟩
      split
      · exact err_res (by omega)
      obtain ⟨l, n, x, hu⟩ : ∃ l n x, Utf.unq t.s = (l, n, x) := ⟨_, _, _, rfl⟩
      rw [hu]
      split
      · exact err_res (by omega)
      split
      · exact err_res (by omega)
      rename_i hx hin
      have hx : x = 0 := by simpa using hx
      subst hx
      obtain ⟨g1, g2, g3, g4, _⟩ := unq_fine h.byte hu
      have hop := h.op
      have hf := h.fit
      rw [ho] at hop hf v3
      have e7 : f.had = Tp.keys f.done := v3 hk7
      have hcn := h.cnt
      rw [ho] at hcn
      have hop2 : Jr.OpOk ({ f with had := f.had ++ [str l] } :: r) := hop
      refine ⟨hop2, hf, ?_, ?_, fun z hz => h.byte z (List.mem_of_mem_drop hz), hcn, ⟨by simp, .inr ⟨hk7, ?_, ?_, ?_⟩, v4⟩⟩
      · show (str l).size ≤ maxLen
        rw [str_size]; unfold maxLen; omega
      · show t.at_ + n + (t.s.drop n).length = N
        rw [List.length_drop]; omega
      · show f.had ++ [str l] = Tp.keys f.done ++ [str l]
        rw [e7]
      · show Utf.vld (bl (str l)) = true
        rw [bl_str l g2]; exact g1
      · show str l ∉ Tp.keys f.done
        rw [← e7]; exact hin
  | colon =>
    rw [hnx] at hv
    obtain ⟨v1, v3, v4⟩ := hv
    simp only
    unfold Jr.stepC
    split
    · exact err_res (by omega)
    · rename_i e
      have := hd_len (s := t.s) (by omega)
      exact ⟨h.op, h.fit, h.key, by show t.at_ + 1 + (t.s.drop 1).length = N; rw [List.length_drop]; omega, fun z hz => h.byte z (List.mem_of_mem_drop hz), h.cnt, ⟨v3, v4⟩⟩
  | behind =>
    rw [hnx] at hv
    obtain ⟨v1, v2, v3, v4⟩ := hv
    simp only
    unfold Jr.stepB
    split
    · rename_i ho
      split
      · have hf := h.fit
        have hc := h.cnt
        rw [ho] at hf hc
        exact ⟨v3 ho, hf, hc⟩
      · exact err_res (by omega)
    · rename_i f r ho
      have v4 := v4 (by rw [ho]; simp)
      split
      · rename_i e
        have := (endOf_ne f.kind).1
        exact cls_inv h ho v1 v2 v4 (hd_len (by omega))
      split
      · exact err_res (by omega)
      · have := hd_len (s := t.s) (by omega)
        exact go_inv h ho v1 v2 v4 (by omega)
theorem steps_inv {N : Nat} {t u : Jr.St} (hN : N ≤ 1000000) (h : Jr.MInv N t) (hok : Jr.Ok t) (hs : Jr.Steps t u) : Jr.MInv N u ∧ Jr.Ok u := by
  induction hs with
  | refl t => exact ⟨h, hok⟩
  | next h1 _ ih =>
    have k1 := step_res hN (skip_inv h) hok
    have k2 := step_ok (skip_inv h).byte
    unfold Jr.step at h1
    rw [h1] at k1 k2
    exact ih k1 k2.1
theorem reads_res {l : List Nat} {r : Jr.Res} (hl : l.length ≤ 1000000) (hb : ∀ x ∈ l, x < 256) (h : Jr.Reads l r) : Jr.MRes l.length (.inr r) := by
  unfold Jr.Reads at h
  rw [if_neg (by omega)] at h
  obtain ⟨u, h1, h2⟩ := h
  obtain ⟨k1, k2⟩ := steps_inv hl (init_inv l hb) (Jr.Ok.plain (by simp [Jr.init]) (by simp [Jr.init])) h1
  have := step_res hl (skip_inv k1) k2
  unfold Jr.step at h2
  rwa [h2] at this
theorem size_fit : ∀ (F : Fo) (x : Nd), x ∈ Tp.flat F → 0 ≤ x.size ∧ x.size ≤ (Tp.sz F : Nat)
  | .nil, x, h => by simp at h
  | .node k y n s c r, x, h => by
    rw [Tp.flat_node] at h
    rw [Tp.sz_node]
    rcases List.mem_cons.1 h with rfl | h
    · show (0 : Int) ≤ 1 + (Tp.sz c : Nat) ∧ (1 + (Tp.sz c : Nat) : Int) ≤ _
      omega
    · rcases List.mem_append.1 h with h | h
      · have := size_fit c x h; omega
      · have := size_fit r x h; omega
theorem kind_fit : ∀ (F : Fo) (x : Nd), Tp.good F → x ∈ Tp.flat F → 1 ≤ x.kind ∧ x.kind ≤ 7
  | .nil, x, _, h => by simp at h
  | .node k y n s c r, x, hg, h => by
    obtain ⟨g1, _, _, g4, g5⟩ := hg
    rw [Tp.flat_node] at h
    rcases List.mem_cons.1 h with rfl | h
    · exact Tp.hf_kind g1
    · rcases List.mem_append.1 h with h | h
      · exact kind_fit c x g4 h
      · exact kind_fit r x g5 h
/-- What is read may be. -/
theorem whole_may {F : Fo} (h : Jr.Whole F) (hf : ∀ x ∈ Tp.flat F, Jr.Fit x) (hs : Tp.sz F ≤ 4000) : chk (Tp.flat F) = 0 ∧ ∀ x ∈ Tp.flat F, Nok x := by
  obtain ⟨h1, h2, h3⟩ := h
  refine ⟨(may_chk (F := F) ⟨hs, ⟨h1, h2, rfl⟩, h3⟩).1, fun x hx => ?_⟩
  have a := size_fit F x hx
  have b := kind_fit F x h2 hx
  obtain ⟨f1, f2, f3⟩ := hf x hx
  exact ⟨⟨by omega, by omega⟩, f1, f2, f3, ⟨by omega, by omega⟩⟩
end Go.Proofs.YteklcfimafplbaaDoor

/- JreadMay: the walk. -/
namespace Go.Proofs.YteklcfimafplbaaDoor
open Go.RowKit
set_option linter.unusedVariables false
set_option maxRecDepth 100000

theorem reads_ne {l : List Nat} {a : Nat} {n : Int} (hl : l.length ≤ 1000000) (hb : ∀ x ∈ l, x < 256) (h : Jr.Reads l (.err a n)) : n ≠ 0 := by
  unfold Jr.Reads at h
  rw [if_neg (by omega)] at h
  obtain ⟨u, h1, h2⟩ := h
  obtain ⟨k1, k2⟩ := steps_inv hl (init_inv l hb) (Jr.Ok.plain (by simp [Jr.init]) (by simp [Jr.init])) h1
  have := step_ok (skip_inv k1).byte
  unfold Jr.step at h2
  rwa [h2] at this
set_option maxHeartbeats 8000000 in
theorem jreadMay (s0 : ByteArray) (w : World) (hs : s0.size ≤ maxLen) (T : Tab w) (TE : TabE w) :
    Calls Tryd.prog 6 #[.string s0] w fun e w' => e = .returned (.bool true) ∧ Below w.heap.size w w' := by
  have hm := hs
  unfold maxLen at hm
  obtain ⟨s, hse⟩ : ∃ s, s0.extract 0 (min (s0.size : Int) 1000).toNat = s := ⟨_, rfl⟩
  have hsm : s.size ≤ 1000 := by rw [← hse, ByteArray.size_extract]; omega
  have hsl : ∀ w, (Instr.slice 9 (.string s0) none (some (.int .i64 (min (s0.size : Int) 1000))) none).run Tryd.prog w = .ok (.string s) w := fun w => by
    rw [run_slice_string_to_if w 9 s0 .i64 _ Tryd.underlying9, if_pos (by omega), hse]
  have HT := Lib.hid T
  have HTE := Lib.hid TE
  have C := Lib.hid (fun w (T : Tab w) (TE : TabE w) => jparse s T TE (.inl (by omega)))
  have HS := Lib.hid hsm
  clear hse T TE hs hm hsm
  go_enter Tryd.func6, Tryd.ntmps6
  go_wp2_with fail
  ((with_reducible refine (C.out w HT.out HTE.out).mono ?_); rintro e w2 ⟨r, hr, hp⟩)
  have hres := reads_res (by rw [bl_length]; have := HS.out; omega) (bl_byte s) hr
  rw [bl_length] at hres
  cases r with
  | err a n =>
    obtain ⟨rfl, hb⟩ := hp
    have ha : a ≤ s.size := hres
    have hn := reads_ne (by rw [bl_length]; have := HS.out; omega) (bl_byte s) hr
    have hn1 : (n != 0) = true := by simp; exact hn
    have ha0 : (0 : Int) ≤ (a : Int) := by omega
    have ha1 : (a : Int) ≤ s.size := by omega
    have HB := Lib.hid hb
    have CW := Lib.hid (jworks w2 (HT.out.later hb) (HTE.out.later hb))
    clear hb hres hr hn C hsl
    go_wp2_with fail
    ((with_reducible refine (CW.out).mono ?_); rintro e w3 ⟨rfl, b⟩)
    have HB3 := Lib.hid (up HB.out b)
    clear b CW
    go_wp2_with fail
    go_ret
    exact ⟨rfl, HB3.out⟩
  | ok F =>
    obtain ⟨v, rfl, ho, hb⟩ := hp
    obtain ⟨k1, k2, k3⟩ := hres
    obtain ⟨m1, m2⟩ := whole_may k1 k2 k3
    have CC := Lib.hid (check v (Tp.flat F) w2 (Gn.Own.rd ndL ho) m2 (HT.out.later hb) 0 m1)
    have HB := Lib.hid hb
    have T2 := Lib.hid (HT.out.later hb)
    have E2 := Lib.hid (HTE.out.later hb)
    clear hb hr ho k1 k2 k3 m1 m2 C hsl
    go_wp2_with fail
    ((with_reducible refine (CC.out).mono ?_); rintro e w3 ⟨rfl, b⟩)
    have HB3 := Lib.hid (up HB.out b)
    have CW := Lib.hid (jworks w3 (T2.out.later b) (E2.out.later b))
    clear b CC
    go_wp2_with fail
    ((with_reducible refine (CW.out).mono ?_); rintro e w4 ⟨rfl, b⟩)
    have HB4 := Lib.hid (up HB3.out b)
    clear b CW
    go_wp2_with fail
    go_ret
    exact ⟨rfl, HB4.out⟩
end Go.Proofs.YteklcfimafplbaaDoor

/- What the rows' frames share: the listed variables lie in memory. -/
namespace Go.Proofs.YteklcfimafplbaaDoor
open Go.ChangeShapes Go.WideShapes Go.ChangeAt Go.RowKit Go.Deep
set_option linter.unusedVariables false

theorem own : ownKnob Tryd.prog.godebug = none := by kernel_rfl
theorem laidOut : laidOutB Tryd.prog = true := by kernel_rfl

def laidList : List (String × DataW Unit) := [("math/bits.deBruijn32tab", Rows.laid_math_bits_deBruijn32tab), ("math/bits.deBruijn64tab", Rows.laid_math_bits_deBruijn64tab), ("internal/strconv.uint64pow10", Rows.laid_internal_strconv_uint64pow10), ("unicode/utf8.acceptRanges", Rows.laid_unicode_utf8_acceptRanges), ("strconv.ErrRange", Rows.laid_strconv_ErrRange), ("strconv.ErrSyntax", Rows.laid_strconv_ErrSyntax), ("unicode/utf8.first", Rows.laid_unicode_utf8_first)]
set_option maxRecDepth 100000 in
theorem extra : U8Extra Tryd.prog Tryd.lays260_ren := { n3 := by kernel_rfl, n4 := by kernel_rfl, y3 := by kernel_rfl, y4 := by kernel_rfl, c5 := by kernel_rfl, c119 := by kernel_rfl, c138 := by kernel_rfl }
theorem first_eq : Rows.laid_unicode_utf8_first = Lib.firstData := by kernel_rfl
theorem accept_eq : (Rows.laid_unicode_utf8_acceptRanges : DataW Unit) = Lib.acceptData := by kernel_rfl
theorem err_of {W : World} {n nm : String} {d : DataW Unit} {g : Nat} {ti : TypeId} {ms : Array (String × TypeId)} (h : Lib.VarReads Tryd.prog W n (.iface nm d)) (hg : Tryd.prog.globalNamed n = some g) (ht : (Tryd.prog.globals[g]?).map (·.type) = some ti) (hi : Tryd.prog.underlying ti = some (.interface ms)) : ErrAt W g := by
  obtain ⟨g', t', cs, fuel, p, h1, h2, h3, h4⟩ := h
  obtain rfl := Option.some.inj (hg.symm.trans h1)
  obtain rfl := Option.some.inj (ht.symm.trans h2)
  obtain ⟨f1, u, v, e, _⟩ := iface_of_trod hi h4
  refine ⟨.iface u v, ?_, .inr ⟨u, v, rfl⟩⟩
  rw [World.var?_cell hg h3 0, ← Array.getElem?_toList, e]
  rfl
set_option maxRecDepth 100000 in
/-- What the condition gives the walks: the tables and the two errors lie in their places. -/
theorem tab_of_laid {W : World} (h : laidMetH Tryd.prog laidList W) : Tab W ∧ TabE W := by
  rw [MakeChecks.laidMetH_plain _ _ _ (by kernel_rfl)] at h
  have h4 := Lib.laidMet.reads h (n := "unicode/utf8.acceptRanges") (d := Rows.laid_unicode_utf8_acceptRanges) (by simp [laidList])
  have h3 := Lib.laidMet.reads h (n := "unicode/utf8.first") (d := Rows.laid_unicode_utf8_first) (by simp [laidList])
  have h1 := Lib.laidMet.reads h (n := "strconv.ErrSyntax") (d := Rows.laid_strconv_ErrSyntax) (by simp [laidList])
  have h2 := Lib.laidMet.reads h (n := "strconv.ErrRange") (d := Rows.laid_strconv_ErrRange) (by simp [laidList])
  rw [accept_eq] at h4
  rw [first_eq] at h3
  exact ⟨utf8Tabs_of_reads Tryd.lays260 extra h3 h4, err_of h1 (by kernel_rfl) (by kernel_rfl) Tryd.underlying94, err_of h2 (by kernel_rfl) (by kernel_rfl) Tryd.underlying94⟩
/-- The witness's heap meets the condition. -/
theorem door_met (os : Os) (args : Array Value) : laidMetH Tryd.prog laidList ((World.laidAll Tryd.prog os laidList).forCall (fun _ _ => 0) ⟨#[], args, []⟩).memory := by
  rw [MakeChecks.laidMetH_plain _ _ _ (by kernel_rfl)]
  exact laidMet_laidAll _ (by kernel_rfl) (by kernel_rfl)
end Go.Proofs.YteklcfimafplbaaDoor
