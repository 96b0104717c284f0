/- The reference: what is shown. -/
import Derived.Test.YtgmdjofnkbaflaaGreatDoorRdig
import Derived.Test.YtgmdjofnkbaflaaGreatDoorRquote
import Derived.Test.YtgmdjofnkbaflaaGreatDoorRdeep
import Derived.Test.YtgmdjofnkbaflaaGreatDoorZs
namespace Go.Proofs.YtgmdjofnkbaflaaGreatDoor
open Go.RowKit
set_option linter.unusedVariables false
set_option linter.unusedSimpArgs false
set_option maxRecDepth 100000

/-- What the reference is asked to show. -/
structure ShI (k : Int) (y : ByteArray) (n : Int) (s : ByteArray) (c : Fo) : Prop where
  good : Tp.good (.node k y n s c .nil)
  fit : Jr.NFit (.node k y n s c .nil)
  txt : ∀ x ∈ Tp.flat (.node k y n s c .nil), x.key.size ≤ 1000000 ∧ x.s.size ≤ 1000000
  sz : Tp.sz c ≤ 4000
  len : (Jr.one k n s (Jr.shp k true c)).length ≤ 100000000
def SClm (m : Nat) : Prop := ∀ (k : Int) (y : ByteArray) (n : Int) (s : ByteArray) (c : Fo) (v : Value) (w : World), Tp.sz c ≤ m → ShI k y n s c → RdN w w.heap.size v (Tp.flat (.node k y n s c .nil)) →
  Calls Tryz.prog 109 #[v] w fun e w' => e = .returned (.string (str (Jr.one k n s (Jr.shp k true c)))) ∧ Below w.heap.size w w'
theorem val_byte {k : Int} {y : ByteArray} {n : Int} {s : ByteArray} {c : Fo} (h : ShI k y n s c) : ∀ x ∈ Jr.one k n s (Jr.shp k true c), x < 256 := by
  obtain ⟨g1, g2, g3, g4, _⟩ := h.good
  obtain ⟨f1, f2, _⟩ := Jr.nfit_node h.fit
  exact (Jr.val_one (s := s) g1 g2 f1 fun hk => ⟨Jr.goes_byte c k true g4 f2 g3, fun t tail y r ha hs hy hst h1 h2 => Jr.goes c k g4 f2 .nil t y r tail g3 ha hs hy hst h1 h2⟩).byte
theorem mid_list {α : Type} (A B C : List α) (q : Nat) (h : A.length = q) : ((A ++ (B ++ C)).take (q + B.length)).drop q = B := by
  subst h
  rw [List.take_length_add_append, List.take_left' rfl, List.drop_left' rfl]
/-- A part among the parts: where it lies; what is shown behind it. -/
structure PartI (K : Int) (y : ByteArray) (n : Int) (s : ByteArray) (c D : Fo) (k1 : Int) (y1 : ByteArray) (n1 : Int) (s1 : ByteArray) (c1 r1 : Fo) : Prop where
  at_ : (Tp.flat (.node K y n s c .nil))[1 + Tp.sz D]? = some ⟨k1, y1, n1, s1, 1 + (Tp.sz c1 : Nat)⟩
  mid : ((Tp.flat (.node K y n s c .nil)).take (1 + Tp.sz D + (1 + Tp.sz c1))).drop (1 + Tp.sz D) = Tp.flat (.node k1 y1 n1 s1 c1 .nil)
  in_ : ShI k1 y1 n1 s1 c1
  key : K = 7 → Utf.vld (bl y1) = true ∧ y1.size ≤ 1000000
  fits : 1 + Tp.sz D + (1 + Tp.sz c1) ≤ 1 + Tp.sz c
  text : Jr.shp K true (Tp.app D (.node k1 y1 n1 s1 c1 .nil)) = Jr.shp K true D ++ (Jr.comma (Jr.isNil D) ++ (Jr.keyT K y1 ++ Jr.one k1 n1 s1 (Jr.shp k1 true c1)))
  less : (Jr.shp K true D).length + (Jr.keyT K y1).length + (Jr.one k1 n1 s1 (Jr.shp k1 true c1)).length ≤ 100000000
theorem part_i {K : Int} {y : ByteArray} {n : Int} {s : ByteArray} {c D : Fo} {k1 : Int} {y1 : ByteArray} {n1 : Int} {s1 : ByteArray} {c1 r1 : Fo} (hK : K = 6 ∨ K = 7) (h : ShI K y n s c) (hc : c = Tp.app D (.node k1 y1 n1 s1 c1 r1)) : PartI K y n s c D k1 y1 n1 s1 c1 r1 := by
  have hfl : Tp.flat (.node K y n s c .nil) = (⟨K, y, n, s, 1 + (Tp.sz c : Nat)⟩ :: Tp.flat D) ++ (Tp.flat (.node k1 y1 n1 s1 c1 .nil) ++ Tp.flat r1) := by
    rw [Tp.flat_node, Tp.flat_nil, List.append_nil, hc, Tp.flat_app, Tp.flat_node k1 y1 n1 s1 c1 r1, Tp.flat_node k1 y1 n1 s1 c1 .nil, Tp.flat_nil, ← hc]
    simp
  have hA : (⟨K, y, n, s, 1 + (Tp.sz c : Nat)⟩ :: Tp.flat D : List Nd).length = 1 + Tp.sz D := by rw [List.length_cons, Nat.add_comm]; rfl
  have hB : (Tp.flat (.node k1 y1 n1 s1 c1 .nil)).length = 1 + Tp.sz c1 := by show Tp.sz _ = _; rw [Tp.sz_node, Tp.sz_nil, Nat.add_zero]
  have hsz : Tp.sz c = Tp.sz D + (1 + Tp.sz c1 + Tp.sz r1) := by rw [hc, Tp.sz_app, Tp.sz_node]
  have htx : Jr.shp K true (Tp.app D (.node k1 y1 n1 s1 c1 .nil)) = Jr.shp K true D ++ (Jr.comma (Jr.isNil D) ++ (Jr.keyT K y1 ++ Jr.one k1 n1 s1 (Jr.shp k1 true c1))) := by
    rw [Jr.shp_app]
    simp [Jr.shp]
  have hall : Jr.shp K true c = Jr.shp K true D ++ (Jr.comma (Jr.isNil D) ++ (Jr.keyT K y1 ++ (Jr.one k1 n1 s1 (Jr.shp k1 true c1) ++ Jr.shp K false r1))) := by
    rw [hc, Jr.shp_app]
    simp [Jr.shp]
  have hlen : (Jr.shp K true c).length ≤ 100000000 := by
    have := h.len
    unfold Jr.one at this
    rw [if_neg (by omega), if_neg (by omega), if_neg (by omega), if_neg (by omega), if_neg (by omega)] at this
    simp at this
    omega
  have hless : (Jr.shp K true D).length + (Jr.keyT K y1).length + (Jr.one k1 n1 s1 (Jr.shp k1 true c1)).length ≤ 100000000 := by
    rw [hall] at hlen
    simp only [List.length_append] at hlen
    omega
  obtain ⟨_, _, g3, g4, _⟩ := h.good
  have g5 : Tp.good (.node k1 y1 n1 s1 c1 r1) := by rw [hc] at g4; exact ((Tp.good_app _ _).1 g4).2
  have hmem : ∀ x ∈ Tp.flat (.node k1 y1 n1 s1 c1 .nil), x ∈ Tp.flat (.node K y n s c .nil) := fun x hx => by
    rw [hfl]
    exact List.mem_append_right _ (List.mem_append_left _ hx)
  have hin : (⟨k1, y1, n1, s1, 1 + (Tp.sz c1 : Nat)⟩ : Nd) ∈ Tp.flat (.node K y n s c .nil) := hmem _ (by rw [Tp.flat_node]; exact List.mem_cons_self ..)
  refine ⟨?_, ?_, ⟨⟨g5.1, g5.2.1, g5.2.2.1, g5.2.2.2.1, trivial⟩, fun x hx => h.fit x (hmem x hx), fun x hx => h.txt x (hmem x hx), by have := h.sz; omega, by omega⟩, fun e => ?_, by omega, htx, hless⟩
  · rw [hfl, List.getElem?_append_right (by omega), hA, Nat.sub_self, Tp.flat_node]
    rfl
  · have := mid_list _ (Tp.flat (.node k1 y1 n1 s1 c1 .nil)) (Tp.flat r1) _ hA
    rw [hB, ← hfl] at this
    exact this
  · subst e
    unfold Tp.ko at g3
    rw [if_pos rfl, hc, Tp.keys_app] at g3
    exact ⟨g3.1 y1 (List.mem_append_right _ (List.mem_cons_self ..)), (h.txt _ hin).1⟩

set_option maxHeartbeats 40000000 in
theorem rshown_step (m : Nat) (IH : ∀ j, j < m → SClm j) : SClm m := by
  intro k y n s c v w hm hI hR
  have HR := Lib.hid hR
  have HI := Lib.hid hI
  have HIH := Lib.hid IH
  have HM := Lib.hid hm
  have hl : (Tp.flat (.node k y n s c .nil)).length = 1 + Tp.sz c := by show Tp.sz _ = _; rw [Tp.sz_node, Tp.sz_nil, Nat.add_zero]
  obtain ⟨L, hL⟩ : ∃ L, 1 + Tp.sz c = L := ⟨_, rfl⟩
  rw [hL] at hl
  obtain ⟨va, vc, rfl⟩ := rd_form hR L hl
  obtain ⟨b0, off, rfl, x0, x1, x2, x3, x4⟩ := rdN_cells hR (Below.refl _ _) (i := 0) (x := ⟨k, y, n, s, 1 + (Tp.sz c : Nat)⟩) (by rw [Tp.flat_node]; rfl)
  simp only [Nat.zero_mul, Nat.add_zero] at x0 x1 x2 x3 x4
  have hL0 : (0 : Int) < L := by omega
  have hL4 : L ≤ 4001 := by have := hI.sz; omega
  have hk := Tp.hf_kind hI.good.1
  have hn := (Jr.nfit_node hI.fit).1
  have hLc := Lib.hid hL
  have ha : Below w.heap.size w (w.alloc (.cells #[.int .i64 k, .string y, .int .i64 n, .string s, .int .i64 (1 + (Tp.sz c : Nat))] 28)) := up_new w _
  have HBL : Hid (Blk (w.alloc (.cells #[.int .i64 k, .string y, .int .i64 n, .string s, .int .i64 (1 + (Tp.sz c : Nat))] 28)) w.heap.size 28 [.int .i64 k, .string y, .int .i64 n, .string s, .int .i64 (1 + (Tp.sz c : Nat))]) := Lib.hid (Blk.new w 28 #[.int .i64 k, .string y, .int .i64 n, .string s, .int .i64 (1 + (Tp.sz c : Nat))])
  have HAL := Lib.hid ha
  clear hR ha hm IH hL
  rcases (show k = 1 ∨ k = 2 ∨ k = 3 ∨ k = 4 ∨ k = 5 ∨ k = 6 ∨ k = 7 by omega) with rfl | rfl | rfl | rfl | rfl | rfl | rfl
  · skip
    have HE : Hid (str Jr.wNull = str (Jr.one 1 n s (Jr.shp 1 true c))) := Lib.hid (by unfold Jr.one; rfl)
    clear HI HR hn hl hk
    go_enter Tryz.func109, Tryz.ntmps109
    go_wp2_with fail
    go_ret
    exact ⟨by rw [← HE.out]; rfl, HAL.out⟩
  · skip
    have HE : Hid (str Jr.wFalse = str (Jr.one 2 n s (Jr.shp 2 true c))) := Lib.hid (by unfold Jr.one; rfl)
    clear HI HR hn hl hk
    go_enter Tryz.func109, Tryz.ntmps109
    go_wp2_with fail
    go_ret
    exact ⟨by rw [← HE.out]; rfl, HAL.out⟩
  · skip
    have HE : Hid (str Jr.wTrue = str (Jr.one 3 n s (Jr.shp 3 true c))) := Lib.hid (by unfold Jr.one; rfl)
    clear HI HR hn hl hk
    go_enter Tryz.func109, Tryz.ntmps109
    go_wp2_with fail
    go_ret
    exact ⟨by rw [← HE.out]; rfl, HAL.out⟩
  · skip
    have HE : Hid (str (Jr.dnum n) = str (Jr.one 4 n s (Jr.shp 4 true c))) := Lib.hid (by unfold Jr.one; rfl)
    have CD := Lib.hid (fun w => rdigits n w hn)
    clear HI HR hn hl hk
    go_enter Tryz.func109, Tryz.ntmps109
    go_wp2_with fail
    ((with_reducible refine (CD.out _).mono ?_); rintro e w2 ⟨rfl, rfl⟩)
    generalize str (Jr.dnum n) = z at *
    go_wp2_with fail
    go_ret
    exact ⟨by rw [← HE.out]; rfl, HAL.out⟩
  · skip
    have HE : Hid (str (Utf.tidy (bl s)) = str (Jr.one 5 n s (Jr.shp 5 true c))) := Lib.hid (by unfold Jr.one; rfl)
    have hv : Utf.vld (bl s) = true := by
      rcases hI.good.1 with ⟨h, _⟩ | ⟨h, _⟩ | ⟨_, _, h⟩ | ⟨h, _⟩
      · omega
      · omega
      · exact h
      · omega
    have CQ := Lib.hid (fun w => rquote_yes s w (hI.txt ⟨5, y, n, s, 1 + (Tp.sz c : Nat)⟩ (by rw [Tp.flat_node]; exact List.mem_cons_self ..)).2 hv)
    clear HI HR hn hl hk hv
    go_enter Tryz.func109, Tryz.ntmps109
    go_wp2_with fail
    ((with_reducible refine (CQ.out _).mono ?_); rintro e w2 ⟨rfl, b⟩)
    have HB := Lib.hid (up HAL.out b)
    clear b
    generalize str (Utf.tidy (bl s)) = z at *
    go_wp2_with fail
    go_ret
    exact ⟨by rw [← HE.out]; rfl, HB.out⟩
  · skip
    have hlen := HI.out.len
    go_enter Tryz.func109, Tryz.ntmps109
    go_wp2_with fail
    go_loopw [6, 7] (fun sv iv wr => ∃ (D R : Fo) (q : Nat) (z : ByteArray), sv = .string z ∧ iv = .int .i64 (q : Nat) ∧ Hid (c = Tp.app D R ∧ 1 + Tp.sz D = q ∧ bl z = Jr.shp 6 true D) ∧ Hid (Below w.heap.size w wr) ∧ Hid (Blk wr w.heap.size 28 [.int .i64 6, .string y, .int .i64 n, .string s, .int .i64 (1 + (Tp.sz c : Nat))])) (fun _ iv _ => L - (intOf iv).toNat)
    case atStart => exact ⟨.nil, c, 1, _, by rfl, by rfl, Lib.hid ⟨rfl, by simp, rfl⟩, HAL, HBL⟩
    case round =>
      clear x0 x1 x2 x3 x4
      obtain ⟨D, R, q, z, rfl, rfl, HD, HU, HBK⟩ := hrel
      have hqD : 1 + Tp.sz D = q := HD.out.2.1
      have HZ := Lib.hid HD.out.2.2
      have hsz : Tp.sz c = Tp.sz D + Tp.sz R := by rw [HD.out.1, Tp.sz_app]
      have hLL := hLc.out
      by_cases hq : q < L
      · have hqL : (q : Int) < L := by omega
        obtain ⟨k1, y1, n1, s1, c1, r1, hRe⟩ : ∃ k1 y1 n1 s1 c1 r1, R = .node k1 y1 n1 s1 c1 r1 := by
          cases R with
          | nil => simp at hsz; omega
          | node k1 y1 n1 s1 c1 r1 => exact ⟨_, _, _, _, _, _, rfl⟩
        have HC : Hid (c = Tp.app D (.node k1 y1 n1 s1 c1 r1)) := Lib.hid (by rw [← hRe]; exact HD.out.1)
        have HP := Lib.hid (part_i (by omega) HI.out HC.out)
        have hft := HP.out.fits
        have hmm := HM.out
        have hless := HP.out.less
        obtain ⟨x, hx⟩ : ∃ x, str (Jr.one k1 n1 s1 (Jr.shp k1 true c1)) = x := ⟨_, rfl⟩
        have hxl : x.size ≤ 100000000 := by rw [← hx, str_size]; omega
        have hzl : z.size ≤ 100000000 := by rw [← bl_length, HZ.out]; omega
        have HX : Hid (bl x = Jr.one k1 n1 s1 (Jr.shp k1 true c1)) := Lib.hid (by
          rw [← hx]
          refine bl_str _ (val_byte HP.out.in_))
        have hb1 : (q : Int) + (1 + (Tp.sz c1 : Nat)) ≤ 4001 := by omega
        have hsr : q + (1 + Tp.sz c1) ≤ L := by omega
        clear hRe hsz hless
        by_cases hD : Tp.sz D = 0
        · have HN : Hid (Jr.isNil D = true) := Lib.hid (by rw [Tp.sz_zero hD]; rfl)
          have hq1 : ¬ (1 : Int) < (q : Nat) := by omega
          obtain ⟨b', off', e, _, y1c, _, _, y4⟩ := rdN_cells HR.out (HU.out) HP.out.at_
          obtain ⟨rfl, rfl⟩ : b0 = b' ∧ off = off' := by injection e with e; injection e with e1 e2; exact ⟨e1, e2⟩
          rw [hqD] at y1c y4
          have k0 := (HBK.out).cell 0
          simp only [List.getElem?_cons_zero] at k0
          clear e
          have nn1 : ¬ 9223372036854775807 < z.size + x.size := by omega
          obtain ⟨u, hu, hur⟩ := Gn.cut_mid ndY wr wr.heap.size (some ⟨b0, off, none⟩) (Tp.flat (.node 6 y n s c .nil)) L vc q (q + (1 + Tp.sz c1)) (Gn.Rd.later HR.out HU.out) hl (by omega) (by rw [hl]; omega)
          have em : ((q + (1 + Tp.sz c1) : Nat) : Int) = (q : Int) + (1 + (Tp.sz c1 : Nat)) := by omega
          rw [em] at hu
          have CC := Lib.hid (HIH.out (Tp.sz c1) (by omega) k1 y1 n1 s1 c1 u wr (Nat.le_refl _) HP.out.in_ (by rw [← HP.out.mid, hqD]; exact hur))
          rw [hx] at CC
          clear hur em
          go_wp2_with fail
          ((with_reducible refine (CC.out).mono ?_); rintro e w3 ⟨rfl, b⟩)
          have HU3 := Lib.hid (up HU.out b)
          have HBK3 := Lib.hid (HBK.out.later b)
          clear b CC y1c y4 k0 hu
          obtain ⟨b', off', e, _, y1c, _, _, y4⟩ := rdN_cells HR.out (HU3.out) HP.out.at_
          obtain ⟨rfl, rfl⟩ : b0 = b' ∧ off = off' := by injection e with e; injection e with e1 e2; exact ⟨e1, e2⟩
          rw [hqD] at y1c y4
          have k0 := (HBK3.out).cell 0
          simp only [List.getElem?_cons_zero] at k0
          clear e
          have HD2 : Hid (c = Tp.app (Tp.app D (.node k1 y1 n1 s1 c1 .nil)) r1 ∧ 1 + Tp.sz (Tp.app D (.node k1 y1 n1 s1 c1 .nil)) = q + (1 + Tp.sz c1) ∧ bl (z ++ x) = Jr.shp 6 true (Tp.app D (.node k1 y1 n1 s1 c1 .nil))) := Lib.hid ⟨by rw [HC.out, app_step], by rw [Tp.sz_app, Tp.sz_node, Tp.sz_nil]; omega, by
            rw [HP.out.text, HN.out]
            simp only [bl_append, HZ.out, HX.out, Jr.comma, Jr.keyT, show bl ⟨#[44]⟩ = [44] from rfl, show bl ⟨#[58]⟩ = [58] from rfl]
            simp⟩
          go_wp2_with fail
          go_roundw
          case rel => exact ⟨_, r1, q + (1 + Tp.sz c1), _, by rfl, by go_num, HD2, HU3, HBK3⟩
          case measure => simp [intOf]; omega
        · have HN : Hid (Jr.isNil D = false) := Lib.hid (by cases D with
            | nil => simp at hD
            | node => rfl)
          have hq1 : (1 : Int) < (q : Nat) := by omega
          have nn0 : ¬ 9223372036854775807 < z.size + 1 := by omega
          obtain ⟨b', off', e, _, y1c, _, _, y4⟩ := rdN_cells HR.out (HU.out) HP.out.at_
          obtain ⟨rfl, rfl⟩ : b0 = b' ∧ off = off' := by injection e with e; injection e with e1 e2; exact ⟨e1, e2⟩
          rw [hqD] at y1c y4
          have k0 := (HBK.out).cell 0
          simp only [List.getElem?_cons_zero] at k0
          clear e
          have nn1 : ¬ 9223372036854775807 < z.size + 1 + x.size := by omega
          obtain ⟨u, hu, hur⟩ := Gn.cut_mid ndY wr wr.heap.size (some ⟨b0, off, none⟩) (Tp.flat (.node 6 y n s c .nil)) L vc q (q + (1 + Tp.sz c1)) (Gn.Rd.later HR.out HU.out) hl (by omega) (by rw [hl]; omega)
          have em : ((q + (1 + Tp.sz c1) : Nat) : Int) = (q : Int) + (1 + (Tp.sz c1 : Nat)) := by omega
          rw [em] at hu
          have CC := Lib.hid (HIH.out (Tp.sz c1) (by omega) k1 y1 n1 s1 c1 u wr (Nat.le_refl _) HP.out.in_ (by rw [← HP.out.mid, hqD]; exact hur))
          rw [hx] at CC
          clear hur em
          go_wp2_with fail
          ((with_reducible refine (CC.out).mono ?_); rintro e w3 ⟨rfl, b⟩)
          have HU3 := Lib.hid (up HU.out b)
          have HBK3 := Lib.hid (HBK.out.later b)
          clear b CC y1c y4 k0 hu
          obtain ⟨b', off', e, _, y1c, _, _, y4⟩ := rdN_cells HR.out (HU3.out) HP.out.at_
          obtain ⟨rfl, rfl⟩ : b0 = b' ∧ off = off' := by injection e with e; injection e with e1 e2; exact ⟨e1, e2⟩
          rw [hqD] at y1c y4
          have k0 := (HBK3.out).cell 0
          simp only [List.getElem?_cons_zero] at k0
          clear e
          have HD2 : Hid (c = Tp.app (Tp.app D (.node k1 y1 n1 s1 c1 .nil)) r1 ∧ 1 + Tp.sz (Tp.app D (.node k1 y1 n1 s1 c1 .nil)) = q + (1 + Tp.sz c1) ∧ bl (z ++ ⟨#[44]⟩ ++ x) = Jr.shp 6 true (Tp.app D (.node k1 y1 n1 s1 c1 .nil))) := Lib.hid ⟨by rw [HC.out, app_step], by rw [Tp.sz_app, Tp.sz_node, Tp.sz_nil]; omega, by
            rw [HP.out.text, HN.out]
            simp only [bl_append, HZ.out, HX.out, Jr.comma, Jr.keyT, show bl ⟨#[44]⟩ = [44] from rfl, show bl ⟨#[58]⟩ = [58] from rfl]
            simp⟩
          go_wp2_with fail
          go_roundw
          case rel => exact ⟨_, r1, q + (1 + Tp.sz c1), _, by rfl, by go_num, HD2, HU3, HBK3⟩
          case measure => simp [intOf]; omega
      · have hqL : ¬ (q : Int) < L := by omega
        have HF : Hid (⟨#[91]⟩ ++ z ++ ⟨#[93]⟩ = str (Jr.one 6 n s (Jr.shp 6 true c))) := Lib.hid (by
          have hR : R = .nil := Tp.sz_zero (by omega)
          apply bl_inj
          rw [bl_str _ (val_byte HI.out), bl_append, bl_append, HZ.out, HD.out.1, hR, Tp.app_nil]
          rfl)
        have hzl : z.size ≤ 100000000 := by
          have h1 := HI.out.len
          have hR : R = .nil := Tp.sz_zero (by omega)
          have h2 : Jr.one 6 n s (Jr.shp 6 true c) = 91 :: (Jr.shp 6 true c ++ [93]) := rfl
          rw [h2, HD.out.1, hR, Tp.app_nil, ← HZ.out] at h1
          simp only [List.length_cons, List.length_append, bl_length] at h1
          omega
        have nn1 : ¬ 9223372036854775807 < 1 + z.size := by omega
        have nn2 : ¬ 9223372036854775807 < 1 + z.size + 1 := by omega
        have k0 := (HBK.out).cell 0
        simp only [List.getElem?_cons_zero] at k0
        clear hsz
        go_wp2_with fail
        go_ret
        exact ⟨by rw [← HF.out]; rfl, HU.out⟩
  · skip
    have hlen := HI.out.len
    go_enter Tryz.func109, Tryz.ntmps109
    go_wp2_with fail
    go_loopw [6, 7] (fun sv iv wr => ∃ (D R : Fo) (q : Nat) (z : ByteArray), sv = .string z ∧ iv = .int .i64 (q : Nat) ∧ Hid (c = Tp.app D R ∧ 1 + Tp.sz D = q ∧ bl z = Jr.shp 7 true D) ∧ Hid (Below w.heap.size w wr) ∧ Hid (Blk wr w.heap.size 28 [.int .i64 7, .string y, .int .i64 n, .string s, .int .i64 (1 + (Tp.sz c : Nat))])) (fun _ iv _ => L - (intOf iv).toNat)
    case atStart => exact ⟨.nil, c, 1, _, by rfl, by rfl, Lib.hid ⟨rfl, by simp, rfl⟩, HAL, HBL⟩
    case round =>
      clear x0 x1 x2 x3 x4
      obtain ⟨D, R, q, z, rfl, rfl, HD, HU, HBK⟩ := hrel
      have hqD : 1 + Tp.sz D = q := HD.out.2.1
      have HZ := Lib.hid HD.out.2.2
      have hsz : Tp.sz c = Tp.sz D + Tp.sz R := by rw [HD.out.1, Tp.sz_app]
      have hLL := hLc.out
      by_cases hq : q < L
      · have hqL : (q : Int) < L := by omega
        obtain ⟨k1, y1, n1, s1, c1, r1, hRe⟩ : ∃ k1 y1 n1 s1 c1 r1, R = .node k1 y1 n1 s1 c1 r1 := by
          cases R with
          | nil => simp at hsz; omega
          | node k1 y1 n1 s1 c1 r1 => exact ⟨_, _, _, _, _, _, rfl⟩
        have HC : Hid (c = Tp.app D (.node k1 y1 n1 s1 c1 r1)) := Lib.hid (by rw [← hRe]; exact HD.out.1)
        have HP := Lib.hid (part_i (by omega) HI.out HC.out)
        have hft := HP.out.fits
        have hmm := HM.out
        have hless := HP.out.less
        obtain ⟨x, hx⟩ : ∃ x, str (Jr.one k1 n1 s1 (Jr.shp k1 true c1)) = x := ⟨_, rfl⟩
        have hxl : x.size ≤ 100000000 := by rw [← hx, str_size]; omega
        have hzl : z.size ≤ 100000000 := by rw [← bl_length, HZ.out]; omega
        have HX : Hid (bl x = Jr.one k1 n1 s1 (Jr.shp k1 true c1)) := Lib.hid (by
          rw [← hx]
          refine bl_str _ (val_byte HP.out.in_))
        have hb1 : (q : Int) + (1 + (Tp.sz c1 : Nat)) ≤ 4001 := by omega
        have hsr : q + (1 + Tp.sz c1) ≤ L := by omega
        clear hRe hsz hless
        by_cases hD : Tp.sz D = 0
        · have HN : Hid (Jr.isNil D = true) := Lib.hid (by rw [Tp.sz_zero hD]; rfl)
          have hq1 : ¬ (1 : Int) < (q : Nat) := by omega
          obtain ⟨b', off', e, _, y1c, _, _, y4⟩ := rdN_cells HR.out (HU.out) HP.out.at_
          obtain ⟨rfl, rfl⟩ : b0 = b' ∧ off = off' := by injection e with e; injection e with e1 e2; exact ⟨e1, e2⟩
          rw [hqD] at y1c y4
          have k0 := (HBK.out).cell 0
          simp only [List.getElem?_cons_zero] at k0
          clear e
          have CQ := Lib.hid (rquote_yes y1 wr (HP.out.key rfl).2 (HP.out.key rfl).1)
          have HTB : Hid (bl (str (Utf.tidy (bl y1))) = Utf.tidy (bl y1)) := Lib.hid (bl_str _ (Utf.tidy_byte _ (bl_byte y1)))
          have hts : (str (Utf.tidy (bl y1))).size ≤ 100000000 := by
            have := HP.out.less
            rw [str_size]
            unfold Jr.keyT at this
            rw [if_pos rfl, List.length_append] at this
            omega
          generalize str (Utf.tidy (bl y1)) = t at *
          have nn1 : ¬ 9223372036854775807 < z.size + t.size := by omega
          have nn2 : ¬ 9223372036854775807 < z.size + t.size + 1 := by omega
          have nn3 : ¬ 9223372036854775807 < z.size + t.size + 1 + x.size := by omega
          go_wp2_with fail
          ((with_reducible refine (CQ.out).mono ?_); rintro e w2 ⟨rfl, b⟩)
          have HU2 := Lib.hid (up HU.out b)
          have HBK2 := Lib.hid (HBK.out.later b)
          clear b CQ y1c y4 k0
          obtain ⟨b', off', e, _, y1c, _, _, y4⟩ := rdN_cells HR.out (HU2.out) HP.out.at_
          obtain ⟨rfl, rfl⟩ : b0 = b' ∧ off = off' := by injection e with e; injection e with e1 e2; exact ⟨e1, e2⟩
          rw [hqD] at y1c y4
          have k0 := (HBK2.out).cell 0
          simp only [List.getElem?_cons_zero] at k0
          clear e
          obtain ⟨u, hu, hur⟩ := Gn.cut_mid ndY w2 w2.heap.size (some ⟨b0, off, none⟩) (Tp.flat (.node 7 y n s c .nil)) L vc q (q + (1 + Tp.sz c1)) (Gn.Rd.later HR.out HU2.out) hl (by omega) (by rw [hl]; omega)
          have em : ((q + (1 + Tp.sz c1) : Nat) : Int) = (q : Int) + (1 + (Tp.sz c1 : Nat)) := by omega
          rw [em] at hu
          have CC := Lib.hid (HIH.out (Tp.sz c1) (by omega) k1 y1 n1 s1 c1 u w2 (Nat.le_refl _) HP.out.in_ (by rw [← HP.out.mid, hqD]; exact hur))
          rw [hx] at CC
          clear hur em
          go_wp2_with fail
          ((with_reducible refine (CC.out).mono ?_); rintro e w3 ⟨rfl, b⟩)
          have HU3 := Lib.hid (up HU2.out b)
          have HBK3 := Lib.hid (HBK2.out.later b)
          clear b CC y1c y4 k0 hu
          obtain ⟨b', off', e, _, y1c, _, _, y4⟩ := rdN_cells HR.out (HU3.out) HP.out.at_
          obtain ⟨rfl, rfl⟩ : b0 = b' ∧ off = off' := by injection e with e; injection e with e1 e2; exact ⟨e1, e2⟩
          rw [hqD] at y1c y4
          have k0 := (HBK3.out).cell 0
          simp only [List.getElem?_cons_zero] at k0
          clear e
          have HD2 : Hid (c = Tp.app (Tp.app D (.node k1 y1 n1 s1 c1 .nil)) r1 ∧ 1 + Tp.sz (Tp.app D (.node k1 y1 n1 s1 c1 .nil)) = q + (1 + Tp.sz c1) ∧ bl (z ++ t ++ ⟨#[58]⟩ ++ x) = Jr.shp 7 true (Tp.app D (.node k1 y1 n1 s1 c1 .nil))) := Lib.hid ⟨by rw [HC.out, app_step], by rw [Tp.sz_app, Tp.sz_node, Tp.sz_nil]; omega, by
            rw [HP.out.text, HN.out]
            simp only [bl_append, HZ.out, HX.out, HTB.out, Jr.comma, Jr.keyT, show bl ⟨#[44]⟩ = [44] from rfl, show bl ⟨#[58]⟩ = [58] from rfl]
            simp⟩
          go_wp2_with fail
          go_roundw
          case rel => exact ⟨_, r1, q + (1 + Tp.sz c1), _, by rfl, by go_num, HD2, HU3, HBK3⟩
          case measure => simp [intOf]; omega
        · have HN : Hid (Jr.isNil D = false) := Lib.hid (by cases D with
            | nil => simp at hD
            | node => rfl)
          have hq1 : (1 : Int) < (q : Nat) := by omega
          have nn0 : ¬ 9223372036854775807 < z.size + 1 := by omega
          obtain ⟨b', off', e, _, y1c, _, _, y4⟩ := rdN_cells HR.out (HU.out) HP.out.at_
          obtain ⟨rfl, rfl⟩ : b0 = b' ∧ off = off' := by injection e with e; injection e with e1 e2; exact ⟨e1, e2⟩
          rw [hqD] at y1c y4
          have k0 := (HBK.out).cell 0
          simp only [List.getElem?_cons_zero] at k0
          clear e
          have CQ := Lib.hid (rquote_yes y1 wr (HP.out.key rfl).2 (HP.out.key rfl).1)
          have HTB : Hid (bl (str (Utf.tidy (bl y1))) = Utf.tidy (bl y1)) := Lib.hid (bl_str _ (Utf.tidy_byte _ (bl_byte y1)))
          have hts : (str (Utf.tidy (bl y1))).size ≤ 100000000 := by
            have := HP.out.less
            rw [str_size]
            unfold Jr.keyT at this
            rw [if_pos rfl, List.length_append] at this
            omega
          generalize str (Utf.tidy (bl y1)) = t at *
          have nn1 : ¬ 9223372036854775807 < z.size + 1 + t.size := by omega
          have nn2 : ¬ 9223372036854775807 < z.size + 1 + t.size + 1 := by omega
          have nn3 : ¬ 9223372036854775807 < z.size + 1 + t.size + 1 + x.size := by omega
          go_wp2_with fail
          ((with_reducible refine (CQ.out).mono ?_); rintro e w2 ⟨rfl, b⟩)
          have HU2 := Lib.hid (up HU.out b)
          have HBK2 := Lib.hid (HBK.out.later b)
          clear b CQ y1c y4 k0
          obtain ⟨b', off', e, _, y1c, _, _, y4⟩ := rdN_cells HR.out (HU2.out) HP.out.at_
          obtain ⟨rfl, rfl⟩ : b0 = b' ∧ off = off' := by injection e with e; injection e with e1 e2; exact ⟨e1, e2⟩
          rw [hqD] at y1c y4
          have k0 := (HBK2.out).cell 0
          simp only [List.getElem?_cons_zero] at k0
          clear e
          obtain ⟨u, hu, hur⟩ := Gn.cut_mid ndY w2 w2.heap.size (some ⟨b0, off, none⟩) (Tp.flat (.node 7 y n s c .nil)) L vc q (q + (1 + Tp.sz c1)) (Gn.Rd.later HR.out HU2.out) hl (by omega) (by rw [hl]; omega)
          have em : ((q + (1 + Tp.sz c1) : Nat) : Int) = (q : Int) + (1 + (Tp.sz c1 : Nat)) := by omega
          rw [em] at hu
          have CC := Lib.hid (HIH.out (Tp.sz c1) (by omega) k1 y1 n1 s1 c1 u w2 (Nat.le_refl _) HP.out.in_ (by rw [← HP.out.mid, hqD]; exact hur))
          rw [hx] at CC
          clear hur em
          go_wp2_with fail
          ((with_reducible refine (CC.out).mono ?_); rintro e w3 ⟨rfl, b⟩)
          have HU3 := Lib.hid (up HU2.out b)
          have HBK3 := Lib.hid (HBK2.out.later b)
          clear b CC y1c y4 k0 hu
          obtain ⟨b', off', e, _, y1c, _, _, y4⟩ := rdN_cells HR.out (HU3.out) HP.out.at_
          obtain ⟨rfl, rfl⟩ : b0 = b' ∧ off = off' := by injection e with e; injection e with e1 e2; exact ⟨e1, e2⟩
          rw [hqD] at y1c y4
          have k0 := (HBK3.out).cell 0
          simp only [List.getElem?_cons_zero] at k0
          clear e
          have HD2 : Hid (c = Tp.app (Tp.app D (.node k1 y1 n1 s1 c1 .nil)) r1 ∧ 1 + Tp.sz (Tp.app D (.node k1 y1 n1 s1 c1 .nil)) = q + (1 + Tp.sz c1) ∧ bl (z ++ ⟨#[44]⟩ ++ t ++ ⟨#[58]⟩ ++ x) = Jr.shp 7 true (Tp.app D (.node k1 y1 n1 s1 c1 .nil))) := Lib.hid ⟨by rw [HC.out, app_step], by rw [Tp.sz_app, Tp.sz_node, Tp.sz_nil]; omega, by
            rw [HP.out.text, HN.out]
            simp only [bl_append, HZ.out, HX.out, HTB.out, Jr.comma, Jr.keyT, show bl ⟨#[44]⟩ = [44] from rfl, show bl ⟨#[58]⟩ = [58] from rfl]
            simp⟩
          go_wp2_with fail
          go_roundw
          case rel => exact ⟨_, r1, q + (1 + Tp.sz c1), _, by rfl, by go_num, HD2, HU3, HBK3⟩
          case measure => simp [intOf]; omega
      · have hqL : ¬ (q : Int) < L := by omega
        have HF : Hid (⟨#[123]⟩ ++ z ++ ⟨#[125]⟩ = str (Jr.one 7 n s (Jr.shp 7 true c))) := Lib.hid (by
          have hR : R = .nil := Tp.sz_zero (by omega)
          apply bl_inj
          rw [bl_str _ (val_byte HI.out), bl_append, bl_append, HZ.out, HD.out.1, hR, Tp.app_nil]
          rfl)
        have hzl : z.size ≤ 100000000 := by
          have h1 := HI.out.len
          have hR : R = .nil := Tp.sz_zero (by omega)
          have h2 : Jr.one 7 n s (Jr.shp 7 true c) = 123 :: (Jr.shp 7 true c ++ [125]) := rfl
          rw [h2, HD.out.1, hR, Tp.app_nil, ← HZ.out] at h1
          simp only [List.length_cons, List.length_append, bl_length] at h1
          omega
        have nn1 : ¬ 9223372036854775807 < 1 + z.size := by omega
        have nn2 : ¬ 9223372036854775807 < 1 + z.size + 1 := by omega
        have k0 := (HBK.out).cell 0
        simp only [List.getElem?_cons_zero] at k0
        clear hsz
        go_wp2_with fail
        go_ret
        exact ⟨by rw [← HF.out]; rfl, HU.out⟩
theorem rshown_all : ∀ m, SClm m := fun m => by
  induction m using Nat.strongRecOn with
  | _ m ih => exact rshown_step m ih
end Go.Proofs.YtgmdjofnkbaflaaGreatDoor
