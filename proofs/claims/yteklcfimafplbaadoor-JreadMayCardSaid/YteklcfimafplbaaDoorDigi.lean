/- The program's reader: a number. -/
import Derived.Test.YteklcfimafplbaaDoorTake
import Derived.Test.YteklcfimafplbaaDoorNumb
import Derived.BigRegion
namespace Go.Proofs.YteklcfimafplbaaDoor
open Go.RowKit
set_option linter.unusedVariables false
set_option maxRecDepth 100000

/-- A variable that holds an error, or none. -/
def ErrAt (w : World) (g : Nat) : Prop := ∃ ev, w.cell? ⟨g, 0, none⟩ = some ev ∧ (ev = .nilIface ∨ ∃ te pe, ev = .iface te pe)
/-- The library's two errors lie in their places. -/
def TabE (w : World) : Prop := ErrAt w 6 ∧ ErrAt w 7
def TabEAt (B : Nat) : Prop := 6 < B ∧ 7 < B
theorem cell_lt {w : World} {p : Addr} {v : Value} (h : w.cell? p = some v) : p.block < w.heap.size := by
  rcases Nat.lt_or_ge p.block w.heap.size with hlt | hge
  · exact hlt
  · simp [World.cell?, Array.getElem?_eq_none hge] at h
theorem TabE.size {w : World} (h : TabE w) : TabEAt w.heap.size := by
  obtain ⟨⟨_, h1, _⟩, ⟨_, h2, _⟩⟩ := h
  exact ⟨cell_lt h1, cell_lt h2⟩
theorem TabE.below {w w' : World} {B : Nat} (h : TabE w) (hB : TabEAt B) (hb : Below B w w') : TabE w' := by
  obtain ⟨⟨e1, h1, k1⟩, ⟨e2, h2, k2⟩⟩ := h
  exact ⟨⟨e1, (hb.cell (p := ⟨6, 0, none⟩) hB.1).trans h1, k1⟩, ⟨e2, (hb.cell (p := ⟨7, 0, none⟩) hB.2).trans h2, k2⟩⟩
theorem TabE.later {w w' : World} (h : TabE w) (hb : Below w.heap.size w w') : TabE w' := h.below h.size hb
theorem parse_ok (X : ByteArray) (hX : X.size ≤ 1048576) (v : Int) (h : Lib.parseIntB 64 X.data.toList = .ok v) (w : World) :
    Calls Tryd.prog 132 #[.string X, .int .i64 10, .int .i64 64] w fun e w' => e = .returned (.tuple #[.int .i64 v, .nilIface]) ∧ Below w.heap.size w w' :=
  (Tryd.strconv_ParseInt_10_at64_ok X (by omega) v h w).mono fun e w' ⟨h1, h2⟩ => ⟨h1, by
    rcases h2 with rfl | ⟨t, rfl⟩
    · exact Below.refl _ _
    · exact Lib.bytesWorld_below _ _ _⟩
theorem parse_no (X : ByteArray) (hX : X.size ≤ 1048576) (h : ∀ v, Lib.parseIntB 64 X.data.toList ≠ .ok v) (w : World) (T : TabE w) :
    Calls Tryd.prog 132 #[.string X, .int .i64 10, .int .i64 64] w fun e w' => ∃ z N, e = .returned (.tuple #[.int .i64 z, .iface 181 (.pointer (some ⟨N, 0, none⟩))]) ∧ Below w.heap.size w w' := by
  obtain ⟨⟨e1, h1, k1⟩, ⟨e2, h2, k2⟩⟩ := T
  cases he : Lib.parseIntB 64 X.data.toList with
  | ok v => exact absurd he (h v)
  | «range» => exact (Tryd.strconv_ParseInt_10_at64_range X (by omega) he e2 w h2 k2).mono fun e w' ⟨N, h3, _, _, h4⟩ => ⟨_, N, h3, h4⟩
  | _ => exact (Any.strconv_ParseInt_10_at64_syntax Tryd.laysC174 X (by omega) he e1 w h1 k1).mono fun e w' ⟨N, h3, _, _, h4⟩ => ⟨_, N, h3, h4⟩
theorem left_take {S : ByteArray} {a n : Nat} (h : a + n ≤ S.size) : bl (S.extract a (a + n)) = (left S a).take n := by
  rw [bl_extract, show a + n - a = n by omega]
set_option maxHeartbeats 8000000 in
theorem jtakeNumber {w : World} {B g : Nat} {S : ByteArray} {t : Jr.St} {ov tv : Value} {O : List Op1} (h : PS w B g S t ov tv O) (T : TabE w) (hTB : TabEAt B) (hm : S.size ≤ 1048576) (hc : Jr.cnt t.op t.root < 4000) :
    Calls Tryd.prog 101 #[.pointer (some ⟨g, 0, none⟩)] w fun e w' => e = .returned (.int .i64 (code (Jr.number t))) ∧ After w B g S (Jr.number t) w' := by
  obtain ⟨n, b, hs⟩ : ∃ n b, Jr.scan t.s = (n, b) := ⟨_, _, rfl⟩
  have hle := h.le
  have CS := Lib.hid (jskipNumber h.rp h.le hm n b (by rw [← h.s]; exact hs))
  obtain ⟨q, hq⟩ : ∃ q, q = t.at_ + n := ⟨_, rfl⟩
  rw [← hq] at CS
  obtain ⟨_, c1, _⟩ := h.rp.lie
  have HS := Lib.hid hs
  have H := Lib.hid h
  have HT := Lib.hid T
  have HQ := Lib.hid hq
  clear h hs T
  go_enter Tryd.func101, Tryd.ntmps101
  go_wp2_with fail
  ((with_reducible refine (CS.out).mono ?_); rintro e w1 ⟨rfl, hw, hn⟩)
  have HW := Lib.hid hw
  have HU := Lib.hid (PS.went (u := { t with at_ := q, s := left S q }) H.out hw rfl rfl rfl hn)
  have HB1 := Lib.hid (hw.below H.out.gB H.out.wB)
  clear hw CS
  cases b with
  | false =>
    have HE : Hid (Jr.number t = .inr (.err q 70)) := Lib.hid (by unfold Jr.number; rw [HS.out, hq]; rfl)
    clear hq
    go_wp2_with fail
    go_ret
    rw [HE.out]
    exact ⟨rfl, HB1.out, _, _, _, _, HU.out.rp⟩
  | true =>
    have ha0 : t.at_ ≤ q := by omega
    have ha1 : (t.at_ : Int) ≤ q := by omega
    have ha2 : (q : Int) ≤ S.size := by omega
    obtain ⟨d0, d1, _⟩ := HU.out.rp.lie
    have htk : bl (S.extract t.at_ q) = t.s.take n := by rw [hq, left_take (by omega), H.out.s]
    have hsz : (S.extract t.at_ q).size ≤ 1048576 := by rw [ByteArray.size_extract]; omega
    have hTK := Jr.token HS.out htk
    have HT1 := Lib.hid (HT.out.below hTB HB1.out)
    have f1 := Blk.frozen HU.out.rp 1
    by_cases hf : Jr.fits t.s
    · have CP := Lib.hid (parse_ok _ hsz _ (hTK.1 hf) w1.drew)
      have HE : Hid (Jr.number t = .inl (Jr.leaf t n 4 (Jr.nVal t.s) ⟨#[]⟩)) := Lib.hid (by unfold Jr.number; rw [HS.out, if_neg (by simp), if_pos hf])
      clear hTK htk hf hsz hq
      go_wp2_with fail
      go_region_with ((go_at_call 132; (with_reducible refine (CP.out).mono ?_); rintro e w2 ⟨rfl, b⟩))
      all_goals
        have b : Below w1.heap.size w1 w2 := (Below.refl _ _).drew.trans b
        have HU2 := Lib.hid (HU.out.later b)
        have HB2 := Lib.hid (HB1.out.trans (b.mono HU.out.wB))
        have CN := Lib.hid (mkNum (Jr.nVal t.s) w2)
        clear b CP
        go_wp2_with fail
        ((with_reducible refine (CN.out).mono ?_); rintro e w4 ⟨v, rfl, ho, b⟩)
        have H4 := Lib.hid (HU2.out.later b)
        have HO4 := Lib.hid ho
        have CP := Lib.hid (jput H4.out.rp H4.out.tape ho (fun k hk hk' => by have := (ho.lt k hk).1; have := (HU2.out.tape.lt k hk').2; omega) (by rw [Jr.zf_len]; show Jr.cnt t.op t.root ≤ 5000; omega) H4.out.wB)
        have HB4 := Lib.hid (HB2.out.trans (b.mono HU2.out.wB))
        clear ho b CN
        go_wp2_with fail
        ((with_reducible refine (CP.out).mono ?_); rintro e w5 ⟨rfl, hp⟩)
        have HP := Lib.hid hp
        clear hp
        go_wp2_with fail
        go_ret
        rw [HE.out]
        refine ⟨rfl, After.before HB4.out (leaf_after H4.out rfl rfl H.out.s HO4.out HU2.out.wB hc (by have := HQ.out; omega) ?_)⟩
        have := HP.out
        rw [HQ.out] at this
        exact this
    · have CP := Lib.hid (parse_no _ hsz (hTK.2 hf) w1.drew HT1.out)
      have HE : Hid (Jr.number t = .inr (.err t.at_ 73)) := Lib.hid (by unfold Jr.number; rw [HS.out, if_neg (by simp), if_neg hf])
      clear hTK htk hf hsz hq
      go_wp2_with fail
      go_region_with ((go_at_call 132; (with_reducible refine (CP.out).mono ?_); rintro e w2 ⟨z, N, rfl, b⟩))
      all_goals
        have b : Below w1.heap.size w1 w2 := (Below.refl _ _).drew.trans b
        have HU2 := Lib.hid (HU.out.later b)
        have HB2 := Lib.hid (HB1.out.trans (b.mono HU.out.wB))
        have f1 := Blk.frozen HU2.out.rp 1
        obtain ⟨_, d1, _⟩ := HU2.out.rp.lie
        clear b CP
        go_wp2_with fail
        go_ret
        rw [HE.out]
        refine ⟨rfl, HB2.out.trans ((Touch.below (touchG w2 g 1 _) (Nat.le_trans H.out.wB HB2.out.size) (fun i hi => by rw [hi]; exact H.out.gB))), _, _, _, _, HU2.out.rp.putA t.at_⟩
end Go.Proofs.YteklcfimafplbaaDoor
