/- UtfNext's walk. -/
import Derived.Test.YtgjpjimpkdmbcaaDoorBackW
namespace Go.Proofs.YtgjpjimpkdmbcaaDoor
open Go.RowKit
set_option linter.unusedVariables false

theorem RdI.on {w w' : World} {v : Value} {l : List Int} (h : RdI w w.heap.size v l) (hb : Below w.heap.size w w') : RdI w' w'.heap.size v l := by
  obtain ⟨a, c, e1, e2, e3, e4, e5⟩ := h.below hb
  exact ⟨a, c, e1, e2, e3, e4, fun hp => by obtain ⟨b, off, f1, f2, f3⟩ := e5 hp; exact ⟨b, off, f1, Nat.lt_of_lt_of_le f2 hb.size, f3⟩⟩
theorem runes_drop (l : List Int) (k : Nat) (h : k < l.length) (h2 : k < 60) : (runes l).drop k = oneN (l.getD k 0) :: (runes l).drop (k + 1) := by
  have hk : k < (runes l).length := by rw [runes_length]; omega
  rw [List.drop_eq_getElem_cons hk]
  simp [runes, List.getD_eq_getElem?_getD, List.getElem?_eq_getElem h]
set_option maxHeartbeats 4000000 in
set_option maxRecDepth 100000 in
theorem utfNext (v : Value) (l : List Int) (m0 : ByteArray) (w : World) (hl : RdI w w.heap.size v l) (hm : m0.size ≤ maxLen) (T : Tab w) :
    Calls Tryd.prog 9 #[v, .string m0] w fun e w' => e = .returned (.bool true) ∧ Below w.heap.size w w' := by
  have hmm := hm
  unfold maxLen at hmm
  have HT := Lib.hid T
  have HL := Lib.hid hl
  have hsl := fun w => clip_run 100 (by omega) m0 w
  have hc := clip_size 100 m0 (by omega)
  have hcm := clip_max 100 m0 (by omega)
  generalize clip 100 m0 = m at *
  have hrs := runes_rune l
  have hbt := textB_byte l
  have htl := textB_len l
  have hs1 := str_size (textB l)
  have hno := no_over (str (textB l)) m (by rw [hs1]; omega)
  have hbl : bl (str (textB l) ++ m) = textB l ++ bl m := by rw [bl_append, bl_str _ hbt]
  have hvl : Utf.vld (bl (str (textB l) ++ m)) = Utf.vld (bl m) := by rw [hbl]; exact Utf.vld_encs _ _ hrs
  have hsz : (str (textB l) ++ m).size ≤ 1240 := by rw [← bl_length, hbl, List.length_append, bl_length]; omega
  have CT := text v l w hl
  have CV1 : ∀ w', Tab w' → Calls Tryd.prog 17 #[.string (str (textB l) ++ m)] w' fun e w2 => e = .returned (.bool (Utf.vld (bl m))) ∧ Below w'.heap.size w' w2 := fun w' T' => valid _ w' T' (by unfold maxLen; omega) _ hvl
  have H0 := Lib.hid (show bl (str (textB l) ++ m) = Utf.encs ((runes l).drop 0) ++ bl m from hbl)
  have CV2 : ∀ w', Tab w' → Calls Tryd.prog 17 #[.string m] w' fun e w2 => e = .returned (.bool (Utf.vld (bl m))) ∧ Below w'.heap.size w' w2 := fun w' T' => valid _ w' T' hcm _ rfl
  generalize Utf.vld (bl m) = vb at *
  generalize str (textB l) = t0 at *
  generalize hu0 : t0 ++ m = u0 at *
  have HCV1 := Lib.hid CV1
  have HCV2 := Lib.hid CV2
  obtain ⟨a, c, rfl, hlc, hcc, hbb, hcell⟩ := id hl
  unfold maxLen at hcc
  have HB := Lib.hid hbb
  clear CV1 CV2 hbl hvl hbt hrs htl hs1 T hl hcell hbb
  go_enter Tryd.func9, Tryd.ntmps9
  go_wp2_with fail
  ((with_reducible refine CT.mono ?_); rintro x w' ⟨rfl, rfl⟩)
  go_wp2_with fail
  ((with_reducible refine (HCV1.out w HT.out).mono ?_); rintro x w1 ⟨rfl, b1⟩)
  go_wp2_with fail
  ((with_reducible refine (HCV2.out w1 (HT.out.later b1)).mono ?_); rintro x w2 ⟨rfl, b2⟩)
  have B2 := Lib.hid (up b1 b2)
  clear b1 b2 CT hno hu0
  have hvb : (vb != vb) = false := by cases vb <;> rfl
  go_wp2
  go_loopw [5, 6] (fun v i wr => ∃ (k : Nat) (t : ByteArray), k ≤ l.length ∧ k ≤ 60 ∧ i = .int .i64 k ∧ v = .string t ∧ t.size ≤ 1240 ∧ Hid (bl t = Utf.encs ((runes l).drop k) ++ bl m) ∧ Below w.heap.size w wr) (fun _ i _ => 60 - (intOf i).toNat)
  case atStart => exact ⟨0, u0, by omega, by omega, rfl, rfl, hsz, H0, B2.out⟩
  case round =>
    clear H0 B2
    obtain ⟨k, t, hk, hk60, rfl, rfl, hts, HTB, hb⟩ := hrel
    have HB2 := Lib.hid hb
    by_cases hlt : k < l.length ∧ k < 60
    · obtain ⟨h1, h2⟩ := hlt
      have hRI := HL.out.on hb
      obtain ⟨a', c', e1, -, -, -, e5⟩ := hRI
      injection e1 with e1 e2 e3
      subst e1 e3
      obtain ⟨b, off, rfl, hbl2, hcl⟩ := e5 (by omega)
      have hce := hcl k h1
      have hce2 : ∀ wx, Below wr.heap.size wr wx → wx.cell? ⟨b, off + k, none⟩ = some (.int .i64 (l.getD k 0)) := fun wx hx => (hx.cell (p := ⟨b, off + k, none⟩) hbl2).trans hce
      have hbd := HB.out (l.getD k 0) (by simp [List.getElem?_eq_getElem h1])
      have htb := HTB.out
      rw [runes_drop l k h1 h2, Utf.encs_cons, List.append_assoc] at htb
      have hir := oneN_rune (l.getD k 0)
      have CO := fun wx => one (l.getD k 0) wx hbd.1 hbd.2 _ rfl
      have CP := fun wx => put_yes (oneN (l.getD k 0)) wx hir
      have hnw := Utf.nw_enc (oneN (l.getD k 0)) (Utf.encs ((runes l).drop (k + 1)) ++ bl m) hir
      have hnr := Utf.nr_enc (oneN (l.getD k 0)) (Utf.encs ((runes l).drop (k + 1)) ++ bl m) hir
      rw [← htb] at hnw hnr
      have hel := Utf.enc_len (oneN (l.getD k 0))
      have hss := str_size (Utf.enc (oneN (l.getD k 0)))
      have CN := fun wx (Tx : Tab wx) => next_yes t wx Tx (by omega)
      rw [hnw, hnr] at CN
      have hle : (Utf.enc (oneN (l.getD k 0))).length ≤ t.size := by rw [← bl_length, htb, List.length_append]; omega
      have hq : ((t.extract 0 (Utf.enc (oneN (l.getD k 0))).length).toList == (str (Utf.enc (oneN (l.getD k 0)))).toList) = true := by
        rw [bl_eq, bl_to, htb, bl_str _ (Utf.enc_byte _ hir)]
        simp
      have HF := Lib.hid (show bl (t.extract (Utf.enc (oneN (l.getD k 0))).length t.size) = Utf.encs ((runes l).drop (k + 1)) ++ bl m by rw [bl_from, htb]; simp)
      generalize oneN (l.getD k 0) = r at *
      generalize l.getD k 0 = x at *
      rw [← hss] at CN hle hq HF hel
      generalize str (Utf.enc r) = q at *
      have hq' : ((t.extract 0 q.size).toList != q.toList) = false := by simp only [bne, hq]; rfl
      have HQS := Lib.hid hss
      have hqz : q.size ≤ 4 := by omega
      have hqt : (q.size : Int) ≤ t.size := by omega
      have hqt2 : ¬ ((t.size : Int) < q.size) := by omega
      have h2' : (k : Int) < 60 := by omega
      have h1' : (k : Int) < l.length := by omega
      have HCE := Lib.hid hce2
      have HTX := Lib.hid (HT.out.later hb)
      clear hcl e5 htb hnw hnr hss hbd hir hce hce2 hb
      go_wp2_with fail
      ((with_reducible refine (CN wr HTX.out).mono ?_); rintro x w3 ⟨rfl, b3⟩)
      have hce3 := HCE.out w3 b3
      go_wp2_with fail
      ((with_reducible refine (CO w3).mono ?_); rintro x w' ⟨rfl, rfl⟩)
      go_wp2_with fail
      ((with_reducible refine (CP w3).mono ?_); rintro x w' ⟨rfl, rfl⟩)
      go_wp2_with fail
      ((with_reducible refine (CO w3).mono ?_); rintro x w' ⟨rfl, rfl⟩)
      go_wp2
      go_roundw
      case rel => exact ⟨k + 1, _, by omega, by omega, by go_num, rfl, by rw [ByteArray.size_extract]; omega, HF, up HB2.out b3⟩
      case measure => simp [intOf]; omega
    · have hE : (runes l).drop k = [] := List.drop_of_length_le (by rw [runes_length]; omega)
      have htm := HTB.out
      rw [hE] at htm
      have htm2 : t = m := bl_inj htm
      subst htm2
      have hqq : (t.toList == t.toList) = true := by simp
      have HTX := Lib.hid (HT.out.later hb)
      clear htm hE
      by_cases h1 : k < l.length
      · have h1' : (k : Int) < l.length := by omega
        have h2' : ¬ ((k : Int) < 60) := by omega
        go_wp2_with fail
        ((with_reducible refine (works wr HTX.out).mono ?_); rintro x w3 ⟨rfl, b3⟩)
        go_wp2
        go_ret
        exact ⟨rfl, up HB2.out b3⟩
      · have h1' : ¬ ((k : Int) < l.length) := by omega
        go_wp2_with fail
        ((with_reducible refine (works wr HTX.out).mono ?_); rintro x w3 ⟨rfl, b3⟩)
        go_wp2
        go_ret
        exact ⟨rfl, up HB2.out b3⟩
end Go.Proofs.YtgjpjimpkdmbcaaDoor
