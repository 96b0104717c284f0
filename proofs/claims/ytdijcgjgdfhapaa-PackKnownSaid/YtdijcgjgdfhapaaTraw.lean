/- Raw bytes are taken; the reader's methods. -/
import Derived.Test.YtdijcgjgdfhapaaTake
namespace Go.Proofs.Ytdijcgjgdfhapaa
open Go.RowKit
set_option linter.unusedVariables false

/-- How Raw leaves things: bytes in memory of their own. -/
def PRawP (w : World) (R : Nat → Prop) (g : Nat) (l : List Nat) (p : Nat) (e : Int) (r : List Nat) (x : Ending) (w' : World) : Prop :=
  ∃ v, x = .returned v ∧ Own w' w.heap.size v r ∧ PR w' R g l p e ∧ Touch R w w'
theorem PR.glt {R : Nat → Prop} {w : World} {g p : Nat} {l : List Nat} {e : Int} (h : PR w R g l p e) : g < w.heap.size ∧ R g ∧ ∀ k, R k → k < w.heap.size := by
  obtain ⟨v, hb, _, hg, _, hR, _⟩ := h
  exact ⟨hb.lt, hg, hR⟩
set_option maxHeartbeats 1000000 in
set_option maxRecDepth 100000 in
theorem take_raw (R : Nat → Prop) (g p : Nat) (l : List Nat) (b : Nat) (n : Int) (w : World) (h : PR w R g l p 0) (n0 : -9223372036854775808 ≤ n) (n1 : n ≤ 9223372036854775807) (hbl : b < w.heap.size) (hbx : w.cell? ⟨b, 0, none⟩ = some (.int .i64 n)) :
    Calls Try.prog 67 #[.pointer (some ⟨g, 0, none⟩), .func (.func 68) #[] #[.pointer (some ⟨b, 0, none⟩)]] w
      (PRawP w R g l (p + (fRaw n (l.drop p)).2.1) ((fRaw n (l.drop p)).2.2 : Int) (fRaw n (l.drop p)).1) := by
  have hp := h.at
  have hl := h.len
  have hs : (fRaw n (l.drop p)).2.1 ≤ (l.drop p).length := fRaw_size n _
  rw [List.length_drop] at hs
  have hgl := h.glt
  have H := Lib.hid h
  obtain ⟨v, hb, ho, -⟩ := h
  have h1 := hb.cell 1
  have h3 := hb.cell 3
  have hf := hb.frozen 3
  simp at h1 h3
  have hr := ho.rd
  obtain ⟨a, c, rfl, hc, -⟩ := ho.rd
  obtain ⟨u, hu, hru⟩ := cut_from w _ a l c p hr hp
  have HR := Lib.hid hru
  have hul : (l.drop p).length ≤ 100000 := by rw [List.length_drop]; omega
  clear hr ho hru hb
  by_cases he : (fRaw n (l.drop p)).2.2 ≠ 0
  · have hz := fRaw_err n _ he
    have hbe : (((fRaw n (l.drop p)).2.2 : Int) != 0) = true := by rw [bne_iff_ne]; omega
    have HP := Lib.hid (show p + (fRaw n (l.drop p)).2.1 = p by rw [hz.2]; omega)
    have HZ := Lib.hid hz.1
    have HG := Lib.hid hgl
    clear he hz hs hgl
    go_enter Try.func67, Try.ntmps67
    go_wp2_with fail
    refine (err _ 0 _ H.out.re).mono ?_
    rintro y w1 ⟨rfl, rfl⟩
    go_wp2
    go_region_held3 (fun wx => wx.cell? ⟨g, 1, none⟩ = some (.slice a l.length c) ∧ wx.cell? ⟨g, 3, none⟩ = some (.int .i64 (p : Int))) (first | exact ⟨h1, h3⟩ | exact ⟨h1', h3'⟩)
      (first
      | (go_at_call 68; refine (find_raw _ _ b n _ (HR.out.drewN 1) (by omega) n0 n1 hbl hbx).mono ?_; rintro x w1 ⟨v1, rfl, ho1, hb1⟩; have h1' : w1.cell? ⟨g, 1, none⟩ = some (.slice a l.length c) := (hb1.cell (p := ⟨g, 1, none⟩) HG.out.1).trans h1; have h3' : w1.cell? ⟨g, 3, none⟩ = some (.int .i64 (p : Int)) := (hb1.cell (p := ⟨g, 3, none⟩) HG.out.1).trans h3))
    go_wp2_with fail
    refine (held_fail R g p l _ _ (H.out.later (undrew hb1))).mono ?_
    rintro y w2 ⟨rfl, h2⟩
    have H2 := Lib.hid h2
    clear h2
    go_wp2
    go_ret
    rw [HZ.out, HP.out]
    exact ⟨_, rfl, Own.nil _ _, H2.out.1, (Touch.of_below (S := R) (undrew hb1)).trans H2.out.2 (fun k hk => .inl hk)⟩
  · have hbe : (((fRaw n (l.drop p)).2.2 : Int) != 0) = false := by rw [bne_eq_false_iff_eq]; omega
    have HE := Lib.hid (show ((fRaw n (l.drop p)).2.2 : Int) = 0 by omega)
    have HG := Lib.hid hgl
    have hg := hgl.1
    clear he hgl
    go_enter Try.func67, Try.ntmps67
    go_wp2_with fail
    refine (err _ 0 _ H.out.re).mono ?_
    rintro y w1 ⟨rfl, rfl⟩
    go_wp2
    go_region_held3 (fun wx => wx.cell? ⟨g, 1, none⟩ = some (.slice a l.length c) ∧ wx.cell? ⟨g, 3, none⟩ = some (.int .i64 (p : Int))) (first | exact ⟨h1, h3⟩ | exact ⟨h1', h3'⟩)
      (first
      | (go_at_call 68; refine (find_raw _ _ b n _ (HR.out.drewN 1) (by omega) n0 n1 hbl hbx).mono ?_; rintro x w1 ⟨v1, rfl, ho1, hb1⟩; have h1' : w1.cell? ⟨g, 1, none⟩ = some (.slice a l.length c) := (hb1.cell (p := ⟨g, 1, none⟩) HG.out.1).trans h1; have h3' : w1.cell? ⟨g, 3, none⟩ = some (.int .i64 (p : Int)) := (hb1.cell (p := ⟨g, 3, none⟩) HG.out.1).trans h3))
    have hf' : w1.frozen? ⟨g, 3, none⟩ = false := (hb1.frozen (p := ⟨g, 3, none⟩) hg).trans hf
    obtain ⟨a1, c1, e1, -⟩ := ho1.rd
    have HO := Lib.hid ho1
    subst e1
    go_wp2
    go_ret
    rw [HE.out]
    have HM := PR.moved (q := p + (fRaw n (l.drop p)).2.1) (H.out.later (undrew hb1)) (by omega)
    rw [Int.natCast_add] at HM
    refine ⟨_, rfl, HO.out.touch ((Touch.refl (fun k => k = g) w1).setCell (p := ⟨g, 3, none⟩) rfl _) (fun k hk => ?_), HM.1, (Touch.of_below (S := R) (undrew hb1)).trans HM.2 (fun k hk => .inl hk)⟩
    have hk1 : w.heap.size ≤ k := (HO.out.lt k hk).1
    omega

set_option maxHeartbeats 400000 in
set_option maxRecDepth 100000 in
theorem p_byte_stuck (v : Value) (e : Int) (w : World) (h : RE w v e) (hne : e ≠ 0) : Calls Try.prog 52 #[v] w fun x w' => x = .returned (.int .u8 0) ∧ Below w.heap.size w w' := by
  have H := Lib.hid h
  have HN := Lib.hid hne
  clear h hne
  go_enter Try.func52, Try.ntmps52
  go_wp2_with fail
  refine (take_byte_stuck v _ e _ H.out HN.out).mono ?_
  rintro y w1 ⟨rfl, rfl⟩
  go_wp2
  go_ret
  exact ⟨rfl, Below.refl _ _⟩
set_option maxHeartbeats 400000 in
set_option maxRecDepth 100000 in
theorem p_byte (R : Nat → Prop) (g p : Nat) (l : List Nat) (w : World) (h : PR w R g l p 0) : Calls Try.prog 52 #[.pointer (some ⟨g, 0, none⟩)] w (PMove w R g l (p + (fByte (l.drop p)).2.1) ((fByte (l.drop p)).2.2 : Int) (.int .u8 ((fByte (l.drop p)).1 : Int))) := by
  have H := Lib.hid h
  clear h
  go_enter Try.func52, Try.ntmps52
  go_wp2_with fail
  refine (take_byte R g p l _ H.out).mono ?_
  rintro y w1 ⟨rfl, h1, h2⟩
  have H1 := Lib.hid h1
  have H2 := Lib.hid h2
  clear h1 h2
  go_wp2
  go_ret
  exact ⟨rfl, H1.out, H2.out⟩
set_option maxHeartbeats 400000 in
set_option maxRecDepth 100000 in
theorem p_var_stuck (v : Value) (e : Int) (w : World) (h : RE w v e) (hne : e ≠ 0) : Calls Try.prog 54 #[v] w fun x w' => x = .returned (.int .u64 0) ∧ Below w.heap.size w w' := by
  have H := Lib.hid h
  have HN := Lib.hid hne
  clear h hne
  go_enter Try.func54, Try.ntmps54
  go_wp2_with fail
  refine (take_var_stuck v _ e _ H.out HN.out).mono ?_
  rintro y w1 ⟨rfl, rfl⟩
  go_wp2
  go_ret
  exact ⟨rfl, Below.refl _ _⟩
set_option maxHeartbeats 400000 in
set_option maxRecDepth 100000 in
theorem p_var (R : Nat → Prop) (g p : Nat) (l : List Nat) (w : World) (h : PR w R g l p 0) : Calls Try.prog 54 #[.pointer (some ⟨g, 0, none⟩)] w (PMove w R g l (p + (Leb.dec (l.drop p)).2.1) ((Leb.dec (l.drop p)).2.2 : Int) (.int .u64 ((Leb.dec (l.drop p)).1 : Int))) := by
  have H := Lib.hid h
  clear h
  go_enter Try.func54, Try.ntmps54
  go_wp2_with fail
  refine (take_var R g p l _ H.out).mono ?_
  rintro y w1 ⟨rfl, h1, h2⟩
  have H1 := Lib.hid h1
  have H2 := Lib.hid h2
  clear h1 h2
  go_wp2
  go_ret
  exact ⟨rfl, H1.out, H2.out⟩
set_option maxHeartbeats 400000 in
set_option maxRecDepth 100000 in
theorem p_int_stuck (v : Value) (e : Int) (w : World) (h : RE w v e) (hne : e ≠ 0) : Calls Try.prog 55 #[v] w fun x w' => x = .returned (.int .i64 0) ∧ Below w.heap.size w w' := by
  have H := Lib.hid h
  have HN := Lib.hid hne
  clear h hne
  go_enter Try.func55, Try.ntmps55
  go_wp2_with fail
  refine (take_int_stuck v _ e _ H.out HN.out).mono ?_
  rintro y w1 ⟨rfl, rfl⟩
  go_wp2
  go_ret
  exact ⟨rfl, Below.refl _ _⟩
set_option maxHeartbeats 400000 in
set_option maxRecDepth 100000 in
theorem p_int (R : Nat → Prop) (g p : Nat) (l : List Nat) (w : World) (h : PR w R g l p 0) : Calls Try.prog 55 #[.pointer (some ⟨g, 0, none⟩)] w (PMove w R g l (p + (Leb.dec (l.drop p)).2.1) ((Leb.dec (l.drop p)).2.2 : Int) (.int .i64 (decI (l.drop p)))) := by
  have H := Lib.hid h
  clear h
  go_enter Try.func55, Try.ntmps55
  go_wp2_with fail
  refine (take_int R g p l _ H.out).mono ?_
  rintro y w1 ⟨rfl, h1, h2⟩
  have H1 := Lib.hid h1
  have H2 := Lib.hid h2
  clear h1 h2
  go_wp2
  go_ret
  exact ⟨rfl, H1.out, H2.out⟩
set_option maxHeartbeats 400000 in
set_option maxRecDepth 100000 in
theorem p_word_stuck (v : Value) (e : Int) (w : World) (h : RE w v e) (hne : e ≠ 0) : Calls Try.prog 56 #[v] w fun x w' => x = .returned (.int .u32 0) ∧ Below w.heap.size w w' := by
  have H := Lib.hid h
  have HN := Lib.hid hne
  clear h hne
  go_enter Try.func56, Try.ntmps56
  go_wp2_with fail
  refine (take_word_stuck v _ e _ H.out HN.out).mono ?_
  rintro y w1 ⟨rfl, rfl⟩
  go_wp2
  go_ret
  exact ⟨rfl, Below.refl _ _⟩
set_option maxHeartbeats 400000 in
set_option maxRecDepth 100000 in
theorem p_word (R : Nat → Prop) (g p : Nat) (l : List Nat) (w : World) (h : PR w R g l p 0) : Calls Try.prog 56 #[.pointer (some ⟨g, 0, none⟩)] w (PMove w R g l (p + (fWord (l.drop p)).2.1) ((fWord (l.drop p)).2.2 : Int) (.int .u32 ((fWord (l.drop p)).1 : Int))) := by
  have H := Lib.hid h
  clear h
  go_enter Try.func56, Try.ntmps56
  go_wp2_with fail
  refine (take_word R g p l _ H.out).mono ?_
  rintro y w1 ⟨rfl, h1, h2⟩
  have H1 := Lib.hid h1
  have H2 := Lib.hid h2
  clear h1 h2
  go_wp2
  go_ret
  exact ⟨rfl, H1.out, H2.out⟩
set_option maxHeartbeats 400000 in
set_option maxRecDepth 100000 in
theorem p_text_stuck (v : Value) (e : Int) (n : Int) (w : World) (h : RE w v e) (hne : e ≠ 0) : Calls Try.prog 53 #[v, .int .i64 n] w fun x w' => x = .returned (.string ByteArray.empty) ∧ Below w.heap.size w w' := by
  have H := Lib.hid h
  have HN := Lib.hid hne
  clear h hne
  go_enter Try.func53, Try.ntmps53
  go_wp2_with fail
  refine (take_text_stuck v _ e _ (H.out.later (new_below _ _)) HN.out).mono ?_
  rintro y w1 ⟨rfl, rfl⟩
  go_wp2
  go_ret
  exact ⟨rfl, new_below _ _⟩
set_option maxHeartbeats 400000 in
set_option maxRecDepth 100000 in
theorem p_text (R : Nat → Prop) (g p : Nat) (l : List Nat) (n : Int) (w : World) (h : PR w R g l p 0) (n0 : -9223372036854775808 ≤ n) (n1 : n ≤ 9223372036854775807) : Calls Try.prog 53 #[.pointer (some ⟨g, 0, none⟩), .int .i64 n] w (PMove w R g l (p + (fText n (l.drop p)).2.1) ((fText n (l.drop p)).2.2 : Int) (.string (str (fText n (l.drop p)).1))) := by
  have H := Lib.hid h
  clear h
  have hbx : (w.alloc (.cells #[.int .i64 n] 3)).cell? ⟨w.heap.size, 0, none⟩ = some (.int .i64 n) := by simp
  have hbl : w.heap.size < (w.alloc (.cells #[.int .i64 n] 3)).heap.size := by simp
  have HX := Lib.hid hbx
  have HL := Lib.hid hbl
  clear hbx hbl
  go_enter Try.func53, Try.ntmps53
  go_wp2_with fail
  refine (take_text R g p l w.heap.size n _ (H.out.later (new_below _ _)) n0 n1 HX.out).mono ?_
  rintro y w1 ⟨rfl, h1, h2⟩
  have H1 := Lib.hid h1
  have H2 := Lib.hid h2
  clear h1 h2
  go_wp2
  go_ret
  exact ⟨rfl, H1.out, (Touch.of_below (S := R) (new_below _ _)).trans H2.out (fun k hk => .inl hk)⟩
set_option maxHeartbeats 400000 in
set_option maxRecDepth 100000 in
theorem p_raw_stuck (v : Value) (e : Int) (n : Int) (w : World) (h : RE w v e) (hne : e ≠ 0) : Calls Try.prog 34 #[v, .int .i64 n] w fun x w' => x = .returned (.slice none 0 0) ∧ Below w.heap.size w w' := by
  have H := Lib.hid h
  have HN := Lib.hid hne
  clear h hne
  go_enter Try.func34, Try.ntmps34
  go_wp2_with fail
  refine (take_raw_stuck v _ e _ (H.out.later (new_below _ _)) HN.out).mono ?_
  rintro y w1 ⟨rfl, rfl⟩
  go_wp2
  go_ret
  exact ⟨rfl, new_below _ _⟩
set_option maxHeartbeats 400000 in
set_option maxRecDepth 100000 in
theorem p_raw (R : Nat → Prop) (g p : Nat) (l : List Nat) (n : Int) (w : World) (h : PR w R g l p 0) (n0 : -9223372036854775808 ≤ n) (n1 : n ≤ 9223372036854775807) : Calls Try.prog 34 #[.pointer (some ⟨g, 0, none⟩), .int .i64 n] w (PRawP w R g l (p + (fRaw n (l.drop p)).2.1) ((fRaw n (l.drop p)).2.2 : Int) (fRaw n (l.drop p)).1) := by
  have H := Lib.hid h
  clear h
  have hbx : (w.alloc (.cells #[.int .i64 n] 3)).cell? ⟨w.heap.size, 0, none⟩ = some (.int .i64 n) := by simp
  have hbl : w.heap.size < (w.alloc (.cells #[.int .i64 n] 3)).heap.size := by simp
  have HX := Lib.hid hbx
  have HL := Lib.hid hbl
  clear hbx hbl
  go_enter Try.func34, Try.ntmps34
  go_wp2_with fail
  refine (take_raw R g p l w.heap.size n _ (H.out.later (new_below _ _)) n0 n1 HL.out HX.out).mono ?_
  rintro y w1 ⟨v1, rfl, ho1, h1, h2⟩
  have HO := Lib.hid ho1
  have H1 := Lib.hid h1
  have H2 := Lib.hid h2
  clear ho1 h1 h2
  go_wp2
  go_ret
  exact ⟨v1, rfl, HO.out.lower (new_below _ _).size, H1.out, (Touch.of_below (S := R) (new_below _ _)).trans H2.out (fun k hk => .inl hk)⟩
end Go.Proofs.Ytdijcgjgdfhapaa
