/- A piece is taken by the program's generic function, at each type. -/
import Derived.Test.YtdijcgjgdfhapaaFind
namespace Go.Proofs.Ytdijcgjgdfhapaa
open Go.RowKit
set_option linter.unusedVariables false

theorem fByte_err (r : List Nat) (h : (fByte r).2.2 ≠ 0) : (fByte r).1 = 0 ∧ (fByte r).2.1 = 0 := by
  unfold fByte at *; split at h <;> simp_all
theorem fWord_err (r : List Nat) (h : (fWord r).2.2 ≠ 0) : (fWord r).1 = 0 ∧ (fWord r).2.1 = 0 := by
  unfold fWord at *; split at h <;> simp_all
theorem fRaw_err (n : Int) (r : List Nat) (h : (fRaw n r).2.2 ≠ 0) : (fRaw n r).1 = [] ∧ (fRaw n r).2.1 = 0 := by
  unfold fRaw at *
  by_cases h1 : n < 0
  · rw [if_pos h1]; exact ⟨rfl, rfl⟩
  · rw [if_neg h1] at h ⊢
    by_cases h2 : (r.length : Int) < n
    · rw [if_pos h2]; exact ⟨rfl, rfl⟩
    · rw [if_neg h2] at h; exact absurd rfl h
theorem fText_err (m : Int) (r : List Nat) (h : (fText m r).2.2 ≠ 0) : (fText m r).1 = [] ∧ (fText m r).2.1 = 0 := by
  unfold fText at *
  by_cases h0 : (Leb.dec r).2.2 ≠ 0
  · rw [if_pos h0]; exact ⟨rfl, rfl⟩
  · rw [if_neg h0] at h ⊢
    by_cases h1 : m < 0 ∨ m < ((Leb.dec r).1 : Int)
    · rw [if_pos h1]; exact ⟨rfl, rfl⟩
    · rw [if_neg h1] at h ⊢
      by_cases h2 : r.length - (Leb.dec r).2.1 < (Leb.dec r).1
      · rw [if_pos h2]; exact ⟨rfl, rfl⟩
      · rw [if_neg h2] at h; exact absurd rfl h
theorem decI_err (r : List Nat) (h : (Leb.dec r).2.2 ≠ 0) : decI r = 0 := by unfold decI; rw [if_neg h]
theorem fByte_size (r : List Nat) : (fByte r).2.1 ≤ r.length := by unfold fByte; split <;> simp <;> omega
theorem fWord_size (r : List Nat) : (fWord r).2.1 ≤ r.length := by unfold fWord; split <;> simp <;> omega
theorem fRaw_size (n : Int) (r : List Nat) : (fRaw n r).2.1 ≤ r.length := by
  by_cases h : (fRaw n r).2.2 = 0
  · unfold fRaw at *
    by_cases h1 : n < 0
    · rw [if_pos h1]; simp
    · rw [if_neg h1]
      by_cases h2 : (r.length : Int) < n
      · rw [if_pos h2]; simp
      · rw [if_neg h2]; simp; omega
  · rw [(fRaw_err n r h).2]; omega
theorem fText_size (m : Int) (r : List Nat) (hb : ∀ x ∈ r, x < 256) : (fText m r).2.1 ≤ r.length := by
  by_cases h : (fText m r).2.2 = 0
  · have hs := dec_size r hb
    unfold fText at *
    by_cases h0 : (Leb.dec r).2.2 ≠ 0
    · rw [if_pos h0]; simp
    · rw [if_neg h0]
      by_cases h1 : m < 0 ∨ m < ((Leb.dec r).1 : Int)
      · rw [if_pos h1]; simp
      · rw [if_neg h1]
        by_cases h2 : r.length - (Leb.dec r).2.1 < (Leb.dec r).1
        · rw [if_pos h2]; simp
        · rw [if_neg h2]; simp; omega
  · rw [(fText_err m r h).2]; omega
theorem mem_drop {l : List Nat} {p : Nat} (hb : ∀ x ∈ l, x < 256) : ∀ x ∈ l.drop p, x < 256 := fun x hx => hb x (List.mem_of_mem_drop hx)

set_option maxHeartbeats 400000 in
set_option maxRecDepth 100000 in
theorem take_byte_stuck (v f : Value) (e : Int) (w : World) (h : RE w v e) (hne : e ≠ 0) : Calls Try.prog 75 #[v, f] w fun x w' => x = .returned (.int .u8 0) ∧ w = w' := by
  have hb : (e != 0) = true := by simpa using hne
  have H := Lib.hid h
  clear h hne
  go_enter Try.func75, Try.ntmps75
  go_wp2_with fail
  refine (err v e _ H.out).mono ?_
  rintro y w1 ⟨rfl, rfl⟩
  go_wp2
  go_ret
  exact ⟨rfl, rfl⟩
set_option maxHeartbeats 1000000 in
set_option maxRecDepth 100000 in
theorem take_byte (R : Nat → Prop) (g p : Nat) (l : List Nat) (w : World) (h : PR w R g l p 0) :
    Calls Try.prog 75 #[.pointer (some ⟨g, 0, none⟩), .func (.func 76) #[] #[]] w (PMove w R g l (p + (fByte (l.drop p)).2.1) ((fByte (l.drop p)).2.2 : Int) (.int .u8 ((fByte (l.drop p)).1 : Int))) := by
  have hp := h.at
  have hl := h.len
  have hs : (fByte (l.drop p)).2.1 ≤ (l.drop p).length := fByte_size _
  rw [List.length_drop] at hs
  have H := Lib.hid h
  obtain ⟨v, hb, ho, -⟩ := h
  have h1 := hb.cell 1
  have h3 := hb.cell 3
  have hf := hb.frozen 3
  simp at h1 h3
  have hr := ho.rd
  obtain ⟨a, c, rfl, hc, -⟩ := ho.rd
  obtain ⟨u, hu, hru⟩ := cut_from w _ a l c p hr hp
  have HR := Lib.hid hru
  have hul : (l.drop p).length ≤ 100000 := by rw [List.length_drop]; omega
  clear hr ho hru hb
  by_cases he : (fByte (l.drop p)).2.2 ≠ 0
  · have hz := fByte_err _ he
    have hbe : (((fByte (l.drop p)).2.2 : Int) != 0) = true := by rw [bne_iff_ne]; omega
    have HZ := Lib.hid (show .int .u8 ((fByte (l.drop p)).1 : Int) = (.int .u8 0 : Value) from by rw [hz.1]; rfl)
    have HP := Lib.hid (show p + (fByte (l.drop p)).2.1 = p by rw [hz.2]; omega)
    clear he hz hs
    go_enter Try.func75, Try.ntmps75
    go_wp2_with fail
    refine (err _ 0 _ H.out.re).mono ?_
    rintro y w1 ⟨rfl, rfl⟩
    go_wp2
    go_quiet ((go_at_call 76; exact Calls.quiet_of_same ((find_byte _ _ _ (HR.out.drewN _)).mono (fun _ _ h => ⟨h.1, h.2.symm⟩))))
    go_wp2_with fail
    refine (held_fail R g p l _ _ (H.out.drewN _)).mono ?_
    rintro y w1 ⟨rfl, h2⟩
    have H2 := Lib.hid h2
    clear h2
    go_wp2
    go_ret
    rw [HZ.out, HP.out]
    exact ⟨rfl, H2.out.1, H2.out.2.undrewN⟩
  · have hbe : (((fByte (l.drop p)).2.2 : Int) != 0) = false := by rw [bne_eq_false_iff_eq]; omega
    have HE := Lib.hid (show ((fByte (l.drop p)).2.2 : Int) = 0 by omega)
    clear he
    go_enter Try.func75, Try.ntmps75
    go_wp2_with fail
    refine (err _ 0 _ H.out.re).mono ?_
    rintro y w1 ⟨rfl, rfl⟩
    go_wp2
    go_quiet ((go_at_call 76; exact Calls.quiet_of_same ((find_byte _ _ _ (HR.out.drewN _)).mono (fun _ _ h => ⟨h.1, h.2.symm⟩))))
    go_wp2
    go_ret
    rw [HE.out]
    have HM := PR.moved (q := p + (fByte (l.drop p)).2.1) (H.out.drewN nq) (by omega)
    rw [Int.natCast_add] at HM
    exact ⟨rfl, HM.1, HM.2.undrewN⟩
set_option maxHeartbeats 400000 in
set_option maxRecDepth 100000 in
theorem take_var_stuck (v f : Value) (e : Int) (w : World) (h : RE w v e) (hne : e ≠ 0) : Calls Try.prog 80 #[v, f] w fun x w' => x = .returned (.int .u64 0) ∧ w = w' := by
  have hb : (e != 0) = true := by simpa using hne
  have H := Lib.hid h
  clear h hne
  go_enter Try.func80, Try.ntmps80
  go_wp2_with fail
  refine (err v e _ H.out).mono ?_
  rintro y w1 ⟨rfl, rfl⟩
  go_wp2
  go_ret
  exact ⟨rfl, rfl⟩
set_option maxHeartbeats 1000000 in
set_option maxRecDepth 100000 in
theorem take_var (R : Nat → Prop) (g p : Nat) (l : List Nat) (w : World) (h : PR w R g l p 0) :
    Calls Try.prog 80 #[.pointer (some ⟨g, 0, none⟩), .func (.func 81) #[] #[]] w (PMove w R g l (p + (Leb.dec (l.drop p)).2.1) ((Leb.dec (l.drop p)).2.2 : Int) (.int .u64 ((Leb.dec (l.drop p)).1 : Int))) := by
  have hp := h.at
  have hl := h.len
  have hs : (Leb.dec (l.drop p)).2.1 ≤ (l.drop p).length := dec_size _ (mem_drop h.bytes)
  rw [List.length_drop] at hs
  have H := Lib.hid h
  obtain ⟨v, hb, ho, -⟩ := h
  have h1 := hb.cell 1
  have h3 := hb.cell 3
  have hf := hb.frozen 3
  simp at h1 h3
  have hr := ho.rd
  obtain ⟨a, c, rfl, hc, -⟩ := ho.rd
  obtain ⟨u, hu, hru⟩ := cut_from w _ a l c p hr hp
  have HR := Lib.hid hru
  have hul : (l.drop p).length ≤ 100000 := by rw [List.length_drop]; omega
  clear hr ho hru hb
  by_cases he : (Leb.dec (l.drop p)).2.2 ≠ 0
  · have hz := Leb.dec_err _ he
    have hbe : (((Leb.dec (l.drop p)).2.2 : Int) != 0) = true := by rw [bne_iff_ne]; omega
    have HZ := Lib.hid (show .int .u64 ((Leb.dec (l.drop p)).1 : Int) = (.int .u64 0 : Value) from by rw [hz.1]; rfl)
    have HP := Lib.hid (show p + (Leb.dec (l.drop p)).2.1 = p by rw [hz.2]; omega)
    clear he hz hs
    go_enter Try.func80, Try.ntmps80
    go_wp2_with fail
    refine (err _ 0 _ H.out.re).mono ?_
    rintro y w1 ⟨rfl, rfl⟩
    go_wp2
    go_quiet ((go_at_call 81; exact Calls.quiet_of_same ((find_var _ _ _ (HR.out.drewN _)).mono (fun _ _ h => ⟨h.1, h.2.symm⟩))))
    go_wp2_with fail
    refine (held_fail R g p l _ _ (H.out.drewN _)).mono ?_
    rintro y w1 ⟨rfl, h2⟩
    have H2 := Lib.hid h2
    clear h2
    go_wp2
    go_ret
    rw [HZ.out, HP.out]
    exact ⟨rfl, H2.out.1, H2.out.2.undrewN⟩
  · have hbe : (((Leb.dec (l.drop p)).2.2 : Int) != 0) = false := by rw [bne_eq_false_iff_eq]; omega
    have HE := Lib.hid (show ((Leb.dec (l.drop p)).2.2 : Int) = 0 by omega)
    clear he
    go_enter Try.func80, Try.ntmps80
    go_wp2_with fail
    refine (err _ 0 _ H.out.re).mono ?_
    rintro y w1 ⟨rfl, rfl⟩
    go_wp2
    go_quiet ((go_at_call 81; exact Calls.quiet_of_same ((find_var _ _ _ (HR.out.drewN _)).mono (fun _ _ h => ⟨h.1, h.2.symm⟩))))
    go_wp2
    go_ret
    rw [HE.out]
    have HM := PR.moved (q := p + (Leb.dec (l.drop p)).2.1) (H.out.drewN nq) (by omega)
    rw [Int.natCast_add] at HM
    exact ⟨rfl, HM.1, HM.2.undrewN⟩
set_option maxHeartbeats 400000 in
set_option maxRecDepth 100000 in
theorem take_int_stuck (v f : Value) (e : Int) (w : World) (h : RE w v e) (hne : e ≠ 0) : Calls Try.prog 82 #[v, f] w fun x w' => x = .returned (.int .i64 0) ∧ w = w' := by
  have hb : (e != 0) = true := by simpa using hne
  have H := Lib.hid h
  clear h hne
  go_enter Try.func82, Try.ntmps82
  go_wp2_with fail
  refine (err v e _ H.out).mono ?_
  rintro y w1 ⟨rfl, rfl⟩
  go_wp2
  go_ret
  exact ⟨rfl, rfl⟩
set_option maxHeartbeats 1000000 in
set_option maxRecDepth 100000 in
theorem take_int (R : Nat → Prop) (g p : Nat) (l : List Nat) (w : World) (h : PR w R g l p 0) :
    Calls Try.prog 82 #[.pointer (some ⟨g, 0, none⟩), .func (.func 83) #[] #[]] w (PMove w R g l (p + (Leb.dec (l.drop p)).2.1) ((Leb.dec (l.drop p)).2.2 : Int) (.int .i64 (decI (l.drop p)))) := by
  have hp := h.at
  have hl := h.len
  have hs : (Leb.dec (l.drop p)).2.1 ≤ (l.drop p).length := dec_size _ (mem_drop h.bytes)
  rw [List.length_drop] at hs
  have H := Lib.hid h
  obtain ⟨v, hb, ho, -⟩ := h
  have h1 := hb.cell 1
  have h3 := hb.cell 3
  have hf := hb.frozen 3
  simp at h1 h3
  have hr := ho.rd
  obtain ⟨a, c, rfl, hc, -⟩ := ho.rd
  obtain ⟨u, hu, hru⟩ := cut_from w _ a l c p hr hp
  have HR := Lib.hid hru
  have hul : (l.drop p).length ≤ 100000 := by rw [List.length_drop]; omega
  clear hr ho hru hb
  by_cases he : (Leb.dec (l.drop p)).2.2 ≠ 0
  · have hz := Leb.dec_err _ he
    have hbe : (((Leb.dec (l.drop p)).2.2 : Int) != 0) = true := by rw [bne_iff_ne]; omega
    have HZ := Lib.hid (show .int .i64 (decI (l.drop p)) = (.int .i64 0 : Value) from by rw [decI_err _ he])
    have HP := Lib.hid (show p + (Leb.dec (l.drop p)).2.1 = p by rw [hz.2]; omega)
    clear he hz hs
    go_enter Try.func82, Try.ntmps82
    go_wp2_with fail
    refine (err _ 0 _ H.out.re).mono ?_
    rintro y w1 ⟨rfl, rfl⟩
    go_wp2
    go_quiet ((go_at_call 83; exact Calls.quiet_of_same ((find_int _ _ _ (HR.out.drewN _)).mono (fun _ _ h => ⟨h.1, h.2.symm⟩))))
    go_wp2_with fail
    refine (held_fail R g p l _ _ (H.out.drewN _)).mono ?_
    rintro y w1 ⟨rfl, h2⟩
    have H2 := Lib.hid h2
    clear h2
    go_wp2
    go_ret
    rw [HZ.out, HP.out]
    exact ⟨rfl, H2.out.1, H2.out.2.undrewN⟩
  · have hbe : (((Leb.dec (l.drop p)).2.2 : Int) != 0) = false := by rw [bne_eq_false_iff_eq]; omega
    have HE := Lib.hid (show ((Leb.dec (l.drop p)).2.2 : Int) = 0 by omega)
    clear he
    go_enter Try.func82, Try.ntmps82
    go_wp2_with fail
    refine (err _ 0 _ H.out.re).mono ?_
    rintro y w1 ⟨rfl, rfl⟩
    go_wp2
    go_quiet ((go_at_call 83; exact Calls.quiet_of_same ((find_int _ _ _ (HR.out.drewN _)).mono (fun _ _ h => ⟨h.1, h.2.symm⟩))))
    go_wp2
    go_ret
    rw [HE.out]
    have HM := PR.moved (q := p + (Leb.dec (l.drop p)).2.1) (H.out.drewN nq) (by omega)
    rw [Int.natCast_add] at HM
    exact ⟨rfl, HM.1, HM.2.undrewN⟩
set_option maxHeartbeats 400000 in
set_option maxRecDepth 100000 in
theorem take_word_stuck (v f : Value) (e : Int) (w : World) (h : RE w v e) (hne : e ≠ 0) : Calls Try.prog 85 #[v, f] w fun x w' => x = .returned (.int .u32 0) ∧ w = w' := by
  have hb : (e != 0) = true := by simpa using hne
  have H := Lib.hid h
  clear h hne
  go_enter Try.func85, Try.ntmps85
  go_wp2_with fail
  refine (err v e _ H.out).mono ?_
  rintro y w1 ⟨rfl, rfl⟩
  go_wp2
  go_ret
  exact ⟨rfl, rfl⟩
set_option maxHeartbeats 1000000 in
set_option maxRecDepth 100000 in
theorem take_word (R : Nat → Prop) (g p : Nat) (l : List Nat) (w : World) (h : PR w R g l p 0) :
    Calls Try.prog 85 #[.pointer (some ⟨g, 0, none⟩), .func (.func 86) #[] #[]] w (PMove w R g l (p + (fWord (l.drop p)).2.1) ((fWord (l.drop p)).2.2 : Int) (.int .u32 ((fWord (l.drop p)).1 : Int))) := by
  have hp := h.at
  have hl := h.len
  have hs : (fWord (l.drop p)).2.1 ≤ (l.drop p).length := fWord_size _
  rw [List.length_drop] at hs
  have H := Lib.hid h
  obtain ⟨v, hb, ho, -⟩ := h
  have h1 := hb.cell 1
  have h3 := hb.cell 3
  have hf := hb.frozen 3
  simp at h1 h3
  have hr := ho.rd
  obtain ⟨a, c, rfl, hc, -⟩ := ho.rd
  obtain ⟨u, hu, hru⟩ := cut_from w _ a l c p hr hp
  have HR := Lib.hid hru
  have hul : (l.drop p).length ≤ 100000 := by rw [List.length_drop]; omega
  clear hr ho hru hb
  by_cases he : (fWord (l.drop p)).2.2 ≠ 0
  · have hz := fWord_err _ he
    have hbe : (((fWord (l.drop p)).2.2 : Int) != 0) = true := by rw [bne_iff_ne]; omega
    have HZ := Lib.hid (show .int .u32 ((fWord (l.drop p)).1 : Int) = (.int .u32 0 : Value) from by rw [hz.1]; rfl)
    have HP := Lib.hid (show p + (fWord (l.drop p)).2.1 = p by rw [hz.2]; omega)
    clear he hz hs
    go_enter Try.func85, Try.ntmps85
    go_wp2_with fail
    refine (err _ 0 _ H.out.re).mono ?_
    rintro y w1 ⟨rfl, rfl⟩
    go_wp2
    go_quiet ((go_at_call 86; exact Calls.quiet_of_same ((find_word _ _ _ (HR.out.drewN _)).mono (fun _ _ h => ⟨h.1, h.2.symm⟩))))
    go_wp2_with fail
    refine (held_fail R g p l _ _ (H.out.drewN _)).mono ?_
    rintro y w1 ⟨rfl, h2⟩
    have H2 := Lib.hid h2
    clear h2
    go_wp2
    go_ret
    rw [HZ.out, HP.out]
    exact ⟨rfl, H2.out.1, H2.out.2.undrewN⟩
  · have hbe : (((fWord (l.drop p)).2.2 : Int) != 0) = false := by rw [bne_eq_false_iff_eq]; omega
    have HE := Lib.hid (show ((fWord (l.drop p)).2.2 : Int) = 0 by omega)
    clear he
    go_enter Try.func85, Try.ntmps85
    go_wp2_with fail
    refine (err _ 0 _ H.out.re).mono ?_
    rintro y w1 ⟨rfl, rfl⟩
    go_wp2
    go_quiet ((go_at_call 86; exact Calls.quiet_of_same ((find_word _ _ _ (HR.out.drewN _)).mono (fun _ _ h => ⟨h.1, h.2.symm⟩))))
    go_wp2
    go_ret
    rw [HE.out]
    have HM := PR.moved (q := p + (fWord (l.drop p)).2.1) (H.out.drewN nq) (by omega)
    rw [Int.natCast_add] at HM
    exact ⟨rfl, HM.1, HM.2.undrewN⟩
set_option maxHeartbeats 400000 in
set_option maxRecDepth 100000 in
theorem take_text_stuck (v f : Value) (e : Int) (w : World) (h : RE w v e) (hne : e ≠ 0) : Calls Try.prog 77 #[v, f] w fun x w' => x = .returned (.string ByteArray.empty) ∧ w = w' := by
  have hb : (e != 0) = true := by simpa using hne
  have H := Lib.hid h
  clear h hne
  go_enter Try.func77, Try.ntmps77
  go_wp2_with fail
  refine (err v e _ H.out).mono ?_
  rintro y w1 ⟨rfl, rfl⟩
  go_wp2
  go_ret
  exact ⟨rfl, rfl⟩
set_option maxHeartbeats 1000000 in
set_option maxRecDepth 100000 in
theorem take_text (R : Nat → Prop) (g p : Nat) (l : List Nat) (b : Nat) (n : Int) (w : World) (h : PR w R g l p 0) (n0 : -9223372036854775808 ≤ n) (n1 : n ≤ 9223372036854775807) (hbx : w.cell? ⟨b, 0, none⟩ = some (.int .i64 n)) :
    Calls Try.prog 77 #[.pointer (some ⟨g, 0, none⟩), .func (.func 78) #[] #[.pointer (some ⟨b, 0, none⟩)]] w (PMove w R g l (p + (fText n (l.drop p)).2.1) ((fText n (l.drop p)).2.2 : Int) (.string (str (fText n (l.drop p)).1))) := by
  have hp := h.at
  have hl := h.len
  have hs : (fText n (l.drop p)).2.1 ≤ (l.drop p).length := fText_size n _ (mem_drop h.bytes)
  rw [List.length_drop] at hs
  have H := Lib.hid h
  obtain ⟨v, hb, ho, -⟩ := h
  have h1 := hb.cell 1
  have h3 := hb.cell 3
  have hf := hb.frozen 3
  simp at h1 h3
  have hr := ho.rd
  obtain ⟨a, c, rfl, hc, -⟩ := ho.rd
  obtain ⟨u, hu, hru⟩ := cut_from w _ a l c p hr hp
  have HR := Lib.hid hru
  have hul : (l.drop p).length ≤ 100000 := by rw [List.length_drop]; omega
  clear hr ho hru hb
  by_cases he : (fText n (l.drop p)).2.2 ≠ 0
  · have hz := fText_err n _ he
    have hbe : (((fText n (l.drop p)).2.2 : Int) != 0) = true := by rw [bne_iff_ne]; omega
    have HZ := Lib.hid (show .string (str (fText n (l.drop p)).1) = (.string ByteArray.empty : Value) from by rw [hz.1]; exact congrArg Value.string (by decide +kernel))
    have HP := Lib.hid (show p + (fText n (l.drop p)).2.1 = p by rw [hz.2]; omega)
    clear he hz hs
    go_enter Try.func77, Try.ntmps77
    go_wp2_with fail
    refine (err _ 0 _ H.out.re).mono ?_
    rintro y w1 ⟨rfl, rfl⟩
    go_wp2
    go_quiet ((go_at_call 78; exact Calls.quiet_of_same ((find_text _ _ b n _ (HR.out.drewN _) (by omega) n0 n1 hbx).mono (fun _ _ h => ⟨h.1, h.2.symm⟩))))
    go_wp2_with fail
    refine (held_fail R g p l _ _ (H.out.drewN _)).mono ?_
    rintro y w1 ⟨rfl, h2⟩
    have H2 := Lib.hid h2
    clear h2
    go_wp2
    go_ret
    rw [HZ.out, HP.out]
    exact ⟨rfl, H2.out.1, H2.out.2.undrewN⟩
  · have hbe : (((fText n (l.drop p)).2.2 : Int) != 0) = false := by rw [bne_eq_false_iff_eq]; omega
    have HE := Lib.hid (show ((fText n (l.drop p)).2.2 : Int) = 0 by omega)
    clear he
    go_enter Try.func77, Try.ntmps77
    go_wp2_with fail
    refine (err _ 0 _ H.out.re).mono ?_
    rintro y w1 ⟨rfl, rfl⟩
    go_wp2
    go_quiet ((go_at_call 78; exact Calls.quiet_of_same ((find_text _ _ b n _ (HR.out.drewN _) (by omega) n0 n1 hbx).mono (fun _ _ h => ⟨h.1, h.2.symm⟩))))
    go_wp2
    go_ret
    rw [HE.out]
    have HM := PR.moved (q := p + (fText n (l.drop p)).2.1) (H.out.drewN nq) (by omega)
    rw [Int.natCast_add] at HM
    exact ⟨rfl, HM.1, HM.2.undrewN⟩
set_option maxHeartbeats 400000 in
set_option maxRecDepth 100000 in
theorem take_raw_stuck (v f : Value) (e : Int) (w : World) (h : RE w v e) (hne : e ≠ 0) : Calls Try.prog 67 #[v, f] w fun x w' => x = .returned (.slice none 0 0) ∧ w = w' := by
  have hb : (e != 0) = true := by simpa using hne
  have H := Lib.hid h
  clear h hne
  go_enter Try.func67, Try.ntmps67
  go_wp2_with fail
  refine (err v e _ H.out).mono ?_
  rintro y w1 ⟨rfl, rfl⟩
  go_wp2
  go_ret
  exact ⟨rfl, rfl⟩
end Go.Proofs.Ytdijcgjgdfhapaa
