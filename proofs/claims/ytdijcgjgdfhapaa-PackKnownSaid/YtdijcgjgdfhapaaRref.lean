/- The reference's readers: Raw, Byte, Word, Var, Int, Text. -/
import Derived.Test.YtdijcgjgdfhapaaTraw
namespace Go.Proofs.Ytdijcgjgdfhapaa
open Go.RowKit
set_option linter.unusedVariables false

theorem QR.c1 {R : Nat → Prop} {w : World} {g p : Nat} {l : List Nat} {e : Int} (h : QR w R g l p e) : w.cell? ⟨g, 1, none⟩ = some (.int .i64 (p : Int)) := by
  obtain ⟨v, hb, -⟩ := h
  have := hb.cell 1
  simpa using this
theorem QR.c2 {R : Nat → Prop} {w : World} {g p : Nat} {l : List Nat} {e : Int} (h : QR w R g l p e) : w.cell? ⟨g, 2, none⟩ = some (.int .i64 e) := by
  obtain ⟨v, hb, -⟩ := h
  have := hb.cell 2
  simpa using this
theorem QR.f1 {R : Nat → Prop} {w : World} {g p : Nat} {l : List Nat} {e : Int} (h : QR w R g l p e) : w.frozen? ⟨g, 1, none⟩ = false := by
  obtain ⟨v, hb, -⟩ := h
  exact hb.frozen 1
theorem QR.glt {R : Nat → Prop} {w : World} {g p : Nat} {l : List Nat} {e : Int} (h : QR w R g l p e) : g < w.heap.size ∧ R g ∧ ∀ k, R k → k < w.heap.size := by
  obtain ⟨v, hb, _, hg, _, hR, _⟩ := h
  exact ⟨hb.lt, hg, hR⟩
theorem QR.bytes {R : Nat → Prop} {w : World} {g p : Nat} {l : List Nat} {e : Int} (h : QR w R g l p e) : ∀ x ∈ l, x < 256 := by obtain ⟨v, _, ho, _⟩ := h; exact ho.2
def RestR (w : World) (r : List Nat) (x : Ending) (w' : World) : Prop := ∃ a c n, x = .returned (.slice a r.length c) ∧ w' = w.drewN n ∧ Rd w w.heap.size (.slice a r.length c) r
theorem rrest_r (R : Nat → Prop) (g p : Nat) (l r : List Nat) (e : Int) (w : World) (h : QR w R g l p e) (hr : l.drop p = r) :
    Calls Try.prog 64 #[.pointer (some ⟨g, 0, none⟩)] w (RestR w r) := by
  subst hr
  refine (rrest R g p l e w h).mono fun x w' hx => ?_
  obtain ⟨u, n, rfl, rfl, hu⟩ := hx
  obtain ⟨a, c, rfl, -⟩ := id hu
  exact ⟨a, c, n, rfl, rfl, hu⟩
/-- How the reference's Raw leaves things. -/
def QRawP (w : World) (R : Nat → Prop) (g : Nat) (l : List Nat) (p : Nat) (e : Int) (r : List Nat) (x : Ending) (w' : World) : Prop :=
  ∃ a c, x = .returned (.slice a r.length c) ∧ Own w' w.heap.size (.slice a r.length c) r ∧ QR w' R g l p e ∧ Touch R w w'
set_option maxHeartbeats 1000000 in
set_option maxRecDepth 100000 in
theorem rraw_stuck (R : Nat → Prop) (g p : Nat) (l : List Nat) (e n : Int) (w : World) (h : QR w R g l p e) (hne : e ≠ 0) :
    Calls Try.prog 61 #[.pointer (some ⟨g, 0, none⟩), .int .i64 n] w (QRawP w R g l p e []) := by
  have hbe : (e != 0) = true := by simpa using hne
  have H := Lib.hid h
  have HN := Lib.hid hne
  clear hne h
  by_cases hneg : n < 0
  · go_enter Try.func61, Try.ntmps61
    go_wp2_with fail
    refine (rfail_stuck R g p l e 6 _ H.out HN.out).mono ?_
    rintro x w1 ⟨rfl, h1, ht⟩
    have c2 := h1.c2
    have H1 := Lib.hid h1
    clear h1
    go_wp2
    go_ret
    exact ⟨_, _, rfl, Own.nil _ _, H1.out, ht⟩
  · by_cases hgt : ((l.drop p).length : Int) < n
    · generalize hr : l.drop p = r at *
      have HR := Lib.hid hr
      clear hr
      go_enter Try.func61, Try.ntmps61
      go_wp2_with fail
      refine (rrest_r R g p l r e _ H.out HR.out).mono ?_
      rintro x w1 ⟨a, c, k, rfl, rfl, -⟩
      go_wp2_with fail
      refine (rfail_stuck R g p l e 3 _ (H.out.drewN k) HN.out).mono ?_
      rintro x w1 ⟨rfl, h1, ht⟩
      have c2 := h1.c2
      have H1 := Lib.hid h1
      clear h1
      go_wp2
      go_ret
      exact ⟨_, _, rfl, Own.nil _ _, H1.out, ht.undrewN⟩
    · have c2 := H.out.c2
      generalize hr : l.drop p = r at *
      have HR := Lib.hid hr
      clear hr
      go_enter Try.func61, Try.ntmps61
      go_wp2_with fail
      refine (rrest_r R g p l r e _ H.out HR.out).mono ?_
      rintro x w1 ⟨a, c, k, rfl, rfl, -⟩
      go_wp2
      go_ret
      exact ⟨_, _, rfl, Own.nil _ _, H.out.drewN k, (Touch.refl R w).drewN k⟩
set_option maxHeartbeats 1000000 in
set_option maxRecDepth 100000 in
theorem rraw_live (R : Nat → Prop) (g p : Nat) (l : List Nat) (n : Int) (w : World) (h : QR w R g l p 0) :
    Calls Try.prog 61 #[.pointer (some ⟨g, 0, none⟩), .int .i64 n] w (QRawP w R g l (p + (fRaw n (l.drop p)).2.1) ((fRaw n (l.drop p)).2.2 : Int) (fRaw n (l.drop p)).1) := by
  have hl := h.len
  have hp := h.at
  have hgl := h.glt.1
  have hdl : (l.drop p).length = l.length - p := List.length_drop
  have H := Lib.hid h
  clear h
  generalize hr : l.drop p = r at *
  have HR := Lib.hid hr
  have HDL := Lib.hid hdl
  have hrl : r.length ≤ 100000 := by omega
  clear hr hdl
  by_cases hneg : n < 0
  · have HF := Lib.hid (show fRaw n r = ([], 0, 6) by unfold fRaw; rw [if_pos hneg])
    go_enter Try.func61, Try.ntmps61
    go_wp2_with fail
    refine (rfail_live R g p l 6 _ H.out).mono ?_
    rintro x w1 ⟨rfl, h1, ht⟩
    have c2 := h1.c2
    have H1 := Lib.hid h1
    clear h1
    go_wp2
    go_ret
    rw [HF.out]
    exact ⟨_, _, rfl, Own.nil _ _, H1.out, ht⟩
  · by_cases hgt : (r.length : Int) < n
    · have HF := Lib.hid (show fRaw n r = ([], 0, 3) by unfold fRaw; rw [if_neg hneg, if_pos hgt])
      go_enter Try.func61, Try.ntmps61
      go_wp2_with fail
      refine (rrest_r R g p l r 0 _ H.out HR.out).mono ?_
      rintro x w1 ⟨a, c, k, rfl, rfl, -⟩
      go_wp2_with fail
      refine (rfail_live R g p l 3 _ (H.out.drewN k)).mono ?_
      rintro x w1 ⟨rfl, h1, ht⟩
      have c2 := h1.c2
      have H1 := Lib.hid h1
      clear h1
      go_wp2
      go_ret
      rw [HF.out]
      exact ⟨_, _, rfl, Own.nil _ _, H1.out, ht.undrewN⟩
    · have HF := Lib.hid (show fRaw n r = (r.take n.toNat, n.toNat, 0) by unfold fRaw; rw [if_neg hneg, if_neg hgt])
      obtain ⟨m, rfl⟩ := Int.eq_ofNat_of_zero_le (show 0 ≤ n by omega)
      rw [Int.toNat_natCast] at HF
      have c2 := H.out.c2
      have hml : m ≤ r.length := by omega
      have htl : (r.take m).length ≤ 100000 := by rw [List.length_take]; omega
      have c1 := H.out.c1
      have f1 := H.out.f1
      go_enter Try.func61, Try.ntmps61
      go_wp2_with fail
      refine (rrest_r R g p l r 0 _ H.out HR.out).mono ?_
      rintro x w1 ⟨a, c, k, rfl, rfl, -⟩
      go_wp2_with fail
      refine (rrest_r R g p l r 0 _ (H.out.drewN k) HR.out).mono ?_
      rintro x w1 ⟨a2, c2', k2, rfl, rfl, hr2⟩
      obtain ⟨u, hu, hru⟩ := cut_to _ _ a2 r c2' m hr2 hml
      have HU := Lib.hid hru
      clear hru hr2
      go_wp2_with fail
      refine (copyBytes u _ _ (show Rd (w.drewN (k + k2)) w.heap.size u (r.take m) from HU.out) (by omega)).mono ?_
      rintro x w1 ⟨v1, rfl, ho1, hb1⟩
      have c1' : w1.cell? ⟨g, 1, none⟩ = some (.int .i64 (p : Int)) := (hb1.cell (p := ⟨g, 1, none⟩) hgl).trans c1
      have f1' : w1.frozen? ⟨g, 1, none⟩ = false := (hb1.frozen (p := ⟨g, 1, none⟩) hgl).trans f1
      obtain ⟨a3, c3, e3, -⟩ := ho1.rd
      have HO := Lib.hid ho1
      subst e3
      go_wp2
      go_ret
      rw [HF.out]
      have hbb : Below w.heap.size w w1 := undrewN (n := k + k2) hb1
      have HM := QR.moved (q := p + m) (H.out.later hbb) (by have := HDL.out; omega)
      rw [Int.natCast_add] at HM
      have hlen : (r.take m).length = m := by rw [List.length_take]; omega
      refine ⟨a3, c3, ?_, HO.out.touch ((Touch.refl (fun k => k = g) w1).setCell (p := ⟨g, 1, none⟩) rfl _) (fun k hk => ?_), HM.1, (Touch.of_below (S := R) hbb).trans HM.2 (fun k hk => .inl hk)⟩
      · dsimp only
        rw [hlen]
        rfl
      have hk1 : w.heap.size ≤ k := (HO.out.lt k hk).1
      omega
/-- A read of the bytes that Raw handed back. -/
theorem own_reads {w : World} {base : Nat} {v : Value} {r : List Nat} (h : Own w base v r) (hp : 0 < r.length) : ∃ b c, v = .slice (some ⟨b, 0, none⟩) r.length c ∧ r.length ≤ c ∧ c ≤ maxLen ∧ ∀ k, k < r.length → w.cell? ⟨b, k, none⟩ = some (.int .u8 (r.getD k 0 : Nat)) := by
  obtain ⟨b, c, rfl, _, h1, h2⟩ := h.form hp
  exact ⟨b, c, rfl, h1, h2, fun k hk => (h.cell rfl k hk).1⟩
theorem fRaw_one (r : List Nat) : fRaw 1 r = if r.length = 0 then ([], 0, 3) else ([r.getD 0 0], 1, 0) := by
  unfold fRaw
  rw [if_neg (by omega)]
  by_cases h : r.length = 0
  · rw [if_pos h, if_pos (by omega)]
  · rw [if_neg h, if_neg (by omega)]
    cases r with
    | nil => simp at h
    | cons x r => simp
theorem fRaw_four (r : List Nat) : fRaw 4 r = if r.length < 4 then ([], 0, 3) else (r.take 4, 4, 0) := by
  unfold fRaw
  rw [if_neg (by omega)]
  by_cases h : r.length < 4
  · rw [if_pos h, if_pos (by omega)]
  · rw [if_neg h, if_neg (by omega)]
    rfl
set_option maxHeartbeats 1000000 in
set_option maxRecDepth 100000 in
theorem rbyte_stuck (R : Nat → Prop) (g p : Nat) (l : List Nat) (e : Int) (w : World) (h : QR w R g l p e) (hne : e ≠ 0) :
    Calls Try.prog 57 #[.pointer (some ⟨g, 0, none⟩)] w (QMove w R g l p e (.int .u8 0)) := by
  have H := Lib.hid h
  have HN := Lib.hid hne
  clear hne h
  go_enter Try.func57, Try.ntmps57
  go_wp2_with fail
  refine (rraw_stuck R g p l e 1 _ H.out HN.out).mono ?_
  rintro x w1 ⟨a, c, rfl, -, h1, ht⟩
  have H1 := Lib.hid h1
  clear h1
  go_wp2
  go_ret
  exact ⟨rfl, H1.out, ht⟩
set_option maxHeartbeats 1000000 in
set_option maxRecDepth 100000 in
theorem rbyte_live (R : Nat → Prop) (g p : Nat) (l : List Nat) (w : World) (h : QR w R g l p 0) :
    Calls Try.prog 57 #[.pointer (some ⟨g, 0, none⟩)] w (QMove w R g l (p + (fByte (l.drop p)).2.1) ((fByte (l.drop p)).2.2 : Int) (.int .u8 ((fByte (l.drop p)).1 : Int))) := by
  have H := Lib.hid (rraw_live R g p l 1 w h)
  have hb : ∀ x ∈ l.drop p, x < 256 := mem_drop h.bytes
  clear h
  rw [fRaw_one] at H
  generalize l.drop p = r at *
  by_cases h0 : r.length = 0
  · have HF := Lib.hid (show fByte r = (0, 0, 3) by unfold fByte; rw [if_pos h0])
    rw [if_pos h0] at H
    clear h0
    go_enter Try.func57, Try.ntmps57
    go_wp2_with fail
    refine (H.out).mono ?_
    rintro x w1 ⟨a, c, rfl, -, h1, ht⟩
    have H1 := Lib.hid h1
    clear h1
    go_wp2
    go_ret
    rw [HF.out]
    exact ⟨rfl, H1.out, ht⟩
  · have HF := Lib.hid (show fByte r = (r.getD 0 0, 1, 0) by unfold fByte; rw [if_neg h0])
    rw [if_neg h0] at H
    generalize r.getD 0 0 = y at *
    clear h0 hb
    go_enter Try.func57, Try.ntmps57
    go_wp2_with fail
    refine (H.out).mono ?_
    rintro x w1 ⟨a, c, rfl, ho, h1, ht⟩
    have H1 := Lib.hid h1
    obtain ⟨b, c', e, hc, hm, hcell⟩ := own_reads ho (by simp)
    have hc0 := hcell 0 (by simp)
    injection e with e1 e2 e3
    subst e1 e3
    simp at hc0 hc
    unfold maxLen at hm
    clear h1 ho hcell e2
    go_wp2
    go_ret
    rw [HF.out]
    exact ⟨rfl, H1.out, ht⟩
set_option maxHeartbeats 1000000 in
set_option maxRecDepth 100000 in
theorem rword_stuck (R : Nat → Prop) (g p : Nat) (l : List Nat) (e : Int) (w : World) (h : QR w R g l p e) (hne : e ≠ 0) :
    Calls Try.prog 62 #[.pointer (some ⟨g, 0, none⟩)] w (QMove w R g l p e (.int .u32 0)) := by
  have H := Lib.hid h
  have HN := Lib.hid hne
  clear hne h
  go_enter Try.func62, Try.ntmps62
  go_wp2_with fail
  refine (rraw_stuck R g p l e 4 _ H.out HN.out).mono ?_
  rintro x w1 ⟨a, c, rfl, -, h1, ht⟩
  have H1 := Lib.hid h1
  clear h1
  go_wp2
  go_ret
  exact ⟨rfl, H1.out, ht⟩
set_option maxHeartbeats 1000000 in
set_option maxRecDepth 100000 in
theorem rword_live (R : Nat → Prop) (g p : Nat) (l : List Nat) (w : World) (h : QR w R g l p 0) :
    Calls Try.prog 62 #[.pointer (some ⟨g, 0, none⟩)] w (QMove w R g l (p + (fWord (l.drop p)).2.1) ((fWord (l.drop p)).2.2 : Int) (.int .u32 ((fWord (l.drop p)).1 : Int))) := by
  have H := Lib.hid (rraw_live R g p l 4 w h)
  have hb : ∀ x ∈ l.drop p, x < 256 := mem_drop h.bytes
  clear h
  rw [fRaw_four] at H
  generalize l.drop p = r at *
  by_cases h0 : r.length < 4
  · have HF := Lib.hid (show fWord r = (0, 0, 3) by unfold fWord; rw [if_pos h0])
    rw [if_pos h0] at H
    clear h0
    go_enter Try.func62, Try.ntmps62
    go_wp2_with fail
    refine (H.out).mono ?_
    rintro x w1 ⟨a, c, rfl, -, h1, ht⟩
    have H1 := Lib.hid h1
    clear h1
    go_wp2
    go_ret
    rw [HF.out]
    exact ⟨rfl, H1.out, ht⟩
  · have HF := Lib.hid (show fWord r = (wordN r, 4, 0) by unfold fWord; rw [if_neg h0])
    rw [if_neg h0] at H
    obtain ⟨x0, x1, x2, x3, r', rfl⟩ : ∃ x0 x1 x2 x3 r', r = x0 :: x1 :: x2 :: x3 :: r' := by
      rcases r with _ | ⟨x0, _ | ⟨x1, _ | ⟨x2, _ | ⟨x3, r'⟩⟩⟩⟩
      · exact absurd (by simp) h0
      · exact absurd (by simp) h0
      · exact absurd (by simp) h0
      · exact absurd (by simp) h0
      · exact ⟨x0, x1, x2, x3, r', rfl⟩
    have b0 := hb x0 (by simp)
    have b1 := hb x1 (by simp)
    have b2 := hb x2 (by simp)
    have b3 := hb x3 (by simp)
    have HW := Lib.hid (show wordN (x0 :: x1 :: x2 :: x3 :: r') = x0 + 256 * x1 + 65536 * x2 + 16777216 * x3 from rfl)
    rw [show (x0 :: x1 :: x2 :: x3 :: r').take 4 = [x0, x1, x2, x3] from rfl] at H
    clear h0 hb
    generalize x0 :: x1 :: x2 :: x3 :: r' = r at *
    go_enter Try.func62, Try.ntmps62
    go_wp2_with fail
    refine (H.out).mono ?_
    rintro x w1 ⟨a, c, rfl, ho, h1, ht⟩
    have H1 := Lib.hid h1
    obtain ⟨b, c', e, hc, hm, hcell⟩ := own_reads ho (by simp)
    have hc0 := hcell 0 (by simp)
    have hc1 := hcell 1 (by simp)
    have hc2 := hcell 2 (by simp)
    have hc3 := hcell 3 (by simp)
    injection e with e1 e2 e3
    subst e1 e3
    simp at hc0 hc1 hc2 hc3 hc
    unfold maxLen at hm
    clear h1 ho hcell e2
    go_wp2
    go_quiet (fail)
    go_wp2
    go_ret
    rw [HF.out, HW.out]
    exact ⟨congrArg (fun z : Int => Ending.returned (.int .u32 z)) (by omega), H1.out.drewN nq, ht.drewN nq⟩
/-- What is found of a number is as it is zagged. -/
theorem decI_zag (r : List Nat) : decI r = zagN (Leb.dec r).1 := by
  unfold decI
  by_cases h : (Leb.dec r).2.2 = 0
  · rw [if_pos h]
  · rw [if_neg h, (Leb.dec_err r h).1]; rfl
set_option maxHeartbeats 1000000 in
set_option maxRecDepth 100000 in
theorem rvar_stuck (R : Nat → Prop) (g p : Nat) (l : List Nat) (e : Int) (w : World) (h : QR w R g l p e) (hne : e ≠ 0) :
    Calls Try.prog 58 #[.pointer (some ⟨g, 0, none⟩)] w (QMove w R g l p e (.int .u64 0)) := by
  have hbe : (e != 0) = true := by simpa using hne
  have H := Lib.hid h
  have HN := Lib.hid hne
  clear hne h
  generalize hr : l.drop p = r at *
  have HR := Lib.hid hr
  clear hr
  go_enter Try.func58, Try.ntmps58
  go_wp2_with fail
  refine (rrest_r R g p l r e _ H.out HR.out).mono ?_
  rintro x w1 ⟨a, c, k, rfl, rfl, hu⟩
  have HU := Lib.hid hu
  clear hu
  go_wp2_with fail
  refine (rget _ r _ (HU.out.drewN k)).mono ?_
  rintro x w1 ⟨rfl, rfl⟩
  go_wp2_with fail
  refine (rfail_stuck R g p l e _ _ (H.out.drewN k) HN.out).mono ?_
  rintro x w1 ⟨rfl, h1, ht⟩
  have c2 := h1.c2
  have H1 := Lib.hid h1
  clear h1
  go_wp2
  go_ret
  exact ⟨rfl, H1.out, ht.undrewN⟩
set_option maxHeartbeats 1000000 in
set_option maxRecDepth 100000 in
theorem rvar_live (R : Nat → Prop) (g p : Nat) (l : List Nat) (w : World) (h : QR w R g l p 0) :
    Calls Try.prog 58 #[.pointer (some ⟨g, 0, none⟩)] w (QMove w R g l (p + (Leb.dec (l.drop p)).2.1) ((Leb.dec (l.drop p)).2.2 : Int) (.int .u64 ((Leb.dec (l.drop p)).1 : Int))) := by
  have hl := h.len
  have hp := h.at
  have hs := dec_size _ (mem_drop (p := p) h.bytes)
  rw [List.length_drop] at hs
  have H := Lib.hid h
  clear h
  generalize hr : l.drop p = r at *
  have HR := Lib.hid hr
  clear hr
  by_cases he : (Leb.dec r).2.2 ≠ 0
  · have hz := Leb.dec_err _ he
    have hbe : (((Leb.dec r).2.2 : Int) != 0) = true := by rw [bne_iff_ne]; omega
    have HP := Lib.hid (show p + (Leb.dec r).2.1 = p by rw [hz.2]; omega)
    have HZ := Lib.hid hz.1
    clear he hz hs
    go_enter Try.func58, Try.ntmps58
    go_wp2_with fail
    refine (rrest_r R g p l r 0 _ H.out HR.out).mono ?_
    rintro x w1 ⟨a, c, k, rfl, rfl, hu⟩
    have HU := Lib.hid hu
    clear hu
    go_wp2_with fail
    refine (rget _ r _ (HU.out.drewN k)).mono ?_
    rintro x w1 ⟨rfl, rfl⟩
    go_wp2_with fail
    refine (rfail_live R g p l _ _ (H.out.drewN k)).mono ?_
    rintro x w1 ⟨rfl, h1, ht⟩
    have c2 := h1.c2
    have H1 := Lib.hid h1
    clear h1
    go_wp2
    go_ret
    rw [HP.out, HZ.out]
    exact ⟨rfl, H1.out, ht.undrewN⟩
  · have hbe : (((Leb.dec r).2.2 : Int) != 0) = false := by rw [bne_eq_false_iff_eq]; omega
    have HE := Lib.hid (show ((Leb.dec r).2.2 : Int) = 0 by omega)
    clear he
    go_enter Try.func58, Try.ntmps58
    go_wp2_with fail
    refine (rrest_r R g p l r 0 _ H.out HR.out).mono ?_
    rintro x w1 ⟨a, c, k, rfl, rfl, hu⟩
    have HU := Lib.hid hu
    clear hu
    go_wp2_with fail
    refine (rget _ r _ (HU.out.drewN k)).mono ?_
    rintro x w1 ⟨rfl, rfl⟩
    go_wp2_with fail
    refine (rfail_live R g p l _ _ (H.out.drewN k)).mono ?_
    rintro x w1 ⟨rfl, h1, ht⟩
    have c2 := h1.c2
    have c1 := h1.c1
    have f1 := h1.f1
    have H1 := Lib.hid h1
    clear h1
    go_wp2
    go_ret
    rw [HE.out]
    have HM := QR.moved (q := p + (Leb.dec r).2.1) (e := 0) (by have := H1.out; rw [HE.out] at this; exact this) (by omega)
    rw [Int.natCast_add] at HM
    exact ⟨rfl, HM.1, (ht.undrewN).trans HM.2 (fun k hk => .inl hk)⟩
set_option maxHeartbeats 1000000 in
set_option maxRecDepth 100000 in
theorem rint_stuck (R : Nat → Prop) (g p : Nat) (l : List Nat) (e : Int) (w : World) (h : QR w R g l p e) (hne : e ≠ 0) :
    Calls Try.prog 59 #[.pointer (some ⟨g, 0, none⟩)] w (QMove w R g l p e (.int .i64 0)) := by
  have H := Lib.hid h
  have HN := Lib.hid hne
  clear hne h
  go_enter Try.func59, Try.ntmps59
  go_wp2_with fail
  refine (rvar_stuck R g p l e _ H.out HN.out).mono ?_
  rintro x w1 ⟨rfl, h1, ht⟩
  have H1 := Lib.hid h1
  clear h1
  go_wp2_with fail
  refine (rzag 0 _ (by omega) (by omega)).mono ?_
  rintro x w2 ⟨rfl, rfl⟩
  go_wp2
  go_ret
  exact ⟨rfl, H1.out, ht⟩
set_option maxHeartbeats 1000000 in
set_option maxRecDepth 100000 in
theorem rint_live (R : Nat → Prop) (g p : Nat) (l : List Nat) (w : World) (h : QR w R g l p 0) :
    Calls Try.prog 59 #[.pointer (some ⟨g, 0, none⟩)] w (QMove w R g l (p + (Leb.dec (l.drop p)).2.1) ((Leb.dec (l.drop p)).2.2 : Int) (.int .i64 (decI (l.drop p)))) := by
  have hroom := dec_room (l.drop p) (mem_drop h.bytes)
  have HZ := Lib.hid (decI_zag (l.drop p))
  have H := Lib.hid (rvar_live R g p l w h)
  clear h
  generalize l.drop p = r at *
  go_enter Try.func59, Try.ntmps59
  go_wp2_with fail
  refine (H.out).mono ?_
  rintro x w1 ⟨rfl, h1, ht⟩
  have H1 := Lib.hid h1
  clear h1
  go_wp2_with fail
  refine (rzag _ _ (by omega) (by omega)).mono ?_
  rintro x w2 ⟨rfl, rfl⟩
  go_wp2
  go_ret
  rw [HZ.out]
  exact ⟨rfl, H1.out, ht⟩
set_option maxHeartbeats 1000000 in
set_option maxRecDepth 100000 in
theorem rtext_stuck (R : Nat → Prop) (g p : Nat) (l : List Nat) (e n : Int) (w : World) (h : QR w R g l p e) (hne : e ≠ 0) :
    Calls Try.prog 60 #[.pointer (some ⟨g, 0, none⟩), .int .i64 n] w (QMove w R g l p e (.string ByteArray.empty)) := by
  have hbe : (e != 0) = true := by simpa using hne
  have hbe2 : (e == 0) = false := by simpa using hne
  have H := Lib.hid h
  have HN := Lib.hid hne
  clear hne h
  generalize hr : l.drop p = r at *
  have HR := Lib.hid hr
  clear hr
  go_enter Try.func60, Try.ntmps60
  go_wp2_with fail
  refine (rrest_r R g p l r e _ H.out HR.out).mono ?_
  rintro x w1 ⟨a, c, k, rfl, rfl, hu⟩
  have HU := Lib.hid hu
  clear hu
  go_wp2_with fail
  refine (rget _ r _ (HU.out.drewN k)).mono ?_
  rintro x w1 ⟨rfl, rfl⟩
  go_wp2_with fail
  refine (rfail_stuck R g p l e _ _ (H.out.drewN k) HN.out).mono ?_
  rintro x w1 ⟨rfl, h1, ht⟩
  have c2 := h1.c2
  have H1 := Lib.hid h1
  clear h1
  go_wp2
  go_ret
  exact ⟨rfl, H1.out, ht.undrewN⟩
set_option maxHeartbeats 2000000 in
set_option maxRecDepth 100000 in
theorem rtext_live (R : Nat → Prop) (g p : Nat) (l : List Nat) (n : Int) (w : World) (h : QR w R g l p 0) (m0 : -9223372036854775808 ≤ n) (m1 : n ≤ 9223372036854775807) :
    Calls Try.prog 60 #[.pointer (some ⟨g, 0, none⟩), .int .i64 n] w (QMove w R g l (p + (fText n (l.drop p)).2.1) ((fText n (l.drop p)).2.2 : Int) (.string (str (fText n (l.drop p)).1))) := by
  have hl := h.len
  have hp := h.at
  have hbytes := mem_drop (p := p) h.bytes
  have hs := dec_size _ hbytes
  have hroom := dec_room _ hbytes
  have hdl : (l.drop p).length = l.length - p := List.length_drop
  have h0e : str [] = ByteArray.empty := by decide +kernel
  have H0 := Lib.hid h0e
  clear h0e
  have H := Lib.hid h
  clear h hbytes
  generalize hr : l.drop p = r at *
  have HR := Lib.hid hr
  have HDL := Lib.hid hdl
  have hrl : r.length ≤ 100000 := by omega
  clear hr hdl
  by_cases he : (Leb.dec r).2.2 ≠ 0
  · have HF := Lib.hid (show fText n r = ([], 0, (Leb.dec r).2.2) by unfold fText; rw [if_pos he])
    have hbe : (((Leb.dec r).2.2 : Int) != 0) = true := by rw [bne_iff_ne]; omega
    have hbe2 : (((Leb.dec r).2.2 : Int) == 0) = false := by rw [beq_eq_false_iff_ne]; omega
    clear he
    go_enter Try.func60, Try.ntmps60
    go_wp2_with fail
    refine (rrest_r R g p l r 0 _ H.out HR.out).mono ?_
    rintro x w1 ⟨a, c, k, rfl, rfl, hu⟩
    have HU := Lib.hid hu
    clear hu
    go_wp2_with fail
    refine (rget _ r _ (HU.out.drewN k)).mono ?_
    rintro x w1 ⟨rfl, rfl⟩
    go_wp2_with fail
    refine (rfail_live R g p l _ _ (H.out.drewN k)).mono ?_
    rintro x w1 ⟨rfl, h1, ht⟩
    have c2 := h1.c2
    have H1 := Lib.hid h1
    clear h1
    go_wp2
    go_ret
    rw [HF.out, H0.out]
    exact ⟨rfl, H1.out, ht.undrewN⟩
  · have hbe : (((Leb.dec r).2.2 : Int) != 0) = false := by rw [bne_eq_false_iff_eq]; omega
    have hbe2 : (((Leb.dec r).2.2 : Int) == 0) = true := by rw [beq_iff_eq]; omega
    have HE := Lib.hid (show ((Leb.dec r).2.2 : Int) = 0 by omega)
    by_cases hm : n < 0 ∨ n < ((Leb.dec r).1 : Int)
    · have HF := Lib.hid (show fText n r = ([], 0, 5) by unfold fText; rw [if_neg he, if_pos hm])
      clear he
      have h3 : n < 0 ∨ (0 ≤ n ∧ n < ((Leb.dec r).1 : Int)) := by omega
      clear hm
      rcases h3 with h3 | ⟨h3, h4⟩
      all_goals
        go_enter Try.func60, Try.ntmps60
        go_wp2_with fail
        refine (rrest_r R g p l r 0 _ H.out HR.out).mono ?_
        rintro x w1 ⟨a, c, k, rfl, rfl, hu⟩
        have HU := Lib.hid hu
        clear hu
        go_wp2_with fail
        refine (rget _ r _ (HU.out.drewN k)).mono ?_
        rintro x w1 ⟨rfl, rfl⟩
        go_wp2_with fail
        refine (rfail_live R g p l _ _ (H.out.drewN k)).mono ?_
        rintro x w1 ⟨rfl, h1, ht⟩
        have c2 := h1.c2
        have H1 := Lib.hid h1
        clear h1
        go_wp2_with fail
        refine (rfail_live R g p l 5 _ (by have := H1.out; rw [HE.out] at this; exact this)).mono ?_
        rintro x w2 ⟨rfl, h1, ht2⟩
        have c2' := h1.c2
        have H2 := Lib.hid h1
        clear h1
        go_wp2
        go_ret
        rw [HF.out, H0.out]
        exact ⟨rfl, H2.out, (ht.undrewN).trans ht2 (fun k hk => .inl hk)⟩
    · have hm0 : 0 ≤ n := by omega
      have hm1 : ((Leb.dec r).1 : Int) ≤ n := by omega
      by_cases hlt : r.length - (Leb.dec r).2.1 < (Leb.dec r).1
      · have HF := Lib.hid (show fText n r = ([], 0, 3) by unfold fText; rw [if_neg he, if_neg hm, if_pos hlt])
        have hlt2 : (r.length : Int) - ((Leb.dec r).2.1 : Int) < ((Leb.dec r).1 : Int) := by omega
        clear he hm
        go_enter Try.func60, Try.ntmps60
        go_wp2_with fail
        refine (rrest_r R g p l r 0 _ H.out HR.out).mono ?_
        rintro x w1 ⟨a, c, k, rfl, rfl, hu⟩
        have HU := Lib.hid hu
        clear hu
        go_wp2_with fail
        refine (rget _ r _ (HU.out.drewN k)).mono ?_
        rintro x w1 ⟨rfl, rfl⟩
        go_wp2_with fail
        refine (rfail_live R g p l _ _ (H.out.drewN k)).mono ?_
        rintro x w1 ⟨rfl, h1, ht⟩
        have c2 := h1.c2
        have H1 := Lib.hid h1
        clear h1
        go_wp2_with fail
        refine (rrest_r R g p l r _ _ H1.out HR.out).mono ?_
        rintro x w2 ⟨a2, c2', k2, rfl, rfl, -⟩
        go_wp2_with fail
        refine (rfail_live R g p l 3 _ (by have := H1.out; rw [HE.out] at this; exact this.drewN k2)).mono ?_
        rintro x w2 ⟨rfl, h1, ht2⟩
        have c2'' := h1.c2
        have H2 := Lib.hid h1
        clear h1
        go_wp2
        go_ret
        rw [HF.out, H0.out]
        exact ⟨rfl, H2.out, (ht.undrewN).trans ht2.undrewN (fun k hk => .inl hk)⟩
      · have HF := Lib.hid (show fText n r = ((r.take ((Leb.dec r).2.1 + (Leb.dec r).1)).drop (Leb.dec r).2.1, (Leb.dec r).2.1 + (Leb.dec r).1, 0) by unfold fText; rw [if_neg he, if_neg hm, if_neg hlt])
        have hge2 : ((Leb.dec r).1 : Int) ≤ (r.length : Int) - ((Leb.dec r).2.1 : Int) := by omega
        have hle3 : (Leb.dec r).2.1 + (Leb.dec r).1 ≤ r.length := by omega
        clear he hm
        go_enter Try.func60, Try.ntmps60
        go_wp2_with fail
        refine (rrest_r R g p l r 0 _ H.out HR.out).mono ?_
        rintro x w1 ⟨a, c, k, rfl, rfl, hu⟩
        have HU := Lib.hid hu
        clear hu
        go_wp2_with fail
        refine (rget _ r _ (HU.out.drewN k)).mono ?_
        rintro x w1 ⟨rfl, rfl⟩
        go_wp2_with fail
        refine (rfail_live R g p l _ _ (H.out.drewN k)).mono ?_
        rintro x w1 ⟨rfl, h1, ht⟩
        have c1 := h1.c1
        have f1 := h1.f1
        have c2 := h1.c2
        have H1 := Lib.hid h1
        clear h1
        go_wp2_with fail
        refine (rrest_r R g p l r _ _ H1.out HR.out).mono ?_
        rintro x w2 ⟨a2, c2', k2, rfl, rfl, -⟩
        go_wp2_with fail
        refine (rrest_r R g p l r _ _ (H1.out.drewN k2) HR.out).mono ?_
        rintro x w2 ⟨a3, c3', k3, rfl, rfl, hr3⟩
        obtain ⟨v, hv, hrv⟩ := cut_mid _ _ a3 r c3' (Leb.dec r).2.1 ((Leb.dec r).2.1 + (Leb.dec r).1) hr3 (by omega) (by omega)
        have hstr := run_str (w1.drewN (k2 + k3)) _ v _ hrv
        rw [Int.natCast_add] at hv
        clear hr3 hrv
        go_wp2
        go_ret
        rw [HF.out]
        have HM := QR.moved (q := p + ((Leb.dec r).2.1 + (Leb.dec r).1)) (e := 0) (w := w1.drewN (k2 + k3)) (by have := H1.out; rw [HE.out] at this; exact this) (by have := HDL.out; omega)
        rw [Int.natCast_add, Int.natCast_add, ← Int.add_assoc] at HM
        exact ⟨rfl, HM.1, (ht.undrewN).trans HM.2.undrewN (fun k hk => .inl hk)⟩
end Go.Proofs.Ytdijcgjgdfhapaa
