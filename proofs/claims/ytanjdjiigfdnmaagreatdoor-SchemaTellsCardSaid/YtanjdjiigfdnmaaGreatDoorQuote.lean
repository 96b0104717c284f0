/- The program's Quote. -/
import Derived.Test.YtanjdjiigfdnmaaGreatDoorRquote
namespace Go.Proofs.YtanjdjiigfdnmaaGreatDoor
open Go.RowKit
set_option linter.unusedVariables false

/-- How things stand while a literal is written: the map, the builder, the iterator. -/
def QS (wb : World) (m b it : Nat) (L : List (Nat × Nat)) (s : ByteArray) (pos : Nat) (acc : List Nat) (w : World) : Prop :=
  IsMap w m L ∧ Bld b b acc w ∧ w.heap[it]? = some (.stringIter s pos) ∧ Below b wb w ∧ m < b ∧ b < it
theorem QS.wrote {wb w w' : World} {m b it : Nat} {L : List (Nat × Nat)} {s : ByteArray} {pos : Nat} {acc acc' : List Nat} (h : QS wb m b it L s pos acc w) (k : Wrote b b acc' w w') : QS wb m b it L s pos acc' w' := by
  obtain ⟨h1, h2, h3, h4, h5, h6⟩ := h
  obtain ⟨k1, k2, k3⟩ := k
  exact ⟨(k2.block m h5).trans h1, k1, k3.iter h3 (by omega), h4.trans k2, h5, h6⟩
theorem QS.iter {wb w : World} {m b it : Nat} {L : List (Nat × Nat)} {s : ByteArray} {pos : Nat} {acc : List Nat} (h : QS wb m b it L s pos acc w) (q : Nat) : QS wb m b it L s q acc (w.iterAt it s q) := by
  obtain ⟨h1, h2, h3, h4, h5, h6⟩ := h
  exact ⟨(Lib.iterAt_other w it m s q (by omega)).trans h1, h2.iterAt h3 q, Lib.iterAt_heap w it s pos q h3, Lib.below_iterAt h4 (by omega) s q, h5, h6⟩
theorem isr_low (r : Nat) (h : r < 128) : Utf.isr r := .inl (by omega)
theorem QS.bld {wb w : World} {m b it : Nat} {L : List (Nat × Nat)} {s : ByteArray} {pos : Nat} {acc : List Nat} (h : QS wb m b it L s pos acc w) : Bld b b acc w := h.2.1
theorem QS.below {wb w : World} {m b it : Nat} {L : List (Nat × Nat)} {s : ByteArray} {pos : Nat} {acc : List Nat} (h : QS wb m b it L s pos acc w) : Below b wb w := h.2.2.2.1
theorem QS.at {wb w : World} {m b it : Nat} {L : List (Nat × Nat)} {s : ByteArray} {pos : Nat} {acc : List Nat} (h : QS wb m b it L s pos acc w) : w.heap[it]? = some (.stringIter s pos) := h.2.2.1
theorem QS.size {wb w : World} {m b it : Nat} {L : List (Nat × Nat)} {s : ByteArray} {pos : Nat} {acc : List Nat} (h : QS wb m b it L s pos acc w) : b ≤ w.heap.size := Nat.le_of_lt h.2.1.lt
theorem writeByteI (B b : Nat) (l : List Nat) (c : Nat) (x : Int) (hx : x = (c : Nat)) (w : World) (h : Bld B b l w) (hc : c < 256) (hlen : l.length ≤ 1000000000) (hBw : B ≤ w.heap.size) :
    Calls Tryz.prog 149 #[.pointer (some ⟨b, 0, none⟩), .int .u8 x] w fun e w' => e = .returned .nilIface ∧ Wrote B b (l ++ [c]) w w' := hx ▸ writeByte B b l c w h hc hlen hBw
theorem qs_byte {wb w : World} {m b it : Nat} {L : List (Nat × Nat)} {s : ByteArray} {pos : Nat} {acc : List Nat} (h : QS wb m b it L s pos acc w) (c : Nat) (x : Int) (hx : x = (c : Nat)) (hc : c < 256) (hl : acc.length ≤ 1000000000) :
    Calls Tryz.prog 149 #[.pointer (some ⟨b, 0, none⟩), .int .u8 x] w fun e w' => e = .returned .nilIface ∧ QS wb m b it L s pos (acc ++ [c]) w' :=
  hx ▸ (writeByte b b acc c w h.2.1 hc hl h.size).mono fun _ _ ⟨he, hw⟩ => ⟨he, h.wrote hw⟩
theorem qs_rune {wb w : World} {m b it : Nat} {L : List (Nat × Nat)} {s : ByteArray} {pos : Nat} {acc : List Nat} (h : QS wb m b it L s pos acc w) (r : Nat) (x : Int) (hx : x = (r : Nat)) (hr : Utf.isr r) (hl : acc.length ≤ 1000000000) :
    Calls Tryz.prog 172 #[.pointer (some ⟨b, 0, none⟩), .int .i32 x] w fun e w' => (∃ n, e = .returned (.tuple #[.int .i64 n, .nilIface])) ∧ QS wb m b it L s pos (acc ++ Utf.enc r) w' :=
  hx ▸ (writeRune b b acc r w h.2.1 hr hl h.size).mono fun _ _ ⟨he, hw⟩ => ⟨he, h.wrote hw⟩
theorem qs_str {wb w : World} {m b it : Nat} {L : List (Nat × Nat)} {s : ByteArray} {pos : Nat} {acc : List Nat} (h : QS wb m b it L s pos acc w) (t : ByteArray) (l : List Nat) (ht : t.size ≤ 100) (hbl : bl t = l) (hl : acc.length ≤ 1000000000) :
    Calls Tryz.prog 92 #[.pointer (some ⟨b, 0, none⟩), .string t] w fun e w' => (∃ n, e = .returned (.tuple #[.int .i64 n, .nilIface])) ∧ QS wb m b it L s pos (acc ++ l) w' :=
  (writeString b b acc t w h.2.1 ht hl h.size).mono fun _ _ ⟨he, hw⟩ => ⟨he, by rw [← hbl]; exact h.wrote hw⟩

def tidyL : List (Nat × Nat) := [(34, 34), (92, 92), (8, 98), (12, 102), (10, 110), (13, 114), (9, 116)]
theorem look_someI {w : World} {m : Nat} {l : List (Nat × Nat)} (h : IsMap w m l) (k v : Nat) (x y : Int) (hx : x = (k : Nat)) (hy : y = (v : Nat)) (hk : lk l k = some v) :
    (Instr.lookup 179 (.map (some m)) (.int .i32 x) true).run Tryz.prog w = .ok (.tuple #[.int .i32 y, .bool true]) w := by
  subst hx; subst hy; exact look_some h k v hk
theorem lk_tidy_none (r : Nat) (h : r ≠ 34 ∧ r ≠ 92 ∧ r ≠ 8 ∧ r ≠ 12 ∧ r ≠ 10 ∧ r ≠ 13 ∧ r ≠ 9) : lk tidyL r = none := by
  simp [tidyL, lk, h]
theorem upto_rune (l : List Nat) (hl : ∀ x ∈ l, x < 256) (pos : Nat) (h : Utf.nw (l.drop pos) ≠ 0) : upto l (pos + Utf.nw (l.drop pos)) = upto l pos ++ Utf.escR (Utf.nr (l.drop pos)) := by
  obtain ⟨i1, i2, i3, i4⟩ := Utf.nx_some _ (Utf.drop_byte hl pos) h
  unfold upto
  rw [List.take_add, Utf.escs_append, ← Utf.escs_enc]
  have : (l.drop pos).take (Utf.nw (l.drop pos)) = Utf.enc (Utf.nr (l.drop pos)) := by
    conv => lhs; arg 2; rw [i2]
    rw [← i3]; simp
  rw [this]; rfl
theorem paired_tidy (w : World) :
    Calls Tryz.prog 171 #[.string ⟨#[34, 92, 8, 12, 10, 13, 9]⟩, .string ⟨#[34, 92, 98, 102, 110, 114, 116]⟩] w fun e w' => e = .returned (.map (some w.heap.size)) ∧ IsMap w' w.heap.size tidyL ∧ Below w.heap.size w w' := by
  have := paired ⟨#[34, 92, 8, 12, 10, 13, 9]⟩ ⟨#[34, 92, 98, 102, 110, 114, 116]⟩ w 7 rfl rfl (by decide) (by decide)
    (fun i j hij hj => (by decide : ∀ j, j < 7 → ∀ i, i < j → (bl ⟨#[34, 92, 8, 12, 10, 13, 9]⟩).getD i 0 ≠ (bl ⟨#[34, 92, 8, 12, 10, 13, 9]⟩).getD j 0) j hj i hij)
  exact this

theorem quote_no (s : ByteArray) (w : World) (T : Tab w) (hm : s.size ≤ maxLen) (h : Utf.vld (bl s) = false) :
    Calls Tryz.prog 146 #[.string s] w fun e w' => e = .returned (.tuple #[.string ⟨#[]⟩, .int .i64 40]) ∧ Below w.heap.size w w' := by
  go_enter Tryz.func146, Tryz.ntmps146
  go_wp2_with (go_at_call 145; refine (valid s _ T hm _ h).mono ?_; rintro e w2 ⟨rfl, hb2⟩)
  go_ret2
  exact ⟨rfl, hb2⟩
set_option maxHeartbeats 8000000 in
set_option maxRecDepth 100000 in
theorem quote_yes (s : ByteArray) (w : World) (T : Tab w) (hm : s.size ≤ 1000000) (h : Utf.vld (bl s) = true) :
    Calls Tryz.prog 146 #[.string s] w fun e w' => e = .returned (.tuple #[.string (str (Utf.tidy (bl s))), .int .i64 0]) ∧ Below w.heap.size w w' := by
  have hm2 : s.size ≤ maxLen := by unfold maxLen; omega
  have HV := Lib.hid h
  clear h
  go_enter Tryz.func146, Tryz.ntmps146
  go_wp2_with fail
  ((with_reducible refine (valid s _ T hm2 _ HV.out).mono ?_); rintro e w2 ⟨rfl, hb2⟩)
  go_wp2_with fail
  ((with_reducible refine (paired_tidy w2).mono ?_); rintro e w3 ⟨rfl, hmap3, hb3⟩)
  have hB0 := Bld.fresh w3
  have HM3 := Lib.hid hmap3
  have HB0 := Lib.hid hB0
  have hbb : Below w.heap.size w w3 := up hb2 hb3
  have hm3 := hmap3.lt
  clear hmap3 hB0
  go_wp2_with fail
  ((with_reducible refine (writeByteI w3.heap.size w3.heap.size [] 34 34 rfl _ HB0.out (by decide) (by simp) (by simp)).mono ?_); rintro e w4 ⟨rfl, hw4⟩)
  go_wp2
  have hqs : QS w3 w2.heap.size w3.heap.size w4.heap.size tidyL s 0 (upto (bl s) 0) (w4.iter s 0) := by
    obtain ⟨k1, k2, k3⟩ := hw4
    have hlt := k1.lt
    have hn : Below w4.heap.size w4 (w4.iter s 0) := (Below.refl _ _).alloc (Nat.le_refl _) _
    refine ⟨?_, ?_, ?_, ?_, hm3, hlt⟩
    · have := (HM3.out.later ((Below.refl _ _).alloc (Nat.le_refl _) (.cells #[.pointer none, .slice none 0 0] 120)))
      exact IsMap.later (show IsMap w4 w2.heap.size tidyL from (k2.block _ hm3).trans this) hn
    · have := k1.later hn
      simpa [upto, Utf.escs] using this
    · have := World.iter_heap w4 s 0
      simpa using this
    · exact (((Below.refl _ w3).alloc (Nat.le_refl _) _).trans k2).trans (hn.mono (by omega))
  have HQ := Lib.hid hqs
  clear hqs hw4
  go_loopw [] (fun wr => ∃ pos : Nat, pos ≤ s.size ∧ QS w3 w2.heap.size w3.heap.size w4.heap.size tidyL s pos (upto (bl s) pos) wr ∧ Hid (Utf.vld ((bl s).drop pos) = true)) (fun wr => s.size - wr.iterPos w4.heap.size)
  case atStart => exact ⟨0, by omega, HQ.out, by simpa using HV⟩
  case round =>
    clear HQ
    obtain ⟨pos, hps, hq, HVD⟩ := hrel
    have hul := upto_len (bl s) pos
    rw [bl_length] at hul
    have hit := hq.2.2.1
    by_cases hp : pos < s.size
    · have hnx : ∀ ty, (Instr.next (.pointer (some ⟨w4.heap.size, 0, none⟩)) true ty).run Tryz.prog wr = _ := fun ty => Lib.run_next_any_at wr w4.heap.size s pos ty hit hp
      have hne : (bl s).drop pos ≠ [] := fun e => by have := congrArg List.length e; simp [bl_length] at this; omega
      have hs := Utf.vld_step _ hne
      rw [HVD.out] at hs
      have h1 : Utf.nw ((bl s).drop pos) ≠ 0 := fun e => by rw [if_pos e] at hs; cases hs
      rw [if_neg h1, List.drop_drop] at hs
      rw [dec_from s pos hp, dec_step _ h1] at hnx
      have hle := Utf.nw_le _ (Utf.drop_byte (bl_byte s) pos)
      rw [List.length_drop, bl_length] at hle
      have hur := upto_rune (bl s) (bl_byte s) pos h1
      have hisr := (Utf.nx_some _ (Utf.drop_byte (bl_byte s) pos) h1).1
      have hq2 := hq.iter (pos + Utf.nw ((bl s).drop pos))
      generalize Utf.nr ((bl s).drop pos) = r at *
      generalize Utf.nw ((bl s).drop pos) = n at *
      have hr2 : r ≤ 1114111 := by unfold Utf.isr at hisr; omega
      have HI := Lib.hid hit
      have HS := Lib.hid hs
      have HU := Lib.hid hur
      have HQ2 := Lib.hid hq2
      have hrest : ∀ (acc : List Nat) (wx : World), QS w3 w2.heap.size w3.heap.size w4.heap.size tidyL s (pos + n) acc wx → acc = upto (bl s) pos ++ Utf.escR r → ∃ pos' : Nat, pos' ≤ s.size ∧ QS w3 w2.heap.size w3.heap.size w4.heap.size tidyL s pos' (upto (bl s) pos') wx ∧ Hid (Utf.vld ((bl s).drop pos') = true) := by
        intro acc wx hx he
        refine ⟨pos + n, by omega, ?_, Lib.hid HS.out.symm⟩
        rw [HU.out, ← he]; exact hx
      have HR := Lib.hid hrest
      clear hs hur hit hq2 hne hrest
      by_cases c34 : r = 34
      · subst c34
        have hlk := look_someI HQ2.out.1 34 34 34 34 rfl rfl (by decide)
        have HE := Lib.hid (show Utf.escR 34 = [92] ++ Utf.enc 34 from rfl)
        go_wp2_with fail
        ((with_reducible refine (qs_byte HQ2.out 92 92 rfl (by decide) (by omega)).mono ?_); rintro e w5 ⟨rfl, hq5⟩)
        go_wp2_with fail
        ((with_reducible refine (qs_rune hq5 34 34 rfl (isr_low _ (by decide)) (by simp; omega)).mono ?_); rintro e w6 ⟨⟨nn, rfl⟩, hq6⟩)
        have HQ6 := Lib.hid hq6
        clear hq5 hq6
        go_wp2
        go_roundw
        case rel => exact HR.out _ _ HQ6.out (by rw [HE.out, List.append_assoc])
        case measure => simp only [World.iterPos, HQ6.out.at, HI.out]; omega
      by_cases c92 : r = 92
      · subst c92
        have hlk := look_someI HQ2.out.1 92 92 92 92 rfl rfl (by decide)
        have HE := Lib.hid (show Utf.escR 92 = [92] ++ Utf.enc 92 from rfl)
        go_wp2_with fail
        ((with_reducible refine (qs_byte HQ2.out 92 92 rfl (by decide) (by omega)).mono ?_); rintro e w5 ⟨rfl, hq5⟩)
        go_wp2_with fail
        ((with_reducible refine (qs_rune hq5 92 92 rfl (isr_low _ (by decide)) (by simp; omega)).mono ?_); rintro e w6 ⟨⟨nn, rfl⟩, hq6⟩)
        have HQ6 := Lib.hid hq6
        clear hq5 hq6
        go_wp2
        go_roundw
        case rel => exact HR.out _ _ HQ6.out (by rw [HE.out, List.append_assoc])
        case measure => simp only [World.iterPos, HQ6.out.at, HI.out]; omega
      by_cases c8 : r = 8
      · subst c8
        have hlk := look_someI HQ2.out.1 8 98 8 98 rfl rfl (by decide)
        have HE := Lib.hid (show Utf.escR 8 = [92] ++ Utf.enc 98 from rfl)
        go_wp2_with fail
        ((with_reducible refine (qs_byte HQ2.out 92 92 rfl (by decide) (by omega)).mono ?_); rintro e w5 ⟨rfl, hq5⟩)
        go_wp2_with fail
        ((with_reducible refine (qs_rune hq5 98 98 rfl (isr_low _ (by decide)) (by simp; omega)).mono ?_); rintro e w6 ⟨⟨nn, rfl⟩, hq6⟩)
        have HQ6 := Lib.hid hq6
        clear hq5 hq6
        go_wp2
        go_roundw
        case rel => exact HR.out _ _ HQ6.out (by rw [HE.out, List.append_assoc])
        case measure => simp only [World.iterPos, HQ6.out.at, HI.out]; omega
      by_cases c12 : r = 12
      · subst c12
        have hlk := look_someI HQ2.out.1 12 102 12 102 rfl rfl (by decide)
        have HE := Lib.hid (show Utf.escR 12 = [92] ++ Utf.enc 102 from rfl)
        go_wp2_with fail
        ((with_reducible refine (qs_byte HQ2.out 92 92 rfl (by decide) (by omega)).mono ?_); rintro e w5 ⟨rfl, hq5⟩)
        go_wp2_with fail
        ((with_reducible refine (qs_rune hq5 102 102 rfl (isr_low _ (by decide)) (by simp; omega)).mono ?_); rintro e w6 ⟨⟨nn, rfl⟩, hq6⟩)
        have HQ6 := Lib.hid hq6
        clear hq5 hq6
        go_wp2
        go_roundw
        case rel => exact HR.out _ _ HQ6.out (by rw [HE.out, List.append_assoc])
        case measure => simp only [World.iterPos, HQ6.out.at, HI.out]; omega
      by_cases c10 : r = 10
      · subst c10
        have hlk := look_someI HQ2.out.1 10 110 10 110 rfl rfl (by decide)
        have HE := Lib.hid (show Utf.escR 10 = [92] ++ Utf.enc 110 from rfl)
        go_wp2_with fail
        ((with_reducible refine (qs_byte HQ2.out 92 92 rfl (by decide) (by omega)).mono ?_); rintro e w5 ⟨rfl, hq5⟩)
        go_wp2_with fail
        ((with_reducible refine (qs_rune hq5 110 110 rfl (isr_low _ (by decide)) (by simp; omega)).mono ?_); rintro e w6 ⟨⟨nn, rfl⟩, hq6⟩)
        have HQ6 := Lib.hid hq6
        clear hq5 hq6
        go_wp2
        go_roundw
        case rel => exact HR.out _ _ HQ6.out (by rw [HE.out, List.append_assoc])
        case measure => simp only [World.iterPos, HQ6.out.at, HI.out]; omega
      by_cases c13 : r = 13
      · subst c13
        have hlk := look_someI HQ2.out.1 13 114 13 114 rfl rfl (by decide)
        have HE := Lib.hid (show Utf.escR 13 = [92] ++ Utf.enc 114 from rfl)
        go_wp2_with fail
        ((with_reducible refine (qs_byte HQ2.out 92 92 rfl (by decide) (by omega)).mono ?_); rintro e w5 ⟨rfl, hq5⟩)
        go_wp2_with fail
        ((with_reducible refine (qs_rune hq5 114 114 rfl (isr_low _ (by decide)) (by simp; omega)).mono ?_); rintro e w6 ⟨⟨nn, rfl⟩, hq6⟩)
        have HQ6 := Lib.hid hq6
        clear hq5 hq6
        go_wp2
        go_roundw
        case rel => exact HR.out _ _ HQ6.out (by rw [HE.out, List.append_assoc])
        case measure => simp only [World.iterPos, HQ6.out.at, HI.out]; omega
      by_cases c9 : r = 9
      · subst c9
        have hlk := look_someI HQ2.out.1 9 116 9 116 rfl rfl (by decide)
        have HE := Lib.hid (show Utf.escR 9 = [92] ++ Utf.enc 116 from rfl)
        go_wp2_with fail
        ((with_reducible refine (qs_byte HQ2.out 92 92 rfl (by decide) (by omega)).mono ?_); rintro e w5 ⟨rfl, hq5⟩)
        go_wp2_with fail
        ((with_reducible refine (qs_rune hq5 116 116 rfl (isr_low _ (by decide)) (by simp; omega)).mono ?_); rintro e w6 ⟨⟨nn, rfl⟩, hq6⟩)
        have HQ6 := Lib.hid hq6
        clear hq5 hq6
        go_wp2
        go_roundw
        case rel => exact HR.out _ _ HQ6.out (by rw [HE.out, List.append_assoc])
        case measure => simp only [World.iterPos, HQ6.out.at, HI.out]; omega
      have hlk := look_none HQ2.out.1 r (lk_tidy_none r ⟨c34, c92, c8, c12, c10, c13, c9⟩)
      by_cases cl : r < 32
      · have cl' : (r : Int) < 32 := by omega
        have HE := Lib.hid (show Utf.escR r = [92, 117] ++ [48, 48] ++ [Utf.hex (r / 16)] ++ [Utf.hex (r % 16)] by
          unfold Utf.escR Utf.escB
          rw [if_pos (by omega), if_neg c34, if_neg c92, if_neg c8, if_neg c12, if_neg c10, if_neg c13, if_neg c9, if_pos cl]; rfl)
        have hx1 := hex_run (r / 16) (by omega) .i32
        have hx2 := hex_run (r % 16) (by omega) .i32
        rw [show ((r / 16 : Nat) : Int) = (r : Int) / 16 by omega] at hx1
        rw [show ((r % 16 : Nat) : Int) = (r : Int) % 16 by omega] at hx2
        have hh1 : Utf.hex (r / 16) < 256 := by unfold Utf.hex; split <;> omega
        have hh2 : Utf.hex (r % 16) < 256 := by unfold Utf.hex; split <;> omega
        generalize Utf.hex (r / 16) = p at *
        generalize Utf.hex (r % 16) = q at *
        go_wp2_with fail
        ((with_reducible refine (qs_str HQ2.out _ [92, 117] (by decide) (by decide) (by omega)).mono ?_); rintro e w5 ⟨⟨nn, rfl⟩, hq5⟩)
        go_wp2_with fail
        ((with_reducible refine (qs_str hq5 _ [48, 48] (by decide) (by decide) (by simp; omega)).mono ?_); rintro e w6 ⟨⟨nn, rfl⟩, hq6⟩)
        go_wp2_with fail
        ((with_reducible refine (qs_byte hq6 p p rfl hh1 (by simp; omega)).mono ?_); rintro e w7 ⟨rfl, hq7⟩)
        go_wp2_with fail
        ((with_reducible refine (qs_byte hq7 q q rfl hh2 (by simp; omega)).mono ?_); rintro e w8 ⟨rfl, hq8⟩)
        have HQ6 := Lib.hid hq8
        clear hq5 hq6 hq7 hq8
        go_wp2
        go_roundw
        case rel => exact HR.out _ _ HQ6.out (by rw [HE.out]; simp [List.append_assoc])
        case measure => simp only [World.iterPos, HQ6.out.at, HI.out]; omega
      · have cl' : ¬ ((r : Int) < 32) := by omega
        have HE := Lib.hid (show Utf.escR r = Utf.enc r by
          unfold Utf.escR
          by_cases cc : r < 128
          · rw [if_pos cc, Utf.enc_low r cc]
            unfold Utf.escB
            rw [if_neg c34, if_neg c92, if_neg c8, if_neg c12, if_neg c10, if_neg c13, if_neg c9, if_neg cl]
          · rw [if_neg cc])
        have HIS := Lib.hid hisr
        clear hisr
        go_wp2_with fail
        ((with_reducible refine (qs_rune HQ2.out r r rfl HIS.out (by omega)).mono ?_); rintro e w6 ⟨⟨nn, rfl⟩, hq6⟩)
        have HQ6 := Lib.hid hq6
        clear hq6
        go_wp2
        go_roundw
        case rel => exact HR.out _ _ HQ6.out (by rw [HE.out])
        case measure => simp only [World.iterPos, HQ6.out.at, HI.out]; omega
    · have hnx : ∀ ty, (Instr.next (.pointer (some ⟨w4.heap.size, 0, none⟩)) true ty).run Tryz.prog wr = _ := fun ty => Lib.run_next_end_at wr w4.heap.size s pos ty hit hp
      have hall : upto (bl s) pos = 34 :: Utf.escs (bl s) := by unfold upto; rw [List.take_of_length_le (by rw [bl_length]; omega)]
      have HA := Lib.hid hall
      have HQ5 := Lib.hid hq
      clear hall hit hq
      go_wp2_with fail
      ((with_reducible refine (qs_byte HQ5.out 34 34 rfl (by decide) (by omega)).mono ?_); rintro e w5 ⟨rfl, hq5⟩)
      go_wp2_with fail
      ((with_reducible refine (bString _ _ _ _ hq5.bld hq5.size).mono ?_); rintro e w6 ⟨rfl, hb6⟩)
      rw [HA.out]
      go_wp2
      go_ret2
      exact ⟨rfl, hbb.trans ((hq5.below.trans hb6).mono hbb.size)⟩
end Go.Proofs.YtanjdjiigfdnmaaGreatDoor
