/- The reference's Raw, and Done of both. -/
import Derived.Test.YtdijcgjgdfhapaaPut
import Derived.Lib.SliceRun
import Derived.Lib.AppendStr
import Derived.Lib.ConvBytes
namespace Go.Proofs.Ytdijcgjgdfhapaa
open Go.RowKit
set_option linter.unusedVariables false

theorem Touch.undrewN {S : Nat → Prop} {w w' : World} {n : Nat} (h : Touch S (w.drewN n) w') : Touch S w w' := ⟨h.os, h.tape, h.output, h.size, h.block⟩
theorem Touch.drewN {S : Nat → Prop} {w w' : World} (n : Nat) (h : Touch S w w') : Touch S w (w'.drewN n) := ⟨h.os, h.tape, h.output, h.size, h.block⟩

set_option maxHeartbeats 400000 in
theorem rraw (g m : Nat) (f : Bool) (l r : List Nat) (R : Nat → Prop) (u : Value) (w : World) (P : RW w R g m (f, l)) (hr : Rd w w.heap.size u r) (hm : (m : Int) ≤ 9223372036854775807) (hl : l.length ≤ 100000000) (hrl : r.length ≤ 100000000) :
    Calls Try.prog 48 #[.pointer (some ⟨g, 0, none⟩), u] w (RPut w R g m (puts m f l r)) := by
  have P0 := Lib.hid P
  have HR := Lib.hid hr
  obtain ⟨v, hb, ho, hg, hv, hR⟩ := P
  have h0 := hb.cell 0
  have h1 := hb.cell 1
  have h2 := hb.cell 2
  simp at h0 h1 h2
  obtain ⟨a, c, rfl, q1, q2, -⟩ := ho.rd
  obtain ⟨a', c', rfl, q3, q4, -⟩ := hr
  have HV := Lib.hid hv
  have HRR := Lib.hid hR
  clear hv hR
  unfold maxLen at q2 q4
  have hf2 := hb.frozen 2
  have hf0 := hb.frozen 0
  cases f
  · by_cases hfit : m < l.length + r.length
    · have HP := Lib.hid (show puts m false l r = (true, l) by unfold puts; rw [if_pos (.inr hfit)])
      have hd : decide ((m : Int) - (l.length : Int) < (r.length : Int)) = true := by simp; omega
      go_enter Try.func48, Try.ntmps48
      go_wp2
      go_quiet (fail)
      go_wp2
      go_end0
      rw [HP.out]
      have hT : Touch R w ((w.drewN nq).setCell ⟨g, 2, none⟩ (.bool true)) := ((Touch.refl R (w.drewN nq)).setCell (p := ⟨g, 2, none⟩) hg _).undrewN
      exact ⟨rfl, R, ⟨_, Blk.put (w := w.drewN nq) hb 2 _, Own.touch (w := w.drewN nq) ho ((Touch.refl (fun k => k = g) (w.drewN nq)).setCell (p := ⟨g, 2, none⟩) rfl _) (fun k hk => (HV.out k hk).2), hg, HV.out, fun k hk => Nat.lt_of_lt_of_le (HRR.out k hk) hT.size⟩, hT, fun k hk => .inl hk⟩
    · have HP := Lib.hid (show puts m false l r = (false, l ++ r) by unfold puts; rw [if_neg (by simp; omega)])
      have hd : decide ((m : Int) - (l.length : Int) < (r.length : Int)) = false := by simp; omega
      go_enter Try.func48, Try.ntmps48
      go_wp2
      go_quiet (fail)
      go_wp2_with (at_builtin
                   refine wpList_app_at rfl (.tmp 30) (.tmp 31) rfl 0 (.slice a l.length c) l rfl (w := w.drewN nq) ho _ r rfl HR.out (by omega) (Nat.zero_le _) ?_
                   intro v1 w1 ho1 ht1 hk1
                   have hb1 := Blk.touch (w := w.drewN nq) hb ht1 (fun e => (HV.out g e).2 rfl)
                   have hf3 := hb1.frozen 0
                   have HK := Lib.hid hk1
                   have HO := Lib.hid ho1
                   obtain ⟨a1, c1, e1, -⟩ := ho1.rd
                   subst e1
                   have hc1 := hb1.cell 0
                   simp at hc1
                   clear hk1 ho1)
      go_end0
      rw [HP.out]
      rw [← List.length_append]
      obtain ⟨s1, s2, s3, s4⟩ := row_stored (w := w.drewN nq) (j := 0) hg hb.lt HV.out HRR.out ht1 HO.out HK.out
      exact ⟨rfl, _, ⟨_, hb1.put 0 _, s1, .inl hg, s2, s3⟩, s4.undrewN, Wider.new⟩
  · go_enter Try.func48, Try.ntmps48
    go_wp2
    go_quiet (fail)
    go_wp2
    go_end0
    rw [show puts m true l r = (true, l) by unfold puts; rw [if_pos (.inl rfl)]]
    have hT : Touch R w ((w.drewN nq).setCell ⟨g, 2, none⟩ (.bool true)) := ((Touch.refl R (w.drewN nq)).setCell (p := ⟨g, 2, none⟩) hg _).undrewN
    exact ⟨rfl, R, ⟨_, Blk.put (w := w.drewN nq) hb 2 _, Own.touch (w := w.drewN nq) ho ((Touch.refl (fun k => k = g) (w.drewN nq)).setCell (p := ⟨g, 2, none⟩) rfl _) (fun k hk => (HV.out k hk).2), hg, HV.out, fun k hk => Nat.lt_of_lt_of_le (HRR.out k hk) hT.size⟩, hT, fun k hk => .inl hk⟩

/-- bytes.Clone: bytes in memory of their own. -/
theorem Rd.drewN {w : World} {B : Nat} {v : Value} {l : List Nat} (n : Nat) (h : Rd w B v l) : Rd (w.drewN n) B v l := h
theorem rd_none (w : World) (a : Option Addr) (l : List Nat) (c B : Nat) (h : Rd w B (.slice a l.length c) l) : a = none → l = [] ∧ c = 0 := by
  intro e
  obtain ⟨a', c', e', h1, h2, h3, _⟩ := h
  injection e' with e1 e2 e3
  subst e1 e3
  have := h3 e
  exact ⟨List.eq_nil_of_length_eq_zero (by omega), this⟩
set_option maxRecDepth 100000 in
theorem own_empty (w : World) (base : Nat) (hb : base ≤ w.heap.size) : Own (w.alloc (.cells #[] 5)) base (.slice (some ⟨w.heap.size, 0, none⟩) 0 0) [] :=
  ⟨⟨rfl, .inr ⟨w.heap.size, 0, #[], rfl, hb, heap_alloc_new w _, Nat.le_refl _, by simp [maxLen], rfl, rfl⟩⟩, by simp⟩
set_option maxHeartbeats 400000 in
set_option maxRecDepth 100000 in
theorem clone (v : Value) (l : List Nat) (w : World) (h : Rd w w.heap.size v l) (hl : l.length ≤ 100000000) :
    Calls Try.prog 51 #[v] w fun e w' => ∃ r, e = .returned r ∧ Own w' w.heap.size r l ∧ Below w.heap.size w w' := by
  obtain ⟨a, c, rfl, h1, h2, -⟩ := id h
  have hq := Lib.run_eql_slice_nil (P := Try.prog) w 32 5 a l.length c 0 0 Try.underlying32
  cases a with
  | none =>
    obtain ⟨rfl, rfl⟩ := rd_none w none l c _ h rfl
    simp at hq
    go_enter Try.func51, Try.ntmps51
    go_wp2
    go_ret
    exact ⟨_, rfl, Own.nil _ _, Below.refl _ _⟩
  | some ad =>
    simp at hq
    go_enter Try.func51, Try.ntmps51
    go_wp2_with (at_builtin
                 refine wpList_app rfl (.tmp 5) (.tmp 6) rfl w.heap.size _ [] rfl (own_empty w _ (Nat.le_refl _)) _ l rfl (h.later (Nat.le_refl _) ((Below.refl _ _).alloc (Nat.le_refl _) _)) (by simp; omega) (by simp) ?_
                 intro v1 w1 hown1 hb1)
    go_ret
    exact ⟨v1, rfl, by simpa using hown1, ((Below.refl _ _).alloc (Nat.le_refl _) _).trans hb1⟩

/-- A string's bytes. -/
def bl (s : ByteArray) : List Nat := s.data.toList.map UInt8.toNat
theorem bl_length (s : ByteArray) : (bl s).length = s.size := by simp [bl]
theorem bl_byte (s : ByteArray) : ∀ x ∈ bl s, x < 256 := by
  intro x hx
  obtain ⟨b, _, rfl⟩ := List.mem_map.1 hx
  exact b.toNat_lt
theorem str_bl (s : ByteArray) : str (bl s) = s := by
  refine ByteArray.ext (Array.toList_inj.1 ?_)
  simp only [str, strOfNums_data, bl, List.map_map]
  conv => rhs; rw [← List.map_id s.data.toList]
  refine List.map_congr_left fun b _ => ?_
  simp
theorem strCells_bl (s : ByteArray) : Lib.strCells s = vals (bl s) := by simp [Lib.strCells, vals, bl]
theorem bl_extract (s : ByteArray) (n : Nat) : bl (s.extract 0 n) = (bl s).take n := by
  simp [bl, ByteArray.data_extract, List.map_take]
/-- A text that is cut at 40 bytes. -/
def clip40 (s : ByteArray) : ByteArray := s.extract 0 (min (s.size : Int) 40).toNat
theorem clip40_size (s : ByteArray) : (clip40 s).size ≤ 40 := by
  unfold clip40
  rw [ByteArray.size_extract]
  omega
set_option maxHeartbeats 400000 in
theorem clip (s : ByteArray) (w : World) (h : s.size ≤ 9223372036854775807) :
    Calls Try.prog 41 #[.string s] w fun e w' => e = .returned (.string (clip40 s)) ∧ w = w' := by
  go_enter Try.func41, Try.ntmps41
  go_wp2
  go_ret
  exact ⟨rfl, rfl⟩

/-- []byte(s), of a string. -/
theorem rd_bytes (w : World) (s : ByteArray) (h : s.size ≤ 100000000) : Rd (Lib.bytesWorld w 5 s) (Lib.bytesWorld w 5 s).heap.size (.slice (some ⟨w.heap.size, 0, none⟩) s.size (grownCap w s.size 0 5)) (bl s) := by
  refine ⟨_, _, by rw [bl_length], by rw [bl_length]; exact grownCap_ge w _ _ _, grownCap_le_maxLen w _ _ _ (by simp only [maxLen]; omega), by simp, bl_byte s, fun _ => ⟨w.heap.size, 0, rfl, by rw [Lib.bytesWorld_size]; omega, fun k hk => ?_⟩⟩
  rw [bl_length] at hk
  rw [Nat.zero_add, Lib.bytesWorld_cell w _ s k hk]
  simp [bl, List.getElem?_map, List.getD]
  cases s.data[k]? <;> rfl
theorem bytes_below (w : World) (s : ByteArray) : Below w.heap.size w (Lib.bytesWorld w 5 s) :=
  ⟨rfl, rfl, rfl, by rw [Lib.bytesWorld_size]; omega, fun k hk => Lib.bytesWorld_at_old w _ s k hk⟩
end Go.Proofs.Ytdijcgjgdfhapaa
