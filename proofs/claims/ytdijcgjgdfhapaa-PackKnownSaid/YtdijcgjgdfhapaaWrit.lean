/- The pieces that are put, by the program's writer and by the reference's. -/
import Derived.Test.YtdijcgjgdfhapaaRput
namespace Go.Proofs.Ytdijcgjgdfhapaa
open Go.RowKit
set_option linter.unusedVariables false

theorem PPut.lift {w w1 w2 : World} {R : Nat → Prop} {g m : Nat} {s : Bool × List Nat} {x : Ending} (h : PPut w1 R g m s x w2) (hb : Below w.heap.size w w1) : PPut w R g m s x w2 := by
  obtain ⟨hx, R', hP, hT, hR⟩ := h
  exact ⟨hx, R', hP, (Touch.of_below hb).trans hT (fun _ h => .inl h), fun k hk => (hR k hk).imp id (Nat.le_trans hb.size)⟩
theorem RPut.lift {w w1 w2 : World} {R : Nat → Prop} {g m : Nat} {s : Bool × List Nat} {x : Ending} (h : RPut w1 R g m s x w2) (hb : Below w.heap.size w w1) : RPut w R g m s x w2 := by
  obtain ⟨hx, R', hP, hT, hR⟩ := h
  exact ⟨hx, R', hP, (Touch.of_below hb).trans hT (fun _ h => .inl h), fun k hk => (hR k hk).imp id (Nat.le_trans hb.size)⟩
theorem new_below (w : World) (o : Obj) : Below w.heap.size w (w.alloc o) := (Below.refl _ _).alloc (Nat.le_refl _) _

set_option maxHeartbeats 400000 in
set_option maxRecDepth 100000 in
theorem wByte (g m : Nat) (f : Bool) (l : List Nat) (c : Nat) (R : Nat → Prop) (w : World) (P : PW w R g m (f, l)) (hm : (m : Int) ≤ 9223372036854775807) (hl : l.length ≤ 100000000) (hc : c < 256) :
    Calls Try.prog 37 #[.pointer (some ⟨g, 0, none⟩), .int .u8 (c : Int)] w (PPut w R g m (puts m f l [c])) := by
  have HP := Lib.hid P
  clear P
  go_enter Try.func37, Try.ntmps37
  go_wp2_with fail
  refine (wput g m f l [c] R _ _ (HP.out.later (new_below _ _)) (rd_one w _ c rfl hc) hm hl (by simp)).mono ?_
  rintro x w1 h1
  obtain ⟨rfl, h2⟩ := h1.lift (new_below _ _)
  have H2 := Lib.hid h2
  clear h1 h2
  go_wp2
  go_end0
  exact ⟨rfl, H2.out⟩
set_option maxHeartbeats 400000 in
set_option maxRecDepth 100000 in
theorem rByte (g m : Nat) (f : Bool) (l : List Nat) (c : Nat) (R : Nat → Prop) (w : World) (P : RW w R g m (f, l)) (hm : (m : Int) ≤ 9223372036854775807) (hl : l.length ≤ 100000000) (hc : c < 256) :
    Calls Try.prog 44 #[.pointer (some ⟨g, 0, none⟩), .int .u8 (c : Int)] w (RPut w R g m (puts m f l [c])) := by
  have HP := Lib.hid P
  clear P
  go_enter Try.func44, Try.ntmps44
  go_wp2_with fail
  refine (rraw g m f l [c] R _ _ (HP.out.later (new_below _ _)) (rd_one w _ c rfl hc) hm hl (by simp)).mono ?_
  rintro x w1 h1
  obtain ⟨rfl, h2⟩ := h1.lift (new_below _ _)
  have H2 := Lib.hid h2
  clear h1 h2
  go_wp2
  go_end0
  exact ⟨rfl, H2.out⟩
set_option maxHeartbeats 400000 in
set_option maxRecDepth 100000 in
theorem wVar (g m : Nat) (f : Bool) (l : List Nat) (n : Int) (R : Nat → Prop) (w : World) (P : PW w R g m (f, l)) (hm : (m : Int) ≤ 9223372036854775807) (hl : l.length ≤ 100000000) (h0 : 0 ≤ n) (h1 : n ≤ 18446744073709551615) :
    Calls Try.prog 38 #[.pointer (some ⟨g, 0, none⟩), .int .u64 n] w (PPut w R g m (puts m f l (Leb.enc n.toNat))) := by
  have HP := Lib.hid P
  have he := Leb.enc_len n.toNat
  clear P
  go_enter Try.func38, Try.ntmps38
  go_wp2_with fail
  refine (put _ [] n _ (Rd.nil _ _) (by simp) h0 h1).mono ?_
  rintro x w1 ⟨r, rfl, ho, hb⟩
  rw [List.nil_append] at ho
  go_wp2_with fail
  refine (wput g m f l _ R _ _ (HP.out.later hb) ho.rd hm hl (by omega)).mono ?_
  rintro x w2 h1
  obtain ⟨rfl, h2⟩ := h1.lift hb
  have H2 := Lib.hid h2
  clear h1 h2
  go_wp2
  go_end0
  exact ⟨rfl, H2.out⟩
set_option maxHeartbeats 400000 in
set_option maxRecDepth 100000 in
theorem rVar (g m : Nat) (f : Bool) (l : List Nat) (n : Int) (R : Nat → Prop) (w : World) (P : RW w R g m (f, l)) (hm : (m : Int) ≤ 9223372036854775807) (hl : l.length ≤ 100000000) (h0 : 0 ≤ n) (h1 : n ≤ 18446744073709551615) :
    Calls Try.prog 45 #[.pointer (some ⟨g, 0, none⟩), .int .u64 n] w (RPut w R g m (puts m f l (Leb.enc n.toNat))) := by
  have HP := Lib.hid P
  have he := Leb.enc_len n.toNat
  clear P
  go_enter Try.func45, Try.ntmps45
  go_wp2_with fail
  refine (rput _ [] n _ (Rd.nil _ _) (by simp) h0 h1).mono ?_
  rintro x w1 ⟨r, rfl, ho, hb⟩
  rw [List.nil_append] at ho
  go_wp2_with fail
  refine (rraw g m f l _ R _ _ (HP.out.later hb) ho.rd hm hl (by omega)).mono ?_
  rintro x w2 h1
  obtain ⟨rfl, h2⟩ := h1.lift hb
  have H2 := Lib.hid h2
  clear h1 h2
  go_wp2
  go_end0
  exact ⟨rfl, H2.out⟩
set_option maxHeartbeats 400000 in
set_option maxRecDepth 100000 in
theorem wInt (g m : Nat) (f : Bool) (l : List Nat) (n : Int) (R : Nat → Prop) (w : World) (P : PW w R g m (f, l)) (hm : (m : Int) ≤ 9223372036854775807) (hl : l.length ≤ 100000000) (h0 : -9223372036854775808 ≤ n) (h1 : n ≤ 9223372036854775807) :
    Calls Try.prog 39 #[.pointer (some ⟨g, 0, none⟩), .int .i64 n] w (PPut w R g m (puts m f l (Leb.enc (zigN n).toNat))) := by
  have HP := Lib.hid P
  have he := Leb.enc_len (zigN n).toNat
  clear P
  go_enter Try.func39, Try.ntmps39
  go_wp2_with fail
  refine (putInt _ [] n _ (Rd.nil _ _) (by simp) h0 h1).mono ?_
  rintro x w1 ⟨r, rfl, ho, hb⟩
  rw [List.nil_append] at ho
  go_wp2_with fail
  refine (wput g m f l _ R _ _ (HP.out.later hb) ho.rd hm hl (by omega)).mono ?_
  rintro x w2 h1
  obtain ⟨rfl, h2⟩ := h1.lift hb
  have H2 := Lib.hid h2
  clear h1 h2
  go_wp2
  go_end0
  exact ⟨rfl, H2.out⟩
set_option maxHeartbeats 400000 in
set_option maxRecDepth 100000 in
theorem rInt (g m : Nat) (f : Bool) (l : List Nat) (n : Int) (R : Nat → Prop) (w : World) (P : RW w R g m (f, l)) (hm : (m : Int) ≤ 9223372036854775807) (hl : l.length ≤ 100000000) (h0 : -9223372036854775808 ≤ n) (h1 : n ≤ 9223372036854775807) :
    Calls Try.prog 46 #[.pointer (some ⟨g, 0, none⟩), .int .i64 n] w (RPut w R g m (puts m f l (Leb.enc (zigN n).toNat))) := by
  have HP := Lib.hid P
  have he := Leb.enc_len (zigN n).toNat
  clear P
  go_enter Try.func46, Try.ntmps46
  go_wp2_with fail
  refine (rputInt _ [] n _ (Rd.nil _ _) (by simp) h0 h1).mono ?_
  rintro x w1 ⟨r, rfl, ho, hb⟩
  rw [List.nil_append] at ho
  go_wp2_with fail
  refine (rraw g m f l _ R _ _ (HP.out.later hb) ho.rd hm hl (by omega)).mono ?_
  rintro x w2 h1
  obtain ⟨rfl, h2⟩ := h1.lift hb
  have H2 := Lib.hid h2
  clear h1 h2
  go_wp2
  go_end0
  exact ⟨rfl, H2.out⟩
set_option maxHeartbeats 400000 in
set_option maxRecDepth 100000 in
theorem wRaw (g m : Nat) (f : Bool) (l r : List Nat) (u : Value) (R : Nat → Prop) (w : World) (P : PW w R g m (f, l)) (hr : Rd w w.heap.size u r) (hm : (m : Int) ≤ 9223372036854775807) (hl : l.length ≤ 100000000) (hrl : r.length ≤ 100000000) :
    Calls Try.prog 42 #[.pointer (some ⟨g, 0, none⟩), u] w (PPut w R g m (puts m f l r)) := by
  have HP := Lib.hid P
  have HR := Lib.hid hr
  clear P hr
  go_enter Try.func42, Try.ntmps42
  go_wp2_with fail
  refine (wput g m f l _ R _ _ HP.out HR.out hm hl (by omega)).mono ?_
  rintro x w2 h1
  obtain ⟨rfl, h2⟩ := id h1
  have H2 := Lib.hid h2
  clear h1 h2
  go_wp2
  go_end0
  exact ⟨rfl, H2.out⟩

set_option maxRecDepth 100000 in
/-- append of a string's bytes onto what is owned. -/
theorem wpList_app_str {w : World} {ops : Array Oper} {rest : List Oper} {o : Oper} {a : Act} {Q : Exit → Act → World → Prop} (hgd : o.guard = none) (sl x : Operand)
    (ho : o.op = .call { callee := .builtin .append, args := #[sl, x], argTypes := #[32, 9] })
    (base : Nat) (v : Value) (l : List Nat) (hs : a.eval sl = v) (hown : Own w base v l) (s : ByteArray) (hx : a.eval x = .string s)
    (hlen : l.length + s.size ≤ 1000000000) (hbase : base ≤ w.heap.size)
    (h : ∀ v' w', Own w' base v' (l ++ bl s) → Below base w w' → wpList Try.prog ops Q rest (a.put o.dst v') w') : wpList Try.prog ops Q (o :: rest) a w := by
  obtain ⟨i, hi, hz, hsz, hby⟩ := byte_parts
  refine Lib.wpList_append_own_string w hgd sl x 32 9 ho base 5 i Try.underlying32 Try.underlying9 hi hz hsz hby v l.length (vals l) hs hown.1 s hx (by simp only [maxLen]; omega) (by omega) hbase ?_
  intro v' w' h2 h3 _
  refine h v' w' ⟨?_, fun x hx => (List.mem_append.1 hx).elim (hown.2 x) (bl_byte s x)⟩ ((Below.refl _ _).grown h3 hbase (fun k hk => (hown.1.lt k hk).1))
  rw [List.length_append, vals_append, bl_length, ← strCells_bl]
  exact h2

set_option maxHeartbeats 400000 in
set_option maxRecDepth 100000 in
theorem wText (g m : Nat) (f : Bool) (l : List Nat) (s : ByteArray) (R : Nat → Prop) (w : World) (P : PW w R g m (f, l)) (hm : (m : Int) ≤ 9223372036854775807) (hl : l.length ≤ 100000000) (hs : s.size ≤ 100000) :
    Calls Try.prog 40 #[.pointer (some ⟨g, 0, none⟩), .string s] w (PPut w R g m (puts m f l (Leb.enc s.size ++ bl s))) := by
  have HP := Lib.hid P
  have he := Leb.enc_len s.size
  clear P
  go_enter Try.func40, Try.ntmps40
  go_wp2_with fail
  refine (put _ [] (s.size : Int) _ (Rd.nil _ _) (by simp) (by omega) (by omega)).mono ?_
  rintro x w1 ⟨r, rfl, ho, hb⟩
  rw [List.nil_append, Int.toNat_natCast] at ho
  go_wp2_with (at_builtin
               refine wpList_app_str rfl (.tmp 8) (.tmp 9) rfl w.heap.size r _ rfl ho s rfl (by omega) hb.size ?_
               intro v1 w2 ho1 hb1)
  have hb2 := hb.trans hb1
  refine (wput g m f l _ R _ _ (HP.out.later hb2) ho1.rd hm hl (by rw [List.length_append, bl_length]; omega)).mono ?_
  rintro x w3 h1
  obtain ⟨rfl, h2⟩ := h1.lift hb2
  have H2 := Lib.hid h2
  clear h1 h2
  go_wp2
  go_end0
  exact ⟨rfl, H2.out⟩
set_option maxHeartbeats 400000 in
set_option maxRecDepth 100000 in
theorem rText (g m : Nat) (f : Bool) (l : List Nat) (s : ByteArray) (R : Nat → Prop) (w : World) (P : RW w R g m (f, l)) (hm : (m : Int) ≤ 9223372036854775807) (hl : l.length ≤ 100000000) (hs : s.size ≤ 100000) :
    Calls Try.prog 47 #[.pointer (some ⟨g, 0, none⟩), .string s] w (RPut w R g m (puts m f l (Leb.enc s.size ++ bl s))) := by
  have HP := Lib.hid P
  have he := Leb.enc_len s.size
  clear P
  go_enter Try.func47, Try.ntmps47
  go_wp2_with fail
  refine (rput _ [] (s.size : Int) _ (Rd.nil _ _) (by simp) (by omega) (by omega)).mono ?_
  rintro x w1 ⟨r, rfl, ho, hb⟩
  rw [List.nil_append, Int.toNat_natCast] at ho
  go_wp2_with (at_builtin
               refine wpList_app_str rfl (.tmp 8) (.tmp 9) rfl w.heap.size r _ rfl ho s rfl (by omega) hb.size ?_
               intro v1 w2 ho1 hb1)
  have hb2 := hb.trans hb1
  refine (rraw g m f l _ R _ _ (HP.out.later hb2) ho1.rd hm hl (by rw [List.length_append, bl_length]; omega)).mono ?_
  rintro x w3 h1
  obtain ⟨rfl, h2⟩ := h1.lift hb2
  have H2 := Lib.hid h2
  clear h1 h2
  go_wp2
  go_end0
  exact ⟨rfl, H2.out⟩

/-- A word's bytes. -/
def wordL (n : Nat) : List Nat := [n % 256, n / 256 % 256, n / 65536 % 256, n / 16777216 % 256]
theorem wordL_byte (n : Nat) : ∀ x ∈ wordL n, x < 256 := by intro x hx; simp [wordL] at hx; omega
theorem rd_lit (w : World) (l : List Nat) (cs : Array Value) (n : Nat) (hcs : cs = (vals l).toArray) (hn : n = l.length) (hm : l.length ≤ 1000) (hb : ∀ x ∈ l, x < 256) :
    Rd (w.alloc (.cells cs 5)) (w.alloc (.cells cs 5)).heap.size (.slice (some ⟨w.heap.size, 0, none⟩) n n) l := by
  subst hcs hn
  refine ⟨_, _, rfl, Nat.le_refl _, by simp only [maxLen]; omega, by simp, hb, fun _ => ⟨w.heap.size, 0, rfl, by simp, fun k hk => ?_⟩⟩
  rw [Nat.zero_add]
  have := cell_of_row (w.alloc (.cells (vals l).toArray 5)) w.heap.size k _ 5 (0, 0) (heap_alloc_new w _)
  rw [this]
  simp [vals, List.getElem?_eq_getElem hk]
set_option maxHeartbeats 400000 in
set_option maxRecDepth 100000 in
theorem rWord (g m : Nat) (f : Bool) (l : List Nat) (n : Nat) (R : Nat → Prop) (w : World) (P : RW w R g m (f, l)) (hm : (m : Int) ≤ 9223372036854775807) (hl : l.length ≤ 100000000) (hn : (n : Int) ≤ 4294967295) :
    Calls Try.prog 49 #[.pointer (some ⟨g, 0, none⟩), .int .u32 (n : Int)] w (RPut w R g m (puts m f l (wordL n))) := by
  have HP := Lib.hid P
  clear P
  go_enter Try.func49, Try.ntmps49
  go_wp2_with fail
  refine (rraw g m f l _ R _ _ (HP.out.later (new_below _ _)) (rd_lit w (wordL n) _ 4 (by simp [wordL, vals]; omega) rfl (by simp [wordL]) (wordL_byte n)) hm hl (by simp [wordL])).mono ?_
  rintro x w3 h1
  obtain ⟨rfl, h2⟩ := h1.lift (new_below _ _)
  have H2 := Lib.hid h2
  clear h1 h2
  go_wp2
  go_end0
  exact ⟨rfl, H2.out⟩
end Go.Proofs.Ytdijcgjgdfhapaa
