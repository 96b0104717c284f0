/- The program's reader: what it holds; single bytes, blanks, digits, numbers' bytes. -/
import Derived.Test.YtgmdjofnkbaflaaDoorSep
import Derived.Test.YtgmdjofnkbaflaaDoorStep
import Derived.Deep.QuietTactic
import Derived.BigQuiet
namespace Go.Proofs.YtgmdjofnkbaflaaDoor
open Go.RowKit
set_option linter.unusedVariables false
set_option maxRecDepth 100000

/-- A reader: its text, where it stands, what comes next, a key, what is open, the nodes. -/
def RP (w : World) (g : Nat) (S : ByteArray) (a : Nat) (nx : Int) (y : ByteArray) (ov tv : Value) : Prop := Blk w g 54 [.string S, .int .i64 (a : Nat), .int .i64 nx, .string y, ov, tv]
section
variable {w w' : World} {g a : Nat} {S y : ByteArray} {nx : Int} {ov tv : Value}
theorem RP.lie (h : RP w g S a nx y ov tv) : w.cell? ⟨g, 0, none⟩ = some (.string S) ∧ w.cell? ⟨g, 1, none⟩ = some (.int .i64 (a : Nat)) ∧ w.cell? ⟨g, 2, none⟩ = some (.int .i64 nx) ∧ w.cell? ⟨g, 3, none⟩ = some (.string y) ∧ w.cell? ⟨g, 4, none⟩ = some ov ∧ w.cell? ⟨g, 5, none⟩ = some tv :=
  ⟨by have := Blk.cell h 0; simpa using this, by have := Blk.cell h 1; simpa using this, by have := Blk.cell h 2; simpa using this, by have := Blk.cell h 3; simpa using this, by have := Blk.cell h 4; simpa using this, by have := Blk.cell h 5; simpa using this⟩
theorem RP.later (h : RP w g S a nx y ov tv) (hb : Below w.heap.size w w') : RP w' g S a nx y ov tv := Blk.later h hb
theorem RP.touch {X : Nat → Prop} (h : RP w g S a nx y ov tv) (ht : Touch X w w') (hn : ¬ X g) : RP w' g S a nx y ov tv := Blk.touch h ht hn
theorem RP.putA (h : RP w g S a nx y ov tv) (b : Nat) : RP (w.setCell ⟨g, 1, none⟩ (.int .i64 (b : Nat))) g S b nx y ov tv := Blk.put h 1 _
theorem RP.putN (h : RP w g S a nx y ov tv) (m : Int) : RP (w.setCell ⟨g, 2, none⟩ (.int .i64 m)) g S a m y ov tv := Blk.put h 2 _
theorem RP.putK (h : RP w g S a nx y ov tv) (z : ByteArray) : RP (w.setCell ⟨g, 3, none⟩ (.string z)) g S a nx z ov tv := Blk.put h 3 _
theorem RP.putO (h : RP w g S a nx y ov tv) (v : Value) : RP (w.setCell ⟨g, 4, none⟩ v) g S a nx y v tv := Blk.put h 4 _
theorem RP.putT (h : RP w g S a nx y ov tv) (v : Value) : RP (w.setCell ⟨g, 5, none⟩ v) g S a nx y ov v := Blk.put h 5 _
theorem touchG (w : World) (g k : Nat) (v : Value) : Touch (fun i => i = g) w (w.setCell ⟨g, k, none⟩ v) := Touch.setCell (S := fun i => i = g) (p := ⟨g, k, none⟩) (Touch.refl _ _) rfl v
end
/-- The bytes that are left. -/
abbrev left (S : ByteArray) (a : Nat) : List Nat := (bl S).drop a
theorem left_len (S : ByteArray) (a : Nat) : (left S a).length = S.size - a := by rw [List.length_drop, bl_length]
theorem left_hd (S : ByteArray) (a : Nat) : Jr.hd (left S a) = (bl S).getD a 0 := by
  unfold Jr.hd left
  rw [List.getD_eq_getElem?_getD, List.getD_eq_getElem?_getD, List.getElem?_drop, Nat.add_zero]
theorem left_byte (S : ByteArray) (a : Nat) : ∀ x ∈ left S a, x < 256 := fun x hx => bl_byte S x (List.mem_of_mem_drop hx)
theorem hd_byte {l : List Nat} (h : ∀ x ∈ l, x < 256) : Jr.hd l < 256 := by
  cases l with
  | nil => simp
  | cons c t => exact h c (List.mem_cons_self ..)
theorem index_mem (l : List UInt8) (c : UInt8) : 0 ≤ Lib.indexByte l c ↔ c ∈ l := by
  induction l with
  | nil => simp [Lib.indexByte]
  | cons b l ih =>
    have := Lib.indexByte_ge l c
    unfold Lib.indexByte
    by_cases h : b = c
    · simp [h]
    · have h2 : (b == c) = false := by simpa using h
      rw [h2]
      simp only [Bool.false_eq_true, if_false, List.mem_cons]
      have h3 : ¬ c = b := fun e => h e.symm
      by_cases h4 : Lib.indexByte l c = -1
      · have h5 : ¬ 0 ≤ Lib.indexByte l c := by omega
        rw [ih] at h5
        simp [h4, h3, h5]
      · have h5 : 0 ≤ Lib.indexByte l c := by omega
        have h6 := ih.1 h5
        have h7 : (Lib.indexByte l c == -1) = false := by simpa using h4
        rw [h7]
        simp [h6]; omega
theorem index_bl (X : ByteArray) (c : Nat) (hc : c < 256) : (0 ≤ Lib.indexByte X.data.toList ((c : Int).toNat.toUInt8)) ↔ c ∈ bl X := by
  rw [index_mem]
  unfold bl
  rw [Int.toNat_natCast]
  constructor
  · intro h
    refine List.mem_map.2 ⟨_, h, ?_⟩
    simp; omega
  · intro h
    obtain ⟨b, hb, e⟩ := List.mem_map.1 h
    have : (c.toUInt8) = b := by
      apply UInt8.toNat_inj.1
      simp; omega
    rw [this]; exact hb

set_option maxHeartbeats 1000000 in
theorem jhere {w : World} {g a : Nat} {S y : ByteArray} {nx : Int} {ov tv : Value} (h : RP w g S a nx y ov tv) (ha : a ≤ S.size) (hm : S.size ≤ 1048576) (c : Nat) (hc : Jr.hd (left S a) = c) :
    Calls Tryd.prog 51 #[.pointer (some ⟨g, 0, none⟩)] w fun e w' => e = .returned (.int .u8 (c : Nat)) ∧ ∃ m, w' = w.drewN m := by
  obtain ⟨c0, c1, _⟩ := h.lie
  rw [left_hd] at hc
  by_cases hlt : a < S.size
  · have h1 : (a : Int) < S.size := by omega
    have h2 : ((a : Int) == S.size) = false := by simp; omega
    have hx := bl_at S a hlt
    rw [hc] at hx
    clear hc h ha
    go_enter Tryd.func51, Tryd.ntmps51
    go_wp2_with fail
    go_quiet (fail)
    go_wp2_with fail
    go_quiet (fail)
    go_wp2_with fail
    go_ret
    exact ⟨rfl, _, World.drewN_drewN ..⟩
  · have h2 : ((a : Int) == S.size) = true := by simp; omega
    obtain rfl : 0 = c := by
      rw [← hc, List.getD_eq_getElem?_getD, List.getElem?_eq_none (by rw [bl_length]; omega)]; rfl
    clear hc h
    go_enter Tryd.func51, Tryd.ntmps51
    go_wp2_with fail
    go_quiet (fail)
    go_wp2_with fail
    go_ret
    exact ⟨rfl, _, rfl⟩
set_option maxHeartbeats 1000000 in
theorem jstands {w : World} {g a : Nat} {S y : ByteArray} {nx : Int} {ov tv : Value} (h : RP w g S a nx y ov tv) (ha : a ≤ S.size) (hm : S.size ≤ 1048576) (X : ByteArray) (b : Bool) (hb : b = true ↔ Jr.hd (left S a) ∈ bl X) :
    Calls Tryd.prog 50 #[.pointer (some ⟨g, 0, none⟩), .string X] w fun e w' => e = .returned (.bool b) ∧ ∃ m, w' = w.drewN m := by
  obtain ⟨c, hc⟩ : ∃ c, Jr.hd (left S a) = c := ⟨_, rfl⟩
  have hc256 : c < 256 := by rw [← hc]; exact hd_byte (left_byte S a)
  have C1 := Lib.hid (jhere h ha hm c hc)
  have C2 := Lib.hid (fun w => Tryd.strings_IndexByte X (c : Int) w)
  obtain ⟨q, hq⟩ : ∃ q, Lib.indexByte X.data.toList (c : Int).toNat.toUInt8 = q := ⟨_, rfl⟩
  have hi := index_bl X c hc256
  rw [hq] at hi
  have C2 := Lib.hid (fun w => by have := C2.out w; rw [hq] at this; exact this)
  rw [hc, ← hi] at hb
  obtain rfl : b = decide (0 ≤ q) := by rw [Bool.eq_iff_iff, decide_eq_true_eq]; exact hb
  clear h ha hb hi hq hc
  go_enter Tryd.func50, Tryd.ntmps50
  go_wp2_with fail
  ((with_reducible refine (C1.out).mono ?_); rintro e w2 ⟨rfl, m, rfl⟩)
  go_wp2_with fail
  ((with_reducible refine (C2.out _).mono ?_); rintro e w2 ⟨rfl, rfl⟩)
  go_wp2_with fail
  go_ret
  exact ⟨rfl, _, rfl⟩
theorem RP.drew {w : World} {g a : Nat} {S y : ByteArray} {nx : Int} {ov tv : Value} (h : RP w g S a nx y ov tv) (m : Nat) : RP (w.drewN m) g S a nx y ov tv := h
theorem touchD (w : World) (X : Nat → Prop) (m : Nat) : Touch X w (w.drewN m) := ⟨rfl, rfl, rfl, Nat.le_refl _, fun _ _ _ => rfl⟩
/-- A byte at hand is within the text. -/
theorem hd_in {S : ByteArray} {a : Nat} (h : Jr.hd (left S a) ≠ 0) : a < S.size := by
  rcases Nat.lt_or_ge a S.size with h1 | h1
  · exact h1
  · exfalso
    apply h
    unfold left
    rw [List.drop_eq_nil_of_le (by rw [bl_length]; exact h1)]
    rfl
/-- What a call leaves of a reader that has gone on. -/
def Went (w w' : World) (g : Nat) (S : ByteArray) (a : Nat) (nx : Int) (y : ByteArray) (ov tv : Value) : Prop := RP w' g S a nx y ov tv ∧ Touch (fun i => i = g) w w'
theorem Went.then {w w1 w2 : World} {g a b : Nat} {S y z : ByteArray} {nx mx : Int} {ov tv ou tu : Value} (h : Went w w1 g S a nx y ov tv) (k : Went w1 w2 g S b mx z ou tu) : Went w w2 g S b mx z ou tu := ⟨k.1, h.2.trans k.2 (fun i hi => .inl hi)⟩
set_option maxHeartbeats 1000000 in
theorem jskipOne {w : World} {g a : Nat} {S y : ByteArray} {nx : Int} {ov tv : Value} (h : RP w g S a nx y ov tv) (ha : a ≤ S.size) (hm : S.size ≤ 1048576) (X : ByteArray) (hX : 0 ∉ bl X) (b : Bool) (hb : b = true ↔ Jr.hd (left S a) ∈ bl X) :
    Calls Tryd.prog 99 #[.pointer (some ⟨g, 0, none⟩), .string X] w fun e w' => e = .returned (.bool b) ∧ Went w w' g S (a + b.toNat) nx y ov tv ∧ (b = true → a < S.size) := by
  have C1 := Lib.hid (jstands h ha hm X b hb)
  obtain ⟨c0, c1, _⟩ := h.lie
  have H := Lib.hid h
  cases b with
  | true =>
    have hlt := hd_in (S := S) (a := a) (fun e => hX (e ▸ hb.1 rfl))
    have HLT := Lib.hid hlt
    have f1 := fun n => Blk.frozen (h.drew n) 1
    clear h hb hX
    go_enter Tryd.func99, Tryd.ntmps99
    go_wp2_with fail
    ((with_reducible refine (C1.out).mono ?_); rintro e w2 ⟨rfl, m, rfl⟩)
    have f1 := f1 m
    go_wp2_with fail
    go_ret
    exact ⟨rfl, ⟨(H.out.drew m).putA (a + 1), (touchD w _ m).trans (touchG _ g 1 _) (fun i hi => .inl hi)⟩, fun _ => HLT.out⟩
  | false =>
    clear h hb hX
    go_enter Tryd.func99, Tryd.ntmps99
    go_wp2_with fail
    ((with_reducible refine (C1.out).mono ?_); rintro e w2 ⟨rfl, m, rfl⟩)
    go_wp2_with fail
    go_ret
    exact ⟨rfl, ⟨H.out.drew m, touchD w _ m⟩, fun h => Bool.noConfusion h⟩
def digitsS : ByteArray := ⟨#[48, 49, 50, 51, 52, 53, 54, 55, 56, 57]⟩
def blanksS : ByteArray := ⟨#[32, 9, 10, 13]⟩
theorem left_cons {S : ByteArray} {a : Nat} (h : a < S.size) : left S a = Jr.hd (left S a) :: left S (a + 1) := by
  have h2 : a < (bl S).length := by rw [bl_length]; exact h
  unfold left
  rw [List.drop_eq_getElem_cons h2]
  rfl
theorem left_end {S : ByteArray} {a : Nat} (h : ¬ a < S.size) : left S a = [] := by
  unfold left
  rw [List.drop_eq_nil_of_le (by rw [bl_length]; omega)]
theorem left_drop (S : ByteArray) (a n : Nat) : (left S a).drop n = left S (a + n) := by unfold left; rw [List.drop_drop]
theorem nd_left {S : ByteArray} {a : Nat} (h : Jr.isd (Jr.hd (left S a)) = true) : Jr.nd (left S a) = Jr.nd (left S (a + 1)) + 1 := by
  have hlt := hd_in (S := S) (a := a) (fun e => by rw [e] at h; simp [Jr.isd] at h)
  rw [left_cons hlt]
  have : Jr.isd (Jr.hd (left S a)) = true := h
  simp only [Jr.nd, this, if_true]
theorem nd_none {S : ByteArray} {a : Nat} (h : ¬ Jr.isd (Jr.hd (left S a)) = true) : Jr.nd (left S a) = 0 := by
  cases hl : left S a with
  | nil => rfl
  | cons c t => rw [hl] at h; simp only [Jr.hd_cons] at h; simp [Jr.nd, h]
theorem nb_left {S : ByteArray} {a : Nat} (h : Jr.blank (Jr.hd (left S a)) = true) : Jr.nb (left S a) = Jr.nb (left S (a + 1)) + 1 := by
  have hlt := hd_in (S := S) (a := a) (fun e => by rw [e] at h; simp [Jr.blank] at h)
  rw [left_cons hlt]
  have : Jr.blank (Jr.hd (left S a)) = true := h
  simp only [Jr.nb, this, if_true]
theorem nb_none {S : ByteArray} {a : Nat} (h : ¬ Jr.blank (Jr.hd (left S a)) = true) : Jr.nb (left S a) = 0 := Jr.nb_zero (by simpa using h)
theorem isd_mem (c : Nat) : Jr.isd c = true ↔ c ∈ bl digitsS := by
  have : bl digitsS = [48, 49, 50, 51, 52, 53, 54, 55, 56, 57] := rfl
  rw [this]
  simp [Jr.isd]; omega
theorem blank_mem (c : Nat) : Jr.blank c = true ↔ c ∈ bl blanksS := by
  have : bl blanksS = [32, 9, 10, 13] := rfl
  rw [this]
  simp [Jr.blank]
set_option maxHeartbeats 1000000 in
theorem jskipDigits {w : World} {g a : Nat} {S y : ByteArray} {nx : Int} {ov tv : Value} (h : RP w g S a nx y ov tv) (ha : a ≤ S.size) (hm : S.size ≤ 1048576) (n : Nat) (hn : Jr.nd (left S a) = n) :
    Calls Tryd.prog 100 #[.pointer (some ⟨g, 0, none⟩)] w fun e w' => e = .returned (.bool (decide (0 < n))) ∧ Went w w' g S (a + n) nx y ov tv ∧ a + n ≤ S.size := by
  obtain ⟨c0, c1, _⟩ := h.lie
  have H := Lib.hid h
  have HN := Lib.hid hn
  clear h hn
  go_enter Tryd.func100, Tryd.ntmps100
  go_wp2_with fail
  go_loopw [] (fun wx => ∃ b : Nat, a ≤ b ∧ b ≤ S.size ∧ b ≤ a + n ∧ Hid (Went w wx g S b nx y ov tv ∧ b + Jr.nd (left S b) = a + n)) (fun wx => S.size - (match wx.cell? ⟨g, 1, none⟩ with | some (.int _ z) => z.toNat | _ => 0))
  case atStart => exact ⟨a, by omega, by omega, by omega, Lib.hid ⟨⟨H.out, Touch.refl _ _⟩, by rw [HN.out]⟩⟩
  case round =>
    obtain ⟨b, h1, h2, h3, HW⟩ := hrel
    obtain ⟨_, d1, _⟩ := HW.out.1.1.lie
    by_cases hd : Jr.isd (Jr.hd (left S b)) = true
    · have C := Lib.hid (jskipOne HW.out.1.1 h2 hm digitsS (by decide) true ⟨fun _ => (isd_mem _).1 hd, fun _ => rfl⟩)
      have HD := Lib.hid (nd_left hd)
      have hlt := hd_in (S := S) (a := b) (fun e => by rw [e] at hd; simp [Jr.isd] at hd)
      unfold digitsS at C
      clear hd
      go_wp2_with fail
      ((with_reducible refine (C.out).mono ?_); rintro e w2 ⟨rfl, hw, _⟩)
      have HW2 := Lib.hid (HW.out.1.then hw)
      obtain ⟨_, d2, _⟩ := hw.1.lie
      simp only [Bool.toNat_true] at d2 HW2
      have hq := HW.out.2
      rw [HD.out] at hq
      clear hw
      go_wp2_with fail
      go_roundw
      case rel => exact ⟨b + 1, by omega, by omega, by omega, Lib.hid ⟨HW2.out, by omega⟩⟩
      case measure =>
        rw [d1, d2]
        simp
        omega
    · have C := Lib.hid (jskipOne HW.out.1.1 h2 hm digitsS (by decide) false ⟨fun h => Bool.noConfusion h, fun h => absurd ((isd_mem _).2 h) hd⟩)
      have HD := Lib.hid (nd_none hd)
      unfold digitsS at C
      have hq := HW.out.2
      rw [HD.out] at hq
      obtain rfl : b = a + n := by omega
      clear hd
      go_wp2_with fail
      ((with_reducible refine (C.out).mono ?_); rintro e w2 ⟨rfl, hw, _⟩)
      have HW2 := Lib.hid (HW.out.1.then hw)
      obtain ⟨_, d2, _⟩ := hw.1.lie
      simp only [Bool.toNat_false, Nat.add_zero] at d2 HW2
      clear hw
      go_wp2_with fail
      go_ret
      exact ⟨congrArg (fun z => Ending.returned (Value.bool z)) (decide_eq_decide.2 (by omega)), HW2.out, h2⟩
set_option maxHeartbeats 1000000 in
theorem jskipBlanks {w : World} {g a : Nat} {S y : ByteArray} {nx : Int} {ov tv : Value} (h : RP w g S a nx y ov tv) (ha : a ≤ S.size) (hm : S.size ≤ 1048576) (n : Nat) (hn : Jr.nb (left S a) = n) :
    Calls Tryd.prog 26 #[.pointer (some ⟨g, 0, none⟩)] w fun e w' => e = .returned (.tuple #[]) ∧ Went w w' g S (a + n) nx y ov tv ∧ a + n ≤ S.size := by
  have H := Lib.hid h
  have HN := Lib.hid hn
  clear h hn
  go_enter Tryd.func26, Tryd.ntmps26
  go_wp2_with fail
  go_loopw [] (fun wx => ∃ b : Nat, a ≤ b ∧ b ≤ S.size ∧ b ≤ a + n ∧ Hid (Went w wx g S b nx y ov tv ∧ b + Jr.nb (left S b) = a + n)) (fun wx => S.size - (match wx.cell? ⟨g, 1, none⟩ with | some (.int _ z) => z.toNat | _ => 0))
  case atStart => exact ⟨a, by omega, by omega, by omega, Lib.hid ⟨⟨H.out, Touch.refl _ _⟩, by rw [HN.out]⟩⟩
  case round =>
    obtain ⟨b, h1, h2, h3, HW⟩ := hrel
    obtain ⟨_, d1, _⟩ := HW.out.1.1.lie
    by_cases hd : Jr.blank (Jr.hd (left S b)) = true
    · have C := Lib.hid (jstands HW.out.1.1 h2 hm blanksS true ⟨fun _ => (blank_mem _).1 hd, fun _ => rfl⟩)
      have HD := Lib.hid (nb_left hd)
      have hlt := hd_in (S := S) (a := b) (fun e => by rw [e] at hd; simp [Jr.blank] at hd)
      unfold blanksS at C
      have f1 := fun n => Blk.frozen (HW.out.1.1.drew n) 1
      clear hd
      go_wp2_with fail
      ((with_reducible refine (C.out).mono ?_); rintro e w2 ⟨rfl, m, rfl⟩)
      have f1 := f1 m
      have HW2 : Hid (Went wr ((wr.drewN m).setCell ⟨g, 1, none⟩ (.int .i64 ((b + 1 : Nat) : Int))) g S (b + 1) nx y ov tv) := Lib.hid ⟨(HW.out.1.1.drew m).putA (b + 1), (touchD wr _ m).trans (touchG _ g 1 _) (fun i hi => .inl hi)⟩
      obtain ⟨_, d2, _⟩ := HW2.out.1.lie
      simp only [Int.natCast_add, Int.natCast_one] at d2
      have hq := HW.out.2
      rw [HD.out] at hq
      go_wp2_with fail
      go_roundw
      case rel => exact ⟨b + 1, by omega, by omega, by omega, Lib.hid ⟨HW.out.1.then HW2.out, by omega⟩⟩
      case measure =>
        rw [d1, d2]
        simp
        omega
    · have C := Lib.hid (jstands HW.out.1.1 h2 hm blanksS false ⟨fun h => Bool.noConfusion h, fun h => absurd ((blank_mem _).2 h) hd⟩)
      have HD := Lib.hid (nb_none hd)
      unfold blanksS at C
      have hq := HW.out.2
      rw [HD.out] at hq
      obtain rfl : b = a + n := by omega
      clear hd
      go_wp2_with fail
      ((with_reducible refine (C.out).mono ?_); rintro e w2 ⟨rfl, m, rfl⟩)
      have HW2 := Lib.hid (show Went w (wr.drewN m) g S (a + n) nx y ov tv from ⟨HW.out.1.1.drew m, HW.out.1.2.trans (touchD wr _ m) (fun i hi => .inl hi)⟩)
      go_wp2_with fail
      go_end0
      exact ⟨rfl, HW2.out, h2⟩
theorem scan_1 {s : List Nat} (h : Jr.nP2 s = Jr.nP1 s) : Jr.scan s = (Jr.nP1 s, false) := by unfold Jr.scan; rw [if_pos h]
theorem scan_2 {s : List Nat} (h : Jr.nP2 s ≠ Jr.nP1 s) (h2 : Jr.nP3 s = Jr.nP2 s + 1) : Jr.scan s = (Jr.nP3 s, false) := by unfold Jr.scan; rw [if_neg h, if_pos h2]
theorem scan_3 {s : List Nat} (h : Jr.nP2 s ≠ Jr.nP1 s) (h2 : Jr.nP3 s ≠ Jr.nP2 s + 1) (he : Jr.isE (s.drop (Jr.nP3 s))) (h5 : Jr.nP5 s = Jr.nP4 s) : Jr.scan s = (Jr.nP4 s, false) := by unfold Jr.scan; rw [if_neg h, if_neg h2, if_pos ⟨he, h5⟩]
theorem scan_4 {s : List Nat} (h : Jr.nP2 s ≠ Jr.nP1 s) (h2 : Jr.nP3 s ≠ Jr.nP2 s + 1) (h3 : ¬ (Jr.isE (s.drop (Jr.nP3 s)) ∧ Jr.nP5 s = Jr.nP4 s)) : Jr.scan s = (Jr.nP5 s, true) := by unfold Jr.scan; rw [if_neg h, if_neg h2, if_neg h3]
set_option maxHeartbeats 4000000 in
theorem jskipNumber {w : World} {g a : Nat} {S y : ByteArray} {nx : Int} {ov tv : Value} (h : RP w g S a nx y ov tv) (ha : a ≤ S.size) (hm : S.size ≤ 1048576) (k : Nat) (b : Bool) (hk : Jr.scan (left S a) = (k, b)) :
    Calls Tryd.prog 81 #[.pointer (some ⟨g, 0, none⟩)] w fun e w' => e = .returned (.bool b) ∧ Went w w' g S (a + k) nx y ov tv ∧ a + k ≤ S.size := by
  have HK := Lib.hid hk
  have m1 : ∀ c, c ∈ bl ⟨#[45]⟩ ↔ c = 45 := by intro c; show c ∈ [45] ↔ _; simp
  have m2 : ∀ c, c ∈ bl ⟨#[48]⟩ ↔ c = 48 := by intro c; show c ∈ [48] ↔ _; simp
  have m3 : ∀ c, c ∈ bl ⟨#[46]⟩ ↔ c = 46 := by intro c; show c ∈ [46] ↔ _; simp
  have m4 : ∀ c, c ∈ bl ⟨#[101, 69]⟩ ↔ c = 101 ∨ c = 69 := by intro c; show c ∈ [101, 69] ↔ _; simp
  have m5 : ∀ c, c ∈ bl ⟨#[43, 45]⟩ ↔ c = 43 ∨ c = 45 := by intro c; show c ∈ [43, 45] ↔ _; simp
  obtain ⟨s, hs⟩ : ∃ s, left S a = s := ⟨_, rfl⟩
  have hL : ∀ n, left S (a + n) = s.drop n := fun n => by rw [← hs, left_drop]
  obtain ⟨p1, hp1⟩ : ∃ p, Jr.nP1 s = p := ⟨_, rfl⟩
  obtain ⟨p2, hp2⟩ : ∃ p, Jr.nP2 s = p := ⟨_, rfl⟩
  obtain ⟨p3, hp3⟩ : ∃ p, Jr.nP3 s = p := ⟨_, rfl⟩
  obtain ⟨p4, hp4⟩ : ∃ p, Jr.nP4 s = p := ⟨_, rfl⟩
  obtain ⟨p5, hp5⟩ : ∃ p, Jr.nP5 s = p := ⟨_, rfl⟩
  have e1 : p1 = (decide (Jr.hd s = 45)).toNat := by rw [← hp1]; unfold Jr.nP1 Jr.nSg; by_cases h : Jr.hd s = 45 <;> simp [h]
  have e2 : p2 = p1 + Jr.nIn (s.drop p1) := by rw [← hp2, ← hp1]; rfl
  have e3 : p3 = p2 + Jr.nFr (s.drop p2) := by rw [← hp3, ← hp2]; rfl
  have e4 : p4 = p3 + Jr.nEh (s.drop p3) := by rw [← hp4, ← hp3]; rfl
  have e5 : p5 = p4 + Jr.nEd (s.drop p3) := by rw [← hp5, ← hp4, ← hp3]; rfl
  have s1 := @scan_1 s
  have s2 := @scan_2 s
  have s3 := @scan_3 s
  have s4 := @scan_4 s
  rw [hp1, hp2] at s1 s2 s3 s4
  rw [hp3] at s2 s3 s4
  rw [hp5] at s3 s4
  rw [hp4] at s3 s4
  rw [hs] at HK
  have S1 := Lib.hid s1
  have S2 := Lib.hid s2
  have S3 := Lib.hid s3
  have S4 := Lib.hid s4
  have E2 := Lib.hid e2
  have E3 := Lib.hid e3
  have E4 := Lib.hid e4
  have E5 := Lib.hid e5
  have HL := Lib.hid hL
  have C1 := Lib.hid (jskipOne h ha hm ⟨#[45]⟩ (by decide) (decide (Jr.hd s = 45)) (by rw [decide_eq_true_eq, hs, m1]))
  rw [← e1] at C1
  have M2 := Lib.hid m2
  have M3 := Lib.hid m3
  have M4 := Lib.hid m4
  have M5 := Lib.hid m5
  have HA := Lib.hid ha
  have LE := Lib.hid (fun (b : Nat) (hb : b ≤ S.size) (hh : Jr.hd (left S b) ≠ 0) => hd_in hh)
  have P1 : Hid (p1 = 0 ∨ a < S.size) := Lib.hid (by
    by_cases h45 : Jr.hd s = 45
    · right; exact hd_in (by rw [hs, h45]; decide)
    · left; rw [e1]; simp [h45])
  have P1L : Hid (p1 ≤ 1) := Lib.hid (by rw [e1]; cases decide (Jr.hd s = 45) <;> simp)
  clear h hk hL hp1 hp2 hp3 hp4 hp5 e1 e2 e3 e4 e5 s1 s2 s3 s4 m1 m2 m3 m4 m5 hs
  go_enter Tryd.func81, Tryd.ntmps81
  go_wp2_with fail
  ((with_reducible refine (C1.out).mono ?_); rintro e w1 ⟨rfl, hw, _⟩)
  have HW1 := Lib.hid hw
  have HA1 : Hid (a + p1 ≤ S.size) := Lib.hid (by have := P1.out; have := P1L.out; have := HA.out; omega)
  clear hw C1
  by_cases z : Jr.hd (left S (a + p1)) = 48
  case' pos =>
    have C2 := Lib.hid (jskipOne HW1.out.1 HA1.out hm ⟨#[48]⟩ (by decide) true (by rw [M2.out]; simp [z]))
    have hp2 : Hid (p2 = p1 + 1) := Lib.hid (by have := E2.out; rw [← HL.out] at this; unfold Jr.nIn at this; rw [if_pos z] at this; exact this)
    clear z
    go_wp2_with fail
    ((with_reducible refine (C2.out).mono ?_); rintro e w2 ⟨rfl, hw, hlt⟩)
    have HW2 : Hid (Went w w2 g S (a + p2) nx y ov tv) := Lib.hid (by rw [hp2.out, ← Nat.add_assoc]; exact HW1.out.then hw)
    have HA2 : Hid (a + p2 ≤ S.size) := Lib.hid (by have := hlt (by trivial); have := hp2.out; omega)
    have HP2 : Hid (p2 ≠ p1) := Lib.hid (by have := hp2.out; omega)
    clear hw hlt C2 hp2
  case' neg =>
    have C2 := Lib.hid (jskipOne HW1.out.1 HA1.out hm ⟨#[48]⟩ (by decide) false (by rw [M2.out]; simp [z]))
    obtain ⟨n, hn⟩ : ∃ n, Jr.nd (left S (a + p1)) = n := ⟨_, rfl⟩
    have hp2 : Hid (p2 = p1 + n) := Lib.hid (by have := E2.out; rw [← HL.out] at this; unfold Jr.nIn at this; rw [if_neg z, hn] at this; exact this)
    have HN := Lib.hid hn
    clear z hn
    go_wp2_with fail
    ((with_reducible refine (C2.out).mono ?_); rintro e wa ⟨rfl, hw, hlt⟩)
    have C3 := Lib.hid (jskipDigits hw.1 (by simpa using HA1.out) hm n (by simpa using HN.out))
    have HWA := Lib.hid (HW1.out.then hw)
    clear hw hlt C2
    go_wp2_with fail
    ((with_reducible refine (C3.out).mono ?_); rintro e w2 ⟨rfl, hw, hle⟩)
    have HW2 : Hid (Went w w2 g S (a + p2) nx y ov tv) := Lib.hid (by
      have := HWA.out.then hw
      rw [Bool.toNat_false, Nat.add_zero] at this
      rw [hp2.out, ← Nat.add_assoc]; exact this)
    have HA2 : Hid (a + p2 ≤ S.size) := Lib.hid (by rw [Bool.toNat_false, Nat.add_zero] at hle; rw [hp2.out, ← Nat.add_assoc]; exact hle)
    clear hw hle C3
    by_cases h0 : n = 0
    case' pos =>
      have hlt : ¬ 0 < n := by omega
      have HR := Lib.hid (S1.out (by have := hp2.out; omega))
      have HP : Hid (p2 = p1) := Lib.hid (by have := hp2.out; omega)
      clear h0
      go_wp2_with fail
      go_ret
      have h1 := HR.out
      rw [HK.out] at h1
      have e1 := congrArg Prod.fst h1
      have e2 := congrArg Prod.snd h1
      simp only at e1 e2
      subst e1 e2
      exact ⟨rfl, by have := HW2.out; rw [HP.out] at this; exact this, HA1.out⟩
    have hlt : 0 < n := by omega
    have HP2 : Hid (p2 ≠ p1) := Lib.hid (by have := hp2.out; omega)
    clear h0 hp2 HN
  all_goals
    have hz : Jr.hd (left S (a + p2)) = 46 ∨ ¬ Jr.hd (left S (a + p2)) = 46 := Classical.em _
    rcases hz with z | z
    case' inl =>
      have C2 := Lib.hid (jskipOne HW2.out.1 HA2.out hm ⟨#[46]⟩ (by decide) true (by rw [M3.out]; simp [z]))
      obtain ⟨n, hn⟩ : ∃ n, Jr.nd (left S (a + p2 + 1)) = n := ⟨_, rfl⟩
      have hp3 : Hid (p3 = p2 + (1 + n)) := Lib.hid (by
        have := E3.out
        rw [← HL.out] at this
        unfold Jr.nFr at this
        rw [if_pos z, left_drop, hn] at this
        exact this)
      have HN := Lib.hid hn
      clear z hn
      go_wp2_with fail
      ((with_reducible refine (C2.out).mono ?_); rintro e wb ⟨rfl, hw, hlt⟩)
      have hlt := hlt (by trivial)
      have C3 := Lib.hid (jskipDigits hw.1 (by simp; omega) hm n (by simpa using HN.out))
      have HWB := Lib.hid (HW2.out.then hw)
      clear hw hlt C2
      go_wp2_with fail
      ((with_reducible refine (C3.out).mono ?_); rintro e w3 ⟨rfl, hw, hle⟩)
      have HW3 : Hid (Went w w3 g S (a + p3) nx y ov tv) := Lib.hid (by
        have := HWB.out.then hw
        rw [Bool.toNat_true] at this
        rw [hp3.out, show a + (p2 + (1 + n)) = a + p2 + 1 + n by omega]; exact this)
      have HA3 : Hid (a + p3 ≤ S.size) := Lib.hid (by rw [Bool.toNat_true] at hle; have := hp3.out; omega)
      clear hw hle C3
      by_cases h0 : n = 0
      case' pos =>
        have hlt : ¬ 0 < n := by omega
        have HR := Lib.hid (S2.out HP2.out (by have := hp3.out; omega))
        clear h0
        go_wp2_with fail
        go_ret
        have h1 := HR.out
        rw [HK.out] at h1
        have e1 := congrArg Prod.fst h1
        have e2 := congrArg Prod.snd h1
        simp only at e1 e2
        subst e1 e2
        exact ⟨rfl, HW3.out, HA3.out⟩
      have hlt : 0 < n := by omega
      have HP3 : Hid (p3 ≠ p2 + 1) := Lib.hid (by have := hp3.out; omega)
      clear h0 hp3 HN
    case' inr =>
      have C2 := Lib.hid (jskipOne HW2.out.1 HA2.out hm ⟨#[46]⟩ (by decide) false (by rw [M3.out]; simp [z]))
      have hp3 : Hid (p3 = p2) := Lib.hid (by
        have := E3.out
        rw [← HL.out] at this
        unfold Jr.nFr at this
        rw [if_neg z] at this
        exact this)
      clear z
      go_wp2_with fail
      ((with_reducible refine (C2.out).mono ?_); rintro e w3 ⟨rfl, hw, hlt⟩)
      have HW3 : Hid (Went w w3 g S (a + p3) nx y ov tv) := Lib.hid (by
        have := HW2.out.then hw
        rw [Bool.toNat_false, Nat.add_zero] at this
        rw [hp3.out]; exact this)
      have HA3 : Hid (a + p3 ≤ S.size) := Lib.hid (by have := HA2.out; rw [hp3.out]; exact this)
      have HP3 : Hid (p3 ≠ p2 + 1) := Lib.hid (by have := hp3.out; omega)
      clear hw hlt C2 hp3
  all_goals
    have hz : (Jr.hd (left S (a + p3)) = 101 ∨ Jr.hd (left S (a + p3)) = 69) ∨ ¬ (Jr.hd (left S (a + p3)) = 101 ∨ Jr.hd (left S (a + p3)) = 69) := Classical.em _
    rcases hz with z | z
    case' inr =>
      have C2 := Lib.hid (jskipOne HW3.out.1 HA3.out hm ⟨#[101, 69]⟩ (by decide) false (by rw [M4.out]; simp only [z, iff_false]; decide))
      have hp5 : Hid (p5 = p3) := Lib.hid (by
        have h4 := E4.out
        have h5 := E5.out
        unfold Jr.nEh at h4
        unfold Jr.nEd at h5
        rw [← HL.out, if_neg (show ¬ Jr.isE (left S (a + p3)) from z)] at h4 h5
        omega)
      have HR := Lib.hid (S4.out HP2.out HP3.out (fun h => z (by have := h.1; rw [← HL.out] at this; exact this)))
      clear z
      go_wp2_with fail
      ((with_reducible refine (C2.out).mono ?_); rintro e w4 ⟨rfl, hw, hlt⟩)
      have HW4 := Lib.hid (HW3.out.then hw)
      clear hw hlt
      go_wp2_with fail
      go_ret
      have h1 := HR.out
      rw [HK.out] at h1
      have e1 := congrArg Prod.fst h1
      have e2 := congrArg Prod.snd h1
      simp only at e1 e2
      subst e1 e2
      refine ⟨rfl, ?_, by rw [hp5.out]; exact HA3.out⟩
      have := HW4.out
      rw [Bool.toNat_false, Nat.add_zero] at this
      rw [hp5.out]; exact this
    case' inl =>
      have C2 := Lib.hid (jskipOne HW3.out.1 HA3.out hm ⟨#[101, 69]⟩ (by decide) true (by rw [M4.out]; simp only [z]))
      obtain ⟨pm, hpm⟩ : ∃ b, decide (Jr.hd (left S (a + p3 + 1)) = 43 ∨ Jr.hd (left S (a + p3 + 1)) = 45) = b := ⟨_, rfl⟩
      have hp4 : Hid (p4 = p3 + 1 + pm.toNat) := Lib.hid (by
        have := E4.out
        unfold Jr.nEh Jr.nPm at this
        rw [← HL.out, if_pos (show Jr.isE (left S (a + p3)) from z), left_drop] at this
        rw [this, ← hpm]
        by_cases h : Jr.hd (left S (a + p3 + 1)) = 43 ∨ Jr.hd (left S (a + p3 + 1)) = 45
        · rw [if_pos h]; simp [h]
        · rw [if_neg h]; simp [h])
      obtain ⟨n, hn⟩ : ∃ n, Jr.nd (left S (a + p4)) = n := ⟨_, rfl⟩
      have hp5 : Hid (p5 = p4 + n) := Lib.hid (by
        have h5 := E5.out
        have h4 := E4.out
        unfold Jr.nEd at h5
        rw [← HL.out, if_pos (show Jr.isE (left S (a + p3)) from z), left_drop] at h5
        rw [← HL.out] at h4
        rw [h5, ← hn, h4, ← Nat.add_assoc])
      have HZ := Lib.hid (show Jr.isE (s.drop p3) by rw [← HL.out]; exact z)
      have HPM := Lib.hid hpm
      have HN := Lib.hid hn
      clear z hpm hn
      go_wp2_with fail
      ((with_reducible refine (C2.out).mono ?_); rintro e wc ⟨rfl, hw, hlt⟩)
      have hlt := hlt (by trivial)
      have HWC := Lib.hid (HW3.out.then hw)
      have HLT := Lib.hid hlt
      have C3 := Lib.hid (jskipOne hw.1 (by simp; omega) hm ⟨#[43, 45]⟩ (by decide) pm (by rw [← HPM.out, decide_eq_true_eq, M5.out]; exact Iff.rfl))
      clear hw hlt C2
      go_wp2_with fail
      ((with_reducible refine (C3.out).mono ?_); rintro e wd ⟨rfl, hw, hlt⟩)
      have HAD : Hid (a + p4 ≤ S.size) := Lib.hid (by
        have := hp4.out
        have h1 := HLT.out
        cases pm with
        | false => rw [Bool.toNat_false] at this; omega
        | true => have := hlt rfl; rw [Bool.toNat_true] at *; omega)
      have HWD : Hid (Went w wd g S (a + p4) nx y ov tv) := Lib.hid (by
        have := HWC.out.then hw
        rw [Bool.toNat_true] at this
        rw [hp4.out, show a + (p3 + 1 + pm.toNat) = a + p3 + 1 + pm.toNat by omega]; exact this)
      clear hw hlt C3
      have C4 := Lib.hid (jskipDigits HWD.out.1 HAD.out hm n HN.out)
      go_wp2_with fail
      ((with_reducible refine (C4.out).mono ?_); rintro e we ⟨rfl, hw, hle⟩)
      have HWE := Lib.hid (HWD.out.then hw)
      clear hw C4
      go_wp2_with fail
      go_ret
      by_cases h0 : 0 < n
      · have h1 := S4.out HP2.out HP3.out (fun h => by have := h.2; have := hp5.out; omega)
        rw [HK.out] at h1
        have e1 := congrArg Prod.fst h1
        have e2 := congrArg Prod.snd h1
        simp only at e1 e2
        subst e1 e2
        refine ⟨congrArg (fun z => Ending.returned (Value.bool z)) (decide_eq_true h0), ?_, by have := hp5.out; omega⟩
        rw [hp5.out, ← Nat.add_assoc]; exact HWE.out
      · have h1 := S3.out HP2.out HP3.out HZ.out (by have := hp5.out; omega)
        rw [HK.out] at h1
        have e1 := congrArg Prod.fst h1
        have e2 := congrArg Prod.snd h1
        simp only at e1 e2
        subst e1 e2
        refine ⟨congrArg (fun z => Ending.returned (Value.bool z)) (decide_eq_false h0), ?_, HAD.out⟩
        obtain rfl : n = 0 := by omega
        exact HWE.out
end Go.Proofs.YtgmdjofnkbaflaaDoor
