/- The program's kinds: bytes as digits, and runs of bytes taken off; a builder beside a result's variable. -/
import Derived.Test.YtanjdjiigfdnmaaGreatDoorClBit
import Derived.Test.YtanjdjiigfdnmaaGreatDoorRquote
import Derived.BigQuiet
namespace Go.Proofs.YtanjdjiigfdnmaaGreatDoor
open Go.RowKit
set_option linter.unusedVariables false
set_option maxRecDepth 100000

/-- A builder that is the block B; what was there ahead of it is as it was in w0. -/
def BS (w0 : World) (B : Nat) (l : List Nat) (w : World) : Prop := Bld B B l w ∧ Below B w0 w ∧ l.length ≤ 1000000
theorem BS.size {w0 w : World} {B : Nat} {l : List Nat} (h : BS w0 B l w) : B ≤ w.heap.size := Nat.le_of_lt h.1.lt
theorem BS.start (w : World) (B : Nat) (hB : w.heap.size = B) : BS w B [] (w.alloc (.cells #[.pointer none, .slice none 0 0] 120)) := by
  subst hB
  exact ⟨Bld.fresh w, box_new _ _, by simp⟩
theorem BS.drew {w0 w : World} {B : Nat} {l : List Nat} (h : BS w0 B l w) : BS w0 B l w.drew := ⟨h.1.kept fun _ _ _ _ e => e, h.2.1.drew, h.2.2⟩
theorem cl_drewN {B : Nat} {w0 w : World} (h : Below B w0 w) (n : Nat) : Below B w0 (w.drewN n) :=
  ⟨h.os, h.tape, h.output, by simpa using h.size, fun k hk => by simpa using h.block k hk⟩
theorem BS.drewN {w0 w : World} {B : Nat} {l : List Nat} (h : BS w0 B l w) (n : Nat) : BS w0 B l (w.drewN n) := ⟨h.1.kept fun _ _ _ _ e => by simpa using e, cl_drewN h.2.1 n, h.2.2⟩
theorem bs_byte {w0 w : World} {B : Nat} {l : List Nat} (h : BS w0 B l w) (c : Nat) (x : Int) (hx : x = (c : Nat)) (hc : c < 256) (hl : l.length < 1000000) :
    Calls Tryz.prog 149 #[.pointer (some ⟨B, 0, none⟩), .int .u8 x] w fun e w' => e = .returned .nilIface ∧ BS w0 B (l ++ [c]) w' :=
  hx ▸ (writeByte B B l c w h.1 hc (by omega) h.size).mono fun _ _ ⟨he, hw⟩ => ⟨he, hw.1, h.2.1.trans hw.2.1, by simp; omega⟩
theorem bs_str {w0 w : World} {B : Nat} {l : List Nat} (h : BS w0 B l w) (t : ByteArray) (r : List Nat) (ht : t.size ≤ 100) (hr : bl t = r) (hl : l.length + t.size ≤ 1000000) :
    Calls Tryz.prog 92 #[.pointer (some ⟨B, 0, none⟩), .string t] w fun e w' => (∃ n, e = .returned (.tuple #[.int .i64 n, .nilIface])) ∧ BS w0 B (l ++ r) w' :=
  (writeString B B l t w h.1 ht (by omega) h.size).mono fun _ _ ⟨he, hw⟩ => ⟨he, by rw [← hr]; exact hw.1, h.2.1.trans hw.2.1, by rw [← hr]; simp [bl_length]; omega⟩
theorem bs_string {w0 w : World} {B : Nat} {l : List Nat} (h : BS w0 B l w) (t : ByteArray) (ht : str l = t) :
    Calls Tryz.prog 93 #[.pointer (some ⟨B, 0, none⟩)] w fun e w' => e = .returned (.string t) ∧ Below B w0 w' :=
  (bString B B l w h.1 h.size).mono fun _ _ ⟨he, hw⟩ => ⟨by rw [← ht]; exact he, h.2.1.trans hw⟩
theorem bs_len {w0 w : World} {B : Nat} {l : List Nat} (h : BS w0 B l w) (n : Nat) (hn : l.length = n) :
    Calls Tryz.prog 148 #[.pointer (some ⟨B, 0, none⟩)] w fun e w' => e = .returned (.int .i64 (n : Nat)) ∧ w' = w := by
  have := Tryz.Builder_Len B B (vals l) w h.1.1
  rw [vals_length, hn] at this
  exact this
theorem hexs_take (l : List Nat) (k : Nat) (h : k < l.length) : Cl.hexs (l.take (k + 1)) = Cl.hexs (l.take k) ++ [Utf.hex (l.getD k 0 / 16)] ++ [Utf.hex (l.getD k 0 % 16)] := by
  rw [take_snoc l k h, Cl.hexs_append]; simp [Cl.hexs]
set_option maxHeartbeats 4000000 in
theorem cBytesText (c : Cl.C) (w : World) (hm : c.s.size ≤ 100000) (t : ByteArray) (ht : str (120 :: Cl.hexs (bl c.s)) = t) : Calls Tryz.prog 125 #[cv c] w fun e w' => e = .returned (.string t) ∧ Below w.heap.size w w' := by
  obtain ⟨u, n, s⟩ := c
  unfold cv
  simp only at hm ht ⊢
  have HT := Lib.hid ht
  have w1 : (w.alloc (.cells #[.bool u, .int .i64 n, .string s] 34)).heap.size = w.heap.size + 1 := by simp
  have S0 := BS.start (w.alloc (.cells #[.bool u, .int .i64 n, .string s] 34)) (w.heap.size + 1) w1
  have V0 := Lib.hid (CV.new w u n s)
  have B0 := Lib.hid (box_new w (.cells #[.bool u, .int .i64 n, .string s] 34))
  have W1 := Lib.hid w1
  clear ht w1
  go_enter Tryz.func125, Tryz.ntmps125
  go_wp2_with fail
  ((with_reducible refine (bs_str S0 ⟨#[120]⟩ [120] (by decide) rfl (by simp; decide)).mono ?_); rintro e w2 ⟨⟨nn, rfl⟩, h2⟩)
  generalize hX : w.alloc (.cells #[.bool u, .int .i64 n, .string s] 34) = X at *
  have hlie : ∀ w3, Below (w.heap.size + 1) X w3 → CV w3 w.heap.size ⟨u, n, s⟩ := fun w3 hb => V0.out.later (hb.mono (by rw [W1.out]; exact Nat.le_refl _))
  have HL := Lib.hid hlie
  obtain ⟨_, _, l2⟩ := (hlie w2 h2.2.1).lie
  simp only at l2
  clear hlie
  go_wp2_with fail
  have H2 := Lib.hid h2
  clear h2 S0 l2
  go_loopw [4, 9] (fun a i wr => ∃ k : Nat, k ≤ s.size ∧ i = .int .i64 k ∧ Hid (BS X (w.heap.size + 1) (120 :: Cl.hexs ((bl s).take k)) wr)) (fun a i _ => s.size - (intOf i).toNat)
  case atStart => exact ⟨0, by omega, rfl, by rw [List.take_zero]; exact H2⟩
  case round =>
    obtain ⟨k, hk, rfl, HS⟩ := hrel
    obtain ⟨_, _, l2⟩ := (HL.out wr HS.out.2.1).lie
    simp only at l2
    by_cases hlt : k < s.size
    · have hb : (bl s).getD k 0 < 256 := bl_byte s _ (by rw [List.getD_eq_getElem?_getD, List.getElem?_eq_getElem (by rw [bl_length]; omega)]; simp)
      have h4 := bl_at s k hlt
      have HH := Lib.hid (hexs_take (bl s) k (by rw [bl_length]; omega))
      have hlen : (120 :: Cl.hexs ((bl s).take k)).length ≤ 2 * s.size := by
        rw [List.length_cons, Cl.hexs_len, List.length_take, bl_length]; omega
      generalize (bl s).getD k 0 = x at *
      have hq1 := hex_run (x / 16) (by omega) .u8
      have hq2 := hex_run (x % 16) (by omega) .u8
      rw [show ((x / 16 : Nat) : Int) = (x : Int) / 16 by omega] at hq1
      rw [show ((x % 16 : Nat) : Int) = (x : Int) % 16 by omega] at hq2
      have hh1 : Utf.hex (x / 16) < 256 := by unfold Utf.hex; split <;> omega
      have hh2 : Utf.hex (x % 16) < 256 := by unfold Utf.hex; split <;> omega
      generalize Utf.hex (x / 16) = p at *
      generalize Utf.hex (x % 16) = q at *
      have hw1 : IntKind.u8.wrap ((x : Int) / 16) = (x : Int) / 16 := IntWalk.u8_in _ ⟨by omega, by omega⟩
      have hw2 : (x : Int).tmod 16 = (x : Int) % 16 := Int.tmod_eq_emod_of_nonneg (by omega)
      go_wp2_with fail
      ((with_reducible refine (bs_byte HS.out p p rfl hh1 (by omega)).mono ?_); rintro e w5 ⟨rfl, h5⟩)
      obtain ⟨_, _, l5⟩ := (HL.out w5 h5.2.1).lie
      simp only at l5
      go_wp2_with fail
      ((with_reducible refine (bs_byte h5 q q rfl hh2 (by rw [List.length_append, List.length_singleton]; omega)).mono ?_); rintro e w6 ⟨rfl, h6⟩)
      have H6 := Lib.hid h6
      clear h5 h6 l5 l2
      go_wp2_with fail
      go_roundw
      case rel => exact ⟨k + 1, by omega, by go_num, by rw [HH.out]; simpa [List.append_assoc] using H6⟩
      case measure => simp [intOf]; omega
    · have HF := Lib.hid (show 120 :: Cl.hexs ((bl s).take k) = 120 :: Cl.hexs (bl s) by rw [List.take_of_length_le (by rw [bl_length]; omega)])
      go_wp2_with fail
      ((with_reducible refine (bs_string HS.out t (by rw [HF.out]; exact HT.out)).mono ?_); rintro e w6 ⟨rfl, h6⟩)
      have H6 := Lib.hid h6
      clear h6 l2
      go_wp2_with fail
      go_ret
      exact ⟨rfl, B0.out.trans (H6.out.mono (by omega))⟩
theorem drop_at (l : List Nat) (k : Nat) (h : k < l.length) : l.drop k = l.getD k 0 :: l.drop (k + 1) := by
  rw [List.drop_eq_getElem_cons h]; simp [List.getElem?_eq_getElem h]
set_option maxHeartbeats 8000000 in
theorem cTakeRun (s : ByteArray) (w : World) (hm : s.size ≤ 100000) (x : List Nat) (n e0 : Nat) (hr : Cl.run (bl s) [] 0 = (x, n, e0)) :
    Calls Tryz.prog 123 #[.string s] w fun e w' => e = .returned (.tuple #[cv ⟨false, 0, str x⟩, .int .i64 (n : Nat), .int .i64 (e0 : Nat)]) ∧ Below w.heap.size w w' := by
  have w1 : (w.alloc (.cells #[.bool false, .int .i64 0, .string ⟨#[]⟩] 34)).heap.size = w.heap.size + 1 := by simp
  have S0 := BS.start (w.alloc (.cells #[.bool false, .int .i64 0, .string ⟨#[]⟩] 34)) (w.heap.size + 1) w1
  have V0 := Lib.hid (CV.new w false 0 ⟨#[]⟩)
  have B0 := Lib.hid (box_new w (.cells #[.bool false, .int .i64 0, .string ⟨#[]⟩] 34))
  have W1 := Lib.hid w1
  have HR := Lib.hid hr
  clear w1 hr
  go_enter Tryz.func123, Tryz.ntmps123
  go_wp2_with fail
  generalize hX : w.alloc (.cells #[.bool false, .int .i64 0, .string ⟨#[]⟩] 34) = X at *
  have hlie : ∀ w3, Below (w.heap.size + 1) X w3 → CV w3 w.heap.size ⟨false, 0, ⟨#[]⟩⟩ ∧ Below w.heap.size w w3 := fun w3 hb => ⟨V0.out.later (hb.mono (by rw [W1.out]; exact Nat.le_refl _)), B0.out.trans (hb.mono (by omega))⟩
  have HL := Lib.hid hlie
  have H2 := Lib.hid S0
  clear S0 hlie
  go_loopw [6, 7] (fun i a wr => ∃ (k : Nat) (o : List Nat), k ≤ s.size ∧ i = .int .i64 k ∧ o.length ≤ k ∧ Hid (BS X (w.heap.size + 1) o wr) ∧ Hid (Cl.run ((bl s).drop k) o k = (x, n, e0))) (fun i a _ => s.size - (intOf i).toNat)
  case atStart => exact ⟨0, [], by omega, rfl, by simp, H2, HR⟩
  case round =>
    obtain ⟨k, o, hk, rfl, ho, HS, HQ⟩ := hrel
    by_cases hlt : k < s.size
    · have hq := HQ.out
      rw [drop_at (bl s) k (by rw [bl_length]; omega)] at hq
      have h4 := bl_at s k hlt
      obtain ⟨V, B⟩ := HL.out wr HS.out.2.1
      have HV := Lib.hid V
      have HB := Lib.hid B
      obtain ⟨k0, k1, k2⟩ := V.lie
      obtain ⟨f0, f1, f2⟩ := V.free
      clear V B
      have z0 : ((⟨#[0]⟩ : ByteArray)[0]'(by decide)).toNat = 0 := rfl
      have z1 : ((⟨#[255]⟩ : ByteArray)[0]'(by decide)).toNat = 255 := rfl
      have hb := bl_byte s ((bl s).getD k 0) (by rw [List.getD_eq_getElem?_getD, List.getElem?_eq_getElem (by rw [bl_length]; omega)]; simp)
      by_cases hz : (bl s).getD k 0 = 0
      · rw [hz] at hq h4
        rw [Cl.run_zero] at hq
        clear hz hb
        by_cases h1 : k + 1 = s.size
        · rw [List.drop_eq_nil_of_le (by rw [bl_length]; omega)] at hq
          simp only [Prod.mk.injEq] at hq
          obtain ⟨rfl, rfl, rfl⟩ := hq
          have h5 : ((k : Int) + 1 == (s.size : Int)) = true := by simp; omega
          go_wp2_with fail
          exact bodyPost_ret (ret3 rfl _ _ w.heap.size _ rfl (HV.out.put _ _ _).heap) rfl ⟨rfl, put_below (Nat.le_refl _) HB.out _ _ _⟩
        · have hlt2 : k + 1 < s.size := by omega
          rw [drop_at (bl s) (k + 1) (by rw [bl_length]; omega)] at hq
          simp only [] at hq
          have h5 : ((k : Int) + 1 == (s.size : Int)) = false := by simp; omega
          have h6 := bl_at s (k + 1) hlt2
          have hc := bl_byte s ((bl s).getD (k + 1) 0) (by rw [List.getD_eq_getElem?_getD, List.getElem?_eq_getElem (by rw [bl_length]; omega)]; simp)
          by_cases c0 : (bl s).getD (k + 1) 0 = 0
          · rw [if_pos c0] at hq
            simp only [Prod.mk.injEq] at hq
            obtain ⟨rfl, rfl, rfl⟩ := hq
            rw [c0] at h6
            go_wp2_with fail
            go_region
            go_wp2_with fail
            ((with_reducible refine (bs_string HS.out.drew (str o) rfl).mono ?_); rintro e w6 ⟨rfl, h6b⟩)
            obtain ⟨V, B⟩ := HL.out _ h6b
            clear k0 k1 k2 f0 f1 f2 HV HB
            have HV := Lib.hid V
            have HB := Lib.hid B
            obtain ⟨k0, k1, k2⟩ := V.lie
            obtain ⟨f0, f1, f2⟩ := V.free
            clear V B h6b
            go_wp2_with fail
            exact bodyPost_ret (ret3 rfl _ _ w.heap.size _ rfl (HV.out.put _ _ _).heap) rfl ⟨by rw [show ((k + 2 : Nat) : Int) = (k : Int) + 1 + 1 by omega]; rfl, put_below (Nat.le_refl _) HB.out _ _ _⟩
          · rw [if_neg c0] at hq
            by_cases c1 : (bl s).getD (k + 1) 0 = 255
            · rw [if_neg (by omega)] at hq
              rw [c1] at h6
              have HC := Lib.hid c1
              clear c1 c0 hc
              by_cases hf : o.length = 1024
              · rw [if_pos hf] at hq
                simp only [Prod.mk.injEq] at hq
                obtain ⟨rfl, rfl, rfl⟩ := hq
                have LN := Lib.hid (fun wq (h : BS X (w.heap.size + 1) o wq) => bs_len h 1024 hf)
                clear hf
                go_wp2_with fail
                go_region
                go_wp2_with fail
                go_region
                go_wp2_with fail
                ((with_reducible refine (LN.out _ HS.out.drew.drew).mono ?_); rintro e w6 ⟨rfl, rfl⟩)
                go_wp2_with fail
                exact bodyPost_ret (ret3 rfl _ _ w.heap.size _ rfl (CV.put HV.out _ _ _).heap) rfl ⟨rfl, (put_below (Nat.le_refl _) HB.out _ _ _).drew.drew⟩
              · rw [if_neg hf] at hq
                have hf2 : ((o.length : Int) == 1024) = false := by simp; omega
                have hl := HS.out.2.2
                have HF := Lib.hid hf
                have HQ2 := Lib.hid hq
                clear hf hq
                go_wp2_with fail
                go_region
                go_wp2_with fail
                go_region
                go_wp2_with fail
                ((with_reducible refine (bs_len HS.out.drew.drew _ rfl).mono ?_); rintro e w6 ⟨rfl, rfl⟩)
                go_wp2_with fail
                ((with_reducible refine (bs_byte HS.out.drew.drew 0 0 rfl (by decide) (by omega)).mono ?_); rintro e w6 ⟨rfl, h6b⟩)
                have H6 := Lib.hid h6b
                clear h6b
                go_wp2_with fail
                go_roundw
                case rel => exact ⟨k + 2, o ++ [0], by omega, by go_num, by simp; omega, H6, HQ2⟩
                case measure => simp [intOf]; omega
            · rw [if_pos c1] at hq
              simp only [Prod.mk.injEq] at hq
              obtain ⟨rfl, rfl, rfl⟩ := hq
              generalize (bl s).getD (k + 1) 0 = c at *
              have g0 : ((c : Int) == 0) = false := by simp; omega
              have g1 : ((c : Int) == 255) = false := by simp; omega
              have g2 : ((c : Int) != 255) = true := by simp; omega
              have HC := Lib.hid (And.intro c0 c1)
              clear c0 c1
              go_wp2_with fail
              go_region
              go_wp2_with fail
              go_region
              go_wp2_with fail
              exact bodyPost_ret (ret3 rfl _ _ w.heap.size _ rfl (CV.put HV.out _ _ _).heap) rfl ⟨rfl, (put_below (Nat.le_refl _) HB.out _ _ _).drew.drew⟩
      · rw [Cl.run_some _ _ _ _ hz] at hq
        generalize (bl s).getD k 0 = b at *
        have g0 : ((b : Int) == 0) = false := by simp; omega
        have HZ := Lib.hid hz
        clear hz
        by_cases hf : o.length = 1024
        · rw [if_pos hf] at hq
          simp only [Prod.mk.injEq] at hq
          obtain ⟨rfl, rfl, rfl⟩ := hq
          have LN := Lib.hid (fun wq (h : BS X (w.heap.size + 1) o wq) => bs_len h 1024 hf)
          clear hf
          go_wp2_with fail
          ((with_reducible refine (LN.out _ HS.out).mono ?_); rintro e w6 ⟨rfl, rfl⟩)
          go_wp2_with fail
          exact bodyPost_ret (ret3 rfl _ _ w.heap.size _ rfl (HV.out.put _ _ _).heap) rfl ⟨rfl, put_below (Nat.le_refl _) HB.out _ _ _⟩
        · rw [if_neg hf] at hq
          have hf2 : ((o.length : Int) == 1024) = false := by simp; omega
          have hl := HS.out.2.2
          have HF := Lib.hid hf
          have HQ2 := Lib.hid hq
          clear hf hq
          go_wp2_with fail
          ((with_reducible refine (bs_len HS.out _ rfl).mono ?_); rintro e w6 ⟨rfl, rfl⟩)
          go_wp2_with fail
          ((with_reducible refine (bs_byte HS.out b b rfl hb (by omega)).mono ?_); rintro e w6 ⟨rfl, h6b⟩)
          have H6 := Lib.hid h6b
          clear h6b
          go_wp2_with fail
          go_roundw
          case rel => exact ⟨k + 1, o ++ [b], by omega, by go_num, by simp; omega, H6, HQ2⟩
          case measure => simp [intOf]; omega
    · have h0 : (bl s).drop k = [] := List.drop_eq_nil_of_le (by rw [bl_length]; omega)
      have hq := HQ.out
      rw [h0, Cl.run_nil] at hq
      simp only [Prod.mk.injEq] at hq
      obtain ⟨rfl, rfl, rfl⟩ := hq
      obtain ⟨V, B⟩ := HL.out wr HS.out.2.1
      have HV := Lib.hid V
      have HB := Lib.hid B
      obtain ⟨k0, k1, k2⟩ := V.lie
      obtain ⟨f0, f1, f2⟩ := V.free
      clear V B h0
      go_wp2_with fail
      exact bodyPost_ret (ret3 rfl _ _ w.heap.size _ rfl (HV.out.put _ _ _).heap) rfl ⟨rfl, put_below (Nat.le_refl _) HB.out _ _ _⟩
/-- A byte's place among the digits, as the library tells it. -/
def ix (c : Nat) : Int := Lib.indexByte [48, 49, 50, 51, 52, 53, 54, 55, 56, 57, 97, 98, 99, 100, 101, 102] ((c : Int).toNat.toUInt8)
theorem ix_all : ∀ c : Fin 256, -1 ≤ ix c.val ∧ ix c.val ≤ 15 ∧ (Cl.idx c.val < 16 → ix c.val = Cl.idx c.val) := by decide +kernel
def fb (a b : Nat) : Nat := ((ix a * 16 + ix b) % 256).toNat
theorem fb_lt (a b : Nat) : fb a b < 256 := by unfold fb; omega
/-- What is guessed of digits. -/
def gx : List Nat → List Nat
  | a :: b :: t => fb a b :: gx t
  | _ => []
theorem gx_hexs : ∀ l : List Nat, (∀ x ∈ l, x < 256) → gx (Cl.hexs l) = l
  | [], _ => rfl
  | b :: l, h => by
    have hb := h b (by simp)
    rw [Cl.hexs_cons]
    simp only [gx]
    rw [gx_hexs l (fun x hx => h x (List.mem_cons_of_mem _ hx))]
    have e1 := Cl.idx_hex (b / 16) (by omega)
    have e2 := Cl.idx_hex (b % 16) (by omega)
    have h1 := (ix_all ⟨Utf.hex (b / 16), Cl.hex_lt _ (by omega)⟩).2.2
    have h2 := (ix_all ⟨Utf.hex (b % 16), Cl.hex_lt _ (by omega)⟩).2.2
    simp only [e1, e2] at h1 h2
    unfold fb
    rw [h1 (by omega), h2 (by omega)]
    congr 1; omega
theorem gx_len : ∀ (n : Nat) (l : List Nat), l.length ≤ n → (gx l).length ≤ l.length
  | n, [], _ => by simp [gx]
  | n, [a], _ => by simp [gx]
  | 0, a :: b :: t, h => by simp at h
  | n + 1, a :: b :: t, h => by
    have := gx_len n t (by simp at h; omega)
    simp only [gx, List.length_cons]; omega
theorem gx_byte : ∀ (n : Nat) (l : List Nat), l.length ≤ n → ∀ x ∈ gx l, x < 256
  | n, [], _ => by simp [gx]
  | n, [a], _ => by simp [gx]
  | 0, a :: b :: t, h => by simp at h
  | n + 1, a :: b :: t, h => by
    intro x hx
    simp only [gx, List.mem_cons] at hx
    rcases hx with rfl | hx
    · exact fb_lt a b
    · exact gx_byte n t (by simp at h; omega) x hx
theorem gx_two (l : List Nat) (h : 2 ≤ l.length) : gx l = fb (l.getD 0 0) (l.getD 1 0) :: gx (l.drop 2) := by
  match l, h with
  | a :: b :: t, _ => rfl
theorem gx_few (l : List Nat) (h : l.length < 2) : gx l = [] := by
  match l, h with
  | [], _ => rfl
  | [a], _ => rfl
/-- What stands behind an x, if one stands there. -/
def trimX (s : ByteArray) : ByteArray := ⟨(Lib.trimPrefix s.data.toList [120]).toArray⟩
theorem trimX_bl (s : ByteArray) : bl (trimX s) = if bl s ≠ [] ∧ (bl s).getD 0 0 = 120 then (bl s).drop 1 else bl s := by
  have hp := pre1 s 120
  unfold trimX Lib.trimPrefix
  rw [hp]
  have e : (120 : UInt8).toNat = 120 := rfl
  rw [e]
  by_cases h : bl s ≠ [] ∧ (bl s).getD 0 0 = 120
  · rw [if_pos (decide_eq_true h), if_pos h]
    unfold bl; simp
  · rw [if_neg (by simpa using h), if_neg h]
theorem trimX_size (s : ByteArray) : (trimX s).size ≤ s.size := by
  rw [← bl_length, trimX_bl, ← bl_length s]
  split
  · rw [List.length_drop]; omega
  · exact Nat.le_refl _
set_option maxHeartbeats 8000000 in
theorem cGuessBytes (s : ByteArray) (w : World) (hm : s.size ≤ 100000) : Calls Tryz.prog 126 #[.string s] w fun e w' => e = .returned (cv ⟨false, 0, str (gx (bl (trimX s)))⟩) ∧ Below w.heap.size w w' := by
  have w1 : (w.alloc (.cells #[.bool false, .int .i64 0, .string ⟨#[]⟩] 34)).heap.size = w.heap.size + 1 := by simp
  have S0 := BS.start (w.alloc (.cells #[.bool false, .int .i64 0, .string ⟨#[]⟩] 34)) (w.heap.size + 1) w1
  have V0 := Lib.hid (CV.new w false 0 ⟨#[]⟩)
  have B0 := Lib.hid (box_new w (.cells #[.bool false, .int .i64 0, .string ⟨#[]⟩] 34))
  have W1 := Lib.hid w1
  have CT := Lib.hid (fun w => (Tryz.strings_TrimPrefix s ⟨#[120]⟩ w).mono (fun _ _ h => (⟨h.1, h.2⟩ : _ = Ending.returned (.string (trimX s)) ∧ _ = w)))
  have ht := trimX_size s
  generalize trimX s = t0 at *
  clear w1
  go_enter Tryz.func126, Tryz.ntmps126
  go_wp2_with fail
  ((with_reducible refine (CT.out _).mono ?_); rintro e w2 ⟨rfl, rfl⟩)
  go_wp2_with fail
  generalize hX : w.alloc (.cells #[.bool false, .int .i64 0, .string ⟨#[]⟩] 34) = X at *
  have hlie : ∀ w3, Below (w.heap.size + 1) X w3 → CV w3 w.heap.size ⟨false, 0, ⟨#[]⟩⟩ ∧ Below w.heap.size w w3 := fun w3 hb => ⟨V0.out.later (hb.mono (by rw [W1.out]; exact Nat.le_refl _)), B0.out.trans (hb.mono (by omega))⟩
  have HL := Lib.hid hlie
  have H2 := Lib.hid S0
  clear S0 hlie
  go_loopw [3, 5, 6] (fun v a b wr => ∃ (t : ByteArray) (o : List Nat), v = .string t ∧ o.length + t.size ≤ s.size ∧ Hid (BS X (w.heap.size + 1) o wr) ∧ Hid (o ++ gx (bl t) = gx (bl t0))) (fun v a b _ => sz v)
  case atStart => exact ⟨t0, [], rfl, by simp; omega, H2, Lib.hid (by simp)⟩
  case round =>
    obtain ⟨t, o, rfl, hlen, HS, HQ⟩ := hrel
    by_cases h2 : 2 ≤ t.size
    · have hg := gx_two (bl t) (by rw [bl_length]; exact h2)
      have h20 : (2 : Int) ≤ (t.size : Int) := by omega
      have i0 := bl_at t 0 (by omega)
      have i1 := bl_at t 1 (by omega)
      have q0 := bl_byte t ((bl t).getD 0 0) (by rw [List.getD_eq_getElem?_getD, List.getElem?_eq_getElem (by rw [bl_length]; omega)]; simp)
      have q1 := bl_byte t ((bl t).getD 1 0) (by rw [List.getD_eq_getElem?_getD, List.getElem?_eq_getElem (by rw [bl_length]; omega)]; simp)
      have e1 := ix_all ⟨_, q0⟩
      have e2 := ix_all ⟨_, q1⟩
      simp only at e1 e2
      have hfb : ((fb ((bl t).getD 0 0) ((bl t).getD 1 0) : Nat) : Int) = (ix ((bl t).getD 0 0) * 16 + ix ((bl t).getD 1 0)) % 256 := by unfold fb; omega
      have hbl : bl (t.extract 2 t.size) = (bl t).drop 2 := bl_from t 2
      have CA := Lib.hid (fun w => (Tryz.strings_IndexByte ⟨#[48, 49, 50, 51, 52, 53, 54, 55, 56, 57, 97, 98, 99, 100, 101, 102]⟩ (((bl t).getD 0 0 : Nat) : Int) w).mono (fun _ _ h => (⟨h.1, h.2⟩ : _ = Ending.returned (.int .i64 (ix ((bl t).getD 0 0))) ∧ _ = w)))
      have CB := Lib.hid (fun w => (Tryz.strings_IndexByte ⟨#[48, 49, 50, 51, 52, 53, 54, 55, 56, 57, 97, 98, 99, 100, 101, 102]⟩ (((bl t).getD 1 0 : Nat) : Int) w).mono (fun _ _ h => (⟨h.1, h.2⟩ : _ = Ending.returned (.int .i64 (ix ((bl t).getD 1 0))) ∧ _ = w)))
      generalize (bl t).getD 0 0 = a at *
      generalize (bl t).getD 1 0 = b at *
      have hfl := fb_lt a b
      generalize fb a b = q at *
      generalize ix a = x at *
      generalize ix b = y at *
      have hl := HS.out.2.2
      have HG := Lib.hid hg
      have HE := Lib.hid hbl
      have HF := Lib.hid hfb
      clear hg hbl hfb
      go_wp2_with fail
      go_quiet ((go_at_call 151; first | exact Calls.quiet_of_same (CA.out _) | exact Calls.quiet_of_same (CB.out _)))
      go_wp2_with fail
      ((with_reducible refine (bs_byte (HS.out.drewN _) q _ HF.out.symm hfl (by omega)).mono ?_); rintro e w6 ⟨rfl, h6b⟩)
      have H6 := Lib.hid h6b
      clear h6b
      go_wp2_with fail
      go_roundw
      case rel => exact ⟨_, o ++ [q], rfl, by rw [List.length_append, List.length_singleton, ByteArray.size_extract]; omega, H6, Lib.hid (by rw [← HQ.out, HG.out, HE.out, List.append_assoc]; rfl)⟩
      case measure => simp [sz]; omega
    · have hg := gx_few (bl t) (by rw [bl_length]; omega)
      have hq := HQ.out
      rw [hg, List.append_nil] at hq
      have h20 : ¬ (2 : Int) ≤ (t.size : Int) := by omega
      go_wp2_with fail
      ((with_reducible refine (bs_string HS.out (str o) rfl).mono ?_); rintro e w6 ⟨rfl, h6b⟩)
      obtain ⟨V, B⟩ := HL.out _ h6b
      have HV := Lib.hid V
      have HB := Lib.hid B
      obtain ⟨k0, k1, k2⟩ := V.lie
      obtain ⟨f0, f1, f2⟩ := V.free
      clear V B h6b
      go_wp2_with fail
      exact bodyPost_ret (ret1 rfl _ _ w.heap.size _ rfl (HV.out.put _ _ _).heap) rfl ⟨by first | rfl | rw [hq], put_below (Nat.le_refl _) HB.out _ _ _⟩
end Go.Proofs.YtanjdjiigfdnmaaGreatDoor
