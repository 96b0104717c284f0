/- The document's answer: Pack, Unpack. -/
import Derived.Test.YtdlgnkfeamkfbaaMkR
namespace Go.Proofs.Ytdlgnkfeamkfbaa
open Go.RowKit
set_option linter.unusedVariables false
set_option maxRecDepth 100000

theorem pk_more (n : Nat) (l : List Bool) (h : l.length ≤ 8 * n) : Mk.pk (n + 1) l = Mk.pk n l ++ [0] := by
  induction n generalizing l with
  | zero =>
    obtain rfl : l = [] := List.eq_nil_of_length_eq_zero (by omega)
    rfl
  | succ n ih => rw [Mk.pk, ih _ (by rw [List.length_drop]; omega)]; rfl
theorem pow_mod (m : Nat) (h : m < 7) : IntKind.u8.wrap ((2 ^ m : Nat) * 2 : Int) = ((2 ^ (m + 1) : Nat) : Int) := by
  rw [IntKind.wrap_u8]
  have : 2 ^ (m + 1) ≤ 2 ^ 7 := Nat.pow_le_pow_right (by omega) (by omega)
  rw [Nat.pow_succ] at this ⊢
  omega

theorem rdB_all {W : World} {B n c : Nat} {ad : Option Addr} {l : List Bool} (h : RdB W B (.slice ad n c) l) {i : Nat} {x : Bool} (hi : l[i]? = some x) :
    ∃ b off, ad = some ⟨b, off, none⟩ ∧ ∀ w, Below B W w → w.cell? ⟨b, off + i, none⟩ = some (.bool x) := by
  obtain ⟨b, off, e, _⟩ := rdB_cell h (Below.refl _ _) hi
  refine ⟨b, off, e, fun w hb => ?_⟩
  obtain ⟨b', off', e', h'⟩ := rdB_cell h hb hi
  rw [e] at e'
  injection e' with e'
  injection e' with e1 e2
  subst e1 e2
  exact h'
set_option maxHeartbeats 4000000 in
theorem rpack (v : Value) (l : List Bool) (w : World) (h : RdB w w.heap.size v l) (hl : l.length ≤ 2000000) :
    Calls Try.prog 13 #[v] w fun e w' => ∃ r, e = .returned r ∧ Own w' w.heap.size r (Mk.pk (Mk.sz l.length) l) ∧ Below w.heap.size w w' := by
  obtain ⟨a, c, rfl, _⟩ := Gn.Rd.form h
  have HR := Lib.hid h
  clear h
  go_enter Try.func13, Try.ntmps13
  go_wp2
  go_loopw [3, 4, 5] (fun ov sv i wr => ∃ k t : Nat, k ≤ l.length ∧ i = .int .i64 (k : Nat) ∧ sv = .int .u8 (t : Nat) ∧ (k % 8 ≠ 0 → t = 2 ^ (k % 8)) ∧ t < 256 ∧ Hid (Own wr w.heap.size ov (Mk.pk (Mk.sz k) (l.take k))) ∧ Hid (Below w.heap.size w wr)) (fun _ _ i _ => l.length - (intOf i).toNat)
  case atStart => exact ⟨0, 1, by omega, rfl, rfl, by simp, by omega, Lib.hid (Own.nil _ _), Lib.hid (Below.refl _ _)⟩
  case round =>
    obtain ⟨k, t, hk, rfl, rfl, ht, ht8, HO, HW⟩ := hrel
    by_cases hlt : k < l.length
    · have hlt1 : (k : Int) < l.length := by omega
      obtain ⟨x, hx⟩ : ∃ x, l[k]? = some x := ⟨_, List.getElem?_eq_getElem hlt⟩
      have hT : l.take (k + 1) = l.take k ++ [x] := by rw [List.take_add_one, hx]; rfl
      have hlk : (l.take k).length = k := by rw [List.length_take]; omega
      obtain ⟨q, hq⟩ : ∃ q, k / 8 = q := ⟨_, rfl⟩
      obtain ⟨m, hm⟩ : ∃ m, k % 8 = m := ⟨_, rfl⟩
      have hm8 : m < 8 := by omega
      have hs1 : Mk.sz (k + 1) = q + 1 := by unfold Mk.sz; omega
      have e1 : (k : Int) / 8 = (q : Int) := by omega
      have e2 : (k : Int) % 8 = (m : Int) := by omega
      have HN := Lib.hid (Mk.pk_snoc (q + 1) (l.take k) x (by rw [hlk]; omega))
      have hR := Mk.pk_room (q + 1) (l.take k) (by rw [hlk]; omega)
      have hpl := Mk.pk_len (q + 1) (l.take k)
      rw [hlk, ← hT, hq, hm] at HN
      rw [hlk, hq, hm] at hR
      rw [hm] at ht
      obtain ⟨b0, off0, rfl, hcc⟩ := rdB_all HR.out hx
      obtain ⟨old, hold⟩ : ∃ o, (Mk.pk (q + 1) (l.take k)).getD q 0 = o := ⟨_, rfl⟩
      rw [hold] at HN hR
      have HC := Lib.hid hcc
      have HPL := Lib.hid hpl
      have HOLD := Lib.hid hold
      have HSX : Hid (x = false → (Mk.pk (q + 1) (l.take k)) = Mk.pk (q + 1) (l.take (k + 1))) := Lib.hid (fun e => by
        subst e
        rw [HN.out, show old + 2 ^ m * Mk.bit false = old by simp [Mk.bit], ← hold, List.getD_eq_getElem?_getD, List.getElem?_eq_getElem (by omega)]
        simp)
      have HSY : Hid (x = true → (Mk.pk (q + 1) (l.take k)).set q (old + 2 ^ m) = Mk.pk (q + 1) (l.take (k + 1))) := Lib.hid (fun e => by
        subst e
        rw [HN.out, show old + 2 ^ m * Mk.bit true = old + 2 ^ m by simp [Mk.bit]])
      have h2m : 2 ^ m ≤ 128 := by
        have : 2 ^ m ≤ 2 ^ 7 := Nat.pow_le_pow_right (by omega) (by omega)
        omega
      have HS1 := Lib.hid hs1
      have hqi : (q : Int) < (q : Int) + 1 := by omega
      by_cases h0 : m = 0
      · subst h0
        have hsz : Mk.sz k = q := by unfold Mk.sz; omega
        rw [hsz] at HO
        have hlen := (Mk.pk_len q (l.take k))
        have HL : Hid ((Mk.pk q (l.take k)).length + 1 ≤ 1000000000) := Lib.hid (by rw [hlen]; omega)
        have HP : Hid (Mk.pk q (l.take k) ++ [0] = Mk.pk (q + 1) (l.take k)) := Lib.hid (pk_more q (l.take k) (by rw [hlk]; omega)).symm
        have HO1 := Lib.hid (HO.out.later (up_new wr (.cells #[.int .u8 0] 5)))
        have hsw := Lib.hid HW.out.size
        have HW1 := Lib.hid (HW.out.alloc HW.out.size (.cells #[.int .u8 0] 5))
        have HRD := Lib.hid (rd_lit wr [0] #[.int .u8 0] 1 rfl rfl (by simp) (by simp))
        have e3 : (k : Int) % 8 = 0 := by omega
        have e5 : ((old : Int) + 1) % 256 = ((old + 2 ^ 0 : Nat) : Int) := by simp at hR; subst hR; rfl
        have E7 : Hid ((old : Int) + 1 = ((old + 2 ^ 0 : Nat) : Int)) := Lib.hid (by simp)
        have ek : (k + 1) % 8 = 1 := by omega
        have EK := Lib.hid ek
        have hx8 := Lib.hid (show old + 2 ^ 0 < 256 by omega)
        clear HO HW hlen ht hlk hT hx hcc hq hm hsz hs1 hpl hR hold HN ek h2m
        cases x
        case false =>
          go_wp2_with (at_builtin
                       refine wpList_app rfl (.tmp 15) (.tmp 16) rfl w.heap.size _ _ rfl HO1.out _ [0] rfl HRD.out HL.out (by have := hsw.out; simp; omega) ?_
                       intro v1 w1 ho1 b1
                       rw [HP.out] at ho1
                       obtain ⟨g, cap, rfl, hg, hc1, hc2⟩ := ho1.form (by rw [HPL.out]; omega)
                       rw [HPL.out] at ho1 hc1 ⊢
                       have hw2 := HW1.out.trans b1
                       have p1 := HC.out _ hw2
                       obtain ⟨z1, z2⟩ := ho1.cell HPL.out q (by omega)
                       rw [HOLD.out] at z1 z2
                       have zf := ho1.melt HPL.out q
                       have HOX := Lib.hid ho1
                       have HWX := Lib.hid hw2
                       clear ho1 b1 hw2)
          go_roundw
          case rel => exact ⟨k + 1, 2, by omega, by go_num, by rfl, by rw [EK.out]; intro; rfl, by omega, Lib.hid (by rw [HS1.out, ← HSX.out rfl]; exact HOX.out), HWX⟩
          case measure => simp [intOf]; omega
        case true =>
          go_wp2_with (at_builtin
                       refine wpList_app rfl (.tmp 15) (.tmp 16) rfl w.heap.size _ _ rfl HO1.out _ [0] rfl HRD.out HL.out (by have := hsw.out; simp; omega) ?_
                       intro v1 w1 ho1 b1
                       rw [HP.out] at ho1
                       obtain ⟨g, cap, rfl, hg, hc1, hc2⟩ := ho1.form (by rw [HPL.out]; omega)
                       rw [HPL.out] at ho1 hc1 ⊢
                       have hw2 := HW1.out.trans b1
                       have p1 := HC.out _ hw2
                       obtain ⟨z1, z2⟩ := ho1.cell HPL.out q (by omega)
                       rw [HOLD.out] at z1 z2
                       have zf := ho1.melt HPL.out q
                       have HOX := Lib.hid ho1
                       have HWX := Lib.hid hw2
                       clear ho1 b1 hw2)
          go_roundw
          case rel => exact ⟨k + 1, 2, by omega, by go_num, by rfl, by rw [EK.out]; intro; rfl, by omega, Lib.hid (by rw [HS1.out, ← HSY.out rfl, E7.out]; exact HOX.out.stored HPL.out q _ hx8.out), Lib.hid (by rw [E7.out]; exact HWX.out.setCell (p := ⟨g, q, none⟩) hg _)⟩
          case measure => simp [intOf]; omega
      · have hsz : Mk.sz k = q + 1 := by unfold Mk.sz; omega
        have ht2 := ht (by omega)
        rw [hsz] at HO
        obtain ⟨g, cap, rfl, hg, hc1, hc2⟩ := HO.out.form (by rw [hpl]; omega)
        rw [hpl] at HO hc1 ⊢
        obtain ⟨z1, z2⟩ := HO.out.cell hpl q (by omega)
        rw [hold] at z1 z2
        have zf := HO.out.melt hpl q
        have p1 := hcc _ HW.out
        have e3 : ¬ (k : Int) % 8 = 0 := by omega
        have h3 : ((m : Int) == 0) = false := by simpa using h0
        have e5 : ((old : Int) + (t : Int)) % 256 = ((old + 2 ^ m : Nat) : Int) := by rw [← ht2]; omega
        have hx8 := Lib.hid (show old + 2 ^ m < 256 by omega)
        have E7 : Hid ((old : Int) + 2 ^ m = ((old + 2 ^ m : Nat) : Int)) := Lib.hid (by simp)
        have e6 : ((t : Int) * 2) % 256 = ((t * 2 % 256 : Nat) : Int) := by omega
        have EK : Hid ((k + 1) % 8 ≠ 0 → t * 2 % 256 = 2 ^ ((k + 1) % 8)) := Lib.hid (fun h => by
          have h7 : m < 7 := by omega
          have e : (k + 1) % 8 = m + 1 := by omega
          have : 2 ^ (m + 1) ≤ 2 ^ 7 := Nat.pow_le_pow_right (by omega) (by omega)
          rw [e, ht2]
          rw [Nat.pow_succ] at this ⊢
          omega)
        clear ht ht2 hlk hT hx hcc hq hm hsz hs1 hR hold HN h2m
        have hct : (q : Int) + 1 ≤ cap := by omega
        cases x
        case false =>
          go_wp2
          go_roundw
          case rel => exact ⟨k + 1, t * 2 % 256, by omega, by go_num, by first | rfl | (rw [e6]), EK.out, by omega, Lib.hid (by rw [HS1.out, ← HSX.out rfl]; exact HO.out), HW⟩
          case measure => simp [intOf]; omega
        case true =>
          go_wp2
          go_roundw
          case rel => exact ⟨k + 1, t * 2 % 256, by omega, by go_num, by first | rfl | (rw [e6]), EK.out, by omega, Lib.hid (by rw [HS1.out, ← HSY.out rfl, E7.out]; exact HO.out.stored hpl q _ hx8.out), Lib.hid (by rw [E7.out]; exact HW.out.setCell (p := ⟨g, q, none⟩) hg _)⟩
          case measure => simp [intOf]; omega
    · obtain rfl : k = l.length := by omega
      have HE : Hid (Own wr w.heap.size u3 (Mk.pk (Mk.sz l.length) l)) := Lib.hid (by have := HO.out; rw [List.take_length] at this; exact this)
      clear HO
      go_wp2
      go_ret
      exact ⟨_, rfl, HE.out, HW.out⟩
end Go.Proofs.Ytdlgnkfeamkfbaa
