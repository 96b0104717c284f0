/- The walk of CrcBurst: it returns true and changes nothing that was there. -/
import Derived.Test.YtdhlkomfponalaaDoorTurn
import Derived.BigRegion
namespace Go.Proofs.YtdhlkomfponalaaDoor
open Go.RowKit
set_option linter.unusedVariables false

set_option maxHeartbeats 2000000 in
set_option maxRecDepth 100000 in
theorem crcBurst (v : Value) (l : List Nat) (turn : Int) (at' : Int) (w : World) (h : Rd w w.heap.size v l) (t0 : 0 ≤ turn) (t1 : turn ≤ 4294967295) (a0 : -9223372036854775808 ≤ at') (a1 : at' ≤ 9223372036854775807) (T : Tab w) :
    Calls Tryd.prog 9 #[v, .int .u32 turn, .int .i64 at'] w fun e w' => e = .returned (.bool true) ∧ Below w.heap.size w w' := by
  obtain ⟨tn, rfl, htn⟩ := nat32 turn t0 t1
  have hll := h.len
  unfold maxLen at hll
  obtain ⟨aa, ca, rfl, pa, qa, _⟩ := id h
  unfold maxLen at qa
  obtain ⟨n, hn⟩ : ∃ n, min l.length 200 = n := ⟨_, rfl⟩
  have M := min2 l.length 200 n (by omega)
  obtain ⟨na, n2⟩ : n ≤ l.length ∧ n ≤ 200 := by omega
  have k1 : (n : Int) ≤ (ca : Int) := by omega
  clear hn
  go_enter Tryd.func9, Tryd.ntmps9
  go_wp2_with fail
  refine (works _ T).mono ?_
  rintro e w1 ⟨rfl, b1⟩
  have RA := (h.later (Nat.le_refl _) b1).takes n na
  have T1 := T.later b1
  clear h T
  have lt1 : (l.take n).length = n := by rw [List.length_take]; omega
  generalize l.take n = L at *
  go_wp2_with fail
  clear M
  refine (copyBytes _ _ _ RA (by omega)).mono ?_
  rintro e w2 ⟨r2, rfl, o2, b2⟩
  have T2 := T1.later b2
  clear RA
  go_wp2_with fail
  refine (sum _ _ _ o2.rd T2).mono ?_
  rintro e w' ⟨rfl, rfl⟩
  have hbt := o2.2
  have HB := Lib.hid hbt
  have HS := Lib.hid (Crc.upd_lt 0 L (by omega) hbt)
  have HT : ∀ (L' : List Nat) (t : Nat), Hid (L'.length = n + 4 → t ≤ 8 * n → Crc.num L' = Crc.num (L ++ sb (Crc.upd 0 L) 4) ^^^ 2 ^ t * tn → ((Crc.upd 0 (L'.take n) = Crc.num (L'.drop n)) ↔ tn = 0)) :=
    fun L' t => Lib.hid fun h1 h2 h3 => told L L' t tn n lt1 hbt h1 h2 htn h3
  generalize Crc.upd 0 L = s at *
  clear hbt
  go_wp2
  go_loopw [8, 10] (fun v8 i wr => ∃ k : Nat, k ≤ 4 ∧ i = .int .i64 k ∧ Own wr w1.heap.size v8 (L ++ sb s k) ∧ Below w1.heap.size w1 wr) (fun _ i _ => 4 - (intOf i).toNat)
  case atStart => exact ⟨0, by omega, rfl, by simpa [sb] using o2, b2⟩
  case round =>
    obtain ⟨k, hk, rfl, ho, hbl⟩ := hrel
    by_cases hlt : k < 4
    · have hs := HS.out
      have R1 := Lib.hid (rd_lit wr [s / 2 ^ (8 * k) % 256] #[.int .u8 ((s : Int) / 2 ^ (8 * k) % 256)] 1 (by simp [vals]) rfl (by simp) (by simp; omega))
      have O1 := Lib.hid (ho.later (up_new wr (.cells #[.int .u8 ((s : Int) / 2 ^ (8 * k) % 256)] 5)))
      have S1 := Lib.hid hbl.size
      have HL1 : Hid ((L ++ sb s k).length + [s / 2 ^ (8 * k) % 256].length ≤ 1000000000) := Lib.hid (by rw [List.length_append, sb_length]; simp; omega)
      have B1 := Lib.hid (hbl.alloc hbl.size (.cells #[.int .u8 ((s : Int) / 2 ^ (8 * k) % 256)] 5))
      clear ho hbl
      go_wp2_with (at_builtin
                   refine wpList_app rfl (.tmp 29) (.tmp 35) rfl w1.heap.size _ _ rfl O1.out _ [s / 2 ^ (8 * k) % 256] rfl R1.out HL1.out (by have := S1.out; simp; omega) ?_
                   intro v5 w5 ho5 b5)
      rw [List.append_assoc, ← sb_succ] at ho5
      have B5 := B1.out.trans b5
      go_roundw
      case rel => exact ⟨k + 1, by omega, by go_num, ho5, B5⟩
      case measure => simp [intOf]; omega
    · obtain rfl : k = 4 := by omega
      have hA : (L ++ sb s 4).length = n + 4 := by rw [List.length_append, sb_length, lt1]
      generalize L ++ sb s 4 = A at *
      obtain ⟨g, c8, rfl, hg, hc8, hm8⟩ := ho.form (by omega)
      unfold maxLen at hm8
      rw [hA] at ho hc8 ⊢
      have hp : 0 < 8 * ((n : Int) + 4) - 31 := by omega
      obtain ⟨t, ht⟩ := Int.eq_ofNat_of_zero_le (Int.emod_nonneg at' (b := 8 * ((n : Int) + 4) - 31) (by omega))
      have ht2 : t ≤ 8 * n := by
        have := Int.emod_lt_of_pos at' hp
        omega
      have HTT := Lib.hid ht
      clear ht
      go_wp2_with fail
      refine (bring at' (8 * ((n : Int) + 4) - 31) _ a0 a1 hp (by omega)).mono ?_
      rintro e w' ⟨rfl, rfl⟩
      rw [HTT.out]
      clear HTT hp a0 a1
      go_wp2
      go_loopw [11] (fun i wq => ∃ (k : Nat) (D : List Nat), k ≤ 32 ∧ i = .int .i64 k ∧ D.length = n + 4 ∧ Own wq w1.heap.size (.slice (some ⟨g, 0, none⟩) (n + 4) c8) D ∧ Below w1.heap.size w1 wq ∧ Hid (Crc.num D = Crc.num A ^^^ 2 ^ t * (tn % 2 ^ k))) (fun i _ => 32 - (intOf i).toNat)
      case atStart => exact ⟨0, A, by omega, rfl, hA, ho, hbl, Lib.hid (by rw [Nat.pow_zero, Nat.mod_one, Nat.mul_zero, Nat.xor_zero])⟩
      case round =>
        clear ho hbl hA
        obtain ⟨k, D, hk, rfl, hD, ho, hbl, HN⟩ := hrel
        by_cases hlt : k < 32
        · have hkl : decide ((k : Int) < 32) = true := by simp; omega
          rcases Nat.mod_two_eq_zero_or_one (tn / 2 ^ k) with hb0 | hb0
          · have hbt : (((tn : Int) / 2 ^ k).tmod 2 == 1) = false := by
              rw [beq_eq_false_iff_ne]
              have : ((tn : Int) / 2 ^ k).tmod 2 = ((tn / 2 ^ k % 2 : Nat) : Int) := by
                rw [show (tn : Int) / 2 ^ k = ((tn / 2 ^ k : Nat) : Int) by simp, Int.tmod_eq_emod_of_nonneg (Int.natCast_nonneg _)]
                simp
              rw [this, hb0]; simp
            have HN2 := Lib.hid ((turn_off t k tn hb0).symm ▸ HN.out : Crc.num D = Crc.num A ^^^ 2 ^ t * (tn % 2 ^ (k + 1)))
            go_wp2
            go_roundw
            case rel => exact ⟨k + 1, D, by omega, by go_num, hD, ho, hbl, HN2⟩
            case measure => simp [intOf]; omega
          · have hbt : (((tn : Int) / 2 ^ k).tmod 2 == 1) = true := by
              rw [beq_iff_eq]
              have : ((tn : Int) / 2 ^ k).tmod 2 = ((tn / 2 ^ k % 2 : Nat) : Int) := by
                rw [show (tn : Int) / 2 ^ k = ((tn / 2 ^ k : Nat) : Int) by simp, Int.tmod_eq_emod_of_nonneg (Int.natCast_nonneg _)]
                simp
              rw [this, hb0]; simp
            have HQ := Lib.hid (turn_on t k tn hb0)
            obtain ⟨q, hq⟩ : ∃ q, (t + k) / 8 = q := ⟨_, rfl⟩
            obtain ⟨m, hm⟩ : ∃ m, (t + k) % 8 = m := ⟨_, rfl⟩
            have hq4 : q < n + 4 := by omega
            have hm8' : m < 8 := by omega
            have hcell := ho.cell hD q hq4
            have hfz := ho.melt hD q
            have hst := Lib.hid (fun x hx => ho.stored hD q x hx)
            have e1 : ((t : Int) + (k : Int)) / 8 = (q : Int) := by omega
            have e2 : ((t : Int) + (k : Int)) % 8 = (m : Int) := by omega
            have e3 : (q : Int) < (n : Int) + 4 := by omega
            obtain ⟨hc1, hc2⟩ := hcell
            have HNS := Lib.hid (num_set D q (2 ^ m) (by omega))
            generalize D.getD q 0 = old at *
            have p256 : 2 ^ m < 256 := Nat.pow_lt_pow_right (m := m) (n := 8) (by omega) hm8'
            have hX : bits BinOp.xor IntKind.u8 (old : Int) (2 ^ m % 256) = ((old ^^^ 2 ^ m : Nat) : Int) := by
              rw [show (2 : Int) ^ m % 256 = ((2 ^ m : Nat) : Int) by rw [Int.emod_eq_of_lt (by exact Int.le_of_lt (Int.pow_pos (by decide))) (by exact_mod_cast p256)]; simp]
              exact xor8 _ _ hc2 p256
            have hx8 : old ^^^ 2 ^ m < 256 := Nat.xor_lt_two_pow (n := 8) hc2 p256
            have HX := Lib.hid hX
            have HO := Lib.hid (hst.out _ hx8)
            have HN2 : Hid (Crc.num (D.set q (old ^^^ 2 ^ m)) = Crc.num A ^^^ 2 ^ t * (tn % 2 ^ (k + 1))) := Lib.hid (by
              rw [HNS.out, HN.out, HQ.out, hq, hm, Nat.xor_assoc])
            have HL := Lib.hid (show (D.set q (old ^^^ 2 ^ m)).length = n + 4 by rw [List.length_set, hD])
            have HBB := Lib.hid (hbl.setCell (p := ⟨g, q, none⟩) hg (.int .u8 ((old ^^^ 2 ^ m : Nat) : Int)))
            clear hX hst HNS ho hbl
            go_wp2
            go_region
            rw [HX.out]
            go_wp2
            go_roundw
            case rel => exact ⟨k + 1, D.set q (old ^^^ 2 ^ m), by omega, by go_num, HL.out, HO.out, HBB.out.drew, HN2⟩
            case measure => simp [intOf]; omega
        · obtain rfl : k = 32 := by omega
          have hI := HT D t
          have HI := Lib.hid (hI.out hD ht2 (by rw [HN.out, Nat.mod_eq_of_lt (by simpa using htn)]))
          clear hI HN HT
          have hlt4 : ∀ j, Crc.num (D.drop j) < 256 ^ (n + 4 - j) := fun j => by
            have := num_lt (D.drop j) fun x hx => ho.2 x (List.mem_of_mem_drop hx)
            rwa [List.length_drop, hD] at this
          have HLT := Lib.hid hlt4
          clear hlt4
          go_wp2
          go_loop [12, 13] (fun x i => (∃ j r : Nat, i = .int .i64 j ∧ j ≤ 3 ∧ x = .int .u32 r ∧ Hid (r = Crc.num (D.drop (n + j + 1)))) ∨ (i = .int .i64 (-1) ∧ ∃ r : Nat, x = .int .u32 r ∧ Hid (r = Crc.num (D.drop n)))) (fun _ i => (intOf i + 1).toNat)
          case atStart => exact .inl ⟨3, 0, rfl, by omega, rfl, Lib.hid (by rw [List.drop_eq_nil_of_le (by omega)]; rfl)⟩
          case round =>
            rcases hrel with ⟨j, r, rfl, hj, rfl, HR⟩ | ⟨rfl, r, rfl, HR⟩
            · have hcell := ho.cell hD (n + j) (by omega)
              obtain ⟨hc1, hc2⟩ := hcell
              have HD1 := Lib.hid (num_drop D (n + j) (by omega))
              generalize D.getD (n + j) 0 = c at *
              have hr : r < 16777216 := by
                have := HLT.out (n + j + 1)
                rw [← HR.out] at this
                refine Nat.lt_of_lt_of_le this ?_
                rw [show (16777216 : Nat) = 256 ^ 3 by rfl]
                exact Nat.pow_le_pow_right (by omega) (by omega)
              have e3 : (n : Int) + (j : Int) < (n : Int) + 4 := by omega
              have HO : Hid (bits BinOp.or IntKind.u32 ((r : Int) * 256) (c : Int) = ((c ^^^ 256 * r : Nat) : Int)) := Lib.hid (by
                have h1 := u32_or_nat (r * 256) c (by omega) (by omega)
                rw [show ((r * 256 : Nat) : Int) = (r : Int) * 256 by omega] at h1
                rw [h1, Nat.mul_comm r 256, show (256 : Nat) = 2 ^ 8 by rfl, ← Nat.two_pow_add_eq_or_of_lt hc2, Nat.xor_comm, Crc.xor_add 8 r c hc2])
              have HRC : Hid (c ^^^ 256 * r = Crc.num (D.drop (n + j))) := Lib.hid (by rw [HD1.out, HR.out])
              go_wp2
              rw [HO.out]
              refine ⟨?_, by simp [intOf]⟩
              rcases j with _ | j
              · exact .inr ⟨by go_num, _, rfl, HRC⟩
              · exact .inl ⟨j, _, by go_num, by omega, rfl, HRC⟩
            · have T3 := T1.later hbl
              have RD : Rd wr wr.heap.size (.slice (some ⟨g, 0, none⟩) n c8) (D.take n) := by
                have h1 := ho.rd
                rw [← hD] at h1
                exact h1.takes n (by omega)
              have k3 : (n : Int) ≤ (c8 : Int) := by omega
              have HF : Hid (((((Crc.upd 0 (D.take n) : Nat) : Int) == (r : Int)) == ((tn : Int) == 0)) = true) := Lib.hid (by
                rw [beq_iff_eq, Bool.eq_iff_iff, beq_iff_eq, beq_iff_eq]
                have h1 := HI.out
                rw [← HR.out] at h1
                omega)
              have B3 := up b1 hbl
              clear HI HR ho hbl HLT
              go_wp2_with fail
              refine (sum _ _ _ RD T3).mono ?_
              rintro e w' ⟨rfl, rfl⟩
              generalize Crc.upd 0 (D.take n) = z at *
              have hF := HF.out
              go_wp2
              go_ret
              exact ⟨rfl, B3⟩
end Go.Proofs.YtdhlkomfponalaaDoor
