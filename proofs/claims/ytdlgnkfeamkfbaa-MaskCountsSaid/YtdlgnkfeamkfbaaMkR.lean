/- The law's helpers and the document's answer: same, cut, Size, Count, Pack. -/
import Derived.Test.YtdlgnkfeamkfbaaMkQ
import Derived.BigQuiet
namespace Go.Proofs.Ytdlgnkfeamkfbaa
open Go.RowKit
set_option linter.unusedVariables false
set_option maxRecDepth 100000

theorem rsize (n : Int) (w : World) (s : Int) (hs : szP n = s) :
    Calls Try.prog 18 #[.int .i64 n] w fun e w' => e = .returned (.int .i64 s) ∧ w = w' := by
  unfold szP at hs
  by_cases h : n < 0 ∨ 1048576 < n
  · rw [if_pos h] at hs
    subst hs
    go_enter Try.func18, Try.ntmps18
    rcases h with h | h
    · go_wp2
      go_ret
      exact ⟨rfl, rfl⟩
    · have h0 : ¬ n < 0 := by omega
      go_wp2
      go_ret
      exact ⟨rfl, rfl⟩
  · rw [if_neg h] at hs
    obtain ⟨m, rfl⟩ := Int.eq_ofNat_of_zero_le (a := n) (by omega)
    have h1 : ¬ (m : Int) > 1048576 := by omega
    have h0 : ¬ (m : Int) < 0 := by omega
    rw [Int.toNat_natCast] at hs
    unfold Mk.sz at hs
    have e1 : ((m : Int) + 7) / 8 = s := by omega
    clear h hs
    go_enter Try.func18, Try.ntmps18
    go_wp2
    go_ret
    exact ⟨rfl, rfl⟩

set_option maxHeartbeats 1000000 in
theorem rcount (v : Value) (l : List Bool) (w : World) (h : RdB w w.heap.size v l) (z : Nat) (hz : Mk.cnt l = z) :
    Calls Try.prog 16 #[v] w fun e w' => e = .returned (.int .i64 (z : Nat)) ∧ w = w' := by
  have hm := Gn.Rd.len' h
  obtain ⟨a, c, rfl, _⟩ := Gn.Rd.form h
  have HR := Lib.hid h
  have HZ := Lib.hid hz
  clear h hz
  go_enter Try.func16, Try.ntmps16
  go_wp2
  go_loop [3, 4] (fun n i => ∃ (k q : Nat), k ≤ l.length ∧ i = .int .i64 (k : Nat) ∧ n = .int .i64 (q : Nat) ∧ Hid (Mk.cnt (l.take k) = q)) (fun _ i => l.length - (intOf i).toNat)
  case atStart => exact ⟨0, 0, by omega, rfl, rfl, Lib.hid rfl⟩
  case round =>
    obtain ⟨k, q, hk, rfl, rfl, HC⟩ := hrel
    by_cases hlt : k < l.length
    · have hlt1 : (k : Int) < l.length := by omega
      obtain ⟨x, hx⟩ : ∃ x, l[k]? = some x := ⟨_, List.getElem?_eq_getElem hlt⟩
      obtain ⟨b, off, rfl, p0⟩ := rdB_cell HR.out (Below.refl _ _) hx
      have HN : Hid (Mk.cnt (l.take (k + 1)) = q + Mk.bit x) := Lib.hid (by rw [Mk.cnt_take l k hlt, HC.out, List.getD_eq_getElem?_getD, hx]; rfl)
      have hq : q ≤ k := by have := Mk.cnt_le (l.take k); rw [HC.out, List.length_take] at this; omega
      clear hx
      cases x with
      | true =>
        go_wp2
        go_round
        case rel => exact ⟨k + 1, q + 1, by omega, by go_num, by go_num, Lib.hid (by rw [HN.out]; rfl)⟩
        case measure => simp [intOf]; omega
      | false =>
        go_wp2
        go_round
        case rel => exact ⟨k + 1, q, by omega, by go_num, by go_num, Lib.hid (by rw [HN.out]; rfl)⟩
        case measure => simp [intOf]; omega
    · obtain rfl : k = l.length := by omega
      obtain rfl : q = z := by have := HC.out; rw [List.take_length, HZ.out] at this; exact this.symm
      clear HC
      go_wp2
      go_ret
      exact ⟨rfl, rfl⟩

set_option maxHeartbeats 1000000 in
theorem same (v u : Value) (l m : List Bool) (w : World) (h : RdB w w.heap.size v l) (k : RdB w w.heap.size u m) (b : Bool) (hb : b = true ↔ l = m) :
    Calls Try.prog 14 #[v, u] w fun e w' => e = .returned (.bool b) ∧ Below w.heap.size w w' := by
  have hm := Gn.Rd.len' h
  have hm2 := Gn.Rd.len' k
  obtain ⟨a, c, rfl, _⟩ := Gn.Rd.form h
  obtain ⟨a2, c2, rfl, _⟩ := Gn.Rd.form k
  have HR := Lib.hid h
  have HK := Lib.hid k
  have HB := Lib.hid hb
  clear h k hb
  go_enter Try.func14, Try.ntmps14
  by_cases hl : l.length = m.length
  · have hl1 : ((l.length : Int) != (m.length : Int)) = false := by simp [hl]
    go_wp2
    go_loopw [5] (fun i wr => ∃ q : Nat, q ≤ l.length ∧ i = .int .i64 (q : Nat) ∧ Hid (Below w.heap.size w wr) ∧ Hid (l.take q = m.take q)) (fun i _ => l.length - (intOf i).toNat)
    case atStart => exact ⟨0, by omega, rfl, Lib.hid (Below.refl _ _), Lib.hid (by simp)⟩
    case round =>
      obtain ⟨q, hq, rfl, HW, HT⟩ := hrel
      by_cases hlt : q < l.length
      · have hlt1 : (q : Int) < l.length := by omega
        have hlt2 : (q : Int) < m.length := by omega
        obtain ⟨x, hx⟩ : ∃ x, l[q]? = some x := ⟨_, List.getElem?_eq_getElem hlt⟩
        obtain ⟨y, hy⟩ : ∃ x, m[q]? = some x := ⟨_, List.getElem?_eq_getElem (by omega)⟩
        obtain ⟨b1, off1, rfl, p0⟩ := rdB_cell HR.out HW.out hx
        obtain ⟨b2, off2, rfl, p1⟩ := rdB_cell HK.out HW.out hy
        by_cases hxy : x = y
        · subst hxy
          have HT2 : Hid (l.take (q + 1) = m.take (q + 1)) := Lib.hid (by rw [List.take_add_one, List.take_add_one, hx, hy, HT.out])
          clear hx hy
          go_wp2
          go_region
          go_wp2
          go_roundw
          case rel => exact ⟨q + 1, by omega, by go_num, Lib.hid HW.out.drew, HT2⟩
          case measure => simp [intOf]; omega
        · obtain rfl : b = false := by
            cases b with
            | false => rfl
            | true =>
              have e := HB.out.1 rfl
              rw [e, hy] at hx
              injection hx with hx
              exact absurd hx.symm hxy
          have hne : (x == y) = false := by simpa using hxy
          clear hx hy
          go_wp2
          go_region
          go_wp2
          go_ret
          exact ⟨rfl, HW.out.drew⟩
      · obtain rfl : q = l.length := by omega
        obtain rfl : b = true := HB.out.2 (by
          have := HT.out
          rw [List.take_length, hl, List.take_length] at this
          exact this)
        clear HT
        go_wp2
        go_ret
        exact ⟨rfl, HW.out⟩
  · have hl1 : ((l.length : Int) != (m.length : Int)) = true := by simp; omega
    obtain rfl : b = false := by
      cases b with
      | false => rfl
      | true => exact absurd (congrArg List.length (HB.out.1 rfl)) hl
    go_wp2
    go_ret
    exact ⟨rfl, Below.refl _ _⟩
theorem min_is (a : Nat) (c : Int) (n : Nat) (h : min (a : Int) c = (n : Int)) (w : World) : (Builtin.min_ #[3, 3] 3 #[.int .i64 (a : Int), .int .i64 c]).run Try.prog w = .ok (.int .i64 (n : Int)) w := by
  rw [← h]
  simp [Builtin.min_, Builtin.min2]
  repeat' split
  all_goals omega
set_option maxHeartbeats 400000 in
theorem cutB (v : Value) (l : List Bool) (w : World) (h : RdB w w.heap.size v l) :
    Calls Try.prog 10 #[v] w fun e w' => ∃ r, e = .returned r ∧ OwnB w' w.heap.size r (l.take 300) ∧ Below w.heap.size w w' := by
  have hm := Gn.Rd.len' h
  obtain ⟨a, c, rfl, _⟩ := Gn.Rd.form h
  obtain ⟨n, hn⟩ : ∃ n, min l.length 300 = n := ⟨_, rfl⟩
  have M := min_is l.length 300 n (by omega)
  obtain ⟨u, hu, hr⟩ := Gn.cut_to ebY w w.heap.size a l l.length c n h rfl (by omega)
  have hT : l.take n = l.take 300 := by
    rw [← hn]
    rcases Nat.lt_or_ge l.length 300 with h | h
    · rw [Nat.min_eq_left (by omega), List.take_of_length_le (Nat.le_refl _), List.take_of_length_le (by omega)]
    · rw [Nat.min_eq_right h]
  rw [hT] at hr
  have hll : (l.take 300).length ≤ 300 := by rw [List.length_take]; omega
  have HR := Lib.hid hr
  have HL := Lib.hid hll
  clear h hn hT hr hll
  go_enter Try.func10, Try.ntmps10
  go_wp2_with (at_builtin
               refine Gn.wpList_app ebL ebY rfl (.tmp 3) (.tmp 8) rfl w.heap.size _ [] rfl (Gn.Own.lit ebL w w.heap.size [] #[] 0 0 rfl rfl rfl (by simp) (Nat.le_refl _)) u (l.take 300) rfl (Gn.Rd.later HR.out (up_new _ _)) (by have := HL.out; simp; omega) (by simp) ?_
               intro v1 w1 ho1 hg1 hl1 hn1)
  go_ret
  exact ⟨v1, rfl, by rw [List.nil_append] at ho1; exact ho1, (up_new _ _).trans (Gn.below_of_own (Gn.Own.lit ebL w w.heap.size [] #[] 0 0 rfl rfl rfl (by simp) (Nat.le_refl _)) hg1 (by simp))⟩
end Go.Proofs.Ytdlgnkfeamkfbaa
