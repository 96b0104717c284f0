/- The program's functions: bytesOf, mayBe, Size, Count, Pack, Unpack. -/
import Derived.Test.YtdlgnkfeamkfbaaMkM
import Derived.BigRegion
namespace Go.Proofs.Ytdlgnkfeamkfbaa
open Go.RowKit
set_option linter.unusedVariables false
set_option maxRecDepth 100000

theorem or8 : ∀ (c : Fin 256) (m : Fin 8), c.val < 2 ^ m.val → bits BinOp.or IntKind.u8 (c.val : Int) (2 ^ m.val % 256) = ((c.val + 2 ^ m.val : Nat) : Int) := by decide +kernel
theorem and8 : ∀ (c : Fin 256) (m : Fin 8), (bits BinOp.and IntKind.u8 ((c.val : Int) / 2 ^ m.val) 1 == 1) = (c.val / 2 ^ m.val % 2 == 1) := by decide +kernel

theorem bytesOf (n : Nat) (w : World) (hn : n ≤ 1000000000) (s : Nat) (hs : Mk.sz n = s) :
    Calls Try.prog 24 #[.int .i64 (n : Nat)] w fun e w' => e = .returned (.int .i64 (s : Nat)) ∧ w = w' := by
  unfold Mk.sz at hs
  have e1 : ((n : Int) + 8 - 1) / 8 = (s : Int) := by omega
  clear hs
  go_enter Try.func24, Try.ntmps24
  go_wp2
  go_ret
  exact ⟨congrArg (fun z => Ending.returned (.int .i64 z)) e1, rfl⟩
theorem mayBe_yes (n : Int) (w : World) (h0 : 0 ≤ n) (h1 : n ≤ 1048576) :
    Calls Try.prog 25 #[.int .i64 n] w fun e w' => e = .returned (.bool true) ∧ w = w' := by
  go_enter Try.func25, Try.ntmps25
  go_wp2
  go_ret
  exact ⟨rfl, rfl⟩
theorem mayBe_no (n : Int) (w : World) (h : n < 0 ∨ 1048576 < n) :
    Calls Try.prog 25 #[.int .i64 n] w fun e w' => e = .returned (.bool false) ∧ w = w' := by
  go_enter Try.func25, Try.ntmps25
  rcases h with h | h
  · have h2 : ¬ (0 : Int) ≤ n := by omega
    go_wp2
    go_ret
    exact ⟨rfl, rfl⟩
  · have h2 : (0 : Int) ≤ n := by omega
    have h3 : ¬ n ≤ 1048576 := by omega
    go_wp2
    go_ret
    exact ⟨rfl, rfl⟩
def szP (n : Int) : Int := if n < 0 ∨ 1048576 < n then 0 else (Mk.sz n.toNat : Nat)
theorem size (n : Int) (w : World) (s : Int) (hs : szP n = s) :
    Calls Try.prog 17 #[.int .i64 n] w fun e w' => e = .returned (.int .i64 s) ∧ w = w' := by
  unfold szP at hs
  by_cases h : n < 0 ∨ 1048576 < n
  · rw [if_pos h] at hs
    subst hs
    go_enter Try.func17, Try.ntmps17
    go_wp2_with fail
    refine (mayBe_no n _ h).mono ?_
    rintro e w' ⟨rfl, rfl⟩
    go_wp2
    go_ret
    exact ⟨rfl, rfl⟩
  · rw [if_neg h] at hs
    obtain ⟨m, rfl⟩ := Int.eq_ofNat_of_zero_le (a := n) (by omega)
    have h0 : (0 : Int) ≤ (m : Int) := by omega
    have h1 : (m : Int) ≤ 1048576 := by omega
    rw [Int.toNat_natCast] at hs
    obtain ⟨q, hq⟩ : ∃ q, Mk.sz m = q := ⟨_, rfl⟩
    have HS := Lib.hid (bytesOf m w (by omega) _ hq)
    rw [hq] at hs
    subst hs
    clear h hq
    go_enter Try.func17, Try.ntmps17
    go_wp2_with fail
    refine (mayBe_yes (m : Int) _ h0 h1).mono ?_
    rintro e w' ⟨rfl, rfl⟩
    go_wp2_with fail
    refine HS.out.mono ?_
    rintro e w' ⟨rfl, rfl⟩
    go_wp2
    go_ret
    exact ⟨rfl, rfl⟩

set_option maxHeartbeats 1000000 in
theorem count (v : Value) (l : List Bool) (w : World) (h : RdB w w.heap.size v l) (z : Nat) (hz : Mk.cnt l = z) :
    Calls Try.prog 15 #[v] w fun e w' => e = .returned (.int .i64 (z : Nat)) ∧ w = w' := by
  have hm := Gn.Rd.len' h
  obtain ⟨a, c, rfl, _⟩ := Gn.Rd.form h
  have HR := Lib.hid h
  have HZ := Lib.hid hz
  clear h hz
  go_enter Try.func15, Try.ntmps15
  go_wp2
  go_loop [3, 7] (fun n i => ∃ (k q : Nat), k ≤ l.length ∧ i = .int .i64 (k : Nat) ∧ n = .int .i64 (q : Nat) ∧ Hid (Mk.cnt (l.take k) = q)) (fun _ i => l.length - (intOf i).toNat)
  case atStart => exact ⟨0, 0, by omega, rfl, rfl, Lib.hid rfl⟩
  case round =>
    obtain ⟨k, q, hk, rfl, rfl, HC⟩ := hrel
    by_cases hlt : k < l.length
    · have hlt1 : (k : Int) < l.length := by omega
      obtain ⟨x, hx⟩ : ∃ x, l[k]? = some x := ⟨_, List.getElem?_eq_getElem hlt⟩
      obtain ⟨b, off, rfl, p0⟩ := rdB_cell HR.out (Below.refl _ _) hx
      have HN : Hid (Mk.cnt (l.take (k + 1)) = q + Mk.bit x) := Lib.hid (by rw [Mk.cnt_take l k hlt, HC.out, List.getD_eq_getElem?_getD, hx]; rfl)
      have hq : q ≤ k := by have := Mk.cnt_le (l.take k); rw [HC.out, List.length_take] at this; omega
      clear hx
      cases x with
      | true =>
        go_wp2
        go_round
        case rel => exact ⟨k + 1, q + 1, by omega, by go_num, by go_num, Lib.hid (by rw [HN.out]; rfl)⟩
        case measure => simp [intOf]; omega
      | false =>
        go_wp2
        go_round
        case rel => exact ⟨k + 1, q, by omega, by go_num, by go_num, Lib.hid (by rw [HN.out]; rfl)⟩
        case measure => simp [intOf]; omega
    · obtain rfl : k = l.length := by omega
      obtain rfl : q = z := by have := HC.out; rw [List.take_length, HZ.out] at this; exact this.symm
      clear HC
      go_wp2
      go_ret
      exact ⟨rfl, rfl⟩

set_option maxHeartbeats 2000000 in
theorem pack (v : Value) (l : List Bool) (w : World) (h : RdB w w.heap.size v l) (hl : l.length ≤ 2000000) :
    Calls Try.prog 11 #[v] w fun e w' => ∃ r, e = .returned r ∧ Own w' w.heap.size r (Mk.pk (Mk.sz l.length) l) ∧ Below w.heap.size w w' := by
  obtain ⟨a, c, rfl, _⟩ := Gn.Rd.form h
  have HR := Lib.hid h
  obtain ⟨S, hS⟩ : ∃ S, Mk.sz l.length = S := ⟨_, rfl⟩
  have HB := Lib.hid (bytesOf l.length w (by omega) S hS)
  have hS8 : l.length ≤ 8 * S := by rw [← hS]; unfold Mk.sz; omega
  have hSs : S ≤ 300000 := by rw [← hS]; unfold Mk.sz; omega
  have HM := make_byte S (by omega) w
  have HO0 : Hid (Own (w.alloc (.cells (vals (List.replicate S 0)).toArray 5)) w.heap.size (.slice (some ⟨w.heap.size, 0, none⟩) S S) (Mk.pk S (l.take 0))) := Lib.hid (by
    rw [List.take_zero, Mk.pk_nil]
    exact own_lit w _ _ (by simp) (by simp [maxLen]; omega) (Nat.le_refl _) (by simp))
  have HB0 := Lib.hid (up_new w (.cells (vals (List.replicate S 0)).toArray 5))
  generalize (vals (List.replicate S 0)).toArray = Z at *
  rw [hS]
  clear h
  go_enter Try.func11, Try.ntmps11
  go_wp2_with fail
  refine HB.out.mono ?_
  rintro e w' ⟨rfl, rfl⟩
  go_wp2
  generalize w.alloc (.cells Z 5) = w0 at *
  clear HM HB
  obtain ⟨g, hg⟩ : ∃ g, w.heap.size = g := ⟨_, rfl⟩
  simp only [hg] at HO0 ⊢
  go_loopw [11] (fun i wr => ∃ k : Nat, k ≤ l.length ∧ i = .int .i64 (k : Nat) ∧ Hid (Own wr g (.slice (some ⟨g, 0, none⟩) S S) (Mk.pk S (l.take k))) ∧ Hid (Below w.heap.size w wr)) (fun i _ => l.length - (intOf i).toNat)
  case atStart => exact ⟨0, by omega, rfl, HO0, HB0⟩
  case round =>
    clear HO0 HB0
    obtain ⟨k, hk, rfl, HO, HW⟩ := hrel
    by_cases hlt : k < l.length
    · have hlt1 : (k : Int) < l.length := by omega
      obtain ⟨x, hx⟩ : ∃ x, l[k]? = some x := ⟨_, List.getElem?_eq_getElem hlt⟩
      obtain ⟨b, off, rfl, p0⟩ := rdB_cell HR.out HW.out hx
      have hT : l.take (k + 1) = l.take k ++ [x] := by rw [List.take_add_one, hx]; rfl
      have hlk : (l.take k).length = k := by rw [List.length_take]; omega
      have HN := Lib.hid (Mk.pk_snoc S (l.take k) x (by rw [hlk]; omega))
      have hR := Mk.pk_room S (l.take k) (by rw [hlk]; omega)
      rw [hlk, ← hT] at HN
      rw [hlk] at hR
      have hpl := Mk.pk_len S (l.take k)
      generalize Mk.pk S (l.take k) = P at *
      clear hx hT hlk
      cases x with
      | true =>
        obtain ⟨q, hq⟩ : ∃ q, k / 8 = q := ⟨_, rfl⟩
        obtain ⟨m, hm⟩ : ∃ m, k % 8 = m := ⟨_, rfl⟩
        rw [hq, hm] at HN hR
        have hqS : q < S := by omega
        have hm8 : m < 8 := by omega
        have e1 : (k : Int) / 8 = (q : Int) := by omega
        have e2 : (k : Int) % 8 = (m : Int) := by omega
        obtain ⟨hc1, hc2⟩ := HO.out.cell hpl q hqS
        have hfz := HO.out.melt hpl q
        have hst := Lib.hid (fun x hx => HO.out.stored hpl q x hx)
        generalize P.getD q 0 = old at *
        have HX := Lib.hid (or8 ⟨old, hc2⟩ ⟨m, hm8⟩ hR)
        have hx8 : old + 2 ^ m < 256 := by
          have : 2 ^ (m + 1) ≤ 2 ^ 8 := Nat.pow_le_pow_right (by omega) (by omega)
          rw [Nat.pow_succ] at this
          omega
        have HO2 : Hid (Own (wr.setCell ⟨g, q, none⟩ (.int .u8 ((old + 2 ^ m : Nat) : Int))) g (.slice (some ⟨g, 0, none⟩) S S) (Mk.pk S (l.take (k + 1)))) := Lib.hid (by
          rw [HN.out]
          have := hst.out _ hx8
          rw [show 2 ^ m * Mk.bit true = 2 ^ m by simp [Mk.bit]]
          exact this)
        have HBB := Lib.hid (HW.out.setCell (p := ⟨g, q, none⟩) (by rw [hg]; exact Nat.le_refl _) (.int .u8 ((old + 2 ^ m : Nat) : Int)))
        have hqi : (q : Int) < S := by omega
        clear HN hst HO HW hq hm hR hpl
        go_wp2
        go_region
        rw [HX.out]
        go_wp2
        go_roundw
        case rel => exact ⟨k + 1, by omega, by go_num, Lib.hid HO2.out, Lib.hid HBB.out.drew⟩
        case measure => simp [intOf]; omega
      | false =>
        have HO2 : Hid (Own wr g (.slice (some ⟨g, 0, none⟩) S S) (Mk.pk S (l.take (k + 1)))) := Lib.hid (by
          rw [HN.out]
          have hq : k / 8 < P.length := by omega
          rw [show P.getD (k / 8) 0 + 2 ^ (k % 8) * Mk.bit false = P.getD (k / 8) 0 by simp [Mk.bit], List.getD_eq_getElem?_getD, List.getElem?_eq_getElem hq]
          simp only [Option.getD_some, List.set_getElem_self]
          exact HO.out)
        clear HN hR hpl HO
        go_wp2
        go_roundw
        case rel => exact ⟨k + 1, by omega, by go_num, HO2, HW⟩
        case measure => simp [intOf]; omega
    · obtain rfl : k = l.length := by omega
      have HE : Hid (Own wr g (.slice (some ⟨g, 0, none⟩) S S) (Mk.pk S l)) := Lib.hid (by have := HO.out; rw [List.take_length] at this; exact this)
      clear HO
      go_wp2
      go_ret
      exact ⟨_, rfl, by rw [hg]; exact HE.out, HW.out⟩
/-- What Unpack answers, in memory. -/
def UnPost (w : World) (x : List Bool × Int × Nat) (e : Ending) (w' : World) : Prop := ∃ u, e = .returned (.tuple #[u, .int .i64 x.2.1, .int .i64 (x.2.2 : Nat)]) ∧ OwnB w' w.heap.size u x.1 ∧ Below w.heap.size w w'
theorem unpack_range (v : Value) (b : List Nat) (n : Int) (w : World) (h : n < 0 ∨ 1048576 < n) :
    Calls Try.prog 21 #[v, .int .i64 n] w (UnPost w (Mk.un b n)) := by
  have HU := Lib.hid (show Mk.un b n = ([], 0, 6) by unfold Mk.un; rw [if_pos h])
  rw [HU.out]
  go_enter Try.func21, Try.ntmps21
  go_wp2
  go_step3
  go_wp2_with fail
  refine (mayBe_no n _ h).mono ?_
  rintro e w' ⟨rfl, rfl⟩
  go_wp2
  go_ret3
  exact ⟨_, rfl, Gn.Own.nil _ _, Below.refl _ _⟩
theorem unpack_trunc (v : Value) (b : List Nat) (n : Nat) (w : World) (hb : Rd w w.heap.size v b) (h0 : n ≤ 1048576) (h : b.length < Mk.sz n) :
    Calls Try.prog 21 #[v, .int .i64 (n : Nat)] w (UnPost w (Mk.un b (n : Nat))) := by
  have HU := Lib.hid (show Mk.un b (n : Nat) = ([], 0, 3) by unfold Mk.un; rw [if_neg (by omega), Int.toNat_natCast, if_pos h])
  rw [HU.out]
  obtain ⟨s, hs⟩ : ∃ s, Mk.sz n = s := ⟨_, rfl⟩
  have HS := Lib.hid (bytesOf n w (by omega) s hs)
  rw [hs] at h
  have h1 : (b.length : Int) < (s : Int) := by omega
  have hm := hb.len
  unfold maxLen at hm
  obtain ⟨a, c, rfl, _⟩ := id hb
  clear hb hs
  go_enter Try.func21, Try.ntmps21
  go_wp2
  go_step3
  go_wp2_with fail
  refine (mayBe_yes (n : Int) _ (by omega) (by omega)).mono ?_
  rintro e w' ⟨rfl, rfl⟩
  go_wp2_with fail
  refine HS.out.mono ?_
  rintro e w' ⟨rfl, rfl⟩
  go_wp2
  go_ret3
  exact ⟨_, rfl, Gn.Own.nil _ _, Below.refl _ _⟩
theorem set_pad {α : Type} (l : List α) (m : Nat) (d x : α) : (l ++ List.replicate (m + 1) d).set l.length x = (l ++ [x]) ++ List.replicate m d := by
  rw [List.set_append_right _ _ (Nat.le_refl _), Nat.sub_self, List.replicate_succ, List.set_cons_zero, List.append_assoc]; rfl
/-- The first k of the bools, and none behind. -/
def padB (V : List Bool) (k n : Nat) : List Bool := V.take (min k n) ++ List.replicate (n - min k n) false
theorem padB_zero (V : List Bool) (n : Nat) : padB V 0 n = List.replicate n false := by unfold padB; rw [Nat.zero_min, List.take_zero, List.nil_append, Nat.sub_zero]
theorem padB_len (V : List Bool) (k n : Nat) (h : k ≤ V.length) : (padB V k n).length = n := by unfold padB; simp; omega
theorem padB_set (V : List Bool) (k n : Nat) (x : Bool) (hk : k < n) (hx : V[k]? = some x) : (padB V k n).set k x = padB V (k + 1) n := by
  unfold padB
  have hl := (List.getElem?_eq_some_iff.1 hx).1
  have e : (V.take k).length = k := by rw [List.length_take]; omega
  rw [Nat.min_eq_left (by omega), Nat.min_eq_left (by omega), show n - k = (n - (k + 1)) + 1 by omega]
  have := set_pad (V.take k) (n - (k + 1)) false x
  rw [e] at this
  rw [this, List.take_add_one, hx]; rfl
theorem padB_on (V : List Bool) (k n : Nat) (hk : n ≤ k) : padB V (k + 1) n = padB V k n := by unfold padB; rw [Nat.min_eq_right (by omega), Nat.min_eq_right hk]
theorem padB_end (V : List Bool) (k n : Nat) (hk : n ≤ k) : padB V k n = V.take n := by unfold padB; rw [Nat.min_eq_right hk, Nat.sub_self, List.replicate_zero, List.append_nil]
theorem drop_more (V : List Bool) (k n : Nat) (x : Bool) (hx : V[k]? = some x) (hz : Mk.cnt ((V.take k).drop n) = 0) (h : k < n ∨ x = false) : Mk.cnt ((V.take (k + 1)).drop n) = 0 := by
  rw [List.take_add_one, hx]
  have hl := (List.getElem?_eq_some_iff.1 hx).1
  have e : (V.take k).length = k := by rw [List.length_take]; omega
  simp only [Option.toList_some]
  rcases Nat.lt_or_ge k n with h1 | h1
  · rw [List.drop_of_length_le (by simp; omega)]; rfl
  · rw [List.drop_append_of_le_length (by omega), Mk.cnt_app, hz]
    rcases h with h | rfl
    · omega
    · rfl
set_option maxHeartbeats 4000000 in
theorem unpack_go (v : Value) (b : List Nat) (n : Nat) (w : World) (hb : Rd w w.heap.size v b) (h0 : n ≤ 1048576) (h : Mk.sz n ≤ b.length) :
    Calls Try.prog 21 #[v, .int .i64 (n : Nat)] w (UnPost w (Mk.un b (n : Nat))) := by
  obtain ⟨s, hs⟩ : ∃ s, Mk.sz n = s := ⟨_, rfl⟩
  have HUN : Hid (Mk.un b (n : Nat) = if Mk.cnt ((Mk.ub (b.take s)).drop n) ≠ 0 then ([], 0, 140) else ((Mk.ub b).take n, (s : Int), 0)) := Lib.hid (by
    unfold Mk.un; rw [if_neg (by omega), Int.toNat_natCast, if_neg (by omega), hs])
  have HS := Lib.hid (bytesOf n w (by omega) s hs)
  rw [hs] at h
  have hn8 : n ≤ 8 * s := by rw [← hs]; unfold Mk.sz; omega
  have hs2 : s ≤ 131072 := by rw [← hs]; unfold Mk.sz; omega
  have h1 : ¬ (b.length : Int) < (s : Int) := by omega
  have hm := hb.len
  unfold maxLen at hm
  have HR := Lib.hid hb
  have HG := Lib.hid (Mk.ub_get b)
  have HT := Lib.hid (Mk.ub_take s b)
  have hVl := Mk.ub_len b
  generalize Mk.ub b = V at *
  obtain ⟨a, c, rfl, _⟩ := id hb
  have HM := make_bool n (by omega) w
  have HO0 : Hid (OwnB (w.alloc (.cells (Gn.cells eb (List.replicate n false)).toArray 4)) w.heap.size (.slice (some ⟨w.heap.size, 0, none⟩) n n) (padB V 0 n)) := Lib.hid (by
    rw [padB_zero]
    exact ownB_lit w _ _ (by simp [maxLen]; omega) (Nat.le_refl _) (by simp))
  have HB0 := Lib.hid (up_new w (.cells (Gn.cells eb (List.replicate n false)).toArray 4))
  generalize (Gn.cells eb (List.replicate n false)).toArray = Z at *
  clear hb hs
  go_enter Try.func21, Try.ntmps21
  go_wp2
  go_step3
  go_wp2_with fail
  refine (mayBe_yes (n : Int) _ (by omega) (by omega)).mono ?_
  rintro e w' ⟨rfl, rfl⟩
  go_wp2_with fail
  refine HS.out.mono ?_
  rintro e w' ⟨rfl, rfl⟩
  go_wp2
  generalize w.alloc (.cells Z 4) = w0 at *
  clear HM HS h1
  obtain ⟨g, hg⟩ : ∃ g, w.heap.size = g := ⟨_, rfl⟩
  simp only [hg] at HO0 ⊢
  go_step3
  go_wp2
  go_loopw [4, 5, 6, 22] (fun uv sv ev i wr => ∃ k : Nat, uv = .slice (some ⟨g, 0, none⟩) n n ∧ sv = .int .i64 (s : Nat) ∧ ev = .int .i64 0 ∧ k ≤ 8 * s ∧ i = .int .i64 (k : Nat) ∧ Hid (OwnB wr g (.slice (some ⟨g, 0, none⟩) n n) (padB V k n)) ∧ Hid (Below w.heap.size w wr) ∧ Hid (Mk.cnt ((V.take k).drop n) = 0)) (fun _ _ _ i _ => 8 * s - (intOf i).toNat)
  case atStart => exact ⟨0, rfl, rfl, rfl, by omega, rfl, HO0, HB0, Lib.hid (by simp [Mk.cnt])⟩
  case round =>
    clear HO0 HB0
    obtain ⟨k, rfl, rfl, rfl, hk, rfl, HO, HW, HZ⟩ := hrel
    by_cases hlt : k < 8 * s
    · have hlt1 : (k : Int) < (s : Int) * 8 := by omega
      obtain ⟨q, hq⟩ : ∃ q, k / 8 = q := ⟨_, rfl⟩
      obtain ⟨m, hm2⟩ : ∃ m, k % 8 = m := ⟨_, rfl⟩
      have hqb : q < b.length := by omega
      have hm8 : m < 8 := by omega
      have e1 : (k : Int) / 8 = (q : Int) := by omega
      have e2 : (k : Int) % 8 = (m : Int) := by omega
      have hqi : (q : Int) < b.length := by omega
      obtain ⟨ba, off, rfl, p0, hc2⟩ := rd_cell HR.out HW.out hqb
      obtain ⟨x, hx⟩ : ∃ x, V[k]? = some x := ⟨_, List.getElem?_eq_getElem (by omega)⟩
      have hgx := HG.out k (by omega)
      rw [List.getD_eq_getElem?_getD, hx, hq, hm2] at hgx
      generalize b.getD q 0 = cc at *
      have hax := (and8 ⟨cc, hc2⟩ ⟨m, hm8⟩).trans hgx.symm
      simp only [Option.getD_some] at hax
      have hpl := padB_len V k n (by omega)
      clear hgx hq hm2
      by_cases hkn : k < n
      · have hkn1 : (k : Int) < (n : Int) := by omega
        have hcl := HO.out.cell hpl k hkn
        have hfz := HO.out.melt hpl k
        have HO2 : Hid (OwnB (wr.setCell ⟨g, k, none⟩ (.bool x)) g (.slice (some ⟨g, 0, none⟩) n n) (padB V (k + 1) n)) := Lib.hid (by
          rw [← padB_set V k n x hkn hx]; exact HO.out.stored hpl k x)
        have HBB := Lib.hid (HW.out.setCell (p := ⟨g, k, none⟩) (by rw [hg]; exact Nat.le_refl _) (.bool x))
        have HZ2 := Lib.hid (drop_more V k n x hx HZ.out (.inl hkn))
        generalize (padB V k n).getD k false = old at *
        clear HO HW HZ hpl hx
        go_wp2
        go_roundw
        case rel => exact ⟨k + 1, rfl, rfl, rfl, by omega, by go_num, HO2, HBB, HZ2⟩
        case measure => simp [intOf]; omega
      · have hkn1 : ¬ (k : Int) < (n : Int) := by omega
        cases x with
        | false =>
          have HO2 : Hid (OwnB wr g (.slice (some ⟨g, 0, none⟩) n n) (padB V (k + 1) n)) := Lib.hid (by rw [padB_on V k n (by omega)]; exact HO.out)
          have HZ2 := Lib.hid (drop_more V k n false hx HZ.out (.inr rfl))
          clear HO HZ hpl hx
          go_wp2
          go_roundw
          case rel => exact ⟨k + 1, rfl, rfl, rfl, by omega, by go_num, HO2, HW, HZ2⟩
          case measure => simp [intOf]; omega
        | true =>
          have HU : Hid (Mk.un b (n : Nat) = ([], 0, 140)) := Lib.hid (by
            rw [HUN.out, if_pos]
            rw [HT.out]
            have : ((V.take (8 * s)).drop n).getD (k - n) false = true := by
              rw [List.getD_eq_getElem?_getD, List.getElem?_drop, show n + (k - n) = k by omega, List.getElem?_take_of_lt (by omega), hx]; rfl
            have := Mk.cnt_pos _ _ this
            omega)
          clear HO HZ hpl hx HUN
          go_wp2
          try rw [Exit.noGoto_ret]
          go_ret3
          exact ⟨.slice none 0 0, by rw [HU.out]; rfl, by rw [HU.out]; exact Gn.Own.nil _ _, HW.out⟩
    · obtain rfl : k = 8 * s := by omega
      have hlt1 : ¬ ((8 * s : Nat) : Int) < (s : Int) * 8 := by omega
      have HU : Hid (Mk.un b (n : Nat) = (V.take n, (s : Int), 0)) := Lib.hid (by
        rw [HUN.out, if_neg]
        rw [HT.out, HZ.out]; simp)
      have HE : Hid (OwnB wr g (.slice (some ⟨g, 0, none⟩) n n) (V.take n)) := Lib.hid (by rw [← padB_end V (8 * s) n hn8]; exact HO.out)
      clear HO HZ HUN
      go_wp2
      try rw [Exit.noGoto_ret]
      go_ret3
      exact ⟨.slice (some ⟨g, 0, none⟩) n n, by rw [HU.out]; rfl, by rw [HU.out, hg]; exact HE.out, HW.out⟩
theorem unpack (v : Value) (b : List Nat) (n : Int) (w : World) (hb : Rd w w.heap.size v b) :
    Calls Try.prog 21 #[v, .int .i64 n] w (UnPost w (Mk.un b n)) := by
  by_cases h : n < 0 ∨ 1048576 < n
  · exact unpack_range v b n w h
  · obtain ⟨m, rfl⟩ := Int.eq_ofNat_of_zero_le (a := n) (by omega)
    by_cases h2 : b.length < Mk.sz m
    · exact unpack_trunc v b m w hb (by omega) h2
    · exact unpack_go v b m w hb (by omega) (by omega)
end Go.Proofs.Ytdlgnkfeamkfbaa
