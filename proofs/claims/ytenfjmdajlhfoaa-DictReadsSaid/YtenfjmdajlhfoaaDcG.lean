/- Get: numbers, texts, dictionaries, lists. -/
import Derived.Test.YtenfjmdajlhfoaaDcW
import Derived.Test.YtenfjmdajlhfoaaRed
namespace Go.Proofs.Ytenfjmdajlhfoaa
open Go.RowKit
set_option linter.unusedVariables false
set_option maxRecDepth 100000

theorem byte_elem : Try.prog.elem 23 = 5 := by kernel_rfl
theorem byte_under : Try.prog.underlying 23 = some (.slice (Try.prog.elem 23)) := by rw [byte_elem]; exact Try.underlying23
theorem byte_size (w : World) : (Go.sizeOf (Try.prog.elem 23)).run Try.prog w = .ok 1 w := by
  rw [byte_elem]
  simp [Go.sizeOf]
  kernel_rfl
/-- A cut reads as a cut. -/
theorem rd_sliced (w : World) (B : Nat) (a : Option Addr) (l : List Nat) (c k m : Nat) (h : Rd w B (.slice a l.length c) l) (hk : k ≤ m) (hm : m ≤ l.length) :
    Rd w B (.slice (if c = k then a else a.map (·.add k)) (m - k) (c - k)) ((l.take m).drop k) := by
  obtain ⟨a', c', e, h1, h2, h3, h4, h5⟩ := h
  injection e with e1 e2 e3
  subst e1 e3
  have hlen : ((l.take m).drop k).length = m - k := by rw [List.length_drop, List.length_take]; omega
  refine ⟨_, _, by rw [hlen], by rw [hlen]; omega, by omega, fun hn => ?_, fun x hx => h4 x (List.mem_of_mem_take (List.mem_of_mem_drop hx)), fun hp' => ?_⟩
  · by_cases e : c = k
    · omega
    · rw [if_neg e] at hn
      have := h3 (by simpa using hn)
      omega
  · rw [hlen] at hp'
    obtain ⟨b, off, rfl, hb, hc⟩ := h5 (by omega)
    refine ⟨b, off + k, by rw [if_neg (by omega)]; simp [add_plain], hb, fun j hj => ?_⟩
    rw [hlen] at hj
    rw [Nat.add_assoc, hc (k + j) (by omega)]
    simp [show k + j < m by omega]
/-- A slice, from a place on. -/
theorem cut_from (w : World) (B : Nat) (a : Option Addr) (l : List Nat) (c p : Nat) (h : Rd w B (.slice a l.length c) l) (hp : p ≤ l.length) :
    ∃ u, (∀ w', (Instr.slice 23 (.slice a l.length c) (some (.int .i64 (p : Int))) none none).run Try.prog w' = .ok u w') ∧ Rd w B u (l.drop p) := by
  refine ⟨_, fun w' => ?_, by have := rd_sliced w B a l c p l.length h hp (Nat.le_refl _); rw [List.take_length] at this; exact this⟩
  rw [run_slice_l w' _ _ _ _ byte_under _ _ (by omega) (by omega), byte_size]
  simp [sliced]
/-- A slice, up to a place. -/
theorem cut_to (w : World) (B : Nat) (a : Option Addr) (l : List Nat) (c p : Nat) (h : Rd w B (.slice a l.length c) l) (hp : p ≤ l.length) :
    ∃ u, (∀ w', (Instr.slice 23 (.slice a l.length c) none (some (.int .i64 (p : Int))) none).run Try.prog w' = .ok u w') ∧ Rd w B u (l.take p) := by
  obtain ⟨_, _, e, hlc, _⟩ := id h
  injection e with _ _ e3
  subst e3
  refine ⟨_, fun w' => ?_, by have := rd_sliced w B a l c 0 p h (Nat.zero_le _) hp; rw [List.drop_zero] at this; exact this⟩
  rw [run_slice_h w' _ _ _ _ byte_under _ _ (by omega) (by omega), byte_size]
  simp [sliced]
/-- A slice, from a place to a place. -/
theorem cut_mid (w : World) (B : Nat) (a : Option Addr) (l : List Nat) (c k p : Nat) (h : Rd w B (.slice a l.length c) l) (hk : k ≤ p) (hp : p ≤ l.length) :
    ∃ u, (∀ w', (Instr.slice 23 (.slice a l.length c) (some (.int .i64 (k : Int))) (some (.int .i64 (p : Int))) none).run Try.prog w' = .ok u w') ∧ Rd w B u ((l.take p).drop k) := by
  obtain ⟨_, _, e, hlc, _⟩ := id h
  injection e with _ _ e3
  subst e3
  refine ⟨_, fun w' => ?_, rd_sliced w B a l c k p h hk hp⟩
  rw [run_slice_lh w' _ _ _ _ byte_under _ _ _ _ (by omega) (by omega) (by omega), byte_size]
  simp [sliced]
/-- Numbers, read of bytes that stand behind others. -/
theorem gn_drop (b : List Nat) (D : List ByteArray) (s : Nat) : ∀ (m u : Nat) (T : List ByteArray) (at_ : Nat),
    Dc.gn b D m u T (s + at_) = if (Dc.gn (b.drop s) D m u T at_).2.2 = 0 then ((Dc.gn (b.drop s) D m u T at_).1, s + (Dc.gn (b.drop s) D m u T at_).2.1, 0) else Dc.gn (b.drop s) D m u T at_
  | 0, u, T, at_ => by
    unfold Dc.gn
    by_cases h : u < D.length
    · rw [if_pos h, if_pos h]; simp
    · rw [if_neg h, if_neg h]; simp
  | m + 1, u, T, at_ => by
    have e : (b.drop s).drop at_ = b.drop (s + at_) := by rw [List.drop_drop]
    by_cases h1 : (Leb.dec (b.drop (s + at_))).2.2 = 0
    · by_cases h2 : (Leb.dec (b.drop (s + at_))).1 < D.length ∧ (Leb.dec (b.drop (s + at_))).1 ≤ u
      · have hs : D[(Leb.dec (b.drop (s + at_))).1]? = some (D[(Leb.dec (b.drop (s + at_))).1]'h2.1) := List.getElem?_eq_getElem _
        rw [Dc.gn_ok b D m u T (s + at_) h1 _ hs h2.2, Dc.gn_ok (b.drop s) D m u T at_ (by rw [e]; exact h1) _ (by rw [e]; exact hs) (by rw [e]; exact h2.2), e, Nat.add_assoc]
        exact gn_drop b D s m _ _ _
      · rw [Dc.gn_bad b D m u T (s + at_) h1 h2, Dc.gn_bad (b.drop s) D m u T at_ (by rw [e]; exact h1) (by rw [e]; exact h2)]
        simp
    · rw [Dc.gn_err b D m u T (s + at_) h1, Dc.gn_err (b.drop s) D m u T at_ (by rw [e]; exact h1), e, if_neg h1]
set_option maxHeartbeats 2000000 in
theorem getLim (v : Value) (b : List Nat) (most : Int) (w : World) (hb : Rd w w.heap.size v b) (m0 : -9223372036854775808 ≤ most) (m1 : most ≤ 9223372036854775807) :
    Calls Try.prog 41 #[v, .int .i64 most] w fun e w' => e = .returned (.tuple #[.int .i64 ((Dc.gl b most).1 : Nat), .int .i64 ((Dc.gl b most).2.1 : Nat), .int .i64 ((Dc.gl b most).2.2 : Nat)]) ∧ w = w' := by
  have HG := Lib.hid (get v b w hb)
  have hroom := dec_room b hb.bytes
  by_cases h1 : (Leb.dec b).2.2 = 0
  · by_cases h2 : most < 0
    · rw [Dc.gl_lim b most h1 (.inl h2)]
      rw [h1] at HG
      generalize (Leb.dec b).1 = n at *
      generalize (Leb.dec b).2.1 = k at *
      clear hb h1
      go_enter Try.func41, Try.ntmps41
      go_wp2_with fail
      refine HG.out.mono ?_
      rintro e w' ⟨rfl, rfl⟩
      go_wp2_with fail
      go_ret3
      exact ⟨rfl, rfl⟩
    · obtain ⟨m, rfl⟩ := Int.eq_ofNat_of_zero_le (a := most) (by omega)
      by_cases h3 : (m : Int) < ((Leb.dec b).1 : Int)
      · rw [Dc.gl_lim b m h1 (.inr h3)]
        rw [h1] at HG
        generalize (Leb.dec b).1 = n at *
        generalize (Leb.dec b).2.1 = k at *
        have hw := wrap_pos m (by omega)
        clear hb h1
        go_enter Try.func41, Try.ntmps41
        go_wp2_with fail
        refine HG.out.mono ?_
        rintro e w' ⟨rfl, rfl⟩
        go_wp2_with fail
        go_ret3
        exact ⟨rfl, rfl⟩
      · rw [Dc.gl_ok b m h1 (by omega)]
        rw [h1] at HG
        generalize (Leb.dec b).1 = n at *
        generalize (Leb.dec b).2.1 = k at *
        have hw := wrap_pos m (by omega)
        clear hb h1
        go_enter Try.func41, Try.ntmps41
        go_wp2_with fail
        refine HG.out.mono ?_
        rintro e w' ⟨rfl, rfl⟩
        go_wp2_with fail
        go_ret3
        exact ⟨rfl, rfl⟩
  · rw [Dc.gl_err b most h1]
    generalize (Leb.dec b).1 = n at *
    generalize (Leb.dec b).2.1 = k at *
    generalize (Leb.dec b).2.2 = er at *
    have h2 : ((er : Int) != 0) = true := by simpa using h1
    clear hb h1
    go_enter Try.func41, Try.ntmps41
    go_wp2_with fail
    refine HG.out.mono ?_
    rintro e w' ⟨rfl, rfl⟩
    go_wp2_with fail
    go_ret3
    exact ⟨rfl, rfl⟩
set_option maxHeartbeats 2000000 in
theorem getTxt (v : Value) (b : List Nat) (most : Int) (w : World) (hb : Rd w w.heap.size v b) (m0 : -9223372036854775808 ≤ most) (m1 : most ≤ 9223372036854775807) :
    Calls Try.prog 42 #[v, .int .i64 most] w fun e w' => e = .returned (.tuple #[.string (str (Dc.gt b most).1), .int .i64 ((Dc.gt b most).2.1 : Nat), .int .i64 ((Dc.gt b most).2.2 : Nat)]) ∧ w = w' := by
  have HG := Lib.hid (getLim v b most w hb m0 m1)
  have hgs := Dc.gl_size b most hb.bytes
  have hbl := hb.len
  unfold maxLen at hbl
  by_cases h1 : (Dc.gl b most).2.2 = 0
  · have hgm := (Dc.gl_good b most hb.bytes h1).2.2.2.1
    by_cases h2 : b.length < (Dc.gl b most).2.1 + (Dc.gl b most).1
    · rw [Dc.gt_cut b most h1 h2, show str [] = ⟨#[]⟩ by decide +kernel]
      rw [h1] at HG
      generalize (Dc.gl b most).1 = n at *
      generalize (Dc.gl b most).2.1 = k at *
      obtain ⟨L, hL⟩ : ∃ L, b.length - k = L := ⟨_, rfl⟩
      have h4 : (b.length : Int) - (k : Int) = (L : Int) := by omega
      have h3 : (L : Int) < (n : Int) := by omega
      have hL2 : L ≤ 9223372036854775807 := by omega
      clear hL
      obtain ⟨a, c, rfl, _⟩ := id hb
      clear hb h1
      go_enter Try.func42, Try.ntmps42
      go_wp2_with fail
      refine HG.out.mono ?_
      rintro e w' ⟨rfl, rfl⟩
      go_wp2_with fail
      go_ret3
      exact ⟨rfl, rfl⟩
    · rw [Dc.gt_ok b most h1 h2]
      rw [h1] at HG
      generalize (Dc.gl b most).1 = n at *
      generalize (Dc.gl b most).2.1 = k at *
      obtain ⟨L, hL⟩ : ∃ L, b.length - k = L := ⟨_, rfl⟩
      have h6 : (b.length : Int) - (k : Int) = (L : Int) := by omega
      have h3 : ¬ (L : Int) < (n : Int) := by omega
      have hL2 : L ≤ 9223372036854775807 := by omega
      clear hL
      have h4 : ((k + n : Nat) : Int) = (k : Int) + (n : Int) := by omega
      obtain ⟨a, c, rfl, _⟩ := id hb
      obtain ⟨u, hu, hr⟩ := cut_mid w w.heap.size a b c k (k + n) hb (by omega) (by omega)
      rw [h4] at hu
      have hcv := run_str w _ _ _ hr
      rw [List.drop_take, Nat.add_sub_cancel_left] at hcv
      have h5 : (k : Int) + (n : Int) ≤ b.length := by omega
      clear hb h1 hr
      go_enter Try.func42, Try.ntmps42
      go_wp2_with fail
      refine HG.out.mono ?_
      rintro e w' ⟨rfl, rfl⟩
      go_wp2_with fail
      go_ret3
      rw [h4]
      exact ⟨rfl, rfl⟩
  · rw [Dc.gt_err b most h1]
    generalize (Dc.gl b most).1 = n at *
    generalize (Dc.gl b most).2.1 = k at *
    generalize (Dc.gl b most).2.2 = er at *
    have h2 : ((er : Int) != 0) = true := by simpa using h1
    have hse : str [] = ⟨#[]⟩ := by decide +kernel
    rw [hse]
    clear hb h1
    go_enter Try.func42, Try.ntmps42
    go_wp2_with fail
    refine HG.out.mono ?_
    rintro e w' ⟨rfl, rfl⟩
    go_wp2_with fail
    go_ret3
    exact ⟨rfl, rfl⟩
end Go.Proofs.Ytenfjmdajlhfoaa
