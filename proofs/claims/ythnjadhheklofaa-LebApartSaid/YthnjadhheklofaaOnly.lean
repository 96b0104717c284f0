/- The walks of LebOnly and LebApart: what is read is just what is written of that number; no number's bytes are the beginning of another one's. -/
import Derived.Test.YthnjadhheklofaaLaws
import Derived.Deep.RegionHeld3
import Derived.Deep.DrawnRows
namespace Go.Proofs.Ythnjadhheklofaa
open Go.RowKit
set_option linter.unusedVariables false
attribute [local go_sem ↓] Go.wp_at_zero Go.wp_at_succ

theorem undrew {w w' : World} (h : Below w.drew.heap.size w.drew w') : Below w.heap.size w w' := ⟨h.os, h.tape, h.output, h.size, h.block⟩
theorem dec_cases (l : List Nat) : (∃ m k, Leb.dec l = (m, k, 0)) ∨ ∃ c : Nat, ((c : Int) != 0) = true ∧ Leb.dec l = (0, 0, c) := by
  by_cases h : (Leb.dec l).2.2 = 0
  · exact .inl ⟨(Leb.dec l).1, (Leb.dec l).2.1, by rw [← h]⟩
  · obtain ⟨h1, h2⟩ := Leb.dec_err l h
    exact .inr ⟨(Leb.dec l).2.2, by rw [bne_iff_ne]; omega, Prod.ext h1 (Prod.ext h2 rfl)⟩

set_option maxHeartbeats 2000000 in
set_option maxRecDepth 100000 in
theorem lebOnly (v : Value) (l : List Nat) (w : World) (h : Rd w w.heap.size v l) :
    Calls Try.prog 6 #[v] w fun e w' => e = .returned (.bool true) ∧ Below w.heap.size w w' := by
  rcases dec_cases (l.take 60) with ⟨m, k, hd⟩ | ⟨c, hc, hd⟩
  · obtain ⟨k1, k2, ht, hm⟩ := Leb.enc_dec (l.take 60) m k (fun x hx => h.bytes x (List.mem_of_mem_take hx)) hd
    have hl : (l.take 60).length ≤ 60 := by rw [List.length_take]; omega
    have HD := Lib.hid hd
    have HT := Lib.hid ht
    have hm' : (m : Int) ≤ 18446744073709551615 := by omega
    have kk : (1 : Int) ≤ (k : Int) := by omega
    have kl : (k : Int) ≤ ((l.take 60).length : Int) := by omega
    clear ht hd hm
    go_enter Try.func6, Try.ntmps6
    go_wp2_with fail
    refine (works _).mono ?_
    rintro e w1 ⟨rfl, b1⟩
    go_wp2_with fail
    refine (cut60 v l _ (h.later (Nat.le_refl _) b1)).mono ?_
    rintro e w2 ⟨r2, rfl, ho2, b2⟩
    go_wp2_with fail
    refine (get_is _ _ _ ho2.rd m k 0 (by rw [HD.out]) (by rw [HD.out]) (by rw [HD.out]; rfl)).mono ?_
    rintro e w' ⟨rfl, rfl⟩
    have B2 := up b1 b2
    generalize l.take 60 = L at *
    obtain ⟨a, c, e2, q1, q2, _⟩ := id ho2.rd
    subst e2
    have T2 := ho2.rd.take k
    rw [HT.out] at T2
    have hkl : (Leb.enc m).length = k := by rw [← HT.out, List.length_take]; omega
    rw [hkl] at T2
    have qc : (k : Int) ≤ (c : Int) := by omega
    clear hkl
    go_wp2
    go_region_held3 (fun _ => True) (trivial)
      (first
      | (go_at_call 12; refine (put _ [] (m : Int) _ (Rd.nil _ _) (by simp) (by omega) hm').mono ?_; rintro e w3 ⟨r3, rfl, ho3, b3⟩)
      | (go_at_call 14; refine (eq_yes _ _ _ _ _ ho3.rd (T2.later (Nat.le_refl _) (undrew b3)) (by rw [List.nil_append, Int.toNat_natCast])).mono ?_; rintro e w' ⟨rfl, rfl⟩))
    go_wp2
    go_ret
    exact ⟨rfl, up B2 (undrew b3)⟩
  · have HD := Lib.hid hd
    clear hd
    go_enter Try.func6, Try.ntmps6
    go_wp2_with fail
    refine (works _).mono ?_
    rintro e w1 ⟨rfl, b1⟩
    go_wp2_with fail
    refine (cut60 v l _ (h.later (Nat.le_refl _) b1)).mono ?_
    rintro e w2 ⟨r2, rfl, ho2, b2⟩
    go_wp2_with fail
    refine (get_is _ _ _ ho2.rd 0 0 c (by rw [HD.out]; rfl) (by rw [HD.out]; rfl) (by rw [HD.out])).mono ?_
    rintro e w' ⟨rfl, rfl⟩
    go_wp2
    go_ret
    exact ⟨rfl, up b1 b2⟩
end Go.Proofs.Ythnjadhheklofaa
