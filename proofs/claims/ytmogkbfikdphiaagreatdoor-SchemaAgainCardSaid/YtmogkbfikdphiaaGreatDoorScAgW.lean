/- The walk of SchemaAgain: what is read has that text, and may be. -/
import Derived.Test.YtmogkbfikdphiaaGreatDoorScb
namespace Go.Proofs.YtmogkbfikdphiaaGreatDoor
open Go.RowKit
set_option linter.unusedVariables false
set_option linter.unusedSimpArgs false
set_option maxRecDepth 100000

theorem count_bl (c : UInt8) : ∀ l : List UInt8, (l.map UInt8.toNat).count c.toNat = l.count c
  | [] => rfl
  | b :: l => by
    rw [List.map_cons, List.count_cons, List.count_cons, count_bl c l]
    by_cases h : b = c
    · subst h; simp
    · have : ¬ b.toNat = c.toNat := fun e => h (UInt8.toNat_inj.1 e)
      simp [h, this]
theorem cCount (s : ByteArray) (w : World) : Calls Tryz.prog 30 #[.string s, .string ⟨#[10]⟩] w fun e w' => e = .returned (.int .i64 ((bl s).count 10 : Nat)) ∧ w = w' :=
  (Tryz.strings_Count_one s 10 w).mono fun e w' ⟨h1, h2⟩ => ⟨by rw [h1]; unfold bl; rw [show (10 : Nat) = (10 : UInt8).toNat from rfl, count_bl]; rfl, h2.symm⟩
/-- Where reading fails. -/
theorem Sc.prs_fail : ∀ (m : Nat) (t : List Nat), t.length ≤ m → ∀ (n : Nat) (cs : List Co) (ks : List Int), (Sc.prs t n cs ks).e ≠ 0 → (Sc.prs t n cs ks).cs = [] ∧ (Sc.prs t n cs ks).n ≤ n + t.count 10 := by
  intro m
  induction m with
  | zero =>
    intro t ht n cs ks h
    obtain rfl := List.eq_nil_of_length_eq_zero (Nat.le_zero.1 ht)
    rw [Sc.prs_nil] at h ⊢
    unfold Sc.fin at h ⊢
    split at h
    · exact absurd rfl h
    · next h1 => rw [if_neg h1]; exact ⟨rfl, Nat.zero_le _⟩
  | succ m ih =>
    intro t ht n cs ks h
    by_cases h0 : t = []
    · subst h0
      rw [Sc.prs_nil] at h ⊢
      unfold Sc.fin at h ⊢
      split at h
      · exact absurd rfl h
      · next h1 => rw [if_neg h1]; exact ⟨rfl, Nat.zero_le _⟩
    · cases hr : Sc.rd (Sc.ln t) with
      | none => rw [Sc.prs_none h0 hr] at h ⊢; exact ⟨rfl, Nat.le_add_right _ _⟩
      | some p =>
        have hlt := Sc.behind_lt h0
        rw [Sc.prs_some h0 (c := p.1) (y := p.2) hr] at h ⊢
        obtain ⟨h1, h2⟩ := ih (Sc.behind t) (by omega) (n + 1) _ _ h
        refine ⟨h1, ?_⟩
        have hl := Sc.rd_is (c := p.1) (y := p.2) hr
        have e : t.count 10 = (Sc.ln t).count 10 + (Sc.behind t).count 10 := by
          have := congrArg (List.count 10) (Sc.ln_behind t)
          rw [List.count_append] at this
          exact this.symm
        have h3 : 1 ≤ (Sc.ln t).count 10 := by
          rw [hl.2, Sc.line_pre, List.count_append]; simp
        omega
theorem kk_ok {l : List Co} {ks : List Int} (h : ∀ k ∈ ks, (0 : Int) ≤ k ∧ k < ((0 + l.length : Nat) : Int)) (hl : l.length ≤ 1000000) : ∀ k ∈ ks, Cl.I64 k := by
  intro k hk
  have := h k hk
  constructor <;> omega
set_option maxHeartbeats 8000000 in
theorem schemaAgain (s : ByteArray) (w : World) (hm : s.size ≤ maxLen) (T : TA w) : Calls Tryz.prog 6 #[.string s] w fun e w' => e = .returned (.bool true) ∧ Below w.heap.size w w' := by
  unfold maxLen at hm
  obtain ⟨t, ht⟩ : ∃ t, s.extract 0 (min (s.size : Int) 2000).toNat = t := ⟨_, rfl⟩
  have hts : t.size ≤ 2000 := by rw [← ht, ByteArray.size_extract]; omega
  have hsl : ∀ w, (Instr.slice 9 (.string s) none (some (.int .i64 (min (s.size : Int) 2000))) none).run Tryz.prog w = .ok (.string t) w := fun w => by
    rw [run_slice_string_to_if w 9 s .i64 _ Tryz.underlying9, if_pos (by omega), ht]
  have HT := Lib.hid T
  have hpa : Sc.parse (bl t) = Sc.prs (bl t) 0 [] [] := by unfold Sc.parse; rw [if_neg (by rw [bl_length]; omega)]
  have HC := Lib.hid (cParse t (by omega) w T _ hpa)
  have HF := Lib.hid (Sc.prs_fail _ (bl t) (Nat.le_refl _) 0 [] [])
  have HK := Lib.hid (Sc.prs_back _ (bl t) (Nat.le_refl _) 0 [] [])
  generalize Sc.prs (bl t) 0 [] [] = a at *
  obtain ⟨cs, ks, n, e⟩ := a
  clear T hpa ht
  have CN := Lib.hid (fun w => cCount t w)
  go_enter Tryz.func6, Tryz.ntmps6
  go_wp2_with fail
  ((with_reducible refine HC.out.mono ?_); rintro x w1 ⟨cv, kv, rfl, ho, hi, hb⟩)
  simp only at ho hi ⊢
  have b1 := box_new w1 (.cells #[cv, kv] 25)
  by_cases he : e = 0
  · obtain ⟨l, Kl, h1, h2, h3, h4, h5, h6, h7⟩ := HK.out he
    simp only [List.nil_append] at h1 h2 h3 h4
    subst h1 h2 h3 he
    have HB := Lib.hid (up hb b1)
    have HRK := Lib.hid ((RdK.of ho).later b1)
    have HRI := Lib.hid ((RdI.of hi).later b1)
    have HX := Lib.hid (Blk.new w1 25 #[cv, kv])
    have hl32 := (Sc.okC_iff.1 (Sc.ck_zero.1 h4).1).1
    have hko : ∀ c ∈ cs, KOk c := fun c hc => col_ok (h5 c hc)
    have hki := kk_ok h6 (by omega)
    have CT := Lib.hid (fun w1 (T1 : TA w1) (g1 : RdK w1 w1.heap.size cv cs) (g2 : RdI w1 w1.heap.size kv ks) => cTextS cv kv cs ks w1 T1 g1 g2 hko hki 0 h4 t (by rw [if_pos rfl]; show str (Sc.textFrom ks 0 cs) = t; rw [h7, str_bl]))
    have CK := Lib.hid (fun w1 (T1 : TA w1) (g1 : RdK w1 w1.heap.size cv cs) (g2 : RdI w1 w1.heap.size kv ks) => cCheckS cv kv cs ks w1 T1 g1 g2 hko hki 0 h4)
    obtain ⟨cn, ca, cc, rfl⟩ := own_form ho
    obtain ⟨kn, ka, kc, rfl⟩ := own_form hi
    have q : (t.toList == t.toList) = true := by simp
    clear ho hi hb b1 h4 h5 h6 h7 hko hki hl32 HF HK HC CN
    generalize hg : w1.heap.size = g at *
    generalize hw2 : w1.alloc (.cells #[.slice ca cn cc, .slice ka kn kc] 25) = w2 at *
    have x0 := HX.out.cell 0
    have x1 := HX.out.cell 1
    simp only [List.getElem?_cons_succ, List.getElem?_cons_zero] at x0 x1
    go_wp2_with fail
    try rw [hg]
    try rw [hw2]
    ((with_reducible refine (CT.out w2 (HT.out.later HB.out) HRK.out HRI.out).mono ?_); rintro x w3 ⟨rfl, b3⟩)
    have HB3 := Lib.hid (up HB.out b3)
    have HRK3 := Lib.hid (HRK.out.later b3)
    have HRI3 := Lib.hid (HRI.out.later b3)
    have x0 := (HX.out.later b3).cell 0
    have x1 := (HX.out.later b3).cell 1
    simp only [List.getElem?_cons_succ, List.getElem?_cons_zero] at x0 x1
    clear b3
    go_wp2_with fail
    ((with_reducible refine (CK.out w3 (HT.out.later HB3.out) HRK3.out HRI3.out).mono ?_); rintro x w4 ⟨rfl, b4⟩)
    have HB4 := Lib.hid (up HB3.out b4)
    clear b4 x0 x1
    go_wp2_with fail
    ((with_reducible refine (works w4 (HT.out.later HB4.out)).mono ?_); rintro x w5 ⟨rfl, b5⟩)
    have HB5 := Lib.hid (up HB4.out b5)
    clear b5
    go_wp2_with fail
    go_ret
    exact ⟨rfl, HB5.out⟩
  · obtain ⟨h1, h2⟩ := HF.out he
    have h1 : cs = [] := h1
    have h2 : n ≤ 0 + (bl t).count 10 := h2
    subst h1
    have he1 : (e != 0) = true := by simpa using he
    obtain ⟨ca, cc, rfl, _⟩ := Gn.Rd.form (RdK.of ho)
    obtain ⟨kn, ka, kc, rfl⟩ := own_form hi
    simp only [List.length_nil] at b1 ⊢
    have HB := Lib.hid (up hb b1)
    have h3 : ((n : Nat) : Int) ≤ (((bl t).count 10 : Nat) : Int) := by omega
    have h4 : ((n : Nat) : Int) ≥ 0 := by omega
    have h5 : (0 : Int) ≤ (n : Nat) := by omega
    generalize (bl t).count 10 = m at *
    clear ho hi hb b1 HF HK HC h2 he
    go_wp2_with fail
    ((with_reducible refine (CN.out _).mono ?_); rintro x w3 ⟨rfl, rfl⟩)
    go_wp2_with fail
    ((with_reducible refine (works _ (HT.out.later HB.out)).mono ?_); rintro x w5 ⟨rfl, b5⟩)
    have HB5 := Lib.hid (up HB.out b5)
    clear b5
    go_wp2_with fail
    go_ret
    exact ⟨rfl, HB5.out⟩
end Go.Proofs.YtmogkbfikdphiaaGreatDoor
