/- TapeDeep: the walk. -/
import Derived.Test.YtgcfhjmcbbklmaaDoorDrawn
import Derived.Test.YtgcfhjmcbbklmaaDoorWorks
namespace Go.Proofs.YtgcfhjmcbbklmaaDoor
open Go.RowKit
set_option linter.unusedVariables false
set_option maxRecDepth 100000

/-- A value alone in a list, or in an object. -/
def wrapF (K : Int) (y : ByteArray) (F : Fo) : Fo := .node K ⟨#[]⟩ 0 ⟨#[]⟩ (mkC [y] [F]) .nil
structure WOk (F : Fo) : Prop where
  root : Root F
  good : Tp.good F
  sz : Tp.sz F ≤ 3000
  dep : Tp.dep F ≤ 64
  ok : ∀ x ∈ Tp.flat F, Nok x
theorem WOk.may {F : Fo} (h : WOk F) : May (Tp.flat F) F := by
  obtain ⟨k, n, s, c, rfl⟩ := h.root
  exact ⟨by have := h.sz; rw [flat_sz]; omega, ⟨⟨k, ⟨#[]⟩, n, s, c, rfl, rfl⟩, h.good, rfl⟩, h.dep⟩
theorem WOk.one {F : Fo} (h : WOk F) : 1 ≤ Tp.sz F := by
  obtain ⟨k, n, s, c, rfl⟩ := h.root
  rw [Tp.sz_node]; omega
theorem mk_one_ok : ∀ (y : ByteArray) (F : Fo), Root F → y.size ≤ maxLen → (∀ x ∈ Tp.flat F, Nok x) → ∀ x ∈ Tp.flat (mkC [y] [F]), Nok x := by
  rintro y F ⟨k, n, s, c, rfl⟩ hy hok x hx
  rw [mkC, Tp.flat_node] at hx
  rw [Tp.flat_node] at hok
  rcases List.mem_cons.1 hx with rfl | hx
  · have := hok _ (List.mem_cons_self ..)
    exact ⟨this.1, hy, this.2.2⟩
  · rcases List.mem_append.1 hx with hx | hx
    · exact hok x (List.mem_cons_of_mem _ (List.mem_append_left _ hx))
    · simp [mkC] at hx
/-- What a list, or an object, of one value is. -/
theorem wrap_is {K : Int} (hK : K = 6 ∨ K = 7) {y : ByteArray} (hko : Tp.ko K [y]) (hy : y.size ≤ 100) {F : Fo} (h : WOk F) :
    ∃ r x, JoinIs K [y] [Tp.flat F] r x ∧ ((Tp.dep F = 64 ∧ x = 72 ∧ r = []) ∨ (Tp.dep F < 64 ∧ x = 0 ∧ r = Tp.flat (wrapF K y F) ∧ Tp.dep (wrapF K y F) = Tp.dep F + 1 ∧ Tp.sz (wrapF K y F) = Tp.sz F + 1 ∧ (Tp.sz F ≤ 2999 → WOk (wrapF K y F)))) := by
  have hm := mk_is [y] [F] rfl (by intro G hG; rw [List.mem_singleton.1 hG]; exact h.root)
  have hg := hm.good (by intro G hG; rw [List.mem_singleton.1 hG]; exact h.good)
  have hs : Tp.sz (mkC [y] [F]) = Tp.sz F := by rw [hm.sz]; simp
  have hd : Tp.dep (mkC [y] [F]) = Tp.dep F := by
    apply Nat.le_antisymm
    · exact (hm.dep _).2 (by intro G hG; rw [List.mem_singleton.1 hG]; exact Nat.le_refl _)
    · exact (hm.dep _).1 (Nat.le_refl _) F (List.mem_singleton.2 rfl)
  have hk : Tp.ko K (Tp.keys (mkC [y] [F])) := by rw [hm.keys]; exact hko
  have h3 := h.sz
  have h4 := h.dep
  have J : ∀ r x, _ → JoinIs K [y] [Tp.flat F] r x := fun r x hh => by
    have := join_is hK hg hk (by omega) (by omega) (r := r) (x := x) hh
    rw [hm.keys, hm.cks] at this
    exact this
  by_cases h64 : Tp.dep F = 64
  · exact ⟨[], 72, J [] 72 (.inr (.inl ⟨by omega, by omega, rfl, rfl⟩)), .inl ⟨h64, rfl, rfl⟩⟩
  · refine ⟨_, 0, J _ 0 (.inl ⟨by omega, by omega, rfl, rfl⟩), .inr ⟨by omega, rfl, rfl, ?_, ?_, fun hz => ?_⟩⟩
    · show max (1 + Tp.dep (mkC [y] [F])) 0 = _
      omega
    · unfold wrapF
      rw [Tp.sz_node, Tp.sz_nil]; omega
    · refine ⟨⟨K, 0, ⟨#[]⟩, _, rfl⟩, ⟨.inr (.inr (.inr ⟨hK, rfl, rfl⟩)), fun hk5 => by omega, hk, hg, trivial⟩, ?_, ?_, ?_⟩
      · unfold wrapF
        rw [Tp.sz_node, Tp.sz_nil]; omega
      · show max (1 + Tp.dep (mkC [y] [F])) 0 ≤ 64
        omega
      · intro x hx
        unfold wrapF at hx
        rw [Tp.flat_node] at hx
        rcases List.mem_cons.1 hx with rfl | hx
        · exact ⟨by simp only; omega, Nat.zero_le _, by simp only; omega, Nat.zero_le _, by simp only; omega⟩
        · rw [Tp.flat_nil, List.append_nil] at hx
          exact mk_one_ok y F h.root (by unfold maxLen; omega) h.ok x hx
theorem rdS_one (w : World) (a : Option Addr) (n c : Nat) (l : List Nd) (h : RdN w w.heap.size (.slice a n c) l) (hok : ∀ x ∈ l, Nok x) : RdS (w.alloc (.cells #[.slice a n c] 22)) (w.alloc (.cells #[.slice a n c] 22)).heap.size (.slice (some ⟨w.heap.size, 0, none⟩) 1 1) [(⟨a, n, c⟩ : Sl)] [l] :=
  ⟨rdSl_one w a n c, rfl, fun i s l' h1 h2 => by
    have hi : i = 0 := by
      rcases Nat.eq_zero_or_pos i with e | e
      · exact e
      · rw [List.getElem?_eq_none (by simp; omega)] at h1; cases h1
    subst hi
    simp at h1 h2
    subst h1 h2
    exact ⟨Gn.Rd.later h (up_new w _), hok⟩⟩

set_option maxHeartbeats 40000000 in
theorem tapeDeep (sv : Value) (ns : List Int) (many : Int) (W : World) (h : RdI W W.heap.size sv ns) (hok : ∀ x ∈ ns, -9223372036854775808 ≤ x ∧ x ≤ 9223372036854775807) (hm1 : -9223372036854775808 ≤ many) (hm2 : many ≤ 9223372036854775807) (T : Tab W) :
    Calls Tryd.prog 9 #[.agg #[sv], .int .i64 many] W fun e w' => e = .returned (.bool true) ∧ Below W.heap.size W w' := by
  obtain ⟨sa, sc, rfl, _⟩ := Gn.Rd.form h
  obtain ⟨N, hN⟩ : ∃ N, ns.length = N := ⟨_, rfl⟩
  rw [hN] at h ⊢
  obtain ⟨wa, hwa⟩ : ∃ wa, wa = W.alloc (.cells #[.slice sa N sc] 52) := ⟨_, rfl⟩
  have HBA : Hid (Below W.heap.size W wa) := Lib.hid (by rw [hwa]; exact up_new W _)
  have CD := Lib.hid (drawnC (.slice sa N sc) ns wa (Gn.Rd.later h HBA.out) hok (T.later HBA.out))
  have HT := Lib.hid T
  have HM := Lib.hid (And.intro (Int.emod_nonneg many (show (71 : Int) ≠ 0 by omega)) (Int.emod_lt_of_pos many (show (0 : Int) < 71 by omega)))
  have CB := Lib.hid (fun w => bring many 71 w hm1 hm2 (by omega) (by omega))
  rw [hwa] at CD
  clear h hok T hN hm1 hm2
  go_enter Tryd.func9, Tryd.ntmps9
  go_wp2_with fail
  ((with_reducible refine (CD.out).mono ?_); rintro e w2 ⟨v, F, rfl, ho, hd, b⟩)
  rw [← hwa] at b ho
  have HB2 := Lib.hid (up HBA.out b)
  have HWO : Hid (WOk F) := Lib.hid ⟨hd.root, hd.good, by have := hd.sz; omega, by have := hd.dep; omega, hd.ok⟩
  have HSZ : Hid (Tp.sz F ≤ 301) := Lib.hid hd.sz
  have HR := Lib.hid (Gn.Own.rd ndL ho)
  obtain ⟨n, hn⟩ : ∃ n, (Tp.flat F).length = n := ⟨_, rfl⟩
  obtain ⟨va, vc, rfl⟩ := form_n HR.out n hn
  have hn1 : ((n : Int) == 0) = false := by
    have := HWO.out.one
    rw [← hn, flat_sz]; simp; omega
  have HN := Lib.hid hn
  clear b ho hd hwa CD hn
  go_wp2_with fail
  ((with_reducible refine (CB.out _).mono ?_); rintro e w3 ⟨rfl, rfl⟩)
  obtain ⟨c0, hc0⟩ : ∃ c0 : Nat, many % 71 = (c0 : Nat) := ⟨(many % 71).toNat, (Int.toNat_of_nonneg HM.out.1).symm⟩
  have hc70 : c0 ≤ 70 := by have := HM.out.2; omega
  rw [hc0]
  clear hc0 hn1
  go_wp2_with fail
  go_loopw [5, 7] (fun t i wx => ∃ (j n : Nat) (F : Fo), i = .int .i64 (j : Nat) ∧ j ≤ 70 ∧ Hid (WOk F ∧ Tp.sz F + j ≤ 371 ∧ (Tp.flat F).length = n) ∧ Hid (RdN wx wx.heap.size t (Tp.flat F)) ∧ Hid (Below W.heap.size W wx)) (fun _ i _ => (intOf i).toNat)
  case atStart => exact ⟨c0, n, F, by rfl, hc70, Lib.hid ⟨HWO.out, by have := HSZ.out; omega, HN.out⟩, HR, HB2⟩
  case round =>
    obtain ⟨j, n, F, rfl, hj, HF, HR, HB⟩ := hrel
    have HTB := Lib.hid (HT.out.later HB.out)
    obtain ⟨va, vc, rfl⟩ := form_n HR.out n HF.out.2.2
    by_cases hj0 : 0 < j
    · have hj1 : (0 : Int) < (j : Nat) := by omega
      have hn4 : n ≤ 371 := by have := HF.out.2.1; rw [← HF.out.2.2, flat_sz]; omega
      obtain ⟨r1, x1, hJ1, hc1⟩ := wrap_is (K := 6) (.inl rfl) (y := ⟨#[]⟩) (by unfold Tp.ko; rw [if_neg (by omega)]; intro z hz; rw [List.mem_singleton.1 hz]; rfl) (by decide) HF.out.1
      obtain ⟨r2, x2, hJ2, hc2⟩ := wrap_is (K := 7) (.inr rfl) (y := ⟨#[107]⟩) (by unfold Tp.ko; rw [if_pos rfl]; exact ⟨by intro z hz; rw [List.mem_singleton.1 hz]; kernel_rfl, by simp⟩) (by decide) HF.out.1
      have HU := Lib.hid (up_new wr (.cells #[.slice va n vc] 22))
      have CL := Lib.hid (mkList _ [(⟨va, n, vc⟩ : Sl)] [Tp.flat F] _ (rdS_one wr va n vc _ HR.out HF.out.1.ok) (by simp) (HTB.out.later HU.out) r1 x1 hJ1)
      have HC1 := Lib.hid hc1
      have HC2 := Lib.hid hc2
      have HJ2 := Lib.hid hJ2
      clear hJ1 hc1 hc2 hJ2
      go_wp2_with fail
      ((with_reducible refine (CL.out).mono ?_); rintro e w4 ⟨u, rfl, ho, b⟩)
      have HB4 := Lib.hid (up HB.out (up HU.out b))
      have HR4 := Lib.hid (Gn.Rd.later HR.out (up HU.out b))
      have HRU := Lib.hid (Gn.Own.rd ndL ho)
      have HT4 := Lib.hid (HT.out.later HB4.out)
      obtain ⟨nu, hnu⟩ : ∃ n, r1.length = n := ⟨_, rfl⟩
      obtain ⟨ua, uc, rfl⟩ := form_n HRU.out nu hnu
      have HNU := Lib.hid hnu
      have HU1 : Hid (Below w4.heap.size w4 (w4.alloc (.cells #[.string ⟨#[107]⟩] 9))) := Lib.hid (up_new w4 _)
      have HU2 : Hid (Below (w4.alloc (.cells #[.string ⟨#[107]⟩] 9)).heap.size (w4.alloc (.cells #[.string ⟨#[107]⟩] 9)) ((w4.alloc (.cells #[.string ⟨#[107]⟩] 9)).alloc (.cells #[.slice va n vc] 22))) := Lib.hid (up_new _ _)
      have CO := Lib.hid (mkObj _ _ [⟨#[107]⟩] [(⟨va, n, vc⟩ : Sl)] [Tp.flat F] _ (Gn.Rd.later (rdTx_one w4 ⟨#[107]⟩) HU2.out) (rdS_one (w4.alloc (.cells #[.string ⟨#[107]⟩] 9)) va n vc _ (Gn.Rd.later HR4.out HU1.out) HF.out.1.ok) (by decide) (by simp) ((HT4.out.later HU1.out).later HU2.out) r2 x2 (.inr ⟨rfl, HJ2.out⟩))
      simp only [World.size_alloc] at CO
      clear ho b CL hnu
      go_wp2_with fail
      ((with_reducible refine (CO.out).mono ?_); rintro e w5 ⟨o, rfl, ho, b⟩)
      have b' := up (up HU1.out HU2.out) b
      have HB5 := Lib.hid (up HB4.out b')
      have HR5 := Lib.hid (Gn.Rd.later HR4.out b')
      have HRU5 := Lib.hid (Gn.Rd.later HRU.out b')
      have HRO := Lib.hid (Gn.Own.rd ndL ho)
      have HT5 := Lib.hid (HT.out.later HB5.out)
      obtain ⟨no, hno⟩ : ∃ n, r2.length = n := ⟨_, rfl⟩
      obtain ⟨oa, oc, rfl⟩ := form_n HRO.out no hno
      have HNO := Lib.hid hno
      obtain ⟨dd, hdd⟩ : ∃ d, Tp.dep F = d := ⟨_, rfl⟩
      have CDP := Lib.hid (deepOf _ (Tp.flat F) w5 HR5.out HF.out.1.ok HT5.out dd ((may_chk HF.out.1.may).2.trans hdd))
      have HDD := Lib.hid hdd
      have hd64 : dd ≤ 64 := by rw [← hdd]; exact HF.out.1.dep
      clear ho b b' CO hno hdd HU1 HU2
      go_wp2_with fail
      ((with_reducible refine (CDP.out).mono ?_); rintro e w6 ⟨rfl, b⟩)
      have HB6 := Lib.hid (up HB5.out b)
      have HRU6 := Lib.hid (Gn.Rd.later HRU5.out b)
      have HRO6 := Lib.hid (Gn.Rd.later HRO.out b)
      have HR6 := Lib.hid (Gn.Rd.later HR5.out b)
      clear b CDP
      rcases HC1.out with ⟨h64, rfl, rfl⟩ | ⟨h64, rfl, rfl, hd1, hs1, hw1⟩
      · obtain rfl : dd = 64 := by rw [← HDD.out]; exact h64
        obtain ⟨rfl, rfl⟩ : x2 = 72 ∧ r2 = [] := by
          rcases HC2.out with ⟨_, a, b⟩ | ⟨a, _⟩
          · exact ⟨a, b⟩
          · omega
        obtain rfl : nu = 0 := by rw [← HNU.out]; rfl
        obtain rfl : no = 0 := by rw [← HNO.out]; rfl
        have KW := Lib.hid (works w6 (HT.out.later HB6.out))
        clear h64
        go_wp2_with fail
        ((with_reducible refine (KW.out).mono ?_); rintro e w7 ⟨rfl, b⟩)
        have HB7 := Lib.hid (up HB6.out b)
        clear b
        go_wp2_with fail
        go_ret
        exact ⟨rfl, HB7.out⟩
      · have hdn : ¬ ((dd : Int) = 64) := by rw [← HDD.out]; omega
        have hdn2 : ((dd : Int) == 64) = false := by simp; omega
        obtain ⟨rfl, rfl, hd2, hs2, hw2⟩ : x2 = 0 ∧ r2 = Tp.flat (wrapF 7 ⟨#[107]⟩ F) ∧ Tp.dep (wrapF 7 ⟨#[107]⟩ F) = Tp.dep F + 1 ∧ Tp.sz (wrapF 7 ⟨#[107]⟩ F) = Tp.sz F + 1 ∧ (Tp.sz F ≤ 2999 → WOk (wrapF 7 ⟨#[107]⟩ F)) := by
          rcases HC2.out with ⟨a, _⟩ | ⟨_, a, b, c, d, e⟩
          · omega
          · exact ⟨a, b, c, d, e⟩
        have hsz := HF.out.2.1
        have W1 := Lib.hid (hw1 (by omega))
        have W2 := Lib.hid (hw2 (by omega))
        have hnn : Tp.sz F = n := by rw [← HF.out.2.2]; rfl
        obtain rfl : nu = n + 1 := by rw [← HNU.out, flat_sz, hs1, hnn]
        obtain rfl : no = n + 1 := by rw [← HNO.out, flat_sz, hs2, hnn]
        have D1 := Lib.hid (fun (wb : World) (hb : Below w6.heap.size w6 wb) => deepOf _ _ wb (Gn.Rd.later HRU6.out hb) W1.out.ok ((HT.out.later HB6.out).later hb) (dd + 1) ((may_chk W1.out.may).2.trans (by rw [hd1, HDD.out])))
        have D2 := Lib.hid (fun (wb : World) (hb : Below w6.heap.size w6 wb) => deepOf _ _ wb (Gn.Rd.later HRO6.out hb) W2.out.ok ((HT.out.later HB6.out).later hb) (dd + 1) ((may_chk W2.out.may).2.trans (by rw [hd2, HDD.out])))
        have D0 := Lib.hid (fun (wb : World) (hb : Below w6.heap.size w6 wb) => deepOf _ _ wb (Gn.Rd.later HR6.out hb) HF.out.1.ok ((HT.out.later HB6.out).later hb) dd ((may_chk HF.out.1.may).2.trans HDD.out))
        have HSN : Hid (Tp.sz (wrapF 6 ⟨#[]⟩ F) + (j - 1) ≤ 371 ∧ (Tp.flat (wrapF 6 ⟨#[]⟩ F)).length = n + 1) := Lib.hid ⟨by rw [hs1]; omega, HNU.out⟩
        have c1 : ((dd + 1 : Nat) : Int) = (dd : Int) + 1 := by omega
        have c2 : ((n + 1 : Nat) : Int) = (n : Int) + 1 := by omega
        clear hs1 hs2 hw1 hw2 hd1 hd2 hnn h64 hsz
        go_wp2_with fail
        ((with_reducible refine (D1.out _ (Below.refl _ _)).mono ?_); rintro e w7 ⟨rfl, b⟩)
        have HB7 := Lib.hid b
        clear b
        go_wp2_with fail
        ((with_reducible refine (D0.out _ HB7.out).mono ?_); rintro e w8 ⟨rfl, b⟩)
        have HB8 := Lib.hid (up HB7.out b)
        clear b
        go_wp2_with fail
        ((with_reducible refine (D2.out _ HB8.out).mono ?_); rintro e w9 ⟨rfl, b⟩)
        have HB9 := Lib.hid (up HB8.out b)
        clear b
        go_wp2_with fail
        ((with_reducible refine (D1.out _ HB9.out).mono ?_); rintro e w10 ⟨rfl, b⟩)
        have HB10 := Lib.hid (up HB9.out b)
        have HRN := Lib.hid (Gn.Rd.later HRU6.out HB10.out)
        have HBN := Lib.hid (up HB6.out HB10.out)
        clear b
        go_wp2_with fail
        go_roundw
        case rel => exact ⟨j - 1, n + 1, wrapF 6 ⟨#[]⟩ F, by congr 1; omega, by omega, Lib.hid ⟨W1.out, HSN.out.1, HSN.out.2⟩, HRN, HBN⟩
        case measure => simp [intOf]; omega
    · obtain rfl : j = 0 := by omega
      have KW := Lib.hid (works wr HTB.out)
      go_wp2_with fail
      ((with_reducible refine (KW.out).mono ?_); rintro e w7 ⟨rfl, b⟩)
      have HB7 := Lib.hid (up HB.out b)
      clear b
      go_wp2_with fail
      go_ret
      exact ⟨rfl, HB7.out⟩
end Go.Proofs.YtgcfhjmcbbklmaaDoor
