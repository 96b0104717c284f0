/- JshowNumbers: the walk. -/
import Derived.Test.YtgmdjofnkbaflaaDoorShall
namespace Go.Proofs.YtgmdjofnkbaflaaDoor
open Go.RowKit
set_option linter.unusedVariables false
set_option maxRecDepth 100000

theorem bring8_eq (x n : Int) (hn : 0 < n) (hn' : n ≤ 1152921504606846976) : (x.tmod n < 0 → wrap64 (x.tmod n + n) = x % n) ∧ (0 ≤ x.tmod n → x.tmod n = x % n) := by
  unfold wrap64
  have h := Int.tmod_eq_emod (a := x) (b := n)
  have h2 := Int.emod_nonneg x (b := n) (by omega)
  have h3 := Int.emod_lt_of_pos x hn
  split at h <;> constructor <;> intro h5 <;> omega
set_option maxHeartbeats 400000 in
theorem bring8 (x n : Int) (w : World) (h0 : -9223372036854775808 ≤ x) (h1 : x ≤ 9223372036854775807) (hn : 0 < n) (hn' : n ≤ 1152921504606846976) :
    Calls Tryd.prog 24 #[.int .i64 x, .int .i64 n] w fun e w' => e = .returned (.int .i64 (x % n)) ∧ w = w' := by
  have he := Lib.hid (bring8_eq x n hn hn')
  go_enter Tryd.func24, Tryd.ntmps24
  go_wp2
  · go_ret
    exact ⟨congrArg Ending.returned (congrArg (Value.int IntKind.i64) (he.out.1 (by assumption))), rfl⟩
  · go_ret
    exact ⟨congrArg Ending.returned (congrArg (Value.int IntKind.i64) (he.out.2 (by assumption))), rfl⟩
def ten : ByteArray := ⟨#[48, 49, 50, 51, 52, 53, 54, 55, 56, 57]⟩
theorem ten_cut : ∀ r, r < 10 → ten.extract r (r + 1) = str [48 + r] := by decide +kernel
theorem ten_run (r : Nat) (h : r < 10) (w : World) : (Instr.slice 9 (.string ten) (some (.int .i64 (r : Nat))) (some (.int .i64 ((r : Int) + 1))) none).run Tryd.prog w = .ok (.string (str [48 + r])) w := by
  have hs : ten.size = 10 := rfl
  rw [run_slice_string_if w 9 ten .i64 .i64 _ _ Tryd.underlying9, if_pos (by rw [hs]; omega), if_pos (by omega), ← ten_cut r h]
  congr 3
theorem num_sh (n : Int) (h : -9223372036854775808 ≤ n ∧ n ≤ 9223372036854775807) : ShIs [nd1 4 n ⟨#[]⟩] (Jr.dnum n) 0 :=
  sh_ok (F := .node 4 ⟨#[]⟩ n ⟨#[]⟩ .nil .nil) (leaf_may 4 _ _ (.inr (.inl ⟨rfl, rfl⟩))) (by show (Jr.dnum n).length ≤ _; have := Jr.dnum_fit h; omega)
theorem one_run (z : ByteArray) (c : Nat) (l : List Nat) (hz : z = str (c :: l)) (hb : ∀ x ∈ c :: l, x < 256) (w : World) : (Instr.slice 9 (.string z) (some (.int .i64 1)) none none).run Tryd.prog w = .ok (.string (str l)) w := by
  subst hz
  have hs : (str (c :: l)).size = l.length + 1 := by rw [str_size]; rfl
  rw [run_slice_string_from_if w 9 _ .i64 _ Tryd.underlying9, if_pos (by rw [hs]; omega)]
  have e : (str (c :: l)).extract (1 : Int).toNat (str (c :: l)).size = str l := by
    refine bl_inj ?_
    show bl ((str (c :: l)).extract 1 (str (c :: l)).size) = _
    rw [bl_from, bl_str (c :: l) hb, bl_str l (fun x hx => hb x (List.mem_cons_of_mem _ hx))]
    rfl
  rw [e]
set_option maxHeartbeats 8000000 in
theorem jshowNumbers (n d : Int) (w : World) (n0 : -9223372036854775808 ≤ n) (n1 : n ≤ 9223372036854775807) (d0 : -9223372036854775808 ≤ d) (d1 : d ≤ 9223372036854775807) (T : Tab w) (TP : TabP w) :
    Calls Tryd.prog 7 #[.int .i64 n, .int .i64 d] w fun e w' => e = .returned (.bool true) ∧ Below w.heap.size w w' := by
  obtain ⟨m, hm⟩ : ∃ m, n.tdiv 10 = m := ⟨_, rfl⟩
  have hm0 : -922337203685477580 ≤ m ∧ m ≤ 922337203685477580 := by
    have h := Int.tdiv_eq_ediv (a := n) (b := 10)
    rw [hm] at h
    split at h
    · omega
    · have : (10 : Int).sign = 1 := rfl
      omega
  obtain ⟨r, hr⟩ : ∃ r : Nat, (d % 10) = (r : Nat) := ⟨(d % 10).toNat, by omega⟩
  have hr9 : r < 10 := by omega
  have CB := Lib.hid (fun w => bring8 d 10 w d0 d1 (by omega) (by omega))
  rw [hr] at CB
  have CM := Lib.hid (mkNum m w)
  have HT := Lib.hid T
  have HTP := Lib.hid TP
  have hcut := fun w => ten_run r hr9 w
  unfold ten at hcut
  have CS := Lib.hid (fun v w2 (h : RdN w2 w2.heap.size v [nd1 4 m ⟨#[]⟩]) (T : Tab w2) (TP : TabP w2) => showC v [nd1 4 m ⟨#[]⟩] w2 h (nok_one 4 m ⟨#[]⟩ (by decide) (by omega) (by decide)).1 (nok_one 4 m ⟨#[]⟩ (by decide) (by omega) (by decide)).2 T TP _ 0 (num_sh m (by omega)))
  have hfit := Jr.dnum_fit (n := m) (by omega)
  have CW := Lib.hid (fun w T TP => works8 w T TP)
  have z1 : (str (Jr.dnum m)).size = (Jr.dnum m).length := str_size _
  have z2 : (str [48 + r]).size = 1 := str_size _
  have hsum : (str (Jr.dnum m)).size + (str [48 + r]).size ≤ 9223372036854775807 := by omega
  have HJ := Lib.hid (show str (Jr.dnum m) ++ str [48 + r] = str (Jr.dnum m ++ [48 + r]) from (str_append _ _).symm)
  have HBy := Lib.hid (show ∀ x ∈ Jr.dnum m ++ [48 + r], x < 256 from fun x hx => by
    rcases List.mem_append.1 hx with hx | hx
    · exact (Jr.dnum_num (n := m) (by omega)).byte x hx
    · simp at hx; omega)
  clear T TP hr z1 z2
  by_cases h0 : m = 0
  · subst h0
    have HZ := Lib.hid (show str (Jr.dnum 0) = str [48] from congrArg str (Jr.dnum_dig 0 (by omega)))
    have hone := fun w => one_run (str (Jr.dnum 0) ++ str [48 + r]) 48 [48 + r] (by rw [HJ.out, show Jr.dnum 0 = [48] from Jr.dnum_dig 0 (by omega)]; rfl) (by intro x hx; simp at hx; omega) w
    have HE := Lib.hid (Jr.dnum_dig r hr9)
    have HBX := Lib.hid (bl_str [48 + r] (by intro x hx; simp at hx; omega))
    go_enter Tryd.func7, Tryd.ntmps7
    go_wp2_with fail
    ((with_reducible refine (CB.out _).mono ?_); rintro e w2 ⟨rfl, rfl⟩)
    go_wp2_with fail
    ((with_reducible refine (CM.out).mono ?_); rintro e w2 ⟨v, rfl, ho, b⟩)
    have HR := Lib.hid (Gn.Own.rd ndL ho)
    obtain ⟨va, vc, rfl⟩ := rd_form HR.out 1 rfl
    have HB := Lib.hid b
    have C2 := Lib.hid (CS.out _ w2 HR.out (HT.out.later b) (HTP.out.later b))
    replace HT := Lib.hid (HT.out.later b)
    replace HTP := Lib.hid (HTP.out.later b)
    clear ho b CM CS
    generalize str (Jr.dnum 0) = z at *
    generalize str [48 + r] = z' at *
    go_wp2_with fail
    ((with_reducible refine (C2.out).mono ?_); rintro e w3 ⟨rfl, b⟩)
    replace HB := Lib.hid (up HB.out b)
    replace HT := Lib.hid (HT.out.later b)
    replace HTP := Lib.hid (HTP.out.later b)
    clear b C2
    go_wp2_with fail
    ((with_reducible refine (CB.out _).mono ?_); rintro e w4 ⟨rfl, rfl⟩)
    go_wp2_with fail
    ((with_reducible refine (CB.out _).mono ?_); rintro e w4 ⟨rfl, rfl⟩)
    have CN := Lib.hid (mkNum (((r : Nat) : Int)) w3)
    have CV := Lib.hid (fun v w2 (h : RdN w2 w2.heap.size v [nd1 4 (((r : Nat) : Int)) ⟨#[]⟩]) (T : Tab w2) (TP : TabP w2) => lshows v [nd1 4 (((r : Nat) : Int)) ⟨#[]⟩] (z') w2 h (nok_one 4 (((r : Nat) : Int)) ⟨#[]⟩ (by decide) (by omega) (by decide)).1 (nok_one 4 (((r : Nat) : Int)) ⟨#[]⟩ (by decide) (by omega) (by decide)).2 T TP _ 0 (num_sh (((r : Nat) : Int)) (by omega)) true (by rw [HBX.out]; simp [HE.out]))
    go_wp2_with fail
    ((with_reducible refine (CN.out).mono ?_); rintro e w5 ⟨v, rfl, ho, b⟩)
    have HR5 := Lib.hid (Gn.Own.rd ndL ho)
    obtain ⟨xa, xc, rfl⟩ := rd_form HR5.out 1 rfl
    replace HB := Lib.hid (up HB.out b)
    replace HT := Lib.hid (HT.out.later b)
    replace HTP := Lib.hid (HTP.out.later b)
    have C6 := Lib.hid (CV.out _ w5 HR5.out HT.out HTP.out)
    clear ho b CN CV
    go_wp2_with fail
    ((with_reducible refine (C6.out).mono ?_); rintro e w6 ⟨rfl, b⟩)
    replace HB := Lib.hid (up HB.out b)
    replace HT := Lib.hid (HT.out.later b)
    replace HTP := Lib.hid (HTP.out.later b)
    have CX := Lib.hid (CW.out w6 HT.out HTP.out)
    clear b C6 CW CB
    go_wp2_with fail
    ((with_reducible refine (CX.out).mono ?_); rintro e w7 ⟨rfl, b⟩)
    replace HB := Lib.hid (up HB.out b)
    clear b CX
    go_wp2_with fail
    go_ret
    exact ⟨rfl, HB.out⟩
  · by_cases hneg : m < 0
    · have HE := Lib.hid (show Jr.dnum (10 * m + (-(r : Nat))) = Jr.dnum m ++ [48 + r] by have := Jr.dnum_ten m r hr9 h0; rwa [if_pos hneg] at this)
      have HBX := Lib.hid (bl_str _ HBy.out)
      rw [← HJ.out] at HBX
      by_cases hbig : 922337203685477579 < m
      · omega
      · by_cases hsm : m < -922337203685477579
        · skip
          go_enter Tryd.func7, Tryd.ntmps7
          go_wp2_with fail
          ((with_reducible refine (CB.out _).mono ?_); rintro e w2 ⟨rfl, rfl⟩)
          go_wp2_with fail
          ((with_reducible refine (CM.out).mono ?_); rintro e w2 ⟨v, rfl, ho, b⟩)
          have HR := Lib.hid (Gn.Own.rd ndL ho)
          obtain ⟨va, vc, rfl⟩ := rd_form HR.out 1 rfl
          have HB := Lib.hid b
          have C2 := Lib.hid (CS.out _ w2 HR.out (HT.out.later b) (HTP.out.later b))
          replace HT := Lib.hid (HT.out.later b)
          replace HTP := Lib.hid (HTP.out.later b)
          clear ho b CM CS
          generalize str (Jr.dnum m) = z at *
          generalize str [48 + r] = z' at *
          go_wp2_with fail
          ((with_reducible refine (C2.out).mono ?_); rintro e w3 ⟨rfl, b⟩)
          replace HB := Lib.hid (up HB.out b)
          replace HT := Lib.hid (HT.out.later b)
          replace HTP := Lib.hid (HTP.out.later b)
          clear b C2
          go_wp2_with fail
          ((with_reducible refine (CB.out _).mono ?_); rintro e w4 ⟨rfl, rfl⟩)
          go_wp2_with fail
          ((with_reducible refine (CB.out _).mono ?_); rintro e w4 ⟨rfl, rfl⟩)
          have CX := Lib.hid (CW.out w3 HT.out HTP.out)
          clear CW CB
          go_wp2_with fail
          ((with_reducible refine (CX.out).mono ?_); rintro e w5 ⟨rfl, b⟩)
          replace HB := Lib.hid (up HB.out b)
          clear b CX
          go_wp2_with fail
          go_ret
          exact ⟨rfl, HB.out⟩
        · skip
          go_enter Tryd.func7, Tryd.ntmps7
          go_wp2_with fail
          ((with_reducible refine (CB.out _).mono ?_); rintro e w2 ⟨rfl, rfl⟩)
          go_wp2_with fail
          ((with_reducible refine (CM.out).mono ?_); rintro e w2 ⟨v, rfl, ho, b⟩)
          have HR := Lib.hid (Gn.Own.rd ndL ho)
          obtain ⟨va, vc, rfl⟩ := rd_form HR.out 1 rfl
          have HB := Lib.hid b
          have C2 := Lib.hid (CS.out _ w2 HR.out (HT.out.later b) (HTP.out.later b))
          replace HT := Lib.hid (HT.out.later b)
          replace HTP := Lib.hid (HTP.out.later b)
          clear ho b CM CS
          generalize str (Jr.dnum m) = z at *
          generalize str [48 + r] = z' at *
          go_wp2_with fail
          ((with_reducible refine (C2.out).mono ?_); rintro e w3 ⟨rfl, b⟩)
          replace HB := Lib.hid (up HB.out b)
          replace HT := Lib.hid (HT.out.later b)
          replace HTP := Lib.hid (HTP.out.later b)
          clear b C2
          go_wp2_with fail
          ((with_reducible refine (CB.out _).mono ?_); rintro e w4 ⟨rfl, rfl⟩)
          go_wp2_with fail
          ((with_reducible refine (CB.out _).mono ?_); rintro e w4 ⟨rfl, rfl⟩)
          have CN := Lib.hid (mkNum (10 * m + (-(r : Nat))) w3)
          have CV := Lib.hid (fun v w2 (h : RdN w2 w2.heap.size v [nd1 4 (10 * m + (-(r : Nat))) ⟨#[]⟩]) (T : Tab w2) (TP : TabP w2) => lshows v [nd1 4 (10 * m + (-(r : Nat))) ⟨#[]⟩] (z ++ z') w2 h (nok_one 4 (10 * m + (-(r : Nat))) ⟨#[]⟩ (by decide) (by omega) (by decide)).1 (nok_one 4 (10 * m + (-(r : Nat))) ⟨#[]⟩ (by decide) (by omega) (by decide)).2 T TP _ 0 (num_sh (10 * m + (-(r : Nat))) (by omega)) true (by rw [HBX.out]; simp [HE.out]))
          go_wp2_with fail
          ((with_reducible refine (CN.out).mono ?_); rintro e w5 ⟨v, rfl, ho, b⟩)
          have HR5 := Lib.hid (Gn.Own.rd ndL ho)
          obtain ⟨xa, xc, rfl⟩ := rd_form HR5.out 1 rfl
          replace HB := Lib.hid (up HB.out b)
          replace HT := Lib.hid (HT.out.later b)
          replace HTP := Lib.hid (HTP.out.later b)
          have C6 := Lib.hid (CV.out _ w5 HR5.out HT.out HTP.out)
          clear ho b CN CV
          go_wp2_with fail
          ((with_reducible refine (C6.out).mono ?_); rintro e w6 ⟨rfl, b⟩)
          replace HB := Lib.hid (up HB.out b)
          replace HT := Lib.hid (HT.out.later b)
          replace HTP := Lib.hid (HTP.out.later b)
          have CX := Lib.hid (CW.out w6 HT.out HTP.out)
          clear b C6 CW CB
          go_wp2_with fail
          ((with_reducible refine (CX.out).mono ?_); rintro e w7 ⟨rfl, b⟩)
          replace HB := Lib.hid (up HB.out b)
          clear b CX
          go_wp2_with fail
          go_ret
          exact ⟨rfl, HB.out⟩
    · have HE := Lib.hid (show Jr.dnum (10 * m + ((r : Nat))) = Jr.dnum m ++ [48 + r] by have := Jr.dnum_ten m r hr9 h0; rwa [if_neg hneg] at this)
      have HBX := Lib.hid (bl_str _ HBy.out)
      rw [← HJ.out] at HBX
      by_cases hbig : 922337203685477579 < m
      · skip
        go_enter Tryd.func7, Tryd.ntmps7
        go_wp2_with fail
        ((with_reducible refine (CB.out _).mono ?_); rintro e w2 ⟨rfl, rfl⟩)
        go_wp2_with fail
        ((with_reducible refine (CM.out).mono ?_); rintro e w2 ⟨v, rfl, ho, b⟩)
        have HR := Lib.hid (Gn.Own.rd ndL ho)
        obtain ⟨va, vc, rfl⟩ := rd_form HR.out 1 rfl
        have HB := Lib.hid b
        have C2 := Lib.hid (CS.out _ w2 HR.out (HT.out.later b) (HTP.out.later b))
        replace HT := Lib.hid (HT.out.later b)
        replace HTP := Lib.hid (HTP.out.later b)
        clear ho b CM CS
        generalize str (Jr.dnum m) = z at *
        generalize str [48 + r] = z' at *
        go_wp2_with fail
        ((with_reducible refine (C2.out).mono ?_); rintro e w3 ⟨rfl, b⟩)
        replace HB := Lib.hid (up HB.out b)
        replace HT := Lib.hid (HT.out.later b)
        replace HTP := Lib.hid (HTP.out.later b)
        clear b C2
        go_wp2_with fail
        ((with_reducible refine (CB.out _).mono ?_); rintro e w4 ⟨rfl, rfl⟩)
        go_wp2_with fail
        ((with_reducible refine (CB.out _).mono ?_); rintro e w4 ⟨rfl, rfl⟩)
        have CX := Lib.hid (CW.out w3 HT.out HTP.out)
        clear CW CB
        go_wp2_with fail
        ((with_reducible refine (CX.out).mono ?_); rintro e w5 ⟨rfl, b⟩)
        replace HB := Lib.hid (up HB.out b)
        clear b CX
        go_wp2_with fail
        go_ret
        exact ⟨rfl, HB.out⟩
      · by_cases hsm : m < -922337203685477579
        · omega
        · skip
          go_enter Tryd.func7, Tryd.ntmps7
          go_wp2_with fail
          ((with_reducible refine (CB.out _).mono ?_); rintro e w2 ⟨rfl, rfl⟩)
          go_wp2_with fail
          ((with_reducible refine (CM.out).mono ?_); rintro e w2 ⟨v, rfl, ho, b⟩)
          have HR := Lib.hid (Gn.Own.rd ndL ho)
          obtain ⟨va, vc, rfl⟩ := rd_form HR.out 1 rfl
          have HB := Lib.hid b
          have C2 := Lib.hid (CS.out _ w2 HR.out (HT.out.later b) (HTP.out.later b))
          replace HT := Lib.hid (HT.out.later b)
          replace HTP := Lib.hid (HTP.out.later b)
          clear ho b CM CS
          generalize str (Jr.dnum m) = z at *
          generalize str [48 + r] = z' at *
          go_wp2_with fail
          ((with_reducible refine (C2.out).mono ?_); rintro e w3 ⟨rfl, b⟩)
          replace HB := Lib.hid (up HB.out b)
          replace HT := Lib.hid (HT.out.later b)
          replace HTP := Lib.hid (HTP.out.later b)
          clear b C2
          go_wp2_with fail
          ((with_reducible refine (CB.out _).mono ?_); rintro e w4 ⟨rfl, rfl⟩)
          go_wp2_with fail
          ((with_reducible refine (CB.out _).mono ?_); rintro e w4 ⟨rfl, rfl⟩)
          have CN := Lib.hid (mkNum (10 * m + ((r : Nat))) w3)
          have CV := Lib.hid (fun v w2 (h : RdN w2 w2.heap.size v [nd1 4 (10 * m + ((r : Nat))) ⟨#[]⟩]) (T : Tab w2) (TP : TabP w2) => lshows v [nd1 4 (10 * m + ((r : Nat))) ⟨#[]⟩] (z ++ z') w2 h (nok_one 4 (10 * m + ((r : Nat))) ⟨#[]⟩ (by decide) (by omega) (by decide)).1 (nok_one 4 (10 * m + ((r : Nat))) ⟨#[]⟩ (by decide) (by omega) (by decide)).2 T TP _ 0 (num_sh (10 * m + ((r : Nat))) (by omega)) true (by rw [HBX.out]; simp [HE.out]))
          go_wp2_with fail
          ((with_reducible refine (CN.out).mono ?_); rintro e w5 ⟨v, rfl, ho, b⟩)
          have HR5 := Lib.hid (Gn.Own.rd ndL ho)
          obtain ⟨xa, xc, rfl⟩ := rd_form HR5.out 1 rfl
          replace HB := Lib.hid (up HB.out b)
          replace HT := Lib.hid (HT.out.later b)
          replace HTP := Lib.hid (HTP.out.later b)
          have C6 := Lib.hid (CV.out _ w5 HR5.out HT.out HTP.out)
          clear ho b CN CV
          go_wp2_with fail
          ((with_reducible refine (C6.out).mono ?_); rintro e w6 ⟨rfl, b⟩)
          replace HB := Lib.hid (up HB.out b)
          replace HT := Lib.hid (HT.out.later b)
          replace HTP := Lib.hid (HTP.out.later b)
          have CX := Lib.hid (CW.out w6 HT.out HTP.out)
          clear b C6 CW CB
          go_wp2_with fail
          ((with_reducible refine (CX.out).mono ?_); rintro e w7 ⟨rfl, b⟩)
          replace HB := Lib.hid (up HB.out b)
          clear b CX
          go_wp2_with fail
          go_ret
          exact ⟨rfl, HB.out⟩
end Go.Proofs.YtgmdjofnkbaflaaDoor
