/- JshowPlain: the walk. -/
import Derived.Test.YtgmdjofnkbaflaaDoorDfact
namespace Go.Proofs.YtgmdjofnkbaflaaDoor
open Go.RowKit
set_option linter.unusedVariables false
set_option maxRecDepth 100000

theorem drop_one (l : List Nat) (k : Nat) (h : k < l.length) : l.drop k = l.getD k 0 :: l.drop (k + 1) := by
  rw [List.drop_eq_getElem_cons h, List.getD_eq_getElem?_getD, List.getElem?_eq_getElem h]
  rfl
theorem int_ne {c d : Nat} (h : c ≠ d) : ((c : Int) == (d : Int)) = false := by rw [beq_eq_false_iff_ne]; omega

set_option maxHeartbeats 8000000 in
theorem jshowPlain (sv : Value) (ns : List Int) (W : World) (h : RdI W W.heap.size sv ns) (hok : ∀ x ∈ ns, -9223372036854775808 ≤ x ∧ x ≤ 9223372036854775807) (T : Tab W) (TP : TabP W) :
    Calls Tryd.prog 6 #[.agg #[sv]] W fun e w' => e = .returned (.bool true) ∧ Below W.heap.size W w' := by
  obtain ⟨sa, sc, rfl, _⟩ := Gn.Rd.form h
  obtain ⟨N, hN⟩ : ∃ N, ns.length = N := ⟨_, rfl⟩
  rw [hN] at h ⊢
  obtain ⟨wa, hwa⟩ : ∃ wa, wa = W.alloc (.cells #[.slice sa N sc] 43) := ⟨_, rfl⟩
  have HBA : Hid (Below W.heap.size W wa) := Lib.hid (by rw [hwa]; exact up_new W _)
  have CD := Lib.hid (S8.drawnC (.slice sa N sc) ns wa (Gn.Rd.later h HBA.out) hok (T.later HBA.out))
  have HT := Lib.hid T
  have HTP := Lib.hid TP
  have CW := Lib.hid (fun w T TP => works8 w T TP)
  rw [hwa] at CD
  clear h hok T TP hN
  go_enter Tryd.func6, Tryd.ntmps6
  go_wp2_with fail
  ((with_reducible refine (CD.out).mono ?_); rintro e w2 ⟨v, F, rfl, ho, hd, b⟩)
  rw [← hwa] at b ho
  have HB2 := Lib.hid (up HBA.out b)
  have HD := Lib.hid hd
  have HR := Lib.hid (Gn.Own.rd ndL ho)
  obtain ⟨n, hn⟩ : ∃ n, (Tp.flat F).length = n := ⟨_, rfl⟩
  obtain ⟨va, vc, rfl⟩ := rd_form HR.out n hn
  have CS := Lib.hid (showC _ _ w2 HR.out hd.ok hd.tok (HT.out.later HB2.out) (HTP.out.later HB2.out) _ 0 hd.sh)
  have HPL := Lib.hid (Jr.pl_shv F)
  have hbl : bl (str (Jr.shv F)) = Jr.shv F := bl_str _ hd.byte
  have hz0 : (str (Jr.shv F)).toList.isEmpty = false := by rw [bl_empty, hbl]; simpa using hd.ne
  have hsz : (str (Jr.shv F)).size ≤ 43344 := by have := hd.short; rw [str_size]; omega
  rw [← hbl] at HPL
  clear b ho hd hwa CD hn hbl
  generalize str (Jr.shv F) = z at *
  go_wp2_with fail
  ((with_reducible refine (CS.out).mono ?_); rintro e w3 ⟨rfl, b⟩)
  have HB3 := Lib.hid (up HB2.out b)
  clear b CS HR
  go_wp2_with fail
  go_loopw [6, 7] (fun q i wr => ∃ (b : Bool) (k : Nat), k ≤ z.size ∧ q = .bool b ∧ i = .int .i64 (k : Nat) ∧ Hid (Jr.Pl b ((bl z).drop k) false) ∧ Hid (Below w3.heap.size w3 wr)) (fun _ i _ => z.size - (intOf i).toNat)
  case atStart => exact ⟨false, 0, by omega, by rfl, by rfl, HPL, Lib.hid (Below.refl _ _)⟩
  case round =>
    clear HPL
    obtain ⟨b, k, hk, rfl, rfl, HPL, HU⟩ := hrel
    by_cases hlt : k < z.size
    · have hlt' : (k : Int) < z.size := by omega
      have hd := drop_one (bl z) k (by rw [bl_length]; omega)
      have hx := bl_at z k hlt
      have hc := Utf.getD_byte (bl_byte z) k
      have hp := HPL.out
      rw [hd] at hp
      generalize (bl z).getD k 0 = c at *
      clear hd HPL
      rcases Jr.pl_step hp with ⟨rfl, d, u, hu, hq⟩ | ⟨rfl, hq⟩ | ⟨c1, c2, c3, c4, hq⟩
      · have hlt2 : k + 1 < z.size := by
          have := congrArg List.length hu
          simp [bl_length] at this
          omega
        have HQ : Hid (Jr.Pl b ((bl z).drop (k + 1 + 1)) false) := Lib.hid (by
          have := congrArg (List.drop 1) hu
          rw [List.drop_drop] at this
          rw [this]
          exact hq)
        clear hp hu hq
        cases b
        all_goals
          go_wp2_with fail
          go_roundw
          case rel => exact ⟨_, k + 1 + 1, by omega, by rfl, by go_num, HQ, HU⟩
          case measure => simp [intOf]; omega
      · have HQ := Lib.hid hq
        clear hp hq
        cases b
        all_goals
          go_wp2_with fail
          go_roundw
          case rel => exact ⟨_, k + 1, by omega, by rfl, by go_num, HQ, HU⟩
          case measure => simp [intOf]; omega
      · have HQ := Lib.hid hq
        have c32 : ¬ (c : Int) < 32 := by omega
        have c92 := int_ne c2
        have c34 := int_ne c3
        clear hp hq
        by_cases h32 : c = 32
        · subst h32
          obtain rfl : b = true := by simpa using c4
          go_wp2_with fail
          go_roundw
          case rel => exact ⟨_, k + 1, by omega, by rfl, by go_num, HQ, HU⟩
          case measure => simp [intOf]; omega
        · have e32 := int_ne h32
          cases b
          all_goals
            go_wp2_with fail
            go_roundw
            case rel => exact ⟨_, k + 1, by omega, by rfl, by go_num, HQ, HU⟩
            case measure => simp [intOf]; omega
    · have hlt' : ¬ (k : Int) < z.size := by omega
      have hp := HPL.out
      rw [List.drop_eq_nil_of_le (by rw [bl_length]; omega)] at hp
      obtain rfl := Jr.pl_end hp
      have CX := Lib.hid (CW.out wr (HT.out.later (up HB3.out HU.out)) (HTP.out.later (up HB3.out HU.out)))
      clear hp CW HPL
      go_wp2_with fail
      ((with_reducible refine (CX.out).mono ?_); rintro e w5 ⟨rfl, b⟩)
      have HB5 := Lib.hid (up (up HB3.out HU.out) b)
      clear b CX
      go_wp2_with fail
      go_ret
      exact ⟨rfl, HB5.out⟩
end Go.Proofs.YtgmdjofnkbaflaaDoor
