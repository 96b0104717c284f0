/- JshowBack: the walk. -/
import Derived.Test.YtgmdjofnkbaflaaGreatDoorDfact
import Derived.Test.YtgmdjofnkbaflaaGreatDoorEq8
namespace Go.Proofs.YtgmdjofnkbaflaaGreatDoor
open Go.RowKit
set_option linter.unusedVariables false
set_option maxRecDepth 100000

set_option maxHeartbeats 8000000 in
theorem jshowBack (sv : Value) (ns : List Int) (W : World) (h : RdI W W.heap.size sv ns) (hok : ∀ x ∈ ns, -9223372036854775808 ≤ x ∧ x ≤ 9223372036854775807) (T : Tab W) (TE : TabE W) (TP : TabP W) :
    Calls Tryz.prog 8 #[.agg #[sv]] W fun e w' => e = .returned (.bool true) ∧ Below W.heap.size W w' := by
  obtain ⟨sa, sc, rfl, _⟩ := Gn.Rd.form h
  obtain ⟨N, hN⟩ : ∃ N, ns.length = N := ⟨_, rfl⟩
  rw [hN] at h ⊢
  obtain ⟨wa, hwa⟩ : ∃ wa, wa = W.alloc (.cells #[.slice sa N sc] 45) := ⟨_, rfl⟩
  have HBA : Hid (Below W.heap.size W wa) := Lib.hid (by rw [hwa]; exact up_new W _)
  have hsa : Blk wa W.heap.size 45 [.slice sa N sc] := by rw [hwa]; exact Blk.new W 45 #[.slice sa N sc]
  have HT := Lib.hid T
  have HTE := Lib.hid TE
  have HTP := Lib.hid TP
  have CW := Lib.hid (works8 wa (T.later HBA.out) (TP.later HBA.out))
  rw [hwa] at CW
  have HRS := Lib.hid (Gn.Rd.later h HBA.out)
  have HOK := Lib.hid hok
  have hsz : W.heap.size < wa.heap.size := by rw [hwa, World.size_alloc]; omega
  clear h hok T TE TP hN
  go_enter Tryz.func8, Tryz.ntmps8
  go_wp2_with fail
  ((with_reducible refine (CW.out).mono ?_); rintro e w1 ⟨rfl, b⟩)
  rw [← hwa] at b
  have HB1 := Lib.hid (up HBA.out b)
  have hcell : w1.cell? ⟨W.heap.size, 0, none⟩ = some (.slice sa N sc) := by rw [(hsa.later b).cell 0]; rfl
  have CD := Lib.hid (S8.drawnC (.slice sa N sc) ns w1 (Gn.Rd.later HRS.out b) HOK.out (HT.out.later HB1.out))
  clear b CW hwa hsa hsz HBA
  go_wp2_with fail
  ((with_reducible refine (CD.out).mono ?_); rintro e w2 ⟨v, F, rfl, ho, hd, b⟩)
  have HB2 := Lib.hid (up HB1.out b)
  have HD := Lib.hid hd
  have HR := Lib.hid (Gn.Own.rd ndL ho)
  obtain ⟨n, hn⟩ : ∃ n, (Tp.flat F).length = n := ⟨_, rfl⟩
  have hn0 : (0 : Int) < n := by
    have := flat_sz F
    obtain ⟨k, n', s, c, e⟩ := hd.root
    rw [e, Tp.sz_node] at this
    rw [e] at hn
    omega
  have hn1 : n ≤ 301 := by have := hd.sz; rw [← hn, flat_sz]; exact this
  obtain ⟨va, vc, rfl⟩ := rd_form HR.out n hn
  have CS := Lib.hid (showC _ _ w2 HR.out hd.ok hd.tok (HT.out.later HB2.out) (HTP.out.later HB2.out) _ 0 hd.sh)
  have HRD := Lib.hid hd.reads
  have hsz : (str (Jr.shv F)).size ≤ 43344 := by have := hd.short; rw [str_size]; omega
  have HN : Hid ((Tp.flat F).length = n) := Lib.hid hn
  clear b ho hd CD hn hcell
  generalize str (Jr.shv F) = z at *
  go_wp2_with fail
  ((with_reducible refine (CS.out).mono ?_); rintro e w3 ⟨rfl, b⟩)
  have HB3 := Lib.hid (up HB2.out b)
  have CP := Lib.hid (jparse z (HT.out.later HB3.out) (HTE.out.later HB3.out) (.inl (by omega)))
  have HR3 := Lib.hid (Gn.Rd.later HR.out b)
  clear b CS HR
  go_wp2_with fail
  ((with_reducible refine (CP.out).mono ?_); rintro e w4 hp)
  obtain ⟨u, rfl, ho, b⟩ := parsed_only hp HRD.out
  have HB4 := Lib.hid (up HB3.out b)
  have CE := Lib.hid (jlawEq8 _ u _ _ w4 (Gn.Rd.later HR3.out b) (Gn.Own.rd ndL ho) (by rw [HN.out]; omega) true ⟨fun _ => rfl, fun _ => rfl⟩)
  clear hp b ho CP
  go_wp2_with fail
  ((with_reducible refine (CE.out).mono ?_); rintro e w5 ⟨rfl, b⟩)
  have HB5 := Lib.hid (up HB4.out b)
  clear b CE
  go_wp2_with fail
  go_ret
  exact ⟨rfl, HB5.out⟩
end Go.Proofs.YtgmdjofnkbaflaaGreatDoor
