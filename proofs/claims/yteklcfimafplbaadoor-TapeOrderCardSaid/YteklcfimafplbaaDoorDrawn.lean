/- A seed's tape. -/
import Derived.Test.YteklcfimafplbaaDoorSval
namespace Go.Proofs.YteklcfimafplbaaDoor
open Go.RowKit
set_option linter.unusedVariables false
set_option maxRecDepth 100000

theorem sval_claim : ∀ (m D : Nat), 1 ≤ D → D ≤ 7 → 7 - D ≤ m → SClaimV D
  | 0, D, h1, h2, h3 => sval_step D ⟨h1, h2⟩ (fun h => absurd h (by omega))
  | m + 1, D, h1, h2, h3 => sval_step D ⟨h1, h2⟩ (fun h => sval_claim m (D + 1) (by omega) (by omega) (by omega))
/-- What a seed's tape is. -/
structure DOk (F : Fo) : Prop where
  root : Root F
  good : Tp.good F
  sz : Tp.sz F ≤ 301
  dep : Tp.dep F ≤ 7
  ok : ∀ x ∈ Tp.flat F, Nok x
def DPost (w : World) (e : Ending) (w' : World) : Prop := ∃ v F, e = .returned (.tuple #[v, .bool true]) ∧ OwnN w' w.heap.size v (Tp.flat F) ∧ DOk F ∧ Below w.heap.size w w'
theorem DOk.may {F : Fo} (h : DOk F) : May (Tp.flat F) F := by
  obtain ⟨k, n, s, c, rfl⟩ := h.root
  refine ⟨?_, ⟨⟨k, ⟨#[]⟩, n, s, c, rfl, rfl⟩, h.good, rfl⟩, by have := h.dep; omega⟩
  have := h.sz
  rw [flat_sz]; omega

set_option maxHeartbeats 4000000 in
theorem drawnC (sv : Value) (ns : List Int) (w : World) (h : RdI w w.heap.size sv ns) (hok : ∀ x ∈ ns, -9223372036854775808 ≤ x ∧ x ≤ 9223372036854775807) (T : Tab w) :
    Calls Tryd.prog 9 #[.agg #[sv]] w fun e w' => DPost w e w' := by
  have hll := h.len'
  obtain ⟨sa, sc, rfl, _⟩ := Gn.Rd.form h
  obtain ⟨N, hN⟩ : ∃ N, ns.length = N := ⟨_, rfl⟩
  obtain ⟨u, hu, hur⟩ := Gn.cut_to plY w w.heap.size sa ns N sc (min N 150) (by rw [← hN]; exact h) hN (by omega)
  have em : ((min N 150 : Nat) : Int) = min (N : Int) 150 := by omega
  rw [em] at hu
  have hul : (ns.take (min N 150)).length ≤ 150 := by rw [List.length_take]; omega
  obtain ⟨ua, uc, rfl, _⟩ := Gn.Rd.form hur
  obtain ⟨M, hM⟩ : ∃ M, (ns.take (min N 150)).length = M := ⟨_, rfl⟩
  have h2 := T.size
  have HU := Lib.hid hur
  have HOK : Hid (∀ x ∈ ns.take (min N 150), -9223372036854775808 ≤ x ∧ x ≤ 9223372036854775807) := Lib.hid (fun x hx => hok x (List.mem_of_mem_take hx))
  have HT := Lib.hid T
  have HUL := Lib.hid hul
  have hB : TabAt w.heap.size := h2
  rw [hM] at hu HU
  rw [hN] at hll ⊢
  clear h hok T hur hN em hul hM h2
  generalize ns.take (min N 150) = ms at *
  obtain ⟨wx, hwx⟩ : ∃ wx, wx = (w.alloc (.cells #[.slice sa N sc] 24)).alloc (.cells #[.slice ua M uc] 24) := ⟨_, rfl⟩
  have HBX : Hid (Below w.heap.size w wx) := Lib.hid (by rw [hwx]; exact up (up_new w _) (up_new _ _))
  have HSV : Hid (SV wx w.heap.size (w.heap.size + 1) ms) := Lib.hid ⟨⟨_, by
      rw [hwx]
      have := Blk.new (w.alloc (.cells #[.slice sa N sc] 24)) 24 #[.slice ua M uc]
      rw [World.size_alloc] at this
      exact this, Gn.Rd.below HU.out HBX.out (Nat.le_refl _)⟩, by omega, HOK.out⟩
  have CV : Hid (Calls Tryd.prog 34 #[.pointer (some ⟨w.heap.size + 1, 0, none⟩), .int .i64 1] wx fun e w' => SPost wx w.heap.size (w.heap.size + 1) ms 1 e w') := Lib.hid (sval_claim 7 1 (by omega) (by omega) (by omega) w.heap.size (w.heap.size + 1) ms wx HSV.out hB HUL.out (HT.out.later HBX.out))
  rw [hwx] at CV
  go_enter Tryd.func9, Tryd.ntmps9
  go_wp2_with fail
  ((with_reducible refine (CV.out).mono ?_); rintro e w2 ⟨v, F, ms', rfl, hv⟩)
  rw [← hwx] at hv
  have HO := Lib.hid (Gn.Own.lower hv.own HBX.out.size)
  have HD : Hid (DOk F) := Lib.hid ⟨hv.root, hv.good, by have := hv.sz; have := HUL.out; omega, by have := hv.dep; omega, hv.ok⟩
  have HB2 := Lib.hid (HBX.out.trans (hv.touch.below HBX.out.size (fun i hi => by rw [hi]; omega)))
  clear hv hwx
  go_wp2_with fail
  go_ret2
  exact ⟨_, F, rfl, HO.out, HD.out, HB2.out⟩
end Go.Proofs.YteklcfimafplbaaDoor
