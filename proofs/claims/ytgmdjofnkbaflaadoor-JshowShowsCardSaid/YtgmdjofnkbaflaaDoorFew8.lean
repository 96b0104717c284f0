/- law 08: few: nodes, 60 at most, of short texts. -/
import Derived.Test.YtgmdjofnkbaflaaDoorFew
import Derived.Test.YtgmdjofnkbaflaaDoorMake
namespace Go.Proofs.YtgmdjofnkbaflaaDoor
open Go.RowKit
set_option linter.unusedVariables false
set_option maxRecDepth 100000

/-- A text that is cut. -/
def clip (K : Int) (s : ByteArray) : ByteArray := s.extract 0 (min (s.size : Int) K).toNat
theorem clip_size (K : Int) (s : ByteArray) (h0 : 0 ≤ K) : ((clip K s).size : Int) ≤ K := by
  unfold clip
  rw [ByteArray.size_extract]
  omega
theorem clip_run (K : Int) (hK : 0 ≤ K) (s0 : ByteArray) (w : World) : (Instr.slice 9 (.string s0) none (some (.int .i64 (min (s0.size : Int) K))) none).run Tryd.prog w = .ok (.string (clip K s0)) w := by
  rw [run_slice_string_to_if w 9 s0 .i64 _ Tryd.underlying9, if_pos (by omega)]
  rfl
def clipN (x : Nd) : Nd := ⟨x.kind, clip 40 x.key, x.n, clip 60 x.s, x.size⟩
def fewL (l : List Nd) : List Nd := (l.take 60).map clipN
theorem fewL_len (l : List Nd) : (fewL l).length ≤ 60 := by unfold fewL; simp; omega
theorem fewL_ok (l : List Nd) (h : ∀ x ∈ l, Nok x) : ∀ x ∈ fewL l, Nok x := by
  intro x hx
  obtain ⟨y, hy, rfl⟩ := List.mem_map.1 hx
  obtain ⟨h1, h2, h3, h4, h5⟩ := h y (List.mem_of_mem_take hy)
  have a1 := clip_size 40 y.key (by omega)
  have a2 := clip_size 60 y.s (by omega)
  exact ⟨h1, by simp only [clipN]; unfold maxLen; omega, h3, by simp only [clipN]; unfold maxLen; omega, h5⟩

set_option maxHeartbeats 4000000 in
theorem few (v : Value) (l : List Nd) (w : World) (h : RdN w w.heap.size v l) (hok : ∀ x ∈ l, Nok x) :
    Calls Tryd.prog 13 #[v] w fun e w' => MkPost w (fewL l) e w' := by
  have hll := Gn.Rd.len' h
  obtain ⟨ad, cp, rfl, _⟩ := Gn.Rd.form h
  obtain ⟨u, hu, hr⟩ := Gn.cut_to ndY w w.heap.size ad l l.length cp (min l.length 60) h rfl (by omega)
  rw [show ((min l.length 60 : Nat) : Int) = min (l.length : Int) 60 by omega] at hu
  obtain ⟨L, hL⟩ : ∃ L, l.take (min l.length 60) = L := ⟨_, rfl⟩
  rw [hL] at hr
  have hLe : l.take 60 = L := by
    rw [← hL]
    rcases Nat.le_total l.length 60 with h | h
    · rw [Nat.min_eq_left h, List.take_of_length_le h, List.take_of_length_le (Nat.le_refl _)]
    · rw [Nat.min_eq_right h]
  have hLl : L.length ≤ 60 := by rw [← hLe, List.length_take]; omega
  have HF : Hid (fewL l = L.map clipN) := Lib.hid (by unfold fewL; rw [hLe])
  have HK : Hid (∀ x ∈ L, Nok x) := Lib.hid (fun x hx => hok x (by rw [← hLe] at hx; exact List.mem_of_mem_take hx))
  have C := Lib.hid (rcopy u L w hr (by omega))
  clear h hr hok hL hLe
  go_enter Tryd.func13, Tryd.ntmps13
  go_wp2_with fail
  ((with_reducible refine (C.out).mono ?_); rintro e w2 ⟨s, rfl, ho, b2⟩)
  have HO := Lib.hid ho
  have HB := Lib.hid b2
  obtain ⟨ag, cg, rfl, _⟩ := Gn.Rd.form (Gn.Own.rd ndL ho)
  clear ho b2 hu C hll
  go_wp2_with fail
  go_loopw [3] (fun i wr => ∃ (k : Nat) (lk : List Nd), i = .int .i64 (k : Nat) ∧ k ≤ L.length ∧ Hid (lk.length = L.length ∧ lk = (L.take k).map clipN ++ L.drop k ∧ OwnN wr w.heap.size (.slice ag L.length cg) lk) ∧ Hid (Below w.heap.size w wr)) (fun i _ => L.length - (intOf i).toNat)
  case atStart => exact ⟨0, L, by rfl, by omega, Lib.hid ⟨rfl, by simp, HO.out⟩, HB⟩
  case round =>
    obtain ⟨k, lk, rfl, hk, HL, HU⟩ := hrel
    by_cases hlt : k < L.length
    · have hlt1 : (k : Int) < L.length := by omega
      have hkl : k < lk.length := by rw [HL.out.1]; exact hlt
      obtain ⟨x, hx⟩ : ∃ x, lk[k]? = some x := ⟨_, List.getElem?_eq_getElem hkl⟩
      have hxL : L[k]? = some x := by
        have e := HL.out.2.1
        rw [e, List.getElem?_append_right (by simp; omega)] at hx
        simpa [Nat.min_eq_left hk] using hx
      have hNk := HK.out x (List.mem_of_getElem? hxL)
      have hsz1 := hNk.2.1
      have hsz2 := hNk.2.2.2.1
      obtain ⟨g, rfl⟩ := own_addr HL.out.2.2 (by omega)
      obtain ⟨b, o, e, p0, p1, p2, p3, p4⟩ := rdN_cells (HL.out.1 ▸ Gn.Own.rd ndL HL.out.2.2) (Below.refl _ _) hx
      obtain ⟨rfl, rfl⟩ : g = b ∧ 0 = o := by injection e with e; injection e with e1 e2; exact ⟨e1, e2⟩
      simp only [Nat.zero_add] at p0 p1 p2 p3 p4
      have hf := own_melt HL.out.2.2 HL.out.1
      have d1 : ∀ n, (wr.drewN n).cell? ⟨g, k * 5 + 1, none⟩ = some (.string x.key) := fun n => p1
      have d3 : ∀ n, (wr.drewN n).cell? ⟨g, k * 5 + 3, none⟩ = some (.string x.s) := fun n => p3
      have df : ∀ n j, (wr.drewN n).frozen? ⟨g, j, none⟩ = false := fun n j => hf j
      have q1 := fun w => clip_run 40 (by omega) x.key w
      have q3 := fun w => clip_run 60 (by omega) x.s w
      have hgt : ∀ y : Nd, (lk.set k y)[k]? = some y := fun y => by rw [List.getElem?_set_self hkl]
      have HW : Hid ((lk.set k (clipN x)).length = L.length ∧ lk.set k (clipN x) = (L.take (k + 1)).map clipN ++ L.drop (k + 1) ∧ OwnN ((wr.setCell ⟨g, k * 5 + 1, none⟩ (.string (clip 40 x.key))).setCell ⟨g, k * 5 + 3, none⟩ (.string (clip 60 x.s))) w.heap.size (.slice (some ⟨g, 0, none⟩) L.length cg) (lk.set k (clipN x))) := Lib.hid (by
        have h1 := own_put (m := 1) (u := .string (clip 40 x.key)) (x' := ⟨x.kind, clip 40 x.key, x.n, x.s, x.size⟩) HL.out.2.2 HL.out.1 hx rfl (by omega)
        have h2 := own_put (m := 3) (u := .string (clip 60 x.s)) (x' := clipN x) h1 (by rw [List.length_set]; exact HL.out.1) (hgt _) rfl (by omega)
        rw [List.set_set] at h2
        refine ⟨by rw [List.length_set]; exact HL.out.1, ?_, h2⟩
        rw [HL.out.2.1, List.set_append_right (h := by simp; omega), List.length_map, List.length_take, Nat.min_eq_left hk, Nat.sub_self, List.take_succ_eq_append_getElem hlt, List.map_append]
        have hd : L.drop k = x :: L.drop (k + 1) := by
          rw [List.drop_eq_getElem_cons hlt]
          congr 1
          have := (List.getElem?_eq_some_iff.1 hxL).2
          exact this
        rw [hd, List.set_cons_zero, (List.getElem?_eq_some_iff.1 hxL).2]
        simp)
      have HG : Hid (w.heap.size ≤ g) := Lib.hid (Gn.Own.lt HL.out.2.2 g rfl).1
      unfold maxLen at hsz1 hsz2
      clear hx hxL e hkl hNk p0 p2 p4 hgt
      go_wp2_with fail
      go_region
      all_goals
        go_wp2_with fail
        go_region
        all_goals
          go_wp2_with fail
          go_roundw
          case rel => exact ⟨k + 1, _, by go_num, by omega, Lib.hid HW.out, Lib.hid ((HU.out.setCell (p := ⟨g, k * 5 + 1, none⟩) HG.out _).setCell (p := ⟨g, k * 5 + 3, none⟩) HG.out _).drew.drew⟩
          case measure => simp [intOf]; omega
    · have hlt1 : ¬ (k : Int) < L.length := by omega
      have HD : Hid (lk = fewL l) := Lib.hid (by
        rw [HF.out, HL.out.2.1, List.take_of_length_le (by omega), List.drop_of_length_le (by omega), List.append_nil])
      go_wp2_with fail
      go_ret
      exact ⟨_, rfl, by rw [← HD.out]; exact HL.out.1 ▸ HL.out.2.2, HU.out⟩
end Go.Proofs.YtgmdjofnkbaflaaDoor
