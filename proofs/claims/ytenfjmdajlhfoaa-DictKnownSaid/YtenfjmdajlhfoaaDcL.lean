/- A list that grows, number by number: add, whole. -/
import Derived.Test.YtenfjmdajlhfoaaDcD
import Derived.Deep.RegionHeld3
import Derived.BigRegion
namespace Go.Proofs.Ytenfjmdajlhfoaa
open Go.RowKit
set_option linter.unusedVariables false
set_option maxRecDepth 100000

/-- A list in its block: its dictionary, how many texts were used, its texts. -/
structure LV (w : World) (B q : Nat) (dv : Value) (D : List ByteArray) (u : Nat) (v : Value) (T : List ByteArray) : Prop where
  blk : Blk w q 59 [dv, .int .i64 (u : Nat), v]
  rd : RdT w B dv D
  own : OwnT w B v T
  lq : B ≤ q
theorem tx_ne_lst : (9 : TypeId) ≠ 59 := by decide
def lset (q : Nat) (v : Value) (i : Nat) : Prop := i = q ∨ v.ownBlock = some i
theorem LV.low {w : World} {B q u : Nat} {dv v : Value} {D T : List ByteArray} (h : LV w B q dv D u v T) : ∀ i, lset q v i → B ≤ i := by
  rintro i (rfl | e)
  · exact h.lq
  · exact (h.own.lt i e).1
theorem LV.later {w w' : World} {B q u : Nat} {dv v : Value} {D T : List ByteArray} (h : LV w B q dv D u v T) (hB : B ≤ w.heap.size) (hb : Below w.heap.size w w') : LV w' B q dv D u v T := ⟨h.blk.later hb, Gn.Rd.later' h.rd hB hb, h.own.later hb, h.lq⟩
theorem add_no (w : World) (B q u : Nat) (dv v : Value) (D T : List ByteArray) (n : Nat) (h : LV w B q dv D u v T) (hn : ¬ (n < D.length ∧ n ≤ u)) (hu : u ≤ 10000000) :
    Calls Try.prog 34 #[.pointer (some ⟨q, 0, none⟩), .int .u64 (n : Nat)] w fun e w' => e = .returned (.bool false) ∧ w = w' := by
  have hc0 : w.cell? ⟨q, 0, none⟩ = some dv := h.blk.cell 0
  have hc1 : w.cell? ⟨q, 1, none⟩ = some (.int .i64 (u : Nat)) := h.blk.cell 1
  have hm := Gn.Rd.len' h.rd
  obtain ⟨a, c, rfl, _⟩ := Gn.Rd.form h.rd
  clear h
  by_cases h1 : n < D.length
  · have h2 : ¬ n ≤ u := fun e => hn ⟨h1, e⟩
    have h3 : ¬ (D.length : Int) ≤ (n : Int) := by omega
    have h4 : (u : Int) < (n : Int) := by omega
    clear hn
    go_enter Try.func34, Try.ntmps34
    go_wp2
    go_ret
    exact ⟨rfl, rfl⟩
  · have h3 : (D.length : Int) ≤ (n : Int) := by omega
    clear hn
    go_enter Try.func34, Try.ntmps34
    go_wp2
    go_ret
    exact ⟨rfl, rfl⟩
theorem whole_no (w : World) (B q u : Nat) (dv v : Value) (D T : List ByteArray) (h : LV w B q dv D u v T) (hn : u < D.length) :
    Calls Try.prog 35 #[.pointer (some ⟨q, 0, none⟩)] w fun e w' => e = .returned (.tuple #[.slice none 0 0, .int .i64 150]) ∧ Below w.heap.size w w' := by
  have hc0 : w.cell? ⟨q, 0, none⟩ = some dv := h.blk.cell 0
  have hc1 : w.cell? ⟨q, 1, none⟩ = some (.int .i64 (u : Nat)) := h.blk.cell 1
  obtain ⟨a, c, rfl, _⟩ := Gn.Rd.form h.rd
  have h1 : (u : Int) < D.length := by omega
  clear h
  go_enter Try.func35, Try.ntmps35
  go_wp2
  go_region
  all_goals
    go_wp2
    go_ret2
    exact ⟨rfl, (Below.refl _ _).drew⟩
theorem whole_yes (w : World) (B q u : Nat) (dv v : Value) (D T : List ByteArray) (h : LV w B q dv D u v T) (hn : ¬ u < D.length) :
    Calls Try.prog 35 #[.pointer (some ⟨q, 0, none⟩)] w fun e w' => e = .returned (.tuple #[v, .int .i64 0]) ∧ Below w.heap.size w w' := by
  have hc0 : w.cell? ⟨q, 0, none⟩ = some dv := h.blk.cell 0
  have hc1 : w.cell? ⟨q, 1, none⟩ = some (.int .i64 (u : Nat)) := h.blk.cell 1
  have hc2 : w.cell? ⟨q, 2, none⟩ = some v := h.blk.cell 2
  obtain ⟨a, c, rfl, _⟩ := Gn.Rd.form h.rd
  obtain ⟨a2, c2, rfl, _⟩ := own_form h.own
  have h1 : ¬ (u : Int) < D.length := by omega
  clear h
  go_enter Try.func35, Try.ntmps35
  go_wp2
  go_region
  all_goals
    go_wp2
    go_ret2
    exact ⟨rfl, (Below.refl _ _).drew⟩
theorem lv_app {w1 w2 : World} {B q u' : Nat} {dv v v1 : Value} {D T T' : List ByteArray} (o : Obj) (hk : Blk w1 q 59 [dv, .int .i64 (u' : Nat), v]) (hr : RdT w1 B dv D) (hB : B ≤ w1.heap.size) (ho : OwnT w1 B v T) (lq : B ≤ q)
    (ho1 : OwnT w2 B v1 T') (hg1 : (w1.alloc o).grownBy w2 v.ownBlock) :
    w2.cell? ⟨q, 2, none⟩ = some v ∧ w2.frozen? ⟨q, 2, none⟩ = false ∧ LV (w2.setCell ⟨q, 2, none⟩ v1) B q dv D u' v1 T' ∧ Touch (lset q v) w1 (w2.setCell ⟨q, 2, none⟩ v1) := by
  have hb := up_new w1 o
  have ho' := Gn.Own.later ho hb
  have ht := Touch.own ho' hg1
  have hk2 : Blk w2 q 59 [dv, .int .i64 (u' : Nat), v] := (hk.later hb).touch ht (fun e => own_blk ho' (hk.later hb) tx_ne_lst e rfl)
  have hs : Touch (fun i => i = q) w2 (w2.setCell ⟨q, 2, none⟩ v1) := (Touch.refl (fun i => i = q) w2).setCell (p := ⟨q, 2, none⟩) rfl v1
  have hT : Touch (lset q v) w1 (w2.setCell ⟨q, 2, none⟩ v1) := ((Touch.of_below hb).trans ht (fun i hi => .inl (.inr hi))).trans hs (fun i hi => .inl (.inl hi))
  refine ⟨hk2.cell 2, hk2.frozen 2, ⟨hk2.put 2 v1, Gn.Rd.below hr (hT.below hB ?_) (Nat.le_refl _), own_touch ho1 hs (fun g hg => own_blk ho1 hk2 tx_ne_lst hg), lq⟩, hT⟩
  rintro i (rfl | e)
  · exact lq
  · exact (ho.lt i e).1
def AdPost (w : World) (B q : Nat) (dv v : Value) (D : List ByteArray) (u : Nat) (T : List ByteArray) (e : Ending) (w' : World) : Prop :=
  e = .returned (.bool true) ∧ ∃ v', LV w' B q dv D u v' T ∧ Touch (lset q v) w w'
set_option maxHeartbeats 4000000 in
theorem add_yes (w : World) (B q u : Nat) (dv v : Value) (D T : List ByteArray) (n : Nat) (x : ByteArray) (h : LV w B q dv D u v T) (hB : B ≤ w.heap.size) (hx : D[n]? = some x) (hn : n ≤ u) (hu : u ≤ 10000000) (hT : T.length ≤ 10000000) :
    Calls Try.prog 34 #[.pointer (some ⟨q, 0, none⟩), .int .u64 (n : Nat)] w (AdPost w B q dv v D (max u (n + 1)) (T ++ [x])) := by
  obtain ⟨hnd, -⟩ := List.getElem?_eq_some_iff.1 hx
  have hm := Gn.Rd.len' h.rd
  have hg0 : ¬ (D.length : Int) ≤ (n : Int) := by omega
  have hg1 : ¬ (u : Int) < (n : Int) := by omega
  obtain ⟨a, c, rfl, hlc, -, -⟩ := Gn.Rd.form h.rd
  have hni : (n : Int) < D.length := by omega
  have hc0 : w.cell? ⟨q, 0, none⟩ = some (.slice a D.length c) := h.blk.cell 0
  have hc1 : w.cell? ⟨q, 1, none⟩ = some (.int .i64 (u : Nat)) := h.blk.cell 1
  have hf1 := h.blk.frozen 1
  have lq := h.lq
  have el : (T ++ [x]).length = T.length + 1 := by simp
  by_cases hnu : n = u
  · subst hnu
    have hmax : max n (n + 1) = n + 1 := by omega
    rw [hmax]
    have hs : Touch (fun i => i = q) w (w.setCell ⟨q, 1, none⟩ (.int .i64 ((n + 1 : Nat) : Int))) := (Touch.refl (fun i => i = q) w).setCell (p := ⟨q, 1, none⟩) rfl _
    have HT1 : Hid (Touch (lset q v) w (w.setCell ⟨q, 1, none⟩ (.int .i64 ((n + 1 : Nat) : Int)))) := Lib.hid (hs.mono (fun i hi => .inl hi))
    have HK1 : Hid (Blk (w.setCell ⟨q, 1, none⟩ (.int .i64 ((n + 1 : Nat) : Int))) q 59 [.slice a D.length c, .int .i64 ((n + 1 : Nat) : Int), v]) := Lib.hid (h.blk.put 1 _)
    have HO1 : Hid (OwnT (w.setCell ⟨q, 1, none⟩ (.int .i64 ((n + 1 : Nat) : Int))) B v T) := Lib.hid (own_touch h.own hs (fun g hg => own_blk h.own h.blk tx_ne_lst hg))
    have HR1 : Hid (RdT (w.setCell ⟨q, 1, none⟩ (.int .i64 ((n + 1 : Nat) : Int))) B (.slice a D.length c) D) := Lib.hid (Gn.Rd.below h.rd (hs.below hB (fun i hi => by rw [hi]; exact lq)) (Nat.le_refl _))
    have hB1 : B ≤ (w.setCell ⟨q, 1, none⟩ (.int .i64 ((n + 1 : Nat) : Int))).heap.size := Nat.le_trans hB hs.size
    obtain ⟨a2, c2, rfl, _⟩ := own_form h.own
    generalize hw1 : w.setCell ⟨q, 1, none⟩ (.int .i64 ((n + 1 : Nat) : Int)) = w1 at *
    have hst : w.setCell ⟨q, 1, none⟩ (.int .i64 ((n : Int) + 1)) = w1 := by rw [← hw1]; congr 2
    have k0 := HK1.out.cell 0
    have k1 := HK1.out.cell 1
    have k2 := HK1.out.cell 2
    obtain ⟨b, off, rfl, p0⟩ := rdT_cell HR1.out (Below.refl _ _) hx
    clear h hs hw1 hx
    go_enter Try.func34, Try.ntmps34
    go_wp2_with fail
    have HR2 : Hid (RdT (w1.drew.alloc (.cells #[.string x] 9)) (w1.drew.alloc (.cells #[.string x] 9)).heap.size (.slice (some ⟨w1.heap.size, 0, none⟩) 1 1) [x]) := Lib.hid (rdTx_one w1.drew x)
    have HO2 : Hid (OwnT (w1.drew.alloc (.cells #[.string x] 9)) B (.slice a2 T.length c2) T) := Lib.hid (OwnT.later (w := w1.drew) HO1.out (up_new w1.drew _))
    have k2' : (w1.alloc (.cells #[.string x] 9)).cell? ⟨q, 2, none⟩ = some (.slice a2 T.length c2) := ((up_new w1 _).cell (p := ⟨q, 2, none⟩) (Blk.lt HK1.out)).trans k2
    have HB2 : Hid (B ≤ (w1.drew.alloc (.cells #[.string x] 9)).heap.size) := Lib.hid (by rw [World.size_alloc]; exact Nat.le_succ_of_le hB1)
    have HA := Lib.hid (fun v3 w3 h3 h4 => lv_app (w1 := w1.drew) (w2 := w3) (v1 := v3) (T' := T ++ [x]) (.cells #[.string x] 9) HK1.out HR1.out hB1 HO1.out lq h3 h4)
    go_region_law (refine Gn.step_app txL txY rfl (.tmp 40) (.tmp 48) rfl B _ T rfl HO2.out _ [x] rfl HR2.out (by simp; omega) HB2.out ?_; intro v3 w3 ho3 hg3 hl3; obtain ⟨q1, q2, q3, q4⟩ := HA.out v3 w3 ho3 hg3; obtain ⟨a3, c3, hv, _⟩ := own_form ho3; rw [el] at hv; subst hv; have HL := Lib.hid q3; have HT := Lib.hid q4; clear q3 q4 ho3 hg3 hl3)
    all_goals
      go_wp2_with fail
      go_ret
      exact ⟨rfl, _, HL.out, HT1.out.trans (Touch.undrew HT.out) (fun i hi => .inl hi)⟩
  · have hmax : max u (n + 1) = u := by omega
    rw [hmax]
    have hne : ((n : Int) == (u : Int)) = false := by simp; omega
    have hne2 : ¬ (n : Int) = (u : Int) := by omega
    have HT1 : Hid (Touch (lset q v) w w) := Lib.hid (Touch.refl _ _)
    have HK1 := Lib.hid h.blk
    have HO1 := Lib.hid h.own
    have HR1 := Lib.hid h.rd
    obtain ⟨a2, c2, rfl, _⟩ := own_form h.own
    obtain ⟨w1, hw1⟩ : ∃ w1, w = w1 := ⟨_, rfl⟩
    have hB1 := hB
    have k0 := HK1.out.cell 0
    have k1 := HK1.out.cell 1
    have k2 := HK1.out.cell 2
    obtain ⟨b, off, rfl, p0⟩ := rdT_cell HR1.out (Below.refl _ _) hx
    subst hw1
    clear h hx
    go_enter Try.func34, Try.ntmps34
    go_wp2_with fail
    have HR2 : Hid (RdT (w.drew.alloc (.cells #[.string x] 9)) (w.drew.alloc (.cells #[.string x] 9)).heap.size (.slice (some ⟨w.heap.size, 0, none⟩) 1 1) [x]) := Lib.hid (rdTx_one w.drew x)
    have HO2 : Hid (OwnT (w.drew.alloc (.cells #[.string x] 9)) B (.slice a2 T.length c2) T) := Lib.hid (OwnT.later (w := w.drew) HO1.out (up_new w.drew _))
    have k2' : (w.alloc (.cells #[.string x] 9)).cell? ⟨q, 2, none⟩ = some (.slice a2 T.length c2) := ((up_new w _).cell (p := ⟨q, 2, none⟩) (Blk.lt HK1.out)).trans k2
    have HB2 : Hid (B ≤ (w.drew.alloc (.cells #[.string x] 9)).heap.size) := Lib.hid (by rw [World.size_alloc]; exact Nat.le_succ_of_le hB1)
    have HA := Lib.hid (fun v3 w3 h3 h4 => lv_app (w1 := w.drew) (w2 := w3) (v1 := v3) (T' := T ++ [x]) (.cells #[.string x] 9) HK1.out HR1.out hB1 HO1.out lq h3 h4)
    go_region_law (refine Gn.step_app txL txY rfl (.tmp 40) (.tmp 48) rfl B _ T rfl HO2.out _ [x] rfl HR2.out (by simp; omega) HB2.out ?_; intro v3 w3 ho3 hg3 hl3; obtain ⟨q1, q2, q3, q4⟩ := HA.out v3 w3 ho3 hg3; obtain ⟨a3, c3, hv, _⟩ := own_form ho3; rw [el] at hv; subst hv; have HL := Lib.hid q3; have HT := Lib.hid q4; clear q3 q4 ho3 hg3 hl3)
    all_goals
      go_wp2_with fail
      go_ret
      exact ⟨rfl, _, HL.out, HT1.out.trans (Touch.undrew HT.out) (fun i hi => .inl hi)⟩
end Go.Proofs.Ytenfjmdajlhfoaa
