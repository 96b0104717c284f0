/- Evk. -/
import Derived.Test.YtigcgkhcbmnboaaGreatDoorEvc
import Derived.Deep.RegionHeld3
import Derived.Test.YtigcgkhcbmnboaaGreatDoorShelf
/- Unkey's closure: a cell is taken off what is left. -/
namespace Go.Proofs.YtigcgkhcbmnboaaGreatDoor
open Go.RowKit Go.Sort
set_option linter.unusedVariables false
set_option maxRecDepth 100000

/-- What lies where Unkey's closure looks. -/
def UK (kb sb : Nat) (kv : Value) (x : ByteArray) (lb lo : Nat) (k : Int) (u : Bool) (w : World) : Prop :=
  w.cell? ⟨kb, 0, none⟩ = some kv ∧ w.cell? ⟨sb, 0, none⟩ = some (.string x) ∧ w.cell? ⟨lb, lo, none⟩ = some (.int .i64 k) ∧ w.cell? ⟨lb, lo + 1, none⟩ = some (.bool u)
theorem UK.later {kb sb : Nat} {kv : Value} {x : ByteArray} {lb lo : Nat} {k : Int} {u : Bool} {w w' : World} (h : UK kb sb kv x lb lo k u w) (hb : Below w.heap.size w w') : UK kb sb kv x lb lo k u w' := by
  obtain ⟨h1, h2, h3, h4⟩ := h
  exact ⟨(hb.cell (block_lt_of_cell h1)).trans h1, (hb.cell (block_lt_of_cell h2)).trans h2, (hb.cell (block_lt_of_cell h3)).trans h3, (hb.cell (block_lt_of_cell h4)).trans h4⟩
end Go.Proofs.YtigcgkhcbmnboaaGreatDoor

/- Pick, Key, Unkey. -/
namespace Go.Proofs.YtigcgkhcbmnboaaGreatDoor
open Go.RowKit Go.Sort
set_option linter.unusedVariables false
set_option maxRecDepth 100000

theorem getD_at {ps : List Int} {i : Nat} {p : Int} (h : ps[i]? = some p) : ps.getD i 0 = p := by rw [List.getD_eq_getElem?_getD, h]; rfl
/-- What answers cells and an error. -/
def RowPost (w : World) (r : Nat × List Cl.C) (e : Ending) (w' : World) : Prop := ∃ u, e = .returned (.tuple #[u, .int .i64 (r.1 : Nat)]) ∧ OwnC w' w.heap.size u r.2 ∧ Below w.heap.size w w'
theorem join_none : ∀ l : List (List UInt8), Lib.join l [] = l.flatten
  | [] => rfl
  | x :: t => by rw [Lib.join_cons]; simp [Lib.joinTail]
theorem join_key (ts : List Rw.Ty) (r : List Cl.C) (ps : List Int) : (⟨(Lib.join ((ps.map fun p => str (Rw.kAt ts r p)).map (·.data.toList)) (⟨#[]⟩ : ByteArray).data.toList).toArray⟩ : ByteArray) = str (Rw.key ts ps r) := by
  rw [show ((⟨#[]⟩ : ByteArray).data.toList) = [] from rfl, join_none]
  induction ps with
  | nil => rfl
  | cons p t ih =>
    rw [List.map_cons, List.map_cons, List.flatten_cons, Rw.key_cons, str_append, ← ih]
    apply ByteArray.ext
    simp
/-- The row's key; the error. -/
theorem own_cells {w : World} {base : Nat} {u : Value} {l : List ByteArray} (h : OwnT w base u l) : (u = .slice none 0 0 ∧ l = []) ∨ ∃ g c, u = .slice (some ⟨g, 0, none⟩) l.length c ∧ g < w.heap.size ∧ l.length ≤ c ∧ ∀ (j : Nat) x, l[j]? = some x → w.cell? ⟨g, 0 + j, none⟩ = some (.string x) := by
  have hh := h
  obtain ⟨h0, h1⟩ := hh
  rcases h1 with ⟨rfl, hn⟩ | ⟨g, cap, cur, rfl, hg, hh, h2, h3, h4, h5⟩
  · exact .inl ⟨rfl, List.eq_nil_of_length_eq_zero hn⟩
  · refine .inr ⟨g, cap, rfl, ?_, h2, fun j x hx => ?_⟩
    · rcases Nat.lt_or_ge g w.heap.size with hlt | hge
      · exact hlt
      · rw [Array.getElem?_eq_none hge] at hh; cases hh
    · have hj : j < l.length := (List.getElem?_eq_some_iff.1 hx).1
      have e := World.ownsRow.cellAt (w := w) (base := base) (e := 9) (size := 1) (n := l.length) (cap := cap) (xs := Gn.cells txc l) h j (by omega)
      have c := Gn.cells_get txL l j x 0 hx (by omega)
      rw [Nat.zero_add, e]
      simpa [txc] using c
theorem joins (w : World) (base : Nat) (u : Value) (ts : List Rw.Ty) (r : List Cl.C) (ps : List Int) (h : OwnT w base u (ps.map fun p => str (Rw.kAt ts r p))) (hl : (Rw.key ts ps r).length ≤ 1000000) (hn : ps.length ≤ 100000) (x : ByteArray) (hx : str (Rw.key ts ps r) = x) :
    Calls Tryz.prog 53 #[u, .string ⟨#[]⟩] w fun e w' => e = .returned (.string x) ∧ Below w.heap.size w w' := by
  subst hx
  rcases own_cells h with ⟨rfl, hz⟩ | ⟨g, c, rfl, hg, hc, hcells⟩
  · have : ps = [] := by simpa using hz
    subst this
    exact (Tryz.strings_Join_none none 0 ⟨#[]⟩ w).mono fun e w' ⟨h1, h2⟩ => ⟨h1, by rw [h2]; exact Below.refl _ _⟩
  · have hk := join_key ts r ps
    have hlen : (Lib.join ((ps.map fun p => str (Rw.kAt ts r p)).map (·.data.toList)) (⟨#[]⟩ : ByteArray).data.toList).length = (Rw.key ts ps r).length := by
      have := congrArg ByteArray.size hk
      rw [str_size] at this
      rw [← this]
      simp [ByteArray.size]
    exact (Tryz.strings_Join g 0 c (ps.map fun p => str (Rw.kAt ts r p)) ⟨#[]⟩ w hcells hg (by rw [List.length_map]; omega) hc (by rw [hlen]; omega)).mono fun e w' ⟨h1, h2⟩ => ⟨by rw [h1, hk], h2⟩
theorem range_key (ts : List Rw.Ty) (r : List Cl.C) (ps : List Int) : (List.range ps.length).map (fun i => str (Rw.kAt ts r (ps.getD i 0))) = ps.map fun p => str (Rw.kAt ts r p) := by
  apply List.ext_getElem?
  intro j
  rw [List.getElem?_map, List.getElem?_map]
  by_cases hj : j < ps.length
  · rw [List.getElem?_range hj, List.getElem?_eq_getElem hj]
    simp [List.getD_eq_getElem?_getD, List.getElem?_eq_getElem hj]
  · rw [List.getElem?_eq_none (by simp; omega), List.getElem?_eq_none (by omega)]; rfl
set_option maxHeartbeats 4000000 in
theorem rowKey (kv pv rv : Value) (ks : List Co) (ps : List Int) (r : List Cl.C) (w : World) (T : TA w) (hk : RdK w w.heap.size kv ks) (hp : RdI w w.heap.size pv ps) (hr : RdC w w.heap.size rv r) (hl : ps.length ≤ 100000) (hrl : r.length ≤ 1000000) (hi : ∀ c ∈ r, Cl.I64 c.n) (hm : ∀ c ∈ r, c.s.size ≤ 1000000)
    (hkl : (Rw.key (tys ks) ps r).length ≤ 1000000) (a : Int × List Nat) (ha : Rw.keyR (tys ks) ps r = a) (x : ByteArray) (hx : str a.2 = x) :
    Calls Tryz.prog 30 #[kv, pv, rv] w fun e w' => e = .returned (.tuple #[.string x, .int .i64 a.1]) ∧ Below w.heap.size w w' := by
  have b1 := box_new w (.cells #[kv] 22)
  have b2 := box_new (w.alloc (.cells #[kv] 22)) (.cells #[rv] 26)
  have HB := Lib.hid (up b1 b2)
  have HX := Lib.hid (Blk.later (Blk.new w 22 #[kv]) b2)
  have HY := Blk.new (w.alloc (.cells #[kv] 22)) 26 #[rv]
  rw [show (w.alloc (.cells #[kv] 22)).heap.size = w.heap.size + 1 by simp] at HY
  have HY := Lib.hid HY
  have HT := Lib.hid (T.later HB.out)
  have HK := Lib.hid (hk.later HB.out)
  have HR := Lib.hid (hr.later HB.out)
  have HP := Lib.hid (hp.later HB.out)
  obtain ⟨ka, kc, rfl, _⟩ := Gn.Rd.form hk
  obtain ⟨ra, rc, rfl, _⟩ := Gn.Rd.form hr
  have h0 : ((w.alloc (.cells #[.slice ka ks.length kc] 22)).alloc (.cells #[.slice ra r.length rc] 26)).cell? ⟨w.heap.size, 0, none⟩ = some (.slice ka ks.length kc) := HX.out.cell 0
  have h1 : ((w.alloc (.cells #[.slice ka ks.length kc] 22)).alloc (.cells #[.slice ra r.length rc] 26)).cell? ⟨w.heap.size + 1, 0, none⟩ = some (.slice ra r.length rc) := HY.out.cell 0
  have HI := Lib.hid hi
  have HM := Lib.hid hm
  have HL := Lib.hid hkl
  have HXX := Lib.hid hx
  have HA := Lib.hid ha
  clear ha
  obtain ⟨d, hd⟩ : ∃ d, Rw.chkR (tys ks) r = d := ⟨_, rfl⟩
  clear hk hr hp b1 b2 T hi hm hkl hx
  have HC := Lib.hid (rowCheck _ _ ks r _ HT.out HK.out HR.out hrl HI.out HM.out d hd)
  have HDD := Lib.hid hd
  clear hd
  go_enter Tryz.func30, Tryz.ntmps30
  go_wp2_with fail
  generalize hwb : (w.alloc (.cells #[.slice ka ks.length kc] 22)).alloc (.cells #[.slice ra r.length rc] 26) = wb at *
  have hsz : wb.heap.size = w.heap.size + 2 := by rw [← hwb]; simp
  ((with_reducible refine (HC.out).mono ?_); rintro e w1 ⟨rfl, b1⟩)
  have HB1 := Lib.hid b1
  have q0 : w1.cell? ⟨w.heap.size, 0, none⟩ = some (.slice ka ks.length kc) := (b1.cell (block_lt_of_cell h0)).trans h0
  have q1 : w1.cell? ⟨w.heap.size + 1, 0, none⟩ = some (.slice ra r.length rc) := (b1.cell (block_lt_of_cell h1)).trans h1
  clear b1 HC h0 h1
  by_cases hc : d = 0
  · subst hc
    have HCC := HDD
    have HB2 := Lib.hid (up HB.out HB1.out)
    have HK1 := Lib.hid (HK.out.later HB1.out)
    have HR1 := Lib.hid (HR.out.later HB1.out)
    have HP1 := Lib.hid (HP.out.later HB1.out)
    have HX1 := Lib.hid (Blk.later HX.out HB1.out)
    have HY1 := Lib.hid (Blk.later HY.out HB1.out)
    have HT1 := Lib.hid (HT.out.later HB1.out)
    clear HK HR HP HX HY HT HB HB1 hwb hsz HDD
    go_wp2_with fail
    by_cases hok : Rw.okP ps r.length = false
    · obtain rfl : a = (6, []) := by rw [← HA.out]; unfold Rw.keyR; rw [if_neg (by rw [HCC.out]; simp), if_pos hok]
      obtain rfl : x = ⟨#[]⟩ := HXX.out.symm
      ((with_reducible refine (gatherS_no pv _ ps r.length w1 HP1.out (by omega) hok).mono ?_); rintro e w2 ⟨rfl, b2⟩)
      have HB3 := Lib.hid (up HB2.out b2)
      clear b2
      go_wp2_with fail
      ((with_reducible refine (Tryz.strings_Join_none none 0 ⟨#[]⟩ w2).mono ?_); rintro e w3 ⟨rfl, rfl⟩)
      go_wp2_with fail
      go_ret2
      exact ⟨rfl, HB3.out⟩
    · have hok1 : Rw.okP ps r.length = true := by cases h : Rw.okP ps r.length with | false => exact absurd h hok | true => rfl
      obtain rfl : a = (0, Rw.key (tys ks) ps r) := by rw [← HA.out]; unfold Rw.keyR; rw [if_neg (by rw [HCC.out]; simp), if_neg hok]
      obtain ⟨hrk, hall⟩ := Rw.chkR_ok HCC.out
      rw [tys_len] at hrk
      ((with_reducible refine (gatherKey (fun _ => False) w1.heap.size pv ps r.length w.heap.size (w.heap.size + 1) (fun _ w2 => Below w1.heap.size w1 w2) (fun i => str (Rw.kAt (tys ks) r (ps.getD i 0))) ps.length 1 w1 HP1.out (Nat.le_refl _) (fun _ h => h.elim) hl hok1 (Nat.le_refl _)
        (Below.refl _ _) (fun _ w1 w2 h _ hb => h.trans hb) (fun i p w2 hi hpi hj hz => ?_) (fun p w1 h => absurd h (by omega))).mono ?_))
      · rw [getD_at hpi]
        have hpr := Rw.okP_at hok1 hpi
        obtain ⟨g1, g2⟩ := hall p hpr
        have hX := HX1.out
        have hY := HY1.out
        exact (clKey w.heap.size (w.heap.size + 1) _ _ ks r w2 (HT1.out.later hj) w1.heap.size w1 HK1.out HR1.out hj hz ((hj.block _ (Blk.lt hX)).trans hX) ((hj.block _ (Blk.lt hY)).trans hY) p hpr hrk HI.out HM.out _ (by simp [Cl.chk, g1, g2]) rfl).mono fun e w3 ⟨h1, h2⟩ => ⟨h1, hj.trans (h2.mono hz), Touch.of_below h2⟩
      rintro e w2 ⟨-, h2, ht⟩
      obtain ⟨u, rfl, ho, hj⟩ := h2 rfl
      rw [range_key] at ho
      have HJ := Lib.hid (joins w2 _ u (tys ks) r ps ho HL.out hl x HXX.out)
      have HB3 := Lib.hid (up HB2.out hj)
      clear h2 ht ho hj
      go_wp2_with fail
      ((with_reducible refine (HJ.out).mono ?_); rintro e w3 ⟨rfl, b3⟩)
      have HB4 := Lib.hid (up HB3.out b3)
      clear b3
      go_wp2_with fail
      go_ret2
      exact ⟨rfl, HB4.out⟩
  · obtain rfl : a = (d, []) := by rw [← HA.out]; unfold Rw.keyR; rw [HDD.out, if_pos hc]
    obtain rfl : x = ⟨#[]⟩ := HXX.out.symm
    have hne : (d != 0) = true := by simpa using hc
    have HB2 := Lib.hid (up HB.out HB1.out)
    clear hc HA HDD
    go_wp2_with fail
    go_ret2
    exact ⟨rfl, HB2.out⟩
end Go.Proofs.YtigcgkhcbmnboaaGreatDoor
