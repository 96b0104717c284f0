/- The closure that goes over a tape: lists and objects, part by part; all values. -/
import Derived.Test.YtgmdjofnkbaflaaGreatDoorValue
namespace Go.Proofs.YtgmdjofnkbaflaaGreatDoor
open Go.RowKit
set_option linter.unusedVariables false
set_option maxRecDepth 100000

/-- What is known between two parts. -/
structure LI (w wr : World) (l : List Nd) (a δ : Nat) (d : Int) (s db : Nat) (k : Int) (C : Fo) : Prop where
  at_ : Tp.At l (a + 1) C
  gd : Tp.good C
  ks : Tp.ko k (Tp.keys C)
  le : 1 + Tp.sz C ≤ s
  dp : 0 ≤ d ∧ (max d (δ + Tp.dep C)) ≤ 4000
  touch : Touch (fun i => i = db) w wr
  cell : Blk wr db 3 [.int .i64 (max d (δ + Tp.dep C))]
theorem LI.start {w wr : World} {l : List Nd} {a δ s db : Nat} {d : Int} {k : Int} (hs : 1 ≤ s) (h0 : 0 ≤ d) (h1 : max d δ ≤ 4000) (ht : Touch (fun i => i = db) w wr) (hb : Blk wr db 3 [.int .i64 (max d δ)]) : LI w wr l a δ d s db k .nil :=
  ⟨Tp.At.nil _ _, trivial, Tp.ko_nil _, by simp; omega, ⟨h0, by simpa [Tp.dep] using h1⟩, ht, by simpa [Tp.dep] using hb⟩
theorem LI.no {w wr : World} {l : List Nd} {a δ s db m : Nat} {d : Int} {x z : Nd} {C : Fo} {p : Nat} (h : LI w wr l a δ d s db x.kind C) (hx : l[a]? = some x) (hs : x.size = s) (hp : a + 1 + Tp.sz C = p) (hlt : p < a + s) (hz : l[p]? = some z)
    (hno : ¬ Tp.k1 x.kind (Tp.keys C) z.key ∨ ¬ Tp.Vp l p (a + s - p)) : ¬ Tp.Vp l a m := by
  intro hv
  obtain ⟨z', h1, h2, h3⟩ := Tp.vp_next hv hx h.at_ (by rw [hs]; omega)
  rw [hp] at h1 h3
  rw [hz] at h1
  obtain rfl : z = z' := by injection h1
  rw [hs, show (s : Int).toNat - 1 - Tp.sz C = a + s - p by omega] at h3
  exact hno.elim (fun h => h h2) (fun h => h h3)
theorem LI.next {w wr w' : World} {l : List Nd} {a δ s db : Nat} {d d' : Int} {k : Int} {z : Nd} {C G : Fo} {p : Nat} (h : LI w wr l a δ d s db k C) (hp : a + 1 + Tp.sz C = p) (hlt : p < a + s) (hz : l[p]? = some z)
    (hk : Tp.k1 k (Tp.keys C) z.key) (hG : Tp.Val l p (a + s - p) G) (hd' : d' = max (max d (δ + Tp.dep C)) (((δ + 1 : Nat) : Int) + Tp.dep G - 1)) (hr : d' ≤ 4000) (ht : Touch (fun i => i = db) wr w') (hb : Blk w' db 3 [.int .i64 d']) :
    z.size = (Tp.sz G : Nat) ∧ LI w w' l a δ d s db k (Tp.app C G) := by
  obtain ⟨⟨gk, gy, gn, gs, gc, rfl⟩, hA, hg, hm⟩ := hG
  have h0 := (Tp.at_node.1 hA).1
  rw [hz] at h0
  obtain rfl : z = _ := by injection h0
  have hdd : d' = max d (δ + Tp.dep (Tp.app C (.node gk gy gn gs gc .nil))) := by rw [hd', Tp.dep_app]; omega
  refine ⟨by rw [Tp.sz_node]; simp, Tp.at_app.2 ⟨h.at_, by rw [hp]; exact hA⟩, (Tp.good_app _ _).2 ⟨h.gd, hg⟩, ?_, by rw [Tp.sz_app]; omega, ⟨h.dp.1, by omega⟩, h.touch.trans ht (fun i hi => .inl hi), by rw [← hdd]; exact hb⟩
  rw [Tp.keys_app]
  exact (Tp.ko_snoc k _ gy).2 ⟨h.ks, hk⟩
theorem LI.last {w wr : World} {l : List Nd} {a δ s db m : Nat} {d : Int} {x : Nd} {C : Fo} (h : LI w wr l a δ d s db x.kind C) (hx : l[a]? = some x) (hf : Tp.hf x.kind x.n x.s) (hs : x.size = s) (hk5 : ¬ x.kind ≤ 5) (hm : s ≤ m) (hδ : 1 ≤ δ) (hge : ¬ a + 1 + Tp.sz C < a + s) :
    VPost w l db a m δ d (.returned (.bool true)) wr := by
  have e : 1 + Tp.sz C = s := by have := h.le; omega
  refine VPost.yes (Tp.vp_kids hx hf (fun h => absurd h hk5) h.at_ (by rw [hs, ← e]; simp) h.ks h.gd (by rw [hs]; omega)) ?_ (And.intro (by have := h.dp; omega) h.dp.2) h.touch h.cell
  simp only [Tp.dep]
  omega

set_option maxHeartbeats 8000000 in
theorem value_list (B : Nat) (v : Value) (l : List Nd) (tb db vb n a m δ : Nat) (IH : VClaim B v l tb db vb n) (M D d : Int) (w : World) (x : Nd) (hx : l[a]? = some x) (hn : l.length - (a + 1) ≤ n) (hl : l.length ≤ 4000) (ham : a + m ≤ l.length) (hM : M = m) (hD : D = δ) (hδ : 1 ≤ δ) (hδ2 : δ ≤ a + 1) (d0 : 0 ≤ d) (d1 : d ≤ 4000) (T : Tab w) (V : VS w B v l tb db vb) (hb : Blk w db 3 [.int .i64 d])
    (hf : Tp.hf x.kind x.n x.s) (hk : x.kind = 6) (s : Nat) (hs : x.size = s) (hs2 : 2 ≤ s) (hsm : s ≤ m) :
    Calls Tryz.prog 169 #[.int .i64 a, .int .i64 M, .int .i64 D, .pointer (some ⟨tb, 0, none⟩), .pointer (some ⟨db, 0, none⟩), .pointer (some ⟨vb, 0, none⟩)] w fun e w' => VPost w l db a m δ d e w' := by
  have hlt : a < l.length := (List.getElem?_eq_some_iff.1 hx).1
  have hlt' : (a : Int) < l.length := by omega
  have hNok := V.ok x (List.mem_of_getElem? hx)
  obtain ⟨ad, c, rfl, hc1, hc2, _⟩ := Gn.Rd.form V.rd
  obtain ⟨b, off, rfl, c0, c1, c2, c3, c4⟩ := V.cells hx
  have ct := V.t.cell 0
  simp only [List.getElem?_cons_zero] at ct
  have HV := Lib.hid V
  have HB := Lib.hid hb
  have HT := Lib.hid T
  have CF := fields x _ (T.later (up_new w (.cells #[.int .i64 x.kind, .string x.key, .int .i64 x.n, .string x.s, .int .i64 x.size] 28))) hNok true ⟨fun _ => ⟨hf, fun h => by omega⟩, fun _ => rfl⟩
  unfold ndv at CF
  have HNO := Lib.hid (fun (wr : World) (C : Fo) (h : LI w wr l a δ d s db x.kind C) p hp hlt z hz hno => LI.no (m := m) (p := p) (z := z) h hx hs hp hlt hz hno)
  have HEND := Lib.hid (fun (wr : World) (C : Fo) (h : LI w wr l a δ d s db x.kind C) => LI.last (m := m) h hx hf hs (by omega) hsm hδ)
  clear hNok hf hb T
  obtain ⟨kk, ky, kn, ks, kz⟩ := x
  simp only at c0 c1 c2 c3 c4 CF HNO HEND hk hs
  subst hk hs
  have HN := Lib.hid (Blk.new w 28 #[.int .i64 6, .string ky, .int .i64 kn, .string ks, .int .i64 s])
  have HU := Lib.hid (up_new w (.cells #[.int .i64 6, .string ky, .int .i64 kn, .string ks, .int .i64 s] 28))
  have hdb := HB.out.lt
  have CT := Lib.hid CF
  have hs1 : ¬ ((s : Int) < 1) := by omega
  have hs3 : ¬ ((s : Int) = 1) := by omega
  have hs4 : ¬ (M < s) := by omega
  clear CF hx
  go_enter Tryz.func169, Tryz.ntmps169
  go_wp2_with fail
  ((with_reducible refine (CT.out).mono ?_); rintro e w2 ⟨rfl, b2⟩)
  have n4 : w2.cell? ⟨w.heap.size, 4, none⟩ = some (.int .i64 s) := (HN.out.later b2).cell 4
  have HN2 := Lib.hid (HN.out.later b2)
  have HB2 := Lib.hid (up HU.out b2)
  have cd2 : w2.cell? ⟨db, 0, none⟩ = some (.int .i64 d) := (HB.out.later HB2.out).cell 0
  have fd2 : w2.frozen? ⟨db, 0, none⟩ = false := (HB.out.later HB2.out).frozen 0
  have n0 : ∀ u, (w2.setCell ⟨db, 0, none⟩ u).cell? ⟨w.heap.size, 0, none⟩ = some (.int .i64 6) := fun u => (HN2.out.touch (Touch.setCell (S := fun i => i = db) (p := ⟨db, 0, none⟩) (Touch.refl _ _) rfl u) (by omega)).cell 0
  have n5 : ∀ u, (w2.setCell ⟨db, 0, none⟩ u).cell? ⟨w.heap.size, 4, none⟩ = some (.int .i64 s) := fun u => (HN2.out.touch (Touch.setCell (S := fun i => i = db) (p := ⟨db, 0, none⟩) (Touch.refl _ _) rfl u) (by omega)).cell 4
  have CK := Lib.hid (fun w => keysof_list 6 (by decide) w)
  have HST := Lib.hid (LI.start (w := w) (l := l) (a := a) (s := s) (k := 6) (δ := δ) (d := d) (db := db) (wr := w2.setCell ⟨db, 0, none⟩ (.int .i64 (max d δ))) (by omega) d0 (by omega) (Touch.setCell (p := ⟨db, 0, none⟩) (Touch.of_below (S := fun i => i = db) HB2.out) rfl _) ((HB.out.later HB2.out).put 0 _))
  clear b2 c0 c1 c2 c3 c4 ct
  go_wp2_with fail
  ((with_reducible refine (CK.out _).mono ?_); rintro e w3 ⟨rfl, rfl⟩)
  go_wp2_with fail
  generalize w2.setCell ⟨db, 0, none⟩ (.int .i64 (max d δ)) = w3 at *
  clear HN HU HN2 n0 n4 n5 cd2 fd2 CT CK HB2 hs1 hs3 hs4
  go_loopw [13] (fun i wr => ∃ (p : Nat) (C : Fo), a + 1 + Tp.sz C = p ∧ i = .int .i64 (p : Nat) ∧ Hid (LI w wr l a δ d s db 6 C)) (fun i _ => (a + s) - (intOf i).toNat)
  case atStart => exact ⟨a + 1, .nil, by simp, by go_num, HST⟩
  case round =>
    obtain ⟨p, C, hp, rfl, HI⟩ := hrel
    by_cases hpl : p < a + s
    · have hpl' : (p : Int) < a + s := by omega
      have hll : p < l.length := by omega
      have hll' : (p : Int) < l.length := by omega
      obtain ⟨z, hz⟩ : ∃ z, l[p]? = some z := ⟨_, List.getElem?_eq_getElem hll⟩
      have V2 := HV.out.touch HI.out.touch
      obtain ⟨b', off', e, z0, z1, z2, z3, z4⟩ := V2.cells hz
      obtain ⟨rfl, rfl⟩ : b = b' ∧ off = off' := by injection e with e; injection e with e1 e2; exact ⟨e1, e2⟩
      clear e
      have ct := V2.t.cell 0
      have cf := V2.f.cell 0
      simp only [List.getElem?_cons_zero, mfn] at ct cf
      have CA := ask_list z.key wr
      have hpa : a + 1 ≤ p := by omega
      have HP := Lib.hid hp
      have HZ := Lib.hid hz
      clear hp
      by_cases hy : z.key.size = 0
      · have e0 : lkey z.key = 0 := by rw [lkey, if_pos hy]
        rw [e0] at CA
        have HK := Lib.hid ((lkey_ok z.key 6 (Tp.keys C) (by decide)).1 e0)
        have CI := Lib.hid (IH p (a + s - p) (δ + 1) (a + s - p) (δ + 1) (max d (δ + Tp.dep C)) wr (by omega) (by omega) (by omega) (by omega) (by omega) (by omega) (by omega) (by have := HI.out.dp; omega) HI.out.dp.2 (HV.out.tab HT.out HI.out.touch) V2 HI.out.cell)
        clear e0 z0 z2 z3 z4
        go_wp2_with fail
        ((with_reducible refine (CA).mono ?_); rintro e w3 ⟨rfl, rfl⟩)
        go_wp2_with fail
        ((with_reducible refine (CI.out).mono ?_); rintro e w3 ⟨bb, d', rfl, hb', hd', hdr, ht, hbk⟩)
        by_cases hv : Tp.Vp l p (a + s - p)
        · obtain rfl : bb = true := hb'.2 hv
          obtain ⟨G, hG⟩ := hv
          have HX := Lib.hid (HI.out.next HP.out hpl HZ.out HK.out hG (hd' G hG) hdr.2 ht hbk)
          have V3 := V2.touch ht
          have ct3 := V3.t.cell 0
          obtain ⟨b', off', e, _, _, _, _, y4⟩ := V3.cells HZ.out
          obtain ⟨rfl, rfl⟩ : b = b' ∧ off = off' := by injection e with e; injection e with e1 e2; exact ⟨e1, e2⟩
          simp only [List.getElem?_cons_zero] at ct3
          rw [HX.out.1] at y4
          have hG1 : 1 ≤ Tp.sz G := by obtain ⟨⟨_, _, _, _, _, rfl⟩, _⟩ := hG; rw [Tp.sz_node]; omega
          have hG2 : (p : Int) + Tp.sz G ≤ 4000 := by have := hG.2.2.2; omega
          clear e hb' hd' hdr hG ht hbk CI CA ct cf z1 V2 V3 hy
          go_wp2_with fail
          go_roundw
          case rel => exact ⟨p + Tp.sz G, Tp.app C G, by have := HP.out; rw [Tp.sz_app]; omega, by go_num, Lib.hid HX.out.2⟩
          case measure => simp [intOf]; omega
        · have hbf : bb = false := by cases bb with
            | false => rfl
            | true => exact absurd (hb'.1 rfl) hv
          subst hbf
          have HF := Lib.hid (VPost.no (w := w) (d := d) (δ := δ) (HNO.out wr C HI.out p HP.out hpl z HZ.out (.inr hv)) hdr (HI.out.touch.trans ht (fun i hi => .inl hi)) hbk)
          clear hb' hd' hdr ht hbk CI CA ct cf z1 V2 hv hy
          go_wp2_with fail
          go_ret
          exact HF.out
      · have e0 : lkey z.key = 60 := by rw [lkey, if_neg hy]
        rw [e0] at CA
        have hno : ¬ Tp.k1 6 (Tp.keys C) z.key := fun h => by have := (lkey_ok z.key 6 (Tp.keys C) (by decide)).2 h; rw [e0] at this; cases this
        have HF := Lib.hid (VPost.no (w := w) (d := d) (δ := δ) (HNO.out wr C HI.out p HP.out hpl z HZ.out (.inl hno)) (by have := HI.out.dp; omega) HI.out.touch HI.out.cell)
        clear e0 z0 z2 z3 z4 hno hy
        go_wp2_with fail
        ((with_reducible refine (CA).mono ?_); rintro e w3 ⟨rfl, rfl⟩)
        go_wp2_with fail
        go_ret
        exact HF.out
    · have hpl' : ¬ (p : Int) < a + s := by omega
      have HF := Lib.hid (HEND.out wr C HI.out (by omega))
      clear hp
      go_wp2_with fail
      go_ret
      exact HF.out
end Go.Proofs.YtgmdjofnkbaflaaGreatDoor
