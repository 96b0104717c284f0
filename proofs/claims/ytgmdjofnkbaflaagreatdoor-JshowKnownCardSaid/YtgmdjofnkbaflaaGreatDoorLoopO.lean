/- The closure that goes over a tape: objects; all values. -/
import Derived.Test.YtgmdjofnkbaflaaGreatDoorLoop
namespace Go.Proofs.YtgmdjofnkbaflaaGreatDoor
open Go.RowKit
set_option linter.unusedVariables false
set_option maxRecDepth 100000

theorem LI.moved {w wr w' : World} {l : List Nd} {a δ s db : Nat} {d : Int} {k : Int} {C : Fo} (h : LI w wr l a δ d s db k C) (hdb : db < w.heap.size) {S : Nat → Prop} (ht : Touch S wr w') (hS : ∀ i, S i → w.heap.size ≤ i) : LI w w' l a δ d s db k C :=
  ⟨h.at_, h.gd, h.ks, h.le, h.dp, h.touch.trans ht (fun i hi => .inr (hS i hi)), h.cell.touch ht (fun hi => by have := hS _ hi; omega)⟩
theorem val_keys {l : List Nd} {p m : Nat} {G : Fo} {z : Nd} (hG : Tp.Val l p m G) (hz : l[p]? = some z) : Tp.keys G = [z.key] := by
  obtain ⟨⟨gk, gy, gn, gs, gc, rfl⟩, hA, _⟩ := hG
  have h0 := (Tp.at_node.1 hA).1
  rw [hz] at h0
  obtain rfl : z = _ := by injection h0
  rfl
set_option maxHeartbeats 8000000 in
theorem value_obj (B : Nat) (v : Value) (l : List Nd) (tb db vb n a m δ : Nat) (IH : VClaim B v l tb db vb n) (M D d : Int) (w : World) (x : Nd) (hx : l[a]? = some x) (hn : l.length - (a + 1) ≤ n) (hl : l.length ≤ 4000) (ham : a + m ≤ l.length) (hM : M = m) (hD : D = δ) (hδ : 1 ≤ δ) (hδ2 : δ ≤ a + 1) (d0 : 0 ≤ d) (d1 : d ≤ 4000) (T : Tab w) (V : VS w B v l tb db vb) (hb : Blk w db 3 [.int .i64 d])
    (hf : Tp.hf x.kind x.n x.s) (hk : x.kind = 7) (s : Nat) (hs : x.size = s) (hs2 : 2 ≤ s) (hsm : s ≤ m) :
    Calls Tryz.prog 169 #[.int .i64 a, .int .i64 M, .int .i64 D, .pointer (some ⟨tb, 0, none⟩), .pointer (some ⟨db, 0, none⟩), .pointer (some ⟨vb, 0, none⟩)] w fun e w' => VPost w l db a m δ d e w' := by
  have hlt : a < l.length := (List.getElem?_eq_some_iff.1 hx).1
  have hlt' : (a : Int) < l.length := by omega
  have hNok := V.ok x (List.mem_of_getElem? hx)
  obtain ⟨ad, c, rfl, hc1, hc2, _⟩ := Gn.Rd.form V.rd
  obtain ⟨b, off, rfl, c0, c1, c2, c3, c4⟩ := V.cells hx
  have ct := V.t.cell 0
  simp only [List.getElem?_cons_zero] at ct
  have HV := Lib.hid V
  have HB := Lib.hid hb
  have HT := Lib.hid T
  have CF := fields x _ (T.later (up_new w (.cells #[.int .i64 x.kind, .string x.key, .int .i64 x.n, .string x.s, .int .i64 x.size] 28))) hNok true ⟨fun _ => ⟨hf, fun h => by omega⟩, fun _ => rfl⟩
  unfold ndv at CF
  have HNO := Lib.hid (fun (wr : World) (C : Fo) (h : LI w wr l a δ d s db x.kind C) p hp hlt z hz hno => LI.no (m := m) (p := p) (z := z) h hx hs hp hlt hz hno)
  have HEND := Lib.hid (fun (wr : World) (C : Fo) (h : LI w wr l a δ d s db x.kind C) => LI.last (m := m) h hx hf hs (by omega) hsm hδ)
  clear hNok hf hb T
  obtain ⟨kk, ky, kn, ks, kz⟩ := x
  simp only at c0 c1 c2 c3 c4 CF HNO HEND hk hs
  subst hk hs
  have HN := Lib.hid (Blk.new w 28 #[.int .i64 7, .string ky, .int .i64 kn, .string ks, .int .i64 s])
  have HU := Lib.hid (up_new w (.cells #[.int .i64 7, .string ky, .int .i64 kn, .string ks, .int .i64 s] 28))
  have hdb := HB.out.lt
  have CT := Lib.hid CF
  have hs1 : ¬ ((s : Int) < 1) := by omega
  have hs3 : ¬ ((s : Int) = 1) := by omega
  have hs4 : ¬ (M < s) := by omega
  clear CF hx
  go_enter Tryz.func169, Tryz.ntmps169
  go_wp2_with fail
  ((with_reducible refine (CT.out).mono ?_); rintro e w2 ⟨rfl, b2⟩)
  have n4 : w2.cell? ⟨w.heap.size, 4, none⟩ = some (.int .i64 s) := (HN.out.later b2).cell 4
  have HN2 := Lib.hid (HN.out.later b2)
  have HB2 := Lib.hid (up HU.out b2)
  have cd2 : w2.cell? ⟨db, 0, none⟩ = some (.int .i64 d) := (HB.out.later HB2.out).cell 0
  have fd2 : w2.frozen? ⟨db, 0, none⟩ = false := (HB.out.later HB2.out).frozen 0
  have n0 : ∀ u, (w2.setCell ⟨db, 0, none⟩ u).cell? ⟨w.heap.size, 0, none⟩ = some (.int .i64 7) := fun u => (HN2.out.touch (Touch.setCell (S := fun i => i = db) (p := ⟨db, 0, none⟩) (Touch.refl _ _) rfl u) (by omega)).cell 0
  have n5 : ∀ u, (w2.setCell ⟨db, 0, none⟩ u).cell? ⟨w.heap.size, 4, none⟩ = some (.int .i64 s) := fun u => (HN2.out.touch (Touch.setCell (S := fun i => i = db) (p := ⟨db, 0, none⟩) (Touch.refl _ _) rfl u) (by omega)).cell 4
  have CK := Lib.hid (fun w => keysof_obj w)
  have HST := Lib.hid (LI.start (w := w) (l := l) (a := a) (s := s) (k := 7) (δ := δ) (d := d) (db := db) (wr := w2.setCell ⟨db, 0, none⟩ (.int .i64 (max d δ))) (by omega) d0 (by omega) (Touch.setCell (p := ⟨db, 0, none⟩) (Touch.of_below (S := fun i => i = db) HB2.out) rfl _) ((HB.out.later HB2.out).put 0 _))
  clear b2 c0 c1 c2 c3 c4 ct
  go_wp2_with fail
  ((with_reducible refine (CK.out _).mono ?_); rintro e w4 ⟨mm, gg, rfl, hset, hgg, b4⟩)
  have n6 : w4.cell? ⟨w.heap.size, 4, none⟩ = some (.int .i64 s) := ((HN2.out.touch (Touch.setCell (S := fun i => i = db) (p := ⟨db, 0, none⟩) (Touch.refl _ _) rfl (.int .i64 (max d δ))) (by omega)).later b4).cell 4
  generalize w2.setCell ⟨db, 0, none⟩ (.int .i64 (max d δ)) = w3 at *
  have hw3 : w.heap.size ≤ w3.heap.size := HST.out.touch.size
  have hmm0 : w.heap.size ≤ mm := by have := hset.1; omega
  have hgg0 : w.heap.size ≤ gg := by omega
  have HST := Lib.hid (HST.out.moved hdb (Touch.of_below (S := fun _ => False) b4) (fun i h => h.elim))
  have HSET := Lib.hid (And.intro hset hmm0)
  clear b4 hset hgg hw3
  go_wp2_with fail
  clear HN HU HN2 n6 n0 n4 n5 cd2 fd2 CT CK HB2 hs1 hs3 hs4
  go_loopw [13] (fun i wr => ∃ (p : Nat) (C : Fo), a + 1 + Tp.sz C = p ∧ i = .int .i64 (p : Nat) ∧ Hid (LI w wr l a δ d s db 7 C) ∧ Hid (SetV wr w3.heap.size mm gg (Tp.keys C))) (fun i _ => (a + s) - (intOf i).toNat)
  case atStart => exact ⟨a + 1, .nil, by simp, by go_num, HST, Lib.hid HSET.out.1⟩
  case round =>
    obtain ⟨p, C, hp, rfl, HI, HS⟩ := hrel
    by_cases hpl : p < a + s
    · have hpl' : (p : Int) < a + s := by omega
      have hll : p < l.length := by omega
      have hll' : (p : Int) < l.length := by omega
      obtain ⟨z, hz⟩ : ∃ z, l[p]? = some z := ⟨_, List.getElem?_eq_getElem hll⟩
      have V2 := HV.out.touch HI.out.touch
      obtain ⟨b', off', e, z0, z1, z2, z3, z4⟩ := V2.cells hz
      obtain ⟨rfl, rfl⟩ : b = b' ∧ off = off' := by injection e with e; injection e with e1 e2; exact ⟨e1, e2⟩
      clear e
      have ct := V2.t.cell 0
      have cf := V2.f.cell 0
      simp only [List.getElem?_cons_zero, mfn] at ct cf
      have CA := Lib.hid (asks_obj z.key (Tp.keys C) _ mm gg wr (HV.out.tab HT.out HI.out.touch) (HV.out.ok z (List.mem_of_getElem? hz)).2.1 HS.out)
      have hpa : a + 1 ≤ p := by omega
      have HP := Lib.hid hp
      have HZ := Lib.hid hz
      clear hp
      clear z0 z2 z3 z4
      go_wp2_with fail
      ((with_reducible refine (CA.out).mono ?_); rintro e w5 ⟨rfl, ht5, hs5⟩)
      have HI5 := Lib.hid (HI.out.moved hdb ht5 (fun i hi => by rw [hi]; exact HSET.out.2))
      have V2 := HV.out.touch HI5.out.touch
      have ct5 := V2.t.cell 0
      have cf5 := V2.f.cell 0
      simp only [List.getElem?_cons_zero, mfn] at ct5 cf5
      clear ct cf
      by_cases hy : okey (Tp.keys C) z.key = 0
      · have HK := Lib.hid ((okey_ok z.key (Tp.keys C)).1 hy)
        have HS5 := Lib.hid (hs5 hy)
        rw [hy]
        have CI := Lib.hid (IH p (a + s - p) (δ + 1) (a + s - p) (δ + 1) (max d (δ + Tp.dep C)) w5 (by omega) (by omega) (by omega) (by omega) (by omega) (by omega) (by omega) (by have := HI5.out.dp; omega) HI5.out.dp.2 (HV.out.tab HT.out HI5.out.touch) V2 HI5.out.cell)
        clear hy hs5 ht5
        go_wp2_with fail
        ((with_reducible refine (CI.out).mono ?_); rintro e w6 ⟨bb, d', rfl, hb', hd', hdr, ht, hbk⟩)
        by_cases hv : Tp.Vp l p (a + s - p)
        · obtain rfl : bb = true := hb'.2 hv
          obtain ⟨G, hG⟩ := hv
          have HX := Lib.hid (HI5.out.next HP.out hpl HZ.out HK.out hG (hd' G hG) hdr.2 ht hbk)
          have V3 := V2.touch ht
          have ct3 := V3.t.cell 0
          obtain ⟨b', off', e, _, _, _, _, y4⟩ := V3.cells HZ.out
          obtain ⟨rfl, rfl⟩ : b = b' ∧ off = off' := by injection e with e; injection e with e1 e2; exact ⟨e1, e2⟩
          simp only [List.getElem?_cons_zero] at ct3
          rw [HX.out.1] at y4
          have hG1 : 1 ≤ Tp.sz G := by obtain ⟨⟨_, _, _, _, _, rfl⟩, _⟩ := hG; rw [Tp.sz_node]; omega
          have hG2 : (p : Int) + Tp.sz G ≤ 4000 := by have := hG.2.2.2; omega
          have HS6 := Lib.hid (HS5.out.touch ht (fun e => by have := HSET.out.2; omega) (fun e => by omega))
          rw [← val_keys hG HZ.out, ← Tp.keys_app] at HS6
          clear e hb' hd' hdr hG ht hbk CI CA ct5 cf5 z1 V2 V3
          go_wp2_with fail
          go_roundw
          case rel => exact ⟨p + Tp.sz G, Tp.app C G, by have := HP.out; rw [Tp.sz_app]; omega, by go_num, Lib.hid HX.out.2, HS6⟩
          case measure => simp [intOf]; omega
        · have hbf : bb = false := by cases bb with
            | false => rfl
            | true => exact absurd (hb'.1 rfl) hv
          subst hbf
          have HF := Lib.hid (VPost.no (w := w) (d := d) (δ := δ) (HNO.out w5 C HI5.out p HP.out hpl z HZ.out (.inr hv)) hdr (HI5.out.touch.trans ht (fun i hi => .inl hi)) hbk)
          clear hb' hd' hdr ht hbk CI CA ct5 cf5 z1 V2 hv
          go_wp2_with fail
          go_ret
          exact HF.out
      · have hno : ¬ Tp.k1 7 (Tp.keys C) z.key := fun h => hy ((okey_ok z.key (Tp.keys C)).2 h)
        have HF := Lib.hid (VPost.no (w := w) (d := d) (δ := δ) (HNO.out w5 C HI5.out p HP.out hpl z HZ.out (.inl hno)) (by have := HI5.out.dp; omega) HI5.out.touch HI5.out.cell)
        have hy2 : ((okey (Tp.keys C) z.key : Int) != 0) = true := by simpa using hy
        clear hno hy hs5 ht5
        go_wp2_with fail
        go_ret
        exact HF.out
    · have hpl' : ¬ (p : Int) < a + s := by omega
      have HF := Lib.hid (HEND.out wr C HI.out (by omega))
      clear hp
      go_wp2_with fail
      go_ret
      exact HF.out
end Go.Proofs.YtgmdjofnkbaflaaGreatDoor
