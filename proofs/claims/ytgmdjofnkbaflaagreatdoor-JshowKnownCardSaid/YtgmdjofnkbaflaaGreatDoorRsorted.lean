/- sorted, of the reference. -/
import Derived.Test.YtgmdjofnkbaflaaGreatDoorRsortP
import Derived.Test.YtgmdjofnkbaflaaGreatDoorMake
import Derived.Test.YtgmdjofnkbaflaaGreatDoorZk
import Derived.Deep.RegionHeld3
import Derived.BigQuiet
import Derived.Deep.RegionLaw
namespace Go.Proofs.YtgmdjofnkbaflaaGreatDoor
open Go.RowKit
set_option linter.unusedVariables false
set_option maxRecDepth 100000

def SClaim (v : Value) (l : List Nd) (n : Nat) : Prop :=
  ∀ (a : Nat) (A E : Int) (G : Fo) (m : Bool) (w : World), Tp.sz G < n → A = (a : Nat) → E = A + (Tp.sz G : Nat) → Tp.At l a G → RdN w w.heap.size v l →
    Calls Tryz.prog 147 #[v, .int .i64 A, .int .i64 E, .bool m] w fun e w' => MkPost w (Tp.flat (Tp.resF m G)) e w'
theorem dN {B : Nat} {a w : World} (h : Below B a w) (n : Nat) : Below B a (w.drewN n) := ⟨h.os, h.tape, h.output, h.size, h.block⟩
theorem own_new {w w' : World} (h : w.grownBy w' none) : Below w.heap.size w w' := (Below.refl _ _).grown h (Nat.le_refl _) (fun g hg => by cases hg)

theorem flat_one (b : Bool) (k : Int) (y : ByteArray) (n : Int) (s : ByteArray) (c : Fo) (hb : ((k : Int) == 7) = b) : Tp.flat (Tp.sT (.node k y n s c .nil)) = [(⟨k, y, n, s, 1 + (Tp.sz c : Nat)⟩ : Nd)] ++ Tp.flat (Tp.resF b c) := by
  rw [Tp.resF_one b k y n s c hb, Tp.flat_node, Tp.resF_sz]
  simp [Tp.flat]
theorem skeep {w w' : World} {b off L c q : Nat} {l : List Nd} {x : Nd} (hR : RdN w w.heap.size (.slice (some ⟨b, off, none⟩) L c) l) (hx : l[q]? = some x) (hb : Below w.heap.size w w') :
    Below w.heap.size w w' ∧ (w'.cell? ⟨b, off + q * 5, none⟩ = some (.int .i64 x.kind) ∧ w'.cell? ⟨b, off + q * 5 + 1, none⟩ = some (.string x.key) ∧ w'.cell? ⟨b, off + q * 5 + 2, none⟩ = some (.int .i64 x.n) ∧ w'.cell? ⟨b, off + q * 5 + 3, none⟩ = some (.string x.s) ∧ w'.cell? ⟨b, off + q * 5 + 4, none⟩ = some (.int .i64 x.size)) := by
  obtain ⟨b', off', e, h⟩ := rdN_cells hR hb hx
  obtain ⟨rfl, rfl⟩ : b = b' ∧ off = off' := by injection e with e; injection e with e1 e2; exact ⟨e1, e2⟩
  exact ⟨hb, h⟩

theorem end_part (D : Fo) (a b : List Fo) (h : Tp.srtL (Tp.trs (Tp.sT D)) = a ++ b) (he : Tp.sz (Tp.cat a) = Tp.sz D) : b = [] := by
  have e : Tp.resF true D = Tp.cat (a ++ b) := by show Tp.cat (Tp.srtL (Tp.trs (Tp.sT D))) = _; rw [h]
  have hs : Tp.sz (Tp.cat (a ++ b)) = Tp.sz D := by rw [← e, Tp.resF_sz]
  rw [Tp.cat_append, Tp.sz_app] at hs
  cases b with
  | nil => rfl
  | cons S b' =>
    obtain ⟨k, y, n, s, c, rfl⟩ := Tp.srt_single (Tp.sT D) S (by rw [h]; simp)
    simp only [Tp.cat, Tp.app, Tp.sz_node] at hs
    omega

set_option maxHeartbeats 8000000 in
theorem sorted_step (v : Value) (l : List Nd) (hl : l.length ≤ 4000) (n : Nat) (IH : SClaim v l n) : SClaim v l (n + 1) := by
  intro a A E G m w hn hA hE hAt hR
  have HR := Lib.hid hR
  have HAt := Lib.hid hAt
  have hlen := Tp.At.len hAt
  obtain ⟨ad, cp, rfl, _⟩ := Gn.Rd.form hR
  have CI := Lib.hid (fun (a' : Nat) (A' E' : Int) (G' : Fo) (m' : Bool) (wb : World) (h1 : Tp.sz G' < n) (h2 : A' = (a' : Nat)) (h3 : E' = A' + (Tp.sz G' : Nat)) (h4 : Tp.At l a' G') (hb : Below w.heap.size w wb) => IH a' A' E' G' m' wb h1 h2 h3 h4 (HR.out.later hb))
  have HO0 : Hid (OwnN w w.heap.size (.slice none 0 0) (Tp.flat (Tp.resF m .nil))) := Lib.hid (by rw [Tp.resF_nil]; exact Gn.Own.nil _ _)
  subst hA
  subst hE
  clear hR hAt IH
  go_enter Tryz.func147, Tryz.ntmps147
  go_wp2_with fail
  go_loopw [9, 10] (fun o i wr => ∃ (D R : Fo) (q : Nat), i = .int .i64 (q : Nat) ∧ Hid (G = Tp.app D R ∧ a + Tp.sz D = q ∧ OwnN wr w.heap.size o (Tp.flat (Tp.resF m D))) ∧ Hid (Below w.heap.size w wr)) (fun o i _ => a + Tp.sz G - (intOf i).toNat)
  case atStart => exact ⟨.nil, G, a, by rfl, Lib.hid ⟨rfl, by simp, HO0.out⟩, Lib.hid (Below.refl _ _)⟩
  case round =>
    obtain ⟨D, R, q, rfl, HD, HU⟩ := hrel
    have hsz : Tp.sz G = Tp.sz D + Tp.sz R := by rw [HD.out.1, Tp.sz_app]
    have hqa : a + Tp.sz D = q := HD.out.2.1
    by_cases hq : q < a + Tp.sz G
    · have hq1 : (q : Int) < (a : Int) + (Tp.sz G : Nat) := by omega
      obtain ⟨kk, ky, kn, ks, kc, kr, hRe, hx, hAc⟩ := at_split (D := D) (R := R) (by rw [← HD.out.1]; exact HAt.out) (by omega)
      have hszR : Tp.sz R = 1 + Tp.sz kc + Tp.sz kr := by rw [hRe, Tp.sz_node]
      rw [hqa] at hx hAc
      have hql : (q : Int) < l.length := by omega
      obtain ⟨b0, off, rfl, x0, x1, x2, x3, x4⟩ := rdN_cells HR.out HU.out hx
      simp only at x0 x1 x2 x3 x4
      obtain ⟨b7, hb7⟩ : ∃ b, ((kk : Int) == 7) = b := ⟨_, rfl⟩
      have CK := Lib.hid (fun (wb : World) (hb : Below w.heap.size w wb) => CI.out (q + 1) ((q : Int) + 1) ((q : Int) + (1 + (Tp.sz kc : Nat))) kc b7 wb (by omega) (by omega) (by omega) hAc hb)
      have HU' := Lib.hid HU.out.drew
      have HONE := Lib.hid (Tp.resF_one b7 kk ky kn ks kc hb7)
      have HK := Lib.hid hx
      have hb1 : (q : Int) + (1 + (Tp.sz kc : Nat)) ≤ 4000 := by omega
      have hlk : (Tp.flat (Tp.resF b7 kc)).length = Tp.sz kc := Tp.resF_sz b7 kc
      have HRe := Lib.hid hRe
      have HR1 : Hid (RdN (wr.alloc (.cells #[.int .i64 kk, .string ky, .int .i64 kn, .string ks, .int .i64 (1 + (Tp.sz kc : Nat))] 28)).drew (wr.alloc (.cells #[.int .i64 kk, .string ky, .int .i64 kn, .string ks, .int .i64 (1 + (Tp.sz kc : Nat))] 28)).drew.heap.size (.slice (some ⟨wr.heap.size, 0, none⟩) 1 1) [(⟨kk, ky, kn, ks, 1 + (Tp.sz kc : Nat)⟩ : Nd)]) := Lib.hid (rd_one 28 ndL wr (⟨kk, ky, kn, ks, 1 + (Tp.sz kc : Nat)⟩ : Nd) #[.int .i64 kk, .string ky, .int .i64 kn, .string ks, .int .i64 (1 + (Tp.sz kc : Nat))] rfl)
      have HS1 : Hid (Below wr.heap.size wr (wr.alloc (.cells #[.int .i64 kk, .string ky, .int .i64 kn, .string ks, .int .i64 (1 + (Tp.sz kc : Nat))] 28)).drew) := Lib.hid (up_new wr _).drew
      have HQ := Lib.hid hqa
      have wr1 : IntKind.i64.wrap ((q : Int) + 1) = (q : Int) + 1 := IntWalk.i64_in _ ⟨by omega, by omega⟩
      have wr2 : IntKind.i64.wrap ((q : Int) + (1 + (Tp.sz kc : Nat))) = (q : Int) + (1 + (Tp.sz kc : Nat)) := IntWalk.i64_in _ ⟨by omega, by omega⟩
      clear hAc hx hRe hqa hszR hsz
      go_wp2_with fail
      go_region_held3 (fun w' => Below w.heap.size w w' ∧ (w'.cell? ⟨b0, off + q * 5, none⟩ = some (.int .i64 kk) ∧ w'.cell? ⟨b0, off + q * 5 + 1, none⟩ = some (.string ky) ∧ w'.cell? ⟨b0, off + q * 5 + 2, none⟩ = some (.int .i64 kn) ∧ w'.cell? ⟨b0, off + q * 5 + 3, none⟩ = some (.string ks) ∧ w'.cell? ⟨b0, off + q * 5 + 4, none⟩ = some (.int .i64 (1 + (Tp.sz kc : Nat)))))
        (first | exact skeep HR.out HK.out HU'.out | exact skeep HR.out HK.out (up HU.out HS1.out) | exact skeep HR.out HK.out (up HU.out HB5.out) | exact skeep HR.out HK.out (up HU.out HB1.out) | exact skeep HR.out HK.out (up HU.out HB1.out.drew) | exact skeep HR.out HK.out (up HU.out HB6.out))
        ((first
          | (go_at_call 147; (with_reducible refine (CK.out _ (up HU.out HB1.out)).mono ?_); rintro e w5 ⟨v5, rfl, ho5, b5⟩; have HO5 := Lib.hid ho5; have HR5 := Lib.hid b5; have HB5 := Lib.hid (up HB1.out b5); clear ho5 b5)
          | (refine Gn.step_app ndL ndY ?_ (.tmp 25) (.tmp 30) ?_ wr.heap.size (.slice none 0 0) [] ?_ ?_ (.slice (some ⟨wr.heap.size, 0, none⟩) 1 1) [(⟨kk, ky, kn, ks, 1 + (Tp.sz kc : Nat)⟩ : Nd)] ?_ ?_ ?_ ?_ ?_; (focus rfl); (focus rfl); (focus rfl); (focus exact Gn.Own.nil _ _); (focus rfl); (focus exact HR1.out); (focus simp); (focus exact HS1.out.size); intro v1 w1 ho1 hg1 hl1; have HO1 := Lib.hid ho1; have HB1 := Lib.hid (up HS1.out (own_new hg1)); clear ho1 hg1 hl1)
          | (refine Gn.step_app ndL ndY ?_ (.tmp 31) (.tmp 48) ?_ wr.heap.size v1 [(⟨kk, ky, kn, ks, 1 + (Tp.sz kc : Nat)⟩ : Nd)] ?_ ?_ v5 (Tp.flat (Tp.resF b7 kc)) ?_ ?_ ?_ ?_ ?_; (focus rfl); (focus rfl); (focus rfl); (focus exact Gn.Own.later HO1.out HR5.out); (focus rfl); (focus exact Gn.Own.rd ndL HO5.out); (focus (simp only [List.length_singleton]; omega)); (focus exact HB5.out.size); intro v6 w6 ho6 hg6 hl6; have HO6 := Lib.hid ho6; have HB6 := Lib.hid (Below.trans HB5.out (Gn.below_of_own (base := wr.heap.size) (Gn.Own.later HO1.out HR5.out) hg6 HB5.out.size)); clear ho6 hg6 hl6)))
      have HU6 := Lib.hid (up HU.out HB6.out)
      have HO9 := Lib.hid (Gn.Own.later HD.out.2.2 HB6.out)
      have HOU : Hid (OwnN w6 wr.heap.size v6 (Tp.flat (Tp.sT (.node kk ky kn ks kc .nil)))) := Lib.hid (by rw [flat_one b7 kk ky kn ks kc hb7]; exact HO6.out)
      clear HO6 HO1 HB1 HO5 HR5 HB5 HB6 HR1 HS1 CK wr1 wr2 HU' HU HO0
      obtain ⟨a9, c9, rfl, _⟩ := Gn.Rd.form (Gn.Own.rd ndL HO9.out)
      obtain ⟨U, hUe⟩ : ∃ U, U = Tp.sT (.node kk ky kn ks kc .nil) := ⟨_, rfl⟩
      have hUl : (Tp.flat U).length = 1 + Tp.sz kc := by rw [hUe]; show Tp.sz _ = _; rw [Tp.sT_sz, Tp.sz_node, Tp.sz_nil]; omega
      rw [← hUe] at HOU
      have HRU := Lib.hid (Gn.Own.rd ndL HOU.out)
      obtain ⟨N9, hN9⟩ : ∃ N, (Tp.flat (Tp.resF m D)).length = N := ⟨_, rfl⟩
      have HND : Hid (N9 = Tp.sz D) := Lib.hid (by rw [← hN9]; exact Tp.resF_sz m D)
      have HR9 : Hid (RdN w6 w6.heap.size (.slice a9 N9 c9) (Tp.flat (Tp.resF m D))) := Lib.hid (by rw [← hN9]; exact Gn.Own.rd ndL HO9.out)
      have hN4 : N9 ≤ 4000 := by have := HQ.out; have := HND.out; omega
      have HN9 := Lib.hid hN9
      have HSZ : Hid (a + Tp.sz (Tp.app D (.node kk ky kn ks kc .nil)) = q + (1 + Tp.sz kc) ∧ G = Tp.app (Tp.app D (.node kk ky kn ks kc .nil)) kr) := Lib.hid ⟨by rw [Tp.sz_app, Tp.sz_node, Tp.sz_nil]; have := HQ.out; omega, by rw [HD.out.1, HRe.out]; exact (app_step D kk ky kn ks kc kr)⟩
      have HAS := Lib.hid (show kc = kc from rfl)
      rw [hN9]
      clear hN9 HOU HO9 HD
      cases m with
      | false =>
        obtain ⟨K, hK⟩ : ∃ K, N9 = K := ⟨_, rfl⟩
        obtain ⟨P, hP⟩ : ∃ P, P = Tp.resF false D := ⟨_, rfl⟩
        obtain ⟨Q, hQ⟩ : ∃ Q, Q = Tp.Fo.nil := ⟨_, rfl⟩
        have HI : Hid (Tp.Ins false D U (Tp.app D (.node kk ky kn ks kc .nil)) P Q) := Lib.hid (by rw [hP, hUe, hQ]; exact Tp.ins_no D kk ky kn ks kc)
        have HPK : Hid ((Tp.flat P).length = K) := Lib.hid (by rw [hP, ← hK]; exact HN9.out)
        obtain ⟨w7, hw7⟩ : ∃ w7, w7 = w6 := ⟨_, rfl⟩
        rw [← hw7]
        have HB67 : Hid (Below w6.heap.size w6 w7) := Lib.hid (by rw [hw7]; exact Below.refl _ _)
        clear hP hQ hw7
        subst hK
        have HU7 := Lib.hid (up HU6.out HB67.out)
        have HRU7 := Lib.hid (Gn.Rd.later HRU.out HB67.out)
        have HR97 := Lib.hid (Gn.Rd.later HR9.out HB67.out)
        have hNl := HN9.out
        have hwas : Tp.flat (Tp.resF false D) = Tp.flat P ++ Tp.flat Q := by rw [HI.out.was, Tp.flat_app]
        have hPQ : (Tp.flat P).length + (Tp.flat Q).length = N9 := by rw [← List.length_append, ← hwas]; exact hNl
        have hPl := HPK.out
        obtain ⟨u1, hu1, hr1⟩ := Gn.cut_to ndY w7 w7.heap.size _ _ N9 c9 N9 HR97.out hNl (by omega)
        obtain ⟨u2, hu2, hr2⟩ := Gn.cut_from ndY w7 w7.heap.size _ _ N9 c9 N9 HR97.out hNl (by omega)
        rw [hwas, ← hPl, List.take_left' rfl] at hr1
        rw [hwas, ← hPl, List.drop_left' rfl] at hr2
        have HR1 : Hid (RdN w7 w7.heap.size u1 (Tp.flat P)) := Lib.hid hr1
        have HR2 : Hid (RdN w7 w7.heap.size u2 (Tp.flat Q)) := Lib.hid hr2
        have hP4 : (Tp.flat P).length ≤ 4000 := by omega
        have hQ4 : (Tp.flat Q).length ≤ 4000 := by omega
        have hU4 : (Tp.flat U).length ≤ 4000 := by rw [hUl]; omega
        have HUE := Lib.hid hUe
        have HLS := Lib.hid (And.intro hP4 (And.intro hQ4 hU4))
        clear hr1 hr2 hwas hPQ hPl hNl hP4 hQ4 hU4 hUl hUe
        go_wp2_with fail
        go_region_held3 (fun w' => Below w7.heap.size w7 w')
          (first | exact (Below.refl _ _).drew | exact (Below.refl _ _) | exact HB8.out | exact HB9.out | exact HB10.out)
          ((first
          | (refine Gn.step_app ndL ndY (by rfl) (.tmp 77) (.tmp 80) (by rfl) w7.heap.size (.slice none 0 0) [] (by rfl) (Gn.Own.nil _ _) u1 (Tp.flat P) (by rfl) HR1.out (by have := HLS.out; simp only [List.length_nil]; omega) (Nat.le_refl _) ?_; intro v1 w8 ho1 hg1 hl1; have HO8 := Lib.hid ho1; have HB8 : Hid (Below w7.heap.size w7 w8) := Lib.hid (by first | exact own_new hg1 | exact (Below.refl _ _).drew.trans (own_new hg1)); clear ho1 hg1 hl1)
          | (refine Gn.step_app ndL ndY (by rfl) (.tmp 81) (.tmp 82) (by rfl) w7.heap.size v1 ([] ++ Tp.flat P) (by rfl) HO8.out v6 (Tp.flat U) (by rfl) (Gn.Rd.later HRU7.out HB8.out) (by have := HLS.out; simp only [List.length_append, List.length_nil]; omega) HB8.out.size ?_; intro v2 w9 ho2 hg2 hl2; have HO9b := Lib.hid ho2; have HB9 := Lib.hid (Below.trans HB8.out (Gn.below_of_own (base := w7.heap.size) HO8.out hg2 HB8.out.size)); clear ho2 hg2 hl2)
          | (refine Gn.step_app ndL ndY (by rfl) (.tmp 83) (.tmp 86) (by rfl) w7.heap.size v2 (([] ++ Tp.flat P) ++ Tp.flat U) (by rfl) HO9b.out u2 (Tp.flat Q) (by rfl) (Gn.Rd.later HR2.out HB9.out) (by have := HLS.out; simp only [List.length_append, List.length_nil]; omega) HB9.out.size ?_; intro v3 w10 ho3 hg3 hl3; have HO10 := Lib.hid ho3; have HB10 := Lib.hid (Below.trans HB9.out (Gn.below_of_own (base := w7.heap.size) HO9b.out hg3 HB9.out.size)); clear ho3 hg3 hl3; have z4 := (skeep HR.out HK.out (up HU7.out HB10.out)).2.2.2.2.2)))
        have HFO : Hid (OwnN w10 w.heap.size v3 (Tp.flat (Tp.resF false (Tp.app D (.node kk ky kn ks kc .nil))))) := Lib.hid (by
          have := Gn.Own.lower HO10.out HU7.out.size
          rw [HI.out.is, Tp.flat_app, Tp.flat_app]
          simp only [List.nil_append, List.append_assoc] at this
          exact this)
        have HFB := Lib.hid (up HU7.out HB10.out)
        simp only at z4
        clear HO10 HB10 HB9 HO9b HB8 HO8 hu1 hu2
        go_wp2_with fail
        go_roundw
        case rel => exact ⟨_, kr, q + (1 + Tp.sz kc), by go_num, Lib.hid ⟨HSZ.out.2, HSZ.out.1, HFO.out⟩, HFB⟩
        case measure => simp [intOf]; omega
      | true =>
        go_wp2_with fail
        go_loopw [12] (fun i wx => ∃ (ta tb : List Fo) (k : Nat), i = .int .i64 (k : Nat) ∧ k ≤ N9 ∧ Hid (k = Tp.sz (Tp.cat ta) ∧ Tp.srtL (Tp.trs (Tp.sT D)) = ta ++ tb ∧ ∀ S ∈ ta, Tp.ly (Tp.kyo S) ky = true) ∧ Hid (Below w6.heap.size w6 wx)) (fun i _ => N9 - (intOf i).toNat)
        case atStart => exact ⟨[], _, 0, by rfl, by omega, Lib.hid ⟨rfl, rfl, fun S h => absurd h (List.not_mem_nil)⟩, Lib.hid (Below.refl _ _)⟩
        case round =>
          obtain ⟨ta, tb, k, rfl, hk, HT, HBI⟩ := hrel
          have HUX := Lib.hid (up HU6.out HBI.out)
          have HR9X := Lib.hid (Gn.Rd.later HR9.out HBI.out)
          obtain ⟨x1, _⟩ : (∀ n, (wr.drewN n).cell? ⟨b0, off + q * 5 + 1, none⟩ = some (.string ky)) ∧ True := ⟨fun n => (skeep HR.out HK.out (dN HUX.out n)).2.2.1, trivial⟩
          by_cases hkl : k < N9
          · have hkl1 : (k : Int) < N9 := by omega
            obtain ⟨k2, y2, n2, s2, c2, tb', htb, hx2, hsz2, hle2⟩ := Tp.next_part D ta tb HT.out.2.1 (by rw [← HT.out.1, ← HND.out]; exact hkl)
            rw [← HT.out.1] at hx2 hsz2 hle2
            obtain ⟨b2, off2, rfl, _⟩ := rdN_cells HR9X.out (Below.refl _ _) hx2
            have z1 : ∀ n, (wr.drewN n).cell? ⟨b2, off2 + k * 5 + 1, none⟩ = some (.string y2) := fun n => (skeep HR9X.out hx2 (dN (Below.refl _ _) n)).2.2.1
            have HZ4 := Lib.hid (fun (wb : World) (hb : Below wr.heap.size wr wb) => (skeep HR9X.out hx2 hb).2.2.2.2.2)
            obtain ⟨bb, hbb⟩ : ∃ bb, Op.bytesLess y2.toList ky.toList = bb := ⟨_, rfl⟩
            have HBB : Hid (Tp.ly y2 ky = bb) := Lib.hid (by rw [← hbb, Tp.less_bl]; rfl)
            have HLE : Hid (k + (1 + Tp.sz c2) ≤ N9) := Lib.hid (by have := HND.out; omega)
            have HTB := Lib.hid htb
            have HS2 := Lib.hid hsz2
            clear hsz2 hle2 hx2 htb
            cases bb with
            | true =>
              have wr3 : (k : Int) + (1 + (Tp.sz c2 : Nat)) ≤ 4000 := by have := HLE.out; omega
              go_wp2_with fail
              go_quiet (fail)
              obtain ⟨wq, hwq⟩ : ∃ wq, wq = wr.drewN nq := ⟨_, rfl⟩
              rw [← hwq]
              have HBQ : Hid (Below w6.heap.size w6 wq) := Lib.hid (by rw [hwq]; exact dN HBI.out _)
              have z4 : wq.cell? ⟨b2, off2 + k * 5 + 4, none⟩ = some (.int .i64 (1 + (Tp.sz c2 : Nat))) := HZ4.out wq (by rw [hwq]; exact dN (Below.refl _ _) _)
              clear hwq x1 z1 hbb HZ4
              go_wp2_with fail
              go_roundw
              case rel =>
                refine ⟨ta ++ [.node k2 y2 n2 s2 c2 .nil], tb', k + (1 + Tp.sz c2), by go_num, HLE.out, Lib.hid ⟨HS2.out.symm, by rw [HT.out.2.1, HTB.out]; simp, fun S hS => ?_⟩, HBQ⟩
                rcases List.mem_append.1 hS with h | h
                · exact HT.out.2.2 S h
                · rw [List.mem_singleton.1 h]; exact HBB.out
              case measure => have := HLE.out; simp [intOf]; omega
            | false =>
              go_wp2_with fail
              go_quiet (fail)
              obtain ⟨w7, hw7⟩ : ∃ w7, w7 = wr.drewN nq := ⟨_, rfl⟩
              rw [← hw7]
              obtain ⟨P, hP⟩ : ∃ P, P = Tp.cat ta := ⟨_, rfl⟩
              obtain ⟨Q, hQ⟩ : ∃ Q, Q = Tp.cat tb := ⟨_, rfl⟩
              have HI : Hid (Tp.Ins true D U (Tp.app D (.node kk ky kn ks kc .nil)) P Q) := Lib.hid (by rw [hP, hUe, hQ]; exact Tp.ins_yes D kk ky kn ks kc ta tb HT.out.2.1 HT.out.2.2 (by intro S b'' e; rw [HTB.out] at e; injection e with e1 e2; subst e1; exact HBB.out))
              have HPK : Hid ((Tp.flat P).length = k) := Lib.hid (by rw [hP]; exact HT.out.1.symm)
              have HB67 : Hid (Below w6.heap.size w6 w7) := Lib.hid (by rw [hw7]; exact dN HBI.out _)
              clear hP hQ hw7 HBI HR9X HUX x1 z1 hbb HZ4
              have HU7 := Lib.hid (up HU6.out HB67.out)
              have HRU7 := Lib.hid (Gn.Rd.later HRU.out HB67.out)
              have HR97 := Lib.hid (Gn.Rd.later HR9.out HB67.out)
              have hNl := HN9.out
              have hwas : Tp.flat (Tp.resF true D) = Tp.flat P ++ Tp.flat Q := by rw [HI.out.was, Tp.flat_app]
              have hPQ : (Tp.flat P).length + (Tp.flat Q).length = N9 := by rw [← List.length_append, ← hwas]; exact hNl
              have hPl := HPK.out
              obtain ⟨u1, hu1, hr1⟩ := Gn.cut_to ndY w7 w7.heap.size _ _ N9 c9 k HR97.out hNl (by omega)
              obtain ⟨u2, hu2, hr2⟩ := Gn.cut_from ndY w7 w7.heap.size _ _ N9 c9 k HR97.out hNl (by omega)
              rw [hwas, ← hPl, List.take_left' rfl] at hr1
              rw [hwas, ← hPl, List.drop_left' rfl] at hr2
              have HR1 : Hid (RdN w7 w7.heap.size u1 (Tp.flat P)) := Lib.hid hr1
              have HR2 : Hid (RdN w7 w7.heap.size u2 (Tp.flat Q)) := Lib.hid hr2
              have hP4 : (Tp.flat P).length ≤ 4000 := by omega
              have hQ4 : (Tp.flat Q).length ≤ 4000 := by omega
              have hU4 : (Tp.flat U).length ≤ 4000 := by rw [hUl]; omega
              have HUE := Lib.hid hUe
              have HLS := Lib.hid (And.intro hP4 (And.intro hQ4 hU4))
              clear hr1 hr2 hwas hPQ hPl hNl hP4 hQ4 hU4 hUl hUe
              go_wp2_with fail
              go_region_held3 (fun w' => Below w7.heap.size w7 w')
                (first | exact (Below.refl _ _).drew | exact (Below.refl _ _) | exact HB8.out | exact HB9.out | exact HB10.out)
                ((first
                | (refine Gn.step_app ndL ndY (by rfl) (.tmp 77) (.tmp 80) (by rfl) w7.heap.size (.slice none 0 0) [] (by rfl) (Gn.Own.nil _ _) u1 (Tp.flat P) (by rfl) HR1.out (by have := HLS.out; simp only [List.length_nil]; omega) (Nat.le_refl _) ?_; intro v1 w8 ho1 hg1 hl1; have HO8 := Lib.hid ho1; have HB8 : Hid (Below w7.heap.size w7 w8) := Lib.hid (by first | exact own_new hg1 | exact (Below.refl _ _).drew.trans (own_new hg1)); clear ho1 hg1 hl1)
                | (refine Gn.step_app ndL ndY (by rfl) (.tmp 81) (.tmp 82) (by rfl) w7.heap.size v1 ([] ++ Tp.flat P) (by rfl) HO8.out v6 (Tp.flat U) (by rfl) (Gn.Rd.later HRU7.out HB8.out) (by have := HLS.out; simp only [List.length_append, List.length_nil]; omega) HB8.out.size ?_; intro v2 w9 ho2 hg2 hl2; have HO9b := Lib.hid ho2; have HB9 := Lib.hid (Below.trans HB8.out (Gn.below_of_own (base := w7.heap.size) HO8.out hg2 HB8.out.size)); clear ho2 hg2 hl2)
                | (refine Gn.step_app ndL ndY (by rfl) (.tmp 83) (.tmp 86) (by rfl) w7.heap.size v2 (([] ++ Tp.flat P) ++ Tp.flat U) (by rfl) HO9b.out u2 (Tp.flat Q) (by rfl) (Gn.Rd.later HR2.out HB9.out) (by have := HLS.out; simp only [List.length_append, List.length_nil]; omega) HB9.out.size ?_; intro v3 w10 ho3 hg3 hl3; have HO10 := Lib.hid ho3; have HB10 := Lib.hid (Below.trans HB9.out (Gn.below_of_own (base := w7.heap.size) HO9b.out hg3 HB9.out.size)); clear ho3 hg3 hl3; have z4 := (skeep HR.out HK.out (up HU7.out HB10.out)).2.2.2.2.2)))
              have HFO : Hid (OwnN w10 w.heap.size v3 (Tp.flat (Tp.resF true (Tp.app D (.node kk ky kn ks kc .nil))))) := Lib.hid (by
                have := Gn.Own.lower HO10.out HU7.out.size
                rw [HI.out.is, Tp.flat_app, Tp.flat_app]
                simp only [List.nil_append, List.append_assoc] at this
                exact this)
              have HFB := Lib.hid (up HU7.out HB10.out)
              simp only at z4
              clear HO10 HB10 HB9 HO9b HB8 HO8 hu1 hu2
              go_wp2_with fail
              go_roundw
              case rel => exact ⟨_, kr, q + (1 + Tp.sz kc), by go_num, Lib.hid ⟨HSZ.out.2, HSZ.out.1, HFO.out⟩, HFB⟩
              case measure => simp [intOf]; omega
          · have hkl1 : ¬ (k : Int) < N9 := by omega
            have hd : decide ((k : Int) < (N9 : Int)) = false := by simpa using hkl1
            go_wp2_with fail
            go_quiet (fail)
            obtain ⟨w7, hw7⟩ : ∃ w7, w7 = wr.drewN nq := ⟨_, rfl⟩
            rw [← hw7]
            obtain ⟨P, hP⟩ : ∃ P, P = Tp.cat ta := ⟨_, rfl⟩
            obtain ⟨Q, hQ⟩ : ∃ Q, Q = Tp.cat tb := ⟨_, rfl⟩
            have HI : Hid (Tp.Ins true D U (Tp.app D (.node kk ky kn ks kc .nil)) P Q) := Lib.hid (by rw [hP, hUe, hQ]; exact Tp.ins_yes D kk ky kn ks kc ta tb HT.out.2.1 HT.out.2.2 (by intro S b'' e; rw [end_part D ta tb HT.out.2.1 (by have := HT.out.1; have := HND.out; omega)] at e; cases e))
            have HPK : Hid ((Tp.flat P).length = k) := Lib.hid (by rw [hP]; exact HT.out.1.symm)
            have HB67 : Hid (Below w6.heap.size w6 w7) := Lib.hid (by rw [hw7]; exact dN HBI.out _)
            clear hP hQ hw7 HBI HR9X HUX x1 hd
            have HU7 := Lib.hid (up HU6.out HB67.out)
            have HRU7 := Lib.hid (Gn.Rd.later HRU.out HB67.out)
            have HR97 := Lib.hid (Gn.Rd.later HR9.out HB67.out)
            have hNl := HN9.out
            have hwas : Tp.flat (Tp.resF true D) = Tp.flat P ++ Tp.flat Q := by rw [HI.out.was, Tp.flat_app]
            have hPQ : (Tp.flat P).length + (Tp.flat Q).length = N9 := by rw [← List.length_append, ← hwas]; exact hNl
            have hPl := HPK.out
            obtain ⟨u1, hu1, hr1⟩ := Gn.cut_to ndY w7 w7.heap.size _ _ N9 c9 k HR97.out hNl (by omega)
            obtain ⟨u2, hu2, hr2⟩ := Gn.cut_from ndY w7 w7.heap.size _ _ N9 c9 k HR97.out hNl (by omega)
            rw [hwas, ← hPl, List.take_left' rfl] at hr1
            rw [hwas, ← hPl, List.drop_left' rfl] at hr2
            have HR1 : Hid (RdN w7 w7.heap.size u1 (Tp.flat P)) := Lib.hid hr1
            have HR2 : Hid (RdN w7 w7.heap.size u2 (Tp.flat Q)) := Lib.hid hr2
            have hP4 : (Tp.flat P).length ≤ 4000 := by omega
            have hQ4 : (Tp.flat Q).length ≤ 4000 := by omega
            have hU4 : (Tp.flat U).length ≤ 4000 := by rw [hUl]; omega
            have HUE := Lib.hid hUe
            have HLS := Lib.hid (And.intro hP4 (And.intro hQ4 hU4))
            clear hr1 hr2 hwas hPQ hPl hNl hP4 hQ4 hU4 hUl hUe
            go_wp2_with fail
            go_region_held3 (fun w' => Below w7.heap.size w7 w')
              (first | exact (Below.refl _ _).drew | exact (Below.refl _ _) | exact HB8.out | exact HB9.out | exact HB10.out)
              ((first
              | (refine Gn.step_app ndL ndY (by rfl) (.tmp 77) (.tmp 80) (by rfl) w7.heap.size (.slice none 0 0) [] (by rfl) (Gn.Own.nil _ _) u1 (Tp.flat P) (by rfl) HR1.out (by have := HLS.out; simp only [List.length_nil]; omega) (Nat.le_refl _) ?_; intro v1 w8 ho1 hg1 hl1; have HO8 := Lib.hid ho1; have HB8 : Hid (Below w7.heap.size w7 w8) := Lib.hid (by first | exact own_new hg1 | exact (Below.refl _ _).drew.trans (own_new hg1)); clear ho1 hg1 hl1)
              | (refine Gn.step_app ndL ndY (by rfl) (.tmp 81) (.tmp 82) (by rfl) w7.heap.size v1 ([] ++ Tp.flat P) (by rfl) HO8.out v6 (Tp.flat U) (by rfl) (Gn.Rd.later HRU7.out HB8.out) (by have := HLS.out; simp only [List.length_append, List.length_nil]; omega) HB8.out.size ?_; intro v2 w9 ho2 hg2 hl2; have HO9b := Lib.hid ho2; have HB9 := Lib.hid (Below.trans HB8.out (Gn.below_of_own (base := w7.heap.size) HO8.out hg2 HB8.out.size)); clear ho2 hg2 hl2)
              | (refine Gn.step_app ndL ndY (by rfl) (.tmp 83) (.tmp 86) (by rfl) w7.heap.size v2 (([] ++ Tp.flat P) ++ Tp.flat U) (by rfl) HO9b.out u2 (Tp.flat Q) (by rfl) (Gn.Rd.later HR2.out HB9.out) (by have := HLS.out; simp only [List.length_append, List.length_nil]; omega) HB9.out.size ?_; intro v3 w10 ho3 hg3 hl3; have HO10 := Lib.hid ho3; have HB10 := Lib.hid (Below.trans HB9.out (Gn.below_of_own (base := w7.heap.size) HO9b.out hg3 HB9.out.size)); clear ho3 hg3 hl3; have z4 := (skeep HR.out HK.out (up HU7.out HB10.out)).2.2.2.2.2)))
            have HFO : Hid (OwnN w10 w.heap.size v3 (Tp.flat (Tp.resF true (Tp.app D (.node kk ky kn ks kc .nil))))) := Lib.hid (by
              have := Gn.Own.lower HO10.out HU7.out.size
              rw [HI.out.is, Tp.flat_app, Tp.flat_app]
              simp only [List.nil_append, List.append_assoc] at this
              exact this)
            have HFB := Lib.hid (up HU7.out HB10.out)
            simp only at z4
            clear HO10 HB10 HB9 HO9b HB8 HO8 hu1 hu2
            go_wp2_with fail
            go_roundw
            case rel => exact ⟨_, kr, q + (1 + Tp.sz kc), by go_num, Lib.hid ⟨HSZ.out.2, HSZ.out.1, HFO.out⟩, HFB⟩
            case measure => simp [intOf]; omega
    · have hq1 : ¬ (q : Int) < (a : Int) + (Tp.sz G : Nat) := by omega
      have HF : Hid (G = D) := Lib.hid (by
        have : R = .nil := Tp.sz_zero (by omega)
        rw [HD.out.1, this, Tp.app_nil])
      clear hsz hqa
      go_wp2_with fail
      go_ret
      exact ⟨_, rfl, by rw [HF.out]; exact HD.out.2.2, HU.out⟩
theorem sorted_claim (v : Value) (l : List Nd) (hl : l.length ≤ 4000) : ∀ n, SClaim v l n
  | 0 => fun a A E G m w hn => absurd hn (Nat.not_lt_zero _)
  | n + 1 => sorted_step v l hl n (sorted_claim v l hl n)
end Go.Proofs.YtgmdjofnkbaflaaGreatDoor
