/- The closure that goes over a tape: does a value stand at a place, and how deep are its parts? -/
import Derived.Test.YtgmdjofnkbaflaaGreatDoorSet
namespace Go.Proofs.YtgmdjofnkbaflaaGreatDoor
open Go.RowKit
set_option linter.unusedVariables false
set_option maxRecDepth 100000

/-- The closure itself. -/
def mfn (tb db vb : Nat) : Value := .func (.func 169) #[] #[.pointer (some ⟨tb, 0, none⟩), .pointer (some ⟨db, 0, none⟩), .pointer (some ⟨vb, 0, none⟩)]
/-- Its variables: the nodes, how deep, itself. -/
structure VS (w : World) (B : Nat) (v : Value) (l : List Nd) (tb db vb : Nat) : Prop where
  rd : RdN w B v l
  ok : ∀ x ∈ l, Nok x
  t : Blk w tb 22 [v]
  f : Blk w vb 196 [mfn tb db vb]
  bt : B ≤ tb
  bd : B ≤ db
  bv : B ≤ vb
  td : tb ≠ db
  vd : vb ≠ db
  lo : B ≤ w.heap.size
  b2 : TabAt B
theorem VS.touch {w w' : World} {B : Nat} {v : Value} {l : List Nd} {tb db vb : Nat} (h : VS w B v l tb db vb) (ht : Touch (fun i => i = db) w w') : VS w' B v l tb db vb :=
  ⟨Gn.Rd.below h.rd (ht.below h.lo (fun i e => by rw [e]; exact h.bd)) (Nat.le_refl _), h.ok, h.t.touch ht h.td, h.f.touch ht h.vd, h.bt, h.bd, h.bv, h.td, h.vd, Nat.le_trans h.lo ht.size, h.b2⟩
theorem VS.tab {w w' : World} {B : Nat} {v : Value} {l : List Nd} {tb db vb : Nat} (h : VS w B v l tb db vb) (T : Tab w) (ht : Touch (fun i => i = db) w w') : Tab w' := T.below h.b2 (ht.below h.lo (fun i e => by rw [e]; exact h.bd))
/-- What a walk reads of them. -/
theorem VS.cells {w : World} {B n c : Nat} {ad : Option Addr} {l : List Nd} {tb db vb : Nat} (h : VS w B (.slice ad n c) l tb db vb) {i : Nat} {x : Nd} (hi : l[i]? = some x) :
    ∃ b off, ad = some ⟨b, off, none⟩ ∧ w.cell? ⟨b, off + i * 5, none⟩ = some (.int .i64 x.kind) ∧ w.cell? ⟨b, off + i * 5 + 1, none⟩ = some (.string x.key) ∧ w.cell? ⟨b, off + i * 5 + 2, none⟩ = some (.int .i64 x.n) ∧ w.cell? ⟨b, off + i * 5 + 3, none⟩ = some (.string x.s) ∧ w.cell? ⟨b, off + i * 5 + 4, none⟩ = some (.int .i64 x.size) := by
  obtain ⟨hl, e⟩ := List.getElem?_eq_some_iff.1 hi
  obtain ⟨b, off, rfl, _, hc⟩ := Gn.Rd.at h.rd (Below.refl _ _) hl
  rw [e] at hc
  exact ⟨b, off, rfl, hc 0 _ rfl, hc 1 _ rfl, hc 2 _ rfl, hc 3 _ rfl, hc 4 _ rfl⟩
/-- What the closure answers. -/
def VPost (w : World) (l : List Nd) (db a m δ : Nat) (d : Int) (e : Ending) (w' : World) : Prop :=
  ∃ b d', e = .returned (.bool b) ∧ (b = true ↔ Tp.Vp l a m) ∧ (∀ F, Tp.Val l a m F → d' = max d (δ + Tp.dep F - 1)) ∧ (0 ≤ d' ∧ d' ≤ 4000) ∧ Touch (fun i => i = db) w w' ∧ Blk w' db 3 [.int .i64 d']
theorem VPost.no {w w' : World} {l : List Nd} {db a m δ : Nat} {d d' : Int} (h : ¬ Tp.Vp l a m) (hd : 0 ≤ d' ∧ d' ≤ 4000) (ht : Touch (fun i => i = db) w w') (hb : Blk w' db 3 [.int .i64 d']) : VPost w l db a m δ d (.returned (.bool false)) w' :=
  ⟨false, d', rfl, ⟨fun e => Bool.noConfusion e, fun e => absurd e h⟩, fun F hF => absurd ⟨F, hF⟩ h, hd, ht, hb⟩
theorem VPost.yes {w w' : World} {l : List Nd} {db a m δ : Nat} {d d' : Int} {F : Fo} (h : Tp.Val l a m F) (hd' : d' = max d (δ + Tp.dep F - 1)) (hd : 0 ≤ d' ∧ d' ≤ 4000) (ht : Touch (fun i => i = db) w w') (hb : Blk w' db 3 [.int .i64 d']) : VPost w l db a m δ d (.returned (.bool true)) w' :=
  ⟨true, d', rfl, ⟨fun _ => ⟨F, h⟩, fun _ => rfl⟩, fun G hG => by rw [Tp.val_one hG h]; exact hd', hd, ht, hb⟩
/-- The claim, for all places from a on. -/
def VClaim (B : Nat) (v : Value) (l : List Nd) (tb db vb n : Nat) : Prop :=
  ∀ (a m δ : Nat) (M D d : Int) (w : World), l.length - a ≤ n → a + m ≤ l.length → 1 ≤ m → M = m → D = δ → 1 ≤ δ → δ ≤ a + 1 → 0 ≤ d → d ≤ 4000 → Tab w → VS w B v l tb db vb → Blk w db 3 [.int .i64 d] →
    Calls Tryz.prog 169 #[.int .i64 a, .int .i64 M, .int .i64 D, .pointer (some ⟨tb, 0, none⟩), .pointer (some ⟨db, 0, none⟩), .pointer (some ⟨vb, 0, none⟩)] w fun e w' => VPost w l db a m δ d e w'

set_option maxHeartbeats 4000000 in
theorem value_leaf (B : Nat) (v : Value) (l : List Nd) (tb db vb a m δ : Nat) (M D d : Int) (w : World) (x : Nd) (hx : l[a]? = some x) (hl : l.length ≤ 4000) (ham : a + m ≤ l.length) (h1 : 1 ≤ m) (hM : M = m) (hD : D = δ) (hδ : 1 ≤ δ) (hδ2 : δ ≤ a + 1) (d0 : 0 ≤ d) (d1 : d ≤ 4000) (T : Tab w) (V : VS w B v l tb db vb) (hb : Blk w db 3 [.int .i64 d])
    (hcase : ¬ (Tp.hf x.kind x.n x.s ∧ (x.kind ≤ 5 → x.size = 1)) ∨ x.size ≤ 1 ∨ (m : Int) < x.size) :
    Calls Tryz.prog 169 #[.int .i64 a, .int .i64 M, .int .i64 D, .pointer (some ⟨tb, 0, none⟩), .pointer (some ⟨db, 0, none⟩), .pointer (some ⟨vb, 0, none⟩)] w fun e w' => VPost w l db a m δ d e w' := by
  have hlt : a < l.length := (List.getElem?_eq_some_iff.1 hx).1
  have hlt' : (a : Int) < l.length := by omega
  have hNok := V.ok x (List.mem_of_getElem? hx)
  have hhead := Lib.hid (fun (h : Tp.Vp l a m) => Tp.vp_head h hx)
  have hleaf := Lib.hid (fun h1 h2 => Tp.vp_leaf hx h1 h2 (m := m) (by omega))
  obtain ⟨ad, c, rfl, hc1, hc2, _⟩ := Gn.Rd.form V.rd
  obtain ⟨b, off, rfl, c0, c1, c2, c3, c4⟩ := V.cells hx
  have ct := V.t.cell 0
  have cd := hb.cell 0
  have fd := hb.frozen 0
  simp only [List.getElem?_cons_zero] at ct cd
  have HV := Lib.hid V
  have HB := Lib.hid hb
  have CF := fun (w1 : World) (b : Bool) (hb : b = true ↔ Tp.hf x.kind x.n x.s ∧ (x.kind ≤ 5 → x.size = 1)) (h : Below w.heap.size w w1) => fields x w1 (T.later h) hNok b hb
  unfold ndv at CF
  obtain ⟨kk, ky, kn, ks, kz⟩ := x
  simp only at c0 c1 c2 c3 c4 CF hcase hhead hleaf
  unfold Nok at hNok
  simp only at hNok
  have HN := Lib.hid (Blk.new w 28 #[.int .i64 kk, .string ky, .int .i64 kn, .string ks, .int .i64 kz])
  have HU := Lib.hid (up_new w (.cells #[.int .i64 kk, .string ky, .int .i64 kn, .string ks, .int .i64 kz] 28))
  have HL := Lib.hid (And.intro hl (And.intro ham (And.intro hδ2 (And.intro d0 d1))))
  clear hb T hNok
  by_cases hf : Tp.hf kk kn ks ∧ (kk ≤ 5 → kz = 1)
  · have CT := Lib.hid (CF _ true ⟨fun _ => hf, fun _ => rfl⟩ HU.out)
    have HF := Lib.hid hf
    clear CF hx hf
    by_cases hz : kz < 1
    · have HO := Lib.hid (show ¬ Tp.Vp l a m from fun h => by have := hhead.out h; omega)
      clear hcase hhead hleaf
      go_enter Tryz.func169, Tryz.ntmps169
      go_wp2_with fail
      ((with_reducible refine (CT.out).mono ?_); rintro e w2 ⟨rfl, b2⟩)
      have n4 : w2.cell? ⟨w.heap.size, 4, none⟩ = some (.int .i64 kz) := (HN.out.later b2).cell 4
      have HB2 := Lib.hid (up HU.out b2)
      clear b2 c0 c1 c2 c3 c4 ct cd
      go_wp2_with fail
      go_ret
      exact VPost.no HO.out ⟨d0, d1⟩ (Touch.of_below HB2.out) (HB.out.later HB2.out)
    · by_cases hz2 : kz = 1
      · obtain rfl := hz2
        have HY := Lib.hid (hleaf.out HF.out.1 rfl)
        have hm1 : ¬ (M < 1) := by omega
        clear hcase hhead hleaf
        go_enter Tryz.func169, Tryz.ntmps169
        go_wp2_with fail
        ((with_reducible refine (CT.out).mono ?_); rintro e w2 ⟨rfl, b2⟩)
        have n4 : w2.cell? ⟨w.heap.size, 4, none⟩ = some (.int .i64 1) := (HN.out.later b2).cell 4
        have HB2 := Lib.hid (up HU.out b2)
        have cd2 : w2.cell? ⟨db, 0, none⟩ = some (.int .i64 d) := (HB.out.later HB2.out).cell 0
        have fd2 : w2.frozen? ⟨db, 0, none⟩ = false := (HB.out.later HB2.out).frozen 0
        clear b2 c0 c1 c2 c3 c4 ct cd
        go_wp2_with fail
        go_ret
        exact VPost.yes HY.out (by simp only [Tp.dep]; have := HL.out; omega) (by have := HL.out; omega) (Touch.setCell (p := ⟨db, 0, none⟩) (Touch.of_below (S := fun i => i = db) HB2.out) rfl _) ((HB.out.later HB2.out).put 0 _)
      · have hz3 : M < kz := by rcases hcase with h | h | h <;> first | exact absurd HF.out h | omega
        have HO := Lib.hid (show ¬ Tp.Vp l a m from fun h => by have := hhead.out h; omega)
        clear hcase hhead hleaf
        go_enter Tryz.func169, Tryz.ntmps169
        go_wp2_with fail
        ((with_reducible refine (CT.out).mono ?_); rintro e w2 ⟨rfl, b2⟩)
        have n4 : w2.cell? ⟨w.heap.size, 4, none⟩ = some (.int .i64 kz) := (HN.out.later b2).cell 4
        have HB2 := Lib.hid (up HU.out b2)
        clear b2 c0 c1 c2 c3 c4 ct cd
        go_wp2_with fail
        go_ret
        exact VPost.no HO.out ⟨d0, d1⟩ (Touch.of_below HB2.out) (HB.out.later HB2.out)
  · have HO := Lib.hid (show ¬ Tp.Vp l a m from fun h => by have := hhead.out h; exact hf ⟨this.1, this.2.2.2⟩)
    have CT := Lib.hid (CF _ false ⟨fun h => Bool.noConfusion h, fun h => absurd h hf⟩ HU.out)
    clear hcase hhead hleaf CF hx hf
    go_enter Tryz.func169, Tryz.ntmps169
    go_wp2_with fail
    ((with_reducible refine (CT.out).mono ?_); rintro e w2 ⟨rfl, b2⟩)
    have HB2 := Lib.hid (up HU.out b2)
    clear b2 c0 c1 c2 c3 c4 ct cd
    go_wp2_with fail
    go_ret
    exact VPost.no HO.out ⟨d0, d1⟩ (Touch.of_below HB2.out) (HB.out.later HB2.out)
end Go.Proofs.YtgmdjofnkbaflaaGreatDoor
