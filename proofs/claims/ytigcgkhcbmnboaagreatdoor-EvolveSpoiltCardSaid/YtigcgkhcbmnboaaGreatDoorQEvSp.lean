/- QEvSp. -/
import Derived.Test.YtigcgkhcbmnboaaGreatDoorQEva
import Derived.Test.YtigcgkhcbmnboaaGreatDoorQScb
import Derived.Deep.MidRow
import Derived.Deep.DeepCutAuto
import Derived.Deep.CutBlock
import Derived.Test.YtigcgkhcbmnboaaGreatDoorQEvS
/- The law's few: a schema that is cut, in memory of its own. -/
namespace Go.Proofs.YtigcgkhcbmnboaaGreatDoor
open Go.RowKit
set_option linter.unusedVariables false
set_option linter.unusedSimpArgs false
set_option maxRecDepth 100000

def cutN (s : ByteArray) (n : Int) : ByteArray := s.extract 0 (min (s.size : Int) n).toNat
def cutK (c : Co) : Co := ⟨c.id, cutN c.nm 40, c.k, c.u, ⟨c.d.u, c.d.n, cutN c.d.s 1100⟩⟩
def lFew11C (l : List Co) : List Co := (l.take 40).map cutK
def mixK (k : Nat) (l : List Co) : List Co := (l.take k).map cutK ++ l.drop k
structure FW (w : World) (l : List Co) (ks : List Int) (cv kv : Value) (W : World) : Prop where
  s : Blk W w.heap.size 25 [cv, kv]
  r : Blk W (w.heap.size + 1) 25 [nilS, nilS]
  oc : OwnK W (w.heap.size + 2) cv l
  ok : OwnI W (w.heap.size + 2) kv ks
  b : Below w.heap.size w W
  sz : w.heap.size + 2 ≤ W.heap.size
theorem FW.later {w W W' : World} {l : List Co} {ks : List Int} {cv kv : Value} (h : FW w l ks cv kv W) (hb : Below W.heap.size W W') : FW w l ks cv kv W' :=
  ⟨h.s.later hb, h.r.later hb, Gn.Own.later h.oc hb, Gn.Own.later h.ok hb, up h.b hb, Nat.le_trans h.sz hb.size⟩
theorem own_touch {α : Type} {enc : α → List Value} {k : Nat} {T : TypeId} {S : Nat → Prop} {w w' : World} {B : Nat} {v : Value} {l : List α} (h : Gn.Own enc k T w B v l) (ht : Touch S w w') (hn : ∀ g, v.ownBlock = some g → ¬ S g) : Gn.Own enc k T w' B v l := by
  obtain ⟨h0, h1⟩ := h
  refine ⟨h0, ?_⟩
  rcases h1 with h1 | ⟨g, cap, cur, rfl, hg, hh, r⟩
  · exact .inl h1
  · have hlt : g < w.heap.size := by
      rcases Nat.lt_or_ge g w.heap.size with hlt | hge
      · exact hlt
      · rw [Array.getElem?_eq_none hge] at hh; cases hh
    exact .inr ⟨g, cap, cur, rfl, hg, (ht.block g hlt (hn g rfl)).trans hh, r⟩
/-- A column is written in its place. -/
theorem FW.put {w W : World} {l : List Co} {ks : List Int} {g n cap : Nat} {kv : Value} (h : FW w l ks (.slice (some ⟨g, 0, none⟩) n cap) kv W) (hn : l.length = n) {i : Nat} (hi : i < n) (x : Co) : FW w (l.set i x) ks (.slice (some ⟨g, 0, none⟩) n cap) kv (put7W W g (i * 7) x) := by
  have hg := (h.oc.lt g rfl).1
  have ht := grown_put7 (i := i) h.oc x
  refine ⟨h.s.touch ht (by show ¬ w.heap.size = g; omega), h.r.touch ht (by show ¬ w.heap.size + 1 = g; omega), own_put7 h.oc hn hi x, own_touch h.ok ht (fun g' hg' => ?_), ?_, ?_⟩
  · rcases own_apart2 h.ok h.oc (by decide) with h2 | h2
    · rw [h2] at hg'; cases hg'
    · intro e; exact h2 (by rw [hg', e]; rfl)
  · exact h.b.trans (ht.below h.sz (fun k hk => by subst hk; omega) |>.mono (by omega))
  · exact Nat.le_trans h.sz ht.size
theorem FW.touch {w W W' : World} {S : Nat → Prop} {l : List Co} {ks : List Int} {cv kv : Value} (h : FW w l ks cv kv W) (ht : Touch S W W') (hS : ∀ q, S q → w.heap.size + 2 ≤ q) (h1 : ∀ g, cv.ownBlock = some g → ¬ S g) (h2 : ∀ g, kv.ownBlock = some g → ¬ S g) : FW w l ks cv kv W' :=
  ⟨h.s.touch ht (fun hh => by have := hS _ hh; omega), h.r.touch ht (fun hh => by have := hS _ hh; omega), own_touch h.oc ht h1, own_touch h.ok ht h2, h.b.trans (ht.below h.sz hS |>.mono (by omega)), Nat.le_trans h.sz ht.size⟩
theorem retSf {fn : Func} {p : Tmp} (h : fn.results = #[.cell p 25]) (tmps : Array Value) (w : World) (g : Nat) (cv kv : Value) (hp : tmps.getD p undef = .pointer (some ⟨g, 0, none⟩)) (hg : w.heap[g]? = some (.cells #[cv, kv] 25 (0, 0))) :
    (results fn tmps).run Tryz.prog w = .ok (.agg #[cv, kv]) w :=
  results_cell_row h tmps w g 25 _ (0, 0) _ hp hg Tryz.underlying25 rfl schema_info
/-- What few answers. -/
def FPost (w : World) (L : List Co) (K : List Int) (e : Ending) (w' : World) : Prop := ∃ cv kv, e = .returned (.agg #[cv, kv]) ∧ OwnK w' w.heap.size cv L ∧ OwnI w' w.heap.size kv K ∧ Below w.heap.size w w'
end Go.Proofs.YtigcgkhcbmnboaaGreatDoor

/- slices.Clone of columns and numbers; Copy of a schema, the program's and the reference's. -/
namespace Go.Proofs.YtigcgkhcbmnboaaGreatDoor
open Go.RowKit
set_option linter.unusedVariables false
set_option linter.unusedSimpArgs false
set_option maxRecDepth 100000

set_option maxHeartbeats 4000000 in
theorem cCloneK (v : Value) (l : List Co) (w : World) (h : RdK w w.heap.size v l) (hl : l.length ≤ 1000000) :
    Calls Tryz.prog 59 #[v] w fun e w' => ∃ v', e = .returned v' ∧ OwnK w' w.heap.size v' l ∧ Below w.heap.size w w' := by
  obtain ⟨a, c, rfl, hc, hm, hn⟩ := Gn.Rd.form h
  have HR := Lib.hid h
  have HO : Hid (OwnK (w.alloc (.cells #[] 63)) w.heap.size (.slice (some ⟨w.heap.size, 0, none⟩) 0 0) ([] : List Co)) := Lib.hid (Gn.Own.lit coL w w.heap.size [] _ 0 0 rfl rfl rfl (by simp) (Nat.le_refl _))
  have HB := Lib.hid (box_new w (.cells #[] 63))
  have HR2 := Lib.hid (h.later (box_new w (.cells #[] 63)))
  have HSZ := Lib.hid HB.out.size
  cases a with
  | none =>
    have hl0 : l = [] := List.eq_nil_of_length_eq_zero (by have := hn rfl; omega)
    subst hl0
    obtain rfl := hn rfl
    have qT : ∀ w, (binOp .eql 22 (.slice none 0 0) (.slice none 0 0)).run Tryz.prog w = .ok (.bool true) w := fun w => Lib.run_eql_slice_nil w 22 63 none 0 0 0 0 Tryz.underlying22
    clear h
    go_enter Tryz.func59, Tryz.ntmps59
    go_wp2_with fail
    go_ret
    exact ⟨_, rfl, Gn.Own.nil _ _, Below.refl _ _⟩
  | some ad =>
    have qT : ∀ w, (binOp .eql 22 (.slice (some ad) l.length c) (.slice none 0 0)).run Tryz.prog w = .ok (.bool false) w := fun w => Lib.run_eql_slice_nil w 22 63 (some ad) _ c 0 0 Tryz.underlying22
    have HLN : Hid (([] : List Co).length + l.length ≤ 100000000) := Lib.hid (by simp; omega)
    clear h
    go_enter Tryz.func59, Tryz.ntmps59
    go_wp2_with (at_builtin
                 refine Gn.wpList_app coL coY rfl (.tmp 5) (.tmp 6) rfl w.heap.size (.slice (some ⟨w.heap.size, 0, none⟩) 0 0) [] rfl HO.out (.slice (some ad) l.length c) l rfl HR2.out HLN.out HSZ.out ?_
                 intro v1 w1 ho1 hg1 hl1 hn1)
    go_ret
    exact ⟨_, rfl, ho1, HB.out.trans (Gn.below_of_own HO.out hg1 HSZ.out)⟩
set_option maxHeartbeats 4000000 in
theorem cCloneI (v : Value) (l : List Int) (w : World) (h : RdI w w.heap.size v l) (hl : l.length ≤ 1000000) :
    Calls Tryz.prog 60 #[v] w fun e w' => ∃ v', e = .returned v' ∧ OwnI w' w.heap.size v' l ∧ Below w.heap.size w w' := by
  obtain ⟨a, c, rfl, hc, hm, hn⟩ := Gn.Rd.form h
  have HR := Lib.hid h
  have HO : Hid (OwnI (w.alloc (.cells #[] 3)) w.heap.size (.slice (some ⟨w.heap.size, 0, none⟩) 0 0) ([] : List Int)) := Lib.hid (Gn.Own.lit inL w w.heap.size [] _ 0 0 rfl rfl rfl (by simp) (Nat.le_refl _))
  have HB := Lib.hid (box_new w (.cells #[] 3))
  have HR2 := Lib.hid (h.later (box_new w (.cells #[] 3)))
  have HSZ := Lib.hid HB.out.size
  cases a with
  | none =>
    have hl0 : l = [] := List.eq_nil_of_length_eq_zero (by have := hn rfl; omega)
    subst hl0
    obtain rfl := hn rfl
    have qT : ∀ w, (binOp .eql 23 (.slice none 0 0) (.slice none 0 0)).run Tryz.prog w = .ok (.bool true) w := fun w => Lib.run_eql_slice_nil w 23 3 none 0 0 0 0 Tryz.underlying23
    clear h
    go_enter Tryz.func60, Tryz.ntmps60
    go_wp2_with fail
    go_ret
    exact ⟨_, rfl, Gn.Own.nil _ _, Below.refl _ _⟩
  | some ad =>
    have qT : ∀ w, (binOp .eql 23 (.slice (some ad) l.length c) (.slice none 0 0)).run Tryz.prog w = .ok (.bool false) w := fun w => Lib.run_eql_slice_nil w 23 3 (some ad) _ c 0 0 Tryz.underlying23
    have HLN : Hid (([] : List Int).length + l.length ≤ 100000000) := Lib.hid (by simp; omega)
    clear h
    go_enter Tryz.func60, Tryz.ntmps60
    go_wp2_with (at_builtin
                 refine Gn.wpList_app inL inY rfl (.tmp 5) (.tmp 6) rfl w.heap.size (.slice (some ⟨w.heap.size, 0, none⟩) 0 0) [] rfl HO.out (.slice (some ad) l.length c) l rfl HR2.out HLN.out HSZ.out ?_
                 intro v1 w1 ho1 hg1 hl1 hn1)
    go_ret
    exact ⟨_, rfl, ho1, HB.out.trans (Gn.below_of_own HO.out hg1 HSZ.out)⟩
set_option maxHeartbeats 8000000 in
theorem cCopyS (v kv : Value) (l : List Co) (ks : List Int) (w : World) (h : RdK w w.heap.size v l) (hk : RdI w w.heap.size kv ks) (hl : l.length ≤ 1000000) (hkl : ks.length ≤ 1000000) :
    Calls Tryz.prog 33 #[.agg #[v, kv]] w fun e w' => FPost w l ks e w' := by
  obtain ⟨a, c, rfl, _⟩ := Gn.Rd.form h
  obtain ⟨ka, kc, rfl, _⟩ := Gn.Rd.form hk
  obtain ⟨v, hv⟩ : ∃ v, v = Value.slice a l.length c := ⟨_, rfl⟩
  obtain ⟨kv, hkv⟩ : ∃ v, v = Value.slice ka ks.length kc := ⟨_, rfl⟩
  rw [← hv] at h ⊢
  rw [← hkv] at hk ⊢
  have HV := Lib.hid h
  have HKV := Lib.hid hk
  have HCK := Lib.hid (fun w1 (g : RdK w1 w1.heap.size v l) => cCloneK v l w1 g hl)
  have HCI := Lib.hid (fun w1 (g : RdI w1 w1.heap.size kv ks) => cCloneI kv ks w1 g hkl)
  have b1 := box_new w (.cells #[v, kv] 25)
  have b2 := box_new (w.alloc (.cells #[v, kv] 25)) (.cells #[nilS, nilS] 25)
  have HB := Lib.hid (up b1 b2)
  have HX := Lib.hid ((Blk.new w 25 #[v, kv]).later b2)
  have HY := Lib.hid (Blk.new (w.alloc (.cells #[v, kv] 25)) 25 #[nilS, nilS])
  rw [show (w.alloc (.cells #[v, kv] 25)).heap.size = w.heap.size + 1 by simp] at HY
  have HSZ : Hid (((w.alloc (.cells #[v, kv] 25)).alloc (.cells #[nilS, nilS] 25)).heap.size = w.heap.size + 2) := Lib.hid (by simp)
  have x0 := HX.out.cell 0
  have x1 := HX.out.cell 1
  simp only [List.getElem?_cons_succ, List.getElem?_cons_zero] at x0 x1
  unfold nilS at HB HX HSZ x0 x1
  clear h hk b1 b2 hv hkv
  have HY' := HY
  unfold nilS at HY'
  clear HY
  go_enter Tryz.func33, Tryz.ntmps33
  go_upto_region 1 with fail
  have HY : Hid (Blk ((w.alloc (.cells #[v, kv] 25)).alloc (.cells #[.slice none 0 0, .slice none 0 0] 25)) (w.heap.size + 1) 25 [nilS, nilS]) := HY'
  clear HY'
  generalize (w.alloc (.cells #[v, kv] 25)).alloc (.cells #[.slice none 0 0, .slice none 0 0] 25) = wr at *
  refine region_growI_merge (fun u v => Touch (fun q => q = w.heap.size + 1) u v) (fun d u => (d 7 = false → Blk u (w.heap.size + 1) 25 [nilS, nilS]) ∧ (d 7 = true → ∃ xa xb, Blk u (w.heap.size + 1) 25 [xa, xb] ∧ OwnK u (w.heap.size + 2) xa l ∧ OwnI u (w.heap.size + 2) xb ks)) (fun _ _ _ => True) (fun u => Touch.refl _ _) (fun _ _ _ h k => h.trans k (fun _ h => .inl h)) (kjI #[Spc.eq (.pointer (some ⟨w.heap.size, 0, none⟩)), Spc.eq (v), ⟨fun x u => OwnK u (w.heap.size + 2) x l, fun _ _ _ h hb => own_touch h hb (fun q hq e => by have := (h.lt q hq).1; have e : q = w.heap.size + 1 := e; omega)⟩, Spc.eq (.pointer (some ⟨w.heap.size, 1, none⟩)), Spc.eq (kv), ⟨fun x u => OwnI u (w.heap.size + 2) x ks, fun _ _ _ h hb => own_touch h hb (fun q hq e => by have := (h.lt q hq).1; have e : q = w.heap.size + 1 := e; omega)⟩, ⟨fun x u => ∃ a b, x = .agg #[a, b] ∧ OwnK u (w.heap.size + 2) a l ∧ OwnI u (w.heap.size + 2) b ks, fun _ _ _ h hb => by obtain ⟨a, b, h1, h2, h3⟩ := h; exact ⟨a, b, h1, own_touch h2 hb (fun q hq e => by have := (h2.lt q hq).1; have e : q = w.heap.size + 1 := e; omega), own_touch h3 hb (fun q hq e => by have := (h3.lt q hq).1; have e : q = w.heap.size + 1 := e; omega)⟩⟩, Spc.any]) [3, 4, 5, 6, 7, 8, 9] (fun ts u => ∃ xa xb, Blk u (w.heap.size + 1) 25 [xa, xb] ∧ OwnK u (w.heap.size + 2) xa l ∧ OwnI u (w.heap.size + 2) xb ks ∧ Below w.heap.size w u) (by kernel_rfl) (by kernel_rfl) (by kernel_rfl) kjI_later ⟨fun _ => HY.out.later (Below.refl _ _).drew, fun h => (by cases h)⟩ ?_ ?_ ?_
  · intro QQ fd jo o a w1 ho hfd hdd hI hb hs hold hdep
    have hjo : jo < 8 := (Array.getElem?_eq_some_iff.1 ho).1
    skip
    have hsz : w.heap.size + 2 ≤ w1.heap.size := by have := hb.size; have h2 := HSZ.out; have h3 : wr.heap.size ≤ w1.heap.size := this; omega
    have hbw : Below w.heap.size w w1 := HB.out.drew.trans (hb.below (show w.heap.size ≤ wr.heap.size by have := HSZ.out; omega) (fun q hq => by have hq : q = w.heap.size + 1 := hq; omega))
    have k0 : w1.cell? ⟨w.heap.size, 0, none⟩ = some v := (hb.cell (p := ⟨w.heap.size, 0, none⟩) (cell_lt x0) (by show ¬ w.heap.size = w.heap.size + 1; omega)).trans x0
    have k1 : w1.cell? ⟨w.heap.size, 1, none⟩ = some kv := (hb.cell (p := ⟨w.heap.size, 1, none⟩) (cell_lt x1) (by show ¬ w.heap.size = w.heap.size + 1; omega)).trans x1
    clear x0 x1
    have e1 : a.eval (.tmp 1) = .pointer (some ⟨w.heap.size, 0, none⟩) := by
      show a.tmps.getD 1 undef = _
      rw [Array.getD_eq_getD_getElem?, hold 1 (by decide +kernel)]; rfl
    have e2 : a.eval (.tmp 2) = .pointer (some ⟨w.heap.size + 1, 0, none⟩) := by
      show a.tmps.getD 2 undef = _
      rw [Array.getD_eq_getD_getElem?, hold 2 (by decide +kernel)]; rfl
    have ec : ∀ v, a.eval (.const v) = v := fun _ => rfl
    clear hold hs
    rcases (show jo = 0 ∨ jo = 1 ∨ jo = 2 ∨ jo = 3 ∨ jo = 4 ∨ jo = 5 ∨ jo = 6 ∨ jo = 7 by omega) with rfl | rfl | rfl | rfl | rfl | rfl | rfl | rfl
    · have ho2 := ho; simp only [List.getElem?_toArray, List.getElem?_cons_succ, List.getElem?_cons_zero, Option.some.injEq] at ho2; subst ho2
      refine growI_val (I := (fun d u => (d 7 = false → Blk u (w.heap.size + 1) 25 [nilS, nilS]) ∧ (d 7 = true → ∃ xa xb, Blk u (w.heap.size + 1) 25 [xa, xb] ∧ OwnK u (w.heap.size + 2) xa l ∧ OwnI u (w.heap.size + 2) xb ks))) (X := (fun _ _ _ => True)) (d := fd) (a := a) (w := w1) (.pointer (some ⟨w.heap.size, 0, none⟩)) w1 ho rfl ?_ ((fun u => Touch.refl _ _) w1) ⟨fun h => (hI.1 (by simpa [upd] using h)).later (Below.refl _ _), fun h => (hI.2 (by simpa [upd] using h)).elim fun xa h => h.elim fun xb h => ⟨xa, xb, h.1.later (Below.refl _ _), Gn.Own.later h.2.1 (Below.refl _ _), Gn.Own.later h.2.2 (Below.refl _ _)⟩⟩ trivial rfl
      unfold execOp
      simp only [List.map_toArray, List.map_cons, List.map_nil, e1, ec]
      first | rfl | (go_simp; done) | (go_simp; rfl) | (go_simp; omega)
    · have ho2 := ho; simp only [List.getElem?_toArray, List.getElem?_cons_succ, List.getElem?_cons_zero, Option.some.injEq] at ho2; subst ho2
      have d0 : a.eval (.tmp 3) = .pointer (some ⟨w.heap.size, 0, none⟩) := hdep ⟨0, .data⟩ (by simp) rfl
      refine growI_val (I := (fun d u => (d 7 = false → Blk u (w.heap.size + 1) 25 [nilS, nilS]) ∧ (d 7 = true → ∃ xa xb, Blk u (w.heap.size + 1) 25 [xa, xb] ∧ OwnK u (w.heap.size + 2) xa l ∧ OwnI u (w.heap.size + 2) xb ks))) (X := (fun _ _ _ => True)) (d := fd) (a := a) (w := w1) (v) w1 ho rfl ?_ ((fun u => Touch.refl _ _) w1) ⟨fun h => (hI.1 (by simpa [upd] using h)).later (Below.refl _ _), fun h => (hI.2 (by simpa [upd] using h)).elim fun xa h => h.elim fun xb h => ⟨xa, xb, h.1.later (Below.refl _ _), Gn.Own.later h.2.1 (Below.refl _ _), Gn.Own.later h.2.2 (Below.refl _ _)⟩⟩ trivial rfl
      unfold execOp
      simp only [List.map_toArray, List.map_cons, List.map_nil, d0, ec]
      first | rfl | (go_simp; done) | (go_simp; rfl) | (go_simp; omega)
    · have ho2 := ho; simp only [List.getElem?_toArray, List.getElem?_cons_succ, List.getElem?_cons_zero, Option.some.injEq] at ho2; subst ho2
      have d0 : a.eval (.tmp 4) = v := hdep ⟨1, .data⟩ (by simp) rfl
      refine growI_call (I := (fun d u => (d 7 = false → Blk u (w.heap.size + 1) 25 [nilS, nilS]) ∧ (d 7 = true → ∃ xa xb, Blk u (w.heap.size + 1) 25 [xa, xb] ∧ OwnK u (w.heap.size + 2) xa l ∧ OwnI u (w.heap.size + 2) xb ks))) (X := (fun _ _ _ => True)) (d := fd) (a := a) (w := w1) 59 #[v] ho rfl ?_ ((HCK.out w1 (HV.out.later hbw)).mono ?_)
      · unfold execOp resolve
        simp only [List.map_toArray, List.map_cons, List.map_nil, d0, ec]
        rfl
      · rintro e c1 ⟨v1, rfl, ho1, hb2⟩
        exact ⟨_, rfl, (Gn.Own.lower ho1 hsz), (Touch.of_below hb2), ⟨fun h => (hI.1 (by simpa [upd] using h)).later hb2, fun h => (hI.2 (by simpa [upd] using h)).elim fun xa h => h.elim fun xb h => ⟨xa, xb, h.1.later hb2, Gn.Own.later h.2.1 hb2, Gn.Own.later h.2.2 hb2⟩⟩, trivial⟩
    · have ho2 := ho; simp only [List.getElem?_toArray, List.getElem?_cons_succ, List.getElem?_cons_zero, Option.some.injEq] at ho2; subst ho2
      refine growI_val (I := (fun d u => (d 7 = false → Blk u (w.heap.size + 1) 25 [nilS, nilS]) ∧ (d 7 = true → ∃ xa xb, Blk u (w.heap.size + 1) 25 [xa, xb] ∧ OwnK u (w.heap.size + 2) xa l ∧ OwnI u (w.heap.size + 2) xb ks))) (X := (fun _ _ _ => True)) (d := fd) (a := a) (w := w1) (.pointer (some ⟨w.heap.size, 1, none⟩)) w1 ho rfl ?_ ((fun u => Touch.refl _ _) w1) ⟨fun h => (hI.1 (by simpa [upd] using h)).later (Below.refl _ _), fun h => (hI.2 (by simpa [upd] using h)).elim fun xa h => h.elim fun xb h => ⟨xa, xb, h.1.later (Below.refl _ _), Gn.Own.later h.2.1 (Below.refl _ _), Gn.Own.later h.2.2 (Below.refl _ _)⟩⟩ trivial rfl
      unfold execOp
      simp only [List.map_toArray, List.map_cons, List.map_nil, e1, ec]
      first | rfl | (go_simp; done) | (go_simp; rfl) | (go_simp; omega)
    · have ho2 := ho; simp only [List.getElem?_toArray, List.getElem?_cons_succ, List.getElem?_cons_zero, Option.some.injEq] at ho2; subst ho2
      have d0 : a.eval (.tmp 6) = .pointer (some ⟨w.heap.size, 1, none⟩) := hdep ⟨3, .data⟩ (by simp) rfl
      refine growI_val (I := (fun d u => (d 7 = false → Blk u (w.heap.size + 1) 25 [nilS, nilS]) ∧ (d 7 = true → ∃ xa xb, Blk u (w.heap.size + 1) 25 [xa, xb] ∧ OwnK u (w.heap.size + 2) xa l ∧ OwnI u (w.heap.size + 2) xb ks))) (X := (fun _ _ _ => True)) (d := fd) (a := a) (w := w1) (kv) w1 ho rfl ?_ ((fun u => Touch.refl _ _) w1) ⟨fun h => (hI.1 (by simpa [upd] using h)).later (Below.refl _ _), fun h => (hI.2 (by simpa [upd] using h)).elim fun xa h => h.elim fun xb h => ⟨xa, xb, h.1.later (Below.refl _ _), Gn.Own.later h.2.1 (Below.refl _ _), Gn.Own.later h.2.2 (Below.refl _ _)⟩⟩ trivial rfl
      unfold execOp
      simp only [List.map_toArray, List.map_cons, List.map_nil, d0, ec]
      first | rfl | (go_simp; done) | (go_simp; rfl) | (go_simp; omega)
    · have ho2 := ho; simp only [List.getElem?_toArray, List.getElem?_cons_succ, List.getElem?_cons_zero, Option.some.injEq] at ho2; subst ho2
      have d0 : a.eval (.tmp 7) = kv := hdep ⟨4, .data⟩ (by simp) rfl
      refine growI_call (I := (fun d u => (d 7 = false → Blk u (w.heap.size + 1) 25 [nilS, nilS]) ∧ (d 7 = true → ∃ xa xb, Blk u (w.heap.size + 1) 25 [xa, xb] ∧ OwnK u (w.heap.size + 2) xa l ∧ OwnI u (w.heap.size + 2) xb ks))) (X := (fun _ _ _ => True)) (d := fd) (a := a) (w := w1) 60 #[kv] ho rfl ?_ ((HCI.out w1 (HKV.out.later hbw)).mono ?_)
      · unfold execOp resolve
        simp only [List.map_toArray, List.map_cons, List.map_nil, d0, ec]
        rfl
      · rintro e c1 ⟨v1, rfl, ho1, hb2⟩
        exact ⟨_, rfl, (Gn.Own.lower ho1 hsz), (Touch.of_below hb2), ⟨fun h => (hI.1 (by simpa [upd] using h)).later hb2, fun h => (hI.2 (by simpa [upd] using h)).elim fun xa h => h.elim fun xb h => ⟨xa, xb, h.1.later hb2, Gn.Own.later h.2.1 hb2, Gn.Own.later h.2.2 hb2⟩⟩, trivial⟩
    · have ho2 := ho; simp only [List.getElem?_toArray, List.getElem?_cons_succ, List.getElem?_cons_zero, Option.some.injEq] at ho2; subst ho2
      obtain ⟨a1, d0, f0⟩ : ∃ x, a.eval (.tmp 5) = x ∧ OwnK w1 (w.heap.size + 2) x l := ⟨_, rfl, hdep ⟨2, .data⟩ (by simp) rfl⟩
      obtain ⟨b1, d1, f1⟩ : ∃ x, a.eval (.tmp 8) = x ∧ OwnI w1 (w.heap.size + 2) x ks := ⟨_, rfl, hdep ⟨5, .data⟩ (by simp) rfl⟩
      obtain ⟨xa, xc, rfl, _⟩ := Gn.Rd.form (RdK.of f0)
      obtain ⟨ya, yc, rfl, _⟩ := Gn.Rd.form (RdI.of f1)
      refine growI_val (I := (fun d u => (d 7 = false → Blk u (w.heap.size + 1) 25 [nilS, nilS]) ∧ (d 7 = true → ∃ xa xb, Blk u (w.heap.size + 1) 25 [xa, xb] ∧ OwnK u (w.heap.size + 2) xa l ∧ OwnI u (w.heap.size + 2) xb ks))) (X := (fun _ _ _ => True)) (d := fd) (a := a) (w := w1) (.agg #[.slice xa l.length xc, .slice ya ks.length yc]) w1 ho rfl ?_ (Touch.refl _ _) ⟨fun h => (hI.1 (by simpa [upd] using h)).later (Below.refl _ _), fun h => (hI.2 (by simpa [upd] using h)).elim fun xa h => h.elim fun xb h => ⟨xa, xb, h.1.later (Below.refl _ _), Gn.Own.later h.2.1 (Below.refl _ _), Gn.Own.later h.2.2 (Below.refl _ _)⟩⟩ trivial ⟨_, _, rfl, f0, f1⟩
      unfold execOp
      first | (simp only [List.map_toArray, List.map_cons, List.map_nil, d0, d1, ec]; rfl) | (simp only [List.map_toArray, List.map_cons, List.map_nil, d0, d1, ec]; go_simp; done) | (generalize a.eval = ev at *; go_simp; done)
    · have ho2 := ho; simp only [List.getElem?_toArray, List.getElem?_cons_succ, List.getElem?_cons_zero, Option.some.injEq] at ho2; subst ho2
      obtain ⟨v1, d1, xa, xb, rfl, h1, h2⟩ : ∃ v1, a.eval (.tmp 9) = v1 ∧ ∃ a b, v1 = .agg #[a, b] ∧ OwnK w1 (w.heap.size + 2) a l ∧ OwnI w1 (w.heap.size + 2) b ks := ⟨_, rfl, hdep ⟨6, .data⟩ (by simp) rfl⟩
      have hs1 := hI.1 hfd
      have q0 := hs1.cell 0
      have q1 := hs1.cell 1
      have q2 := hs1.frozen 0
      have q3 := hs1.frozen 1
      simp only [List.getElem?_cons_succ, List.getElem?_cons_zero] at q0 q1
      have hp := Blk.put (Blk.put hs1 0 xa) 1 xb
      have o1 := own_far (own_far h1 (p := ⟨w.heap.size + 1, 0, none⟩) (by simp only; omega) xa) (p := ⟨w.heap.size + 1, 1, none⟩) (by simp only; omega) xb
      have o2 := own_far (own_far h2 (p := ⟨w.heap.size + 1, 0, none⟩) (by simp only; omega) xa) (p := ⟨w.heap.size + 1, 1, none⟩) (by simp only; omega) xb
      obtain ⟨ya, yc, rfl, _⟩ := Gn.Rd.form (RdK.of h1)
      obtain ⟨za, zc, rfl, _⟩ := Gn.Rd.form (RdI.of h2)
      refine growI_skip (I := (fun d u => (d 7 = false → Blk u (w.heap.size + 1) 25 [nilS, nilS]) ∧ (d 7 = true → ∃ xa xb, Blk u (w.heap.size + 1) 25 [xa, xb] ∧ OwnK u (w.heap.size + 2) xa l ∧ OwnI u (w.heap.size + 2) xb ks))) (X := (fun _ _ _ => True)) (d := fd) (a := a) (w := w1) ((w1.setCell ⟨w.heap.size + 1, 0, none⟩ _).setCell ⟨w.heap.size + 1, 1, none⟩ _) ho rfl rfl ?_ (Touch.setCell (S := fun q => q = w.heap.size + 1) (p := ⟨w.heap.size + 1, 1, none⟩) (Touch.setCell (S := fun q => q = w.heap.size + 1) (p := ⟨w.heap.size + 1, 0, none⟩) (Touch.refl _ _) rfl _) rfl _) ⟨fun h => absurd h (by simp [upd]), fun _ => ⟨_, _, hp, o1, o2⟩⟩ trivial trivial
      unfold execOp
      simp only [e2, d1, ec]
      go_simp
  · intro a w1 hI hb hj
    obtain ⟨xa, xb, h1, h2, h3⟩ := hI.2 (by decide)
    have hbw : Below w.heap.size w w1 := HB.out.drew.trans (hb.below (show w.heap.size ≤ wr.heap.size by have := HSZ.out; omega) (fun q hq => by have hq : q = w.heap.size + 1 := hq; omega))
    exact ⟨xa, xb, h1, h2, h3, hbw⟩
  rintro ts w6 ⟨xa, xb, h1, h2, h3, hbw⟩
  simp only [fill, List.setIfInBounds_toArray, List.set_cons_succ, List.set_cons_zero]
  have H1 := Lib.hid h1
  have H2 := Lib.hid (Gn.Own.lower h2 (show w.heap.size ≤ w.heap.size + 2 by omega))
  have H3 := Lib.hid (Gn.Own.lower h3 (show w.heap.size ≤ w.heap.size + 2 by omega))
  have H4 := Lib.hid hbw
  clear h1 h2 h3 hbw x0 x1
  go_wp2_with fail
  exact bodyPost_ret (retSf rfl _ _ (w.heap.size + 1) xa xb rfl H1.out) rfl ⟨_, _, rfl, H2.out, H3.out, H4.out⟩
end Go.Proofs.YtigcgkhcbmnboaaGreatDoor

/- Evolve, plainly: a schema of a chain in which one thing is other may be, and does not follow it. -/
namespace Go.Proofs.YtigcgkhcbmnboaaGreatDoor.Ev
open Cl
set_option linter.unusedVariables false
set_option linter.unusedSimpArgs false

theorem set_hit {l : List Co} {k : Nat} {c : Co} (h : k < l.length) : (l.set k c)[k]? = some c := by simp [h]
theorem set_off {l : List Co} {k j : Nat} {c : Co} (h : k ≠ j) : (l.set k c)[j]? = l[j]? := by simp [h]
/-- The ids of the columns are the same ones. -/
theorem set_id {l : List Co} {k : Nat} {c c' : Co} (hc : l[k]? = some c) (hi : c'.id = c.id) (j : Nat) {d : Co} (hd : (l.set k c')[j]? = some d) : ∃ e, l[j]? = some e ∧ e.id = d.id ∧ (j ≠ k → e = d) ∧ (j = k → d = c') := by
  by_cases h : k = j
  · subst h
    rw [set_hit (List.getElem?_eq_some_iff.1 hc).1] at hd
    injection hd with hd; subst hd
    exact ⟨c, hc, hi.symm, fun h => absurd rfl h, fun _ => rfl⟩
  · rw [set_off h] at hd
    exact ⟨d, hd, rfl, fun _ => rfl, fun e => absurd e.symm h⟩
theorem okK_zero {l : List Co} {c : Co} (hc : l[0]? = some c) (hu : c.u = false) : Sc.okK l [0] = true := by
  have hl := (List.getElem?_eq_some_iff.1 hc).1
  refine Sc.okK_iff.2 ⟨by simp, fun i k hk => ?_⟩
  match i with
  | 0 =>
    simp at hk; subst hk
    unfold Sc.okKAt Sc.leastK
    rw [show (0 : Int).toNat = 0 from rfl, Sc.getD_of hc, hu]
    simp; omega
  | i + 1 => simp at hk
/-- A column is put in another one's place. -/
theorem CL.set {n : Int} {o : Nat} {l : List Co} (h : CL n o l) (hn : n ≤ 1048576) (hl : l.length ≤ 32) {k : Nat} {c c' : Co} (hc : l[k]? = some c) (hi : c'.id = c.id) (hnm : Sc.name (bl c'.nm) = true) (hck : chk c'.u c'.k c'.d = 0)
    (hf : ∀ j d, j ≠ k → l[j]? = some d → bl d.nm ≠ bl c'.nm) (hu : k = 0 → c'.u = false) : Sc.ck (l.set k c') [0] = 0 := by
  have hokC := Sc.okC_iff.1 (h.okC hn hl)
  refine Sc.ck_ok (Sc.okC_iff.2 ⟨by rw [List.length_set]; exact hokC.1, fun i d hd => ?_⟩) ?_
  · obtain ⟨e, he, h1, h2, h3⟩ := set_id hc hi i hd
    obtain ⟨⟨q1, q2⟩, q3, q4, q5⟩ := Sc.okAt_parts.1 (hokC.2 i e he)
    have hle : Sc.least (l.set k c') i = Sc.least l i := by
      unfold Sc.least
      split
      · rfl
      · obtain ⟨x, hx⟩ : ∃ x, (l.set k c')[i - 1]? = some x := ⟨_, List.getElem?_eq_getElem (by rw [List.length_set]; have := (List.getElem?_eq_some_iff.1 he).1; omega)⟩
        obtain ⟨y, hy, h4, _⟩ := set_id hc hi (i - 1) hx
        rw [Sc.getD_of hx, Sc.getD_of hy, h4]
    refine Sc.okAt_parts.2 ⟨⟨by rw [hle, ← h1]; exact q1, by rw [← h1]; exact q2⟩, ?_, ?_, ?_⟩
    · by_cases e : i = k
      · rw [h3 e]; exact hnm
      · rw [← h2 e]; exact q3
    · by_cases e : i = k
      · rw [h3 e]; exact hck
      · rw [← h2 e]; exact q4
    · unfold Sc.fresh
      rw [List.all_eq_true]
      intro x hx
      obtain ⟨j, hj⟩ := List.getElem?_of_mem hx
      have hji : j < i := by have := (List.getElem?_eq_some_iff.1 hj).1; simp at this; omega
      rw [List.getElem?_take_of_lt hji] at hj
      obtain ⟨y, hy, h4, h5, h6⟩ := set_id hc hi j hj
      rw [decide_eq_true_eq]
      by_cases e1 : i = k
      · rw [h3 e1, ← h5 (by omega)]
        exact hf j y (by omega) hy
      · by_cases e2 : j = k
        · rw [h6 e2, ← h2 e1]
          exact fun e' => hf i e (by omega) he e'.symm
        · rw [← h5 e2, ← h2 e1]
          unfold Sc.fresh at q5
          rw [List.all_eq_true] at q5
          have := q5 y (List.mem_of_getElem? (i := j) (by rw [List.getElem?_take_of_lt hji]; exact hy))
          simpa using this
  · by_cases e : k = 0
    · subst e
      exact okK_zero (set_hit (by omega)) (hu rfl)
    · obtain ⟨c0, t, e0, _, h2, _⟩ := h.hd
      exact okK_zero (by rw [set_off e, e0]; rfl) h2
theorem two_go {a b : Sm} (ha : Sc.ck a.1 a.2 = 0) (hb : Sc.ck b.1 b.2 = 0) : chain [a, b] = if fol a b (hiL [a]) = true then 0 else 120 := by
  have e1 : allOk [a, b] = true := by unfold allOk; simp [ha, hb]
  have e2 : isCh [a, b] = fol a b (hiL [a]) := by
    unfold isCh folAt
    simp [show List.range 2 = [0, 1] from rfl]
  unfold chain
  rw [if_neg (by simp), if_pos e1, e2]
theorem two_no {a b : Sm} (ha : Sc.ck a.1 a.2 = 0) (hb : Sc.ck b.1 b.2 = 0) (h : fol a b (hiL [a]) = false) : chain [a, b] = 120 := by
  rw [two_go ha hb, h]; rfl
theorem fol_col {a b : Sm} {h : Int} {c : Co} (hc : c ∈ b.1) (hg : goAt a.1 h c = false) : fol a b h = false := by
  cases e : fol a b h with
  | false => rfl
  | true => have := (fol_iff.1 e).1 c hc; rw [hg] at this; cases this
theorem fol_key {a b : Sm} {h : Int} (hk : kid a ≠ kid b) : fol a b h = false := by
  cases e : fol a b h with
  | false => rfl
  | true => exact absurd (fol_iff.1 e).2 hk
theorem goAt_no {l : List Co} (hr : Rise l) {k : Nat} {c c' : Co} {h : Int} (hc : l[k]? = some c) (hi : c'.id = c.id) (hs : stay c c' = false) : goAt l h c' = false := by
  unfold goAt
  rw [hi, fid_at hr hc]
  simp only [if_true]
  rw [Sc.getD_of hc, hs]
/-- May be, and doesn't follow. -/
structure Sp (a b : Sm) : Prop where
  ok : Sc.ck b.1 b.2 = 0
  no : chain [a, b] = 120
theorem no_stay {a b : Co} (h : ¬ St a b) : stay a b = false := by
  cases e : stay a b with
  | false => rfl
  | true => exact absurd (stay_iff.1 e) h
theorem CL.sp {n : Int} {o : Nat} {l : List Co} (h : CL n o l) (hn : n ≤ 1048576) (hl : l.length ≤ 32) {k : Nat} {c c' : Co} (hc : l[k]? = some c) (hi : c'.id = c.id) (hnm : Sc.name (bl c'.nm) = true) (hck : chk c'.u c'.k c'.d = 0)
    (hf : ∀ j d, j ≠ k → l[j]? = some d → bl d.nm ≠ bl c'.nm) (hu : k = 0 → c'.u = false) (hs : ¬ St c c') : Sp (l, [0]) (l.set k c', [0]) := by
  have hok := h.set hn hl hc hi hnm hck hf hu
  exact ⟨hok, two_no (h.ck hn hl) hok (fol_col (List.mem_of_getElem? (set_hit (List.getElem?_eq_some_iff.1 hc).1)) (goAt_no (Up.rise h.up) hc hi (no_stay hs)))⟩
/-- The same name, another kind, or default. -/
theorem CL.fresh {n : Int} {o : Nat} {l : List Co} (h : CL n o l) {k : Nat} {c : Co} (hc : l[k]? = some c) : ∀ j d, j ≠ k → l[j]? = some d → bl d.nm ≠ bl c.nm := fun j d hj hd e => by
  obtain ⟨h1, rfl⟩ := List.getElem?_eq_some_iff.1 hd
  obtain ⟨h2, rfl⟩ := List.getElem?_eq_some_iff.1 hc
  rcases Nat.lt_or_ge j k with hlt | hge
  · have := (List.pairwise_iff_getElem.1 h.up j k h1 h2 hlt).2
    unfold og at this; rw [e] at this; omega
  · have := (List.pairwise_iff_getElem.1 h.up k j h2 h1 (by omega)).2
    unfold og at this; rw [e] at this; omega
theorem CL.key_u {n : Int} {o : Nat} {l : List Co} (h : CL n o l) {c : Co} (hc : l[0]? = some c) : c.u = false := by
  obtain ⟨c0, t, e, _, hu, _⟩ := h.hd
  rw [e] at hc; injection hc with hc; subst hc; exact hu
theorem CL.at {n : Int} {o : Nat} {l : List Co} (h : CL n o l) {k : Nat} {c : Co} (hc : l[k]? = some c) : CO n o c := h.co c (List.mem_of_getElem? hc)
def otherS : ByteArray := ⟨#[111, 116, 104, 101, 114]⟩
def k2S : ByteArray := ⟨#[107, 50]⟩
def zS : ByteArray := ⟨#[122]⟩
section
variable {n : Int} {o : Nat} {l : List Co} {k : Nat} {i : Int} {m : ByteArray} {q : Int} {u : Bool} {d : C}
/-- Case 0. -/
theorem CL.sp0 (h : CL n o l) (hn : n ≤ 21) (hl : l.length ≤ 14) (hc : l[k]? = some ⟨i, m, q, u, d⟩) : Sp (l, [0]) (l.set k ⟨i, otherS, q, u, d⟩, [0]) :=
  h.sp (by omega) (by omega) hc rfl (show Sc.name (bl otherS) = true by decide) (h.at hc).ck (fun j x _ hx e => by
    have h1 := (h.at hx).m2
    have e := bl_inj e
    have e : x.nm = otherS := e
    rw [e] at h1
    exact absurd h1 (by decide)) (fun e => by subst e; exact h.key_u (c := ⟨i, m, q, u, d⟩) hc) (fun hs => by
    have h1 := (h.at hc).m2
    have e : m = otherS := hs.nm
    simp only at h1
    rw [e] at h1
    exact absurd h1 (by decide))
/-- Case 1: another default. -/
theorem CL.sp1 (h : CL n o l) (hn : n ≤ 21) (hl : l.length ≤ 14) (hc : l[k]? = some ⟨i, m, q, u, d⟩) (d' : C) (hd : d' = if (u && !d.u) = true then ⟨true, 0, ⟨#[]⟩⟩ else ⟨false, 1 - d.n % 2, ⟨#[]⟩⟩) : Sp (l, [0]) (l.set k ⟨i, m, 1, u, d'⟩, [0]) := by
  have hco := h.at hc
  have hck : chk u 1 d' = 0 := by
    rw [hd]
    have hn0 := hco.n0
    simp only at hn0
    split
    · next hu => simp only [Bool.and_eq_true] at hu; rw [hu.1]; decide
    · have : d.n = 0 ∨ d.n = 1 := by omega
      rcases this with e | e <;> rw [e] <;> cases u <;> decide
  refine h.sp (by omega) (by omega) hc rfl hco.nm hck (h.fresh (c := ⟨i, m, q, u, d⟩) hc) (fun e => by subst e; exact h.key_u (c := ⟨i, m, q, u, d⟩) hc) (fun hs => ?_)
  have h1 : d = d' := hs.d
  have hn0 := hco.n0
  simp only at hn0
  rw [hd] at h1
  split at h1
  · next hu => rw [h1] at hu; simp at hu
  · next hu =>
    have h2 : d.n = 1 - d.n % 2 := by
      have := congrArg C.n h1
      simpa using this
    omega
/-- Case 2: null may be, or may not. -/
theorem CL.sp2 (h : CL n o l) (hn : n ≤ 21) (hl : l.length ≤ 14) (hk : k ≠ 0) (hc : l[k]? = some ⟨i, m, q, u, d⟩) (d' : C) (hd : d' = if d.u = true then Cl.empty else d) : Sp (l, [0]) (l.set k ⟨i, m, q, !u, d'⟩, [0]) := by
  have hco := h.at hc
  have hck : chk (!u) q d' = 0 := by
    rw [hd]
    have h1 := hco.ck
    simp only at h1
    have hm := (chk_ok h1).1
    obtain ⟨ha, hb⟩ := may_le hm
    split
    · rcases (show q = 1 ∨ q = 2 ∨ q = 3 ∨ q = 4 ∨ q = 5 by omega) with rfl | rfl | rfl | rfl | rfl <;> cases u <;> decide
    · next hu =>
      have h2 := (chk_ok h1).2
      unfold chk
      rw [hm]
      have : of (!u) q d = true := by
        unfold of at h2 ⊢
        simp only [Bool.or_eq_true, Bool.and_eq_true] at h2 ⊢
        rcases h2 with h2 | h2
        · exact absurd h2.2 (by unfold none?; cases d; simp_all)
        · exact .inr h2
      rw [this]; simp
  exact h.sp (by omega) (by omega) hc rfl hco.nm hck (h.fresh (c := ⟨i, m, q, u, d⟩) hc) (fun e => absurd e hk) (fun hs => by
    have : u = !u := hs.u
    cases u <;> cases this)
theorem CL.sp2k (h : CL n o l) (hn : n ≤ 21) (hl : l.length ≤ 14) (hc : l[0]? = some ⟨i, m, q, u, d⟩) (hm : m = ⟨#[107]⟩) : Sp (l, [0]) (l.set 0 ⟨i, k2S, q, u, d⟩, [0]) :=
  h.sp (by omega) (by omega) hc rfl (show Sc.name (bl k2S) = true by decide) (h.at hc).ck (fun j x hj hx e => by
    obtain ⟨h1, rfl⟩ := List.getElem?_eq_some_iff.1 hx
    obtain ⟨h2, e2⟩ := List.getElem?_eq_some_iff.1 hc
    have := (List.pairwise_iff_getElem.1 h.up 0 j h2 h1 (by omega)).2
    unfold og at this
    rw [e] at this
    have : ogL (bl l[0].nm) < ogL (bl k2S) := this
    rw [show ogL (bl k2S) = 0 by decide] at this
    omega) (fun _ => h.key_u (c := ⟨i, m, q, u, d⟩) hc) (fun hs => by
    have e : m = k2S := hs.nm
    rw [hm] at e
    exact absurd e (by decide))
/-- Case 4: no key. -/
theorem CL.sp4 (h : CL n o l) (hn : n ≤ 21) (hl : l.length ≤ 14) : Sp (l, [0]) (l, []) := by
  have hok : Sc.ck l [] = 0 := Sc.ck_ok (h.okC (by omega) (by omega)) (Sc.okK_iff.2 ⟨by simp, fun i k hk => by simp at hk⟩)
  refine ⟨hok, two_no (h.ck (by omega) (by omega)) hok (fol_key ?_)⟩
  rw [h.kid]
  have : ∀ (l : List Co) (i : Nat), kidF [] i l = [] := fun l => by
    induction l with
    | nil => intro i; rfl
    | cons c t ih => intro i; rw [kidF_cons, if_neg (by simp), ih]
  unfold Ev.kid
  rw [this]
  intro e; cases e
/-- Case 5: wider, and narrower. -/
theorem CL.sp5 (h : CL n o l) (hn : n ≤ 21) (hl : l.length ≤ 14) (hc : l[k]? = some ⟨i, m, 2, u, d⟩) : chain [(l, [0]), (l.set k ⟨i, m, 3, u, d⟩, [0])] = 0 ∧ chain [(l.set k ⟨i, m, 3, u, d⟩, [0]), (l, [0])] = 120 := by
  have hco := h.at hc
  have hok := h.ck (by omega) (by omega)
  have hok2 := h.set (by omega) (by omega) hc (c' := ⟨i, m, 3, u, d⟩) rfl hco.nm (chk_wide hco.ck) (h.fresh (c := ⟨i, m, 2, u, d⟩) hc) (fun e => by subst e; exact h.key_u (c := ⟨i, m, 2, u, d⟩) hc)
  have hr := Up.rise h.up
  constructor
  · rw [two_go hok hok2, if_pos]
    refine fol_iff.2 ⟨fun x hx => ?_, ?_⟩
    · obtain ⟨j, hj⟩ := List.getElem?_of_mem hx
      have hj : (l.set k ⟨i, m, 3, u, d⟩)[j]? = some x := hj
      obtain ⟨y, hy, h1, h2, h3⟩ := set_id hc (c' := ⟨i, m, 3, u, d⟩) rfl j hj
      refine goAt_iff.2 (.inl ⟨j, y, by rw [← h1]; exact fid_at hr hy, hy, ?_⟩)
      by_cases e : j = k
      · subst e
        rw [hc] at hy; injection hy with hy
        rw [h3 rfl, ← hy]
        exact ⟨rfl, rfl, rfl, .inr ⟨rfl, rfl⟩⟩
      · rw [h2 e]; exact .refl _
    · have : ∀ (ks : List Int) (l : List Co) (k : Nat) (i0 : Nat) (c c' : Co), l[k]? = some c → c'.id = c.id → kidF ks i0 (l.set k c') = kidF ks i0 l := fun ks l => by
        induction l with
        | nil => intro k i0 c c' h; simp at h
        | cons x t ih =>
          intro k i0 c c' h he
          match k with
          | 0 =>
            injection h with h
            subst h
            simp only [List.set_cons_zero, kidF_cons, he]
          | k + 1 =>
            rw [List.set_cons_succ, kidF_cons, kidF_cons, ih k (i0 + 1) c c' (by simpa using h) he]
      exact (this [0] l k 0 ⟨i, m, 2, u, d⟩ ⟨i, m, 3, u, d⟩ hc rfl).symm
  · refine two_no hok2 hok (fol_col (List.mem_of_getElem? hc) ?_)
    have hlt := (List.getElem?_eq_some_iff.1 hc).1
    refine goAt_no (c := ⟨i, m, 3, u, d⟩) (fun a b x y hab hx hy => ?_) (set_hit hlt) rfl (no_stay fun hs => ?_)
    · obtain ⟨x', hx', h1, _⟩ := set_id hc (c' := ⟨i, m, 3, u, d⟩) rfl a hx
      obtain ⟨y', hy', h2, _⟩ := set_id hc (c' := ⟨i, m, 3, u, d⟩) rfl b hy
      have := hr a b x' y' hab hx' hy'
      omega
    · have hk := hs.k
      simp only at hk
      omega
/-- One more in front, the others' ids one higher. -/
def bump (c : Co) : Co := ⟨c.id + 1, c.nm, c.k, c.u, c.d⟩
def zc : Co := ⟨1, zS, 1, false, ⟨false, 0, ⟨#[]⟩⟩⟩
theorem CL.sp3 (h : CL n o l) (hn : n ≤ 21) (hl : l.length ≤ 14) (hk : ∀ c, l[0]? = some c → c.nm = ⟨#[107]⟩) : Sp (l, [0]) (zc :: l.map bump, [0]) := by
  have hokC := Sc.okC_iff.1 (h.okC (by omega) (by omega))
  have hfz : ∀ (j : Nat) (x : Co), l[j]? = some x → bl x.nm ≠ bl zS := fun j x hx e => by
    have e := bl_inj e
    match j with
    | 0 =>
      rw [hk x hx] at e
      exact absurd e (by decide)
    | j + 1 =>
      obtain ⟨h1, rfl⟩ := List.getElem?_eq_some_iff.1 hx
      have := (List.pairwise_iff_getElem.1 h.up 0 (j + 1) (by omega) h1 (by omega)).2
      unfold og at this
      rw [e, show ogL (bl zS) = 0 by decide] at this
      omega
  have hat : ∀ j x, (zc :: l.map bump)[j + 1]? = some x → ∃ y, l[j]? = some y ∧ x = bump y := fun j x hx => by
    rw [List.getElem?_cons_succ, List.getElem?_map] at hx
    cases e : l[j]? with
    | none => rw [e] at hx; cases hx
    | some y => rw [e] at hx; injection hx with hx; exact ⟨y, rfl, hx.symm⟩
  have hok : Sc.ck (zc :: l.map bump) [0] = 0 := by
    refine Sc.ck_ok (Sc.okC_iff.2 ⟨by simp; omega, fun i d hd => ?_⟩) (okK_zero (c := zc) rfl rfl)
    match i with
    | 0 =>
      injection hd with hd
      subst hd
      exact Sc.okAt_parts.2 ⟨⟨by simp [Sc.least, zc], by simp [zc]⟩, (show Sc.name (bl zS) = true by decide), by decide, by simp [Sc.fresh]⟩
    | i + 1 =>
      obtain ⟨y, hy, rfl⟩ := hat i d hd
      obtain ⟨⟨q1, q2⟩, q3, q4, q5⟩ := Sc.okAt_parts.1 (hokC.2 i y hy)
      have hb := (h.at hy).id1
      refine Sc.okAt_parts.2 ⟨⟨?_, by show y.id + 1 ≤ _; omega⟩, q3, q4, ?_⟩
      · show _ ≤ y.id + 1
        unfold Sc.least
        rw [if_neg (by omega), Nat.add_sub_cancel]
        match i with
        | 0 =>
          have := (h.at hy).id0
          show (1 : Int) + 1 ≤ _; omega
        | i + 1 =>
          obtain ⟨x, hx⟩ : ∃ x, l[i]? = some x := ⟨_, List.getElem?_eq_getElem (by have := (List.getElem?_eq_some_iff.1 hy).1; omega)⟩
          rw [Sc.getD_of (x := bump x) (by rw [List.getElem?_cons_succ, List.getElem?_map, hx]; rfl)]
          unfold Sc.least at q1
          rw [if_neg (by omega), Nat.add_sub_cancel, Sc.getD_of hx] at q1
          show x.id + 1 + 1 ≤ _; omega
      · unfold Sc.fresh
        rw [List.all_eq_true]
        intro x hx
        obtain ⟨j, hj⟩ := List.getElem?_of_mem hx
        have hji : j < i + 1 := by have := (List.getElem?_eq_some_iff.1 hj).1; simp at this; omega
        rw [List.getElem?_take_of_lt hji] at hj
        rw [decide_eq_true_eq]
        match j with
        | 0 =>
          injection hj with hj
          subst hj
          exact fun e => hfz i y hy e.symm
        | j + 1 =>
          obtain ⟨y', hy', rfl⟩ := hat j x hj
          exact h.fresh hy j y' (by omega) hy'
  refine ⟨hok, two_no (h.ck (by omega) (by omega)) hok (fol_col (c := zc) (by simp) ?_)⟩
  obtain ⟨c0, t, e0, h1, _, h3⟩ := h.hd
  have hc : l[0]? = some c0 := by rw [e0]; rfl
  refine goAt_no (Up.rise h.up) hc (by rw [h1]; rfl) (no_stay fun hs => ?_)
  have hk := hs.k
  have : zc.k = 1 := rfl
  omega
theorem set_self {l : List Co} {k : Nat} {c : Co} (h : l[k]? = some c) : l.set k c = l := by
  obtain ⟨h1, rfl⟩ := List.getElem?_eq_some_iff.1 h
  simp
theorem CL.key_d (h : CL n o l) (hc : l[0]? = some ⟨i, m, q, u, d⟩) : u = false ∧ d.u = false := by
  have hu := h.key_u (c := ⟨i, m, q, u, d⟩) hc
  have hu : u = false := hu
  subst hu
  refine ⟨rfl, ?_⟩
  have h1 := (h.at hc).ck
  have hm := (chk_ok h1).1
  obtain ⟨ha, hb⟩ := may_le hm
  simp only at h1 ha hb
  have h2 := (chk_ok h1).2
  cases e : d.u with
  | false => rfl
  | true =>
    obtain ⟨du, dn, ds⟩ := d
    simp only at e
    subst e
    unfold of isK at h2
    simp at h2
end
def mixB (k : Nat) (l : List Co) : List Co := (l.take k).map bump ++ l.drop k
theorem mixB_len (k : Nat) (l : List Co) : (mixB k l).length = l.length := by unfold mixB; simp; omega
theorem mixB_at {k : Nat} {l : List Co} {x : Co} (h : l[k]? = some x) : (mixB k l)[k]? = some x := by
  have hk := (List.getElem?_eq_some_iff.1 h).1
  unfold mixB
  rw [List.getElem?_append_right (by simp; omega)]
  simp [show k - min k l.length = 0 by omega, h]
theorem mixB_set {k : Nat} {l : List Co} {x : Co} (h : l[k]? = some x) : (mixB k l).set k (bump x) = mixB (k + 1) l := by
  have hk := (List.getElem?_eq_some_iff.1 h).1
  unfold mixB
  have hl : ((l.take k).map bump).length = k := by simp; omega
  rw [List.set_append_right _ _ (by omega), hl, Nat.sub_self, List.take_add_one, h, List.drop_eq_getElem_cons hk]
  have e : l[k] = x := by rw [List.getElem?_eq_getElem hk] at h; injection h
  simp [e]
theorem mixB_zero (l : List Co) : mixB 0 l = l := by simp [mixB]
theorem mixB_all (l : List Co) : mixB l.length l = l.map bump := by simp [mixB]
/-- The first column's name. -/
theorem mk_key (C : List Int) (V : List V3) {i : Nat} {a : Sm} (ha : (mkch C V)[i]? = some a) : ∀ c, a.1[0]? = some c → c.nm = ⟨#[107]⟩ := fun c hc => by
  have hm := mkch_is C V
  have h0 : ∀ j, (vers (base C (min C.length 6)) (1 + (min C.length 6 : Nat)) V j).out[0]? = some (base C (min C.length 6), [0]) := fun j => by
    induction j with
    | zero => rfl
    | succ j ih =>
      unfold vers
      have := (List.getElem?_eq_some_iff.1 ih).1
      simp only
      rw [List.getElem?_append_left this]; exact ih
  have h1 : (mkch C V)[0]? = some (base C (min C.length 6), [0]) := h0 _
  have hb : ∀ j, (base C j)[0]? = some key0 := fun j => by
    induction j with
    | zero => rfl
    | succ j ih =>
      unfold base
      have := (List.getElem?_eq_some_iff.1 ih).1
      rw [List.getElem?_append_left this]; exact ih
  have hT := (hm.ch.T h1 i (by rw [Nat.zero_add]; exact ha)).1
  obtain ⟨_, _, _, _, _, acl⟩ := hm.all a (List.mem_of_getElem? ha)
  obtain ⟨c0, t, e0, hid, _⟩ := acl.hd
  rw [e0] at hc; injection hc with hc; subst hc
  obtain ⟨_, _, n, o, _, bcl⟩ := hm.all _ (List.mem_of_getElem? h1)
  have hk := fid_at (Up.rise bcl.up) (hb (min C.length 6))
  rcases hT c0 (by rw [e0]; simp) with ⟨j, d, k1, k2, k3⟩ | ⟨k1, _⟩
  · rw [hid, show (1 : Int) = key0.id from rfl] at k1
    simp only at k1 k2
    rw [hk] at k1
    injection k1 with k1
    subst k1
    rw [hb] at k2
    injection k2 with k2
    rw [← k3.nm, ← k2]; rfl
  · rw [hid, show (1 : Int) = key0.id from rfl] at k1
    simp only at k1
    rw [hk] at k1
    cases k1
end Go.Proofs.YtigcgkhcbmnboaaGreatDoor.Ev

/- A schema and a column in variables of their own; what is written there. -/
namespace Go.Proofs.YtigcgkhcbmnboaaGreatDoor
open Go.RowKit Go.Sort
set_option linter.unusedVariables false
set_option linter.unusedSimpArgs false
set_option maxRecDepth 100000

/-- A schema, and a column, in variables of their own. -/
structure SB (w : World) (B g gc : Nat) (cs : List Co) (ks : List Int) (c : Co) (cv kv : Value) (W : World) : Prop where
  s : Blk W g 25 [cv, kv]
  cb : Blk W gc 63 [.int .i64 c.id, .string c.nm, .int .i64 c.k, .bool c.u, .bool c.d.u, .int .i64 c.d.n, .string c.d.s]
  oc : OwnK W B cv cs
  ok : OwnI W B kv ks
  b : Below w.heap.size w W
  hB : w.heap.size ≤ B
  hg : B ≤ g
  hgc : g < gc
  nc : cv.ownBlock ≠ some g ∧ cv.ownBlock ≠ some gc
  nk : kv.ownBlock ≠ some g ∧ kv.ownBlock ≠ some gc
theorem SB.later {w W W' : World} {B g gc : Nat} {cs : List Co} {ks : List Int} {c : Co} {cv kv : Value} (h : SB w B g gc cs ks c cv kv W) (hb : Below W.heap.size W W') : SB w B g gc cs ks c cv kv W' :=
  ⟨h.s.later hb, h.cb.later hb, Gn.Own.later h.oc hb, Gn.Own.later h.ok hb, up h.b hb, h.hB, h.hg, h.hgc, h.nc, h.nk⟩
/-- A cell of the column is written. -/
theorem SB.col {w W : World} {B g gc : Nat} {cs : List Co} {ks : List Int} {c : Co} {cv kv : Value} (h : SB w B g gc cs ks c cv kv W) (j : Nat) (v : Value) (c' : Co)
    (hc : ([.int .i64 c.id, .string c.nm, .int .i64 c.k, .bool c.u, .bool c.d.u, .int .i64 c.d.n, .string c.d.s] : List Value).set j v = [.int .i64 c'.id, .string c'.nm, .int .i64 c'.k, .bool c'.u, .bool c'.d.u, .int .i64 c'.d.n, .string c'.d.s]) : SB w B g gc cs ks c' cv kv (W.setCell ⟨gc, j, none⟩ v) := by
  have ht := (Touch.refl (fun q => q = gc) W).setCell (p := ⟨gc, j, none⟩) rfl v
  have hgc := h.hgc
  refine ⟨h.s.touch ht (by show ¬ g = gc; omega), by rw [← hc]; exact Blk.put h.cb j v, own_touch h.oc ht (fun q hq e => ?_), own_touch h.ok ht (fun q hq e => ?_), h.b.setCell (by have := h.hB; have := h.hg; simp only; omega) v, h.hB, h.hg, h.hgc, h.nc, h.nk⟩
  · have e : q = gc := e
    subst e; exact h.nc.2 hq
  · have e : q = gc := e
    subst e; exact h.nk.2 hq
/-- The keys' slice is another one. -/
theorem SB.keys {w W : World} {B g gc : Nat} {cs : List Co} {ks ks' : List Int} {c : Co} {cv kv kv' : Value} (h : SB w B g gc cs ks c cv kv W) (ho : OwnI W B kv' ks') (hn : kv'.ownBlock ≠ some g ∧ kv'.ownBlock ≠ some gc) : SB w B g gc cs ks' c cv kv' (W.setCell ⟨g, 1, none⟩ kv') := by
  have ht := (Touch.refl (fun q => q = g) W).setCell (p := ⟨g, 1, none⟩) rfl kv'
  have hgc := h.hgc
  refine ⟨Blk.put h.s 1 kv', h.cb.touch ht (by show ¬ gc = g; omega), own_touch h.oc ht (fun q hq e => ?_), own_touch ho ht (fun q hq e => ?_), h.b.setCell (by have := h.hB; have := h.hg; simp only; omega) kv', h.hB, h.hg, h.hgc, h.nc, hn⟩
  · have e : q = g := e
    subst e; exact h.nc.1 hq
  · have e : q = g := e
    subst e; exact hn.1 hq
/-- The columns' slice is another one. -/
theorem SB.cols {w W : World} {B g gc : Nat} {cs cs' : List Co} {ks : List Int} {c : Co} {cv kv cv' : Value} (h : SB w B g gc cs ks c cv kv W) (ho : OwnK W B cv' cs') (hn : cv'.ownBlock ≠ some g ∧ cv'.ownBlock ≠ some gc) : SB w B g gc cs' ks c cv' kv (W.setCell ⟨g, 0, none⟩ cv') := by
  have ht := (Touch.refl (fun q => q = g) W).setCell (p := ⟨g, 0, none⟩) rfl cv'
  have hgc := h.hgc
  refine ⟨Blk.put h.s 0 cv', h.cb.touch ht (by show ¬ gc = g; omega), own_touch ho ht (fun q hq e => ?_), own_touch h.ok ht (fun q hq e => ?_), h.b.setCell (by have := h.hB; have := h.hg; simp only; omega) cv', h.hB, h.hg, h.hgc, hn, h.nk⟩
  · have e : q = g := e
    subst e; exact hn.1 hq
  · have e : q = g := e
    subst e; exact h.nk.1 hq
theorem SB.touch {w W W' : World} {S : Nat → Prop} {B g gc : Nat} {cs : List Co} {ks : List Int} {c : Co} {cv kv : Value} (h : SB w B g gc cs ks c cv kv W) (ht : Touch S W W') (h1 : ¬ S g) (h2 : ¬ S gc) (h3 : ∀ q, cv.ownBlock = some q → ¬ S q) (h4 : ∀ q, kv.ownBlock = some q → ¬ S q) (hb : ∀ q, S q → w.heap.size ≤ q) : SB w B g gc cs ks c cv kv W' :=
  ⟨h.s.touch ht h1, h.cb.touch ht h2, own_touch h.oc ht h3, own_touch h.ok ht h4, h.b.trans (ht.below h.b.size hb), h.hB, h.hg, h.hgc, h.nc, h.nk⟩
theorem SB.fresh {w W : World} {B g gc : Nat} {cs : List Co} {ks : List Int} {c : Co} {cv kv : Value} (h : SB w B g gc cs ks c cv kv W) : g ≠ W.heap.size ∧ gc ≠ W.heap.size ∧ B ≤ W.heap.size := by
  have h1 := h.s.lt
  have h2 := h.cb.lt
  have h3 := h.hg
  omega
theorem own_new {w W : World} {B g gc : Nat} {cs : List Co} {ks : List Int} {c : Co} {cv kv : Value} (h : SB w B g gc cs ks c cv kv W) (n m : Nat) : (Value.slice (some ⟨W.heap.size, 0, none⟩) n m).ownBlock ≠ some g ∧ (Value.slice (some ⟨W.heap.size, 0, none⟩) n m).ownBlock ≠ some gc := by
  have hf := h.fresh
  exact ⟨fun e => hf.1 (by injection e with e; exact e.symm), fun e => hf.2.1 (by injection e with e; exact e.symm)⟩
theorem SB.put {w W : World} {B g gc gb n cap : Nat} {cs : List Co} {ks : List Int} {c : Co} {kv : Value} (h : SB w B g gc cs ks c (.slice (some ⟨gb, 0, none⟩) n cap) kv W) (hn : cs.length = n) {i : Nat} (hi : i < n) (x : Co) : SB w B g gc (cs.set i x) ks c (.slice (some ⟨gb, 0, none⟩) n cap) kv (put7W W gb (i * 7) x) := by
  have hgB := (h.oc.lt gb rfl).1
  have ht := grown_put7 (i := i) h.oc x
  refine ⟨h.s.touch ht (fun e => h.nc.1 (by have e : g = gb := e; rw [e]; rfl)), h.cb.touch ht (fun e => h.nc.2 (by have e : gc = gb := e; rw [e]; rfl)), own_put7 h.oc hn hi x, own_touch h.ok ht (fun q hq e => ?_), h.b.trans (ht.below h.b.size (fun q hq => by have hq : q = gb := hq; have := h.hB; omega)), h.hB, h.hg, h.hgc, h.nc, h.nk⟩
  have e : q = gb := e
  rcases own_apart2 h.ok h.oc (by decide) with h2 | h2
  · rw [h2] at hq; cases hq
  · exact h2 (by rw [hq, e]; rfl)
theorem touch_of_grown {w w' : World} {row : Option Nat} {S : Nat → Prop} (h : w.grownBy w' row) (hS : ∀ k, row = some k → S k) : Touch S w w' :=
  ⟨h.os, h.tape, h.output, h.size, fun k hk hn => h.block k hk (fun e => hn (hS k e.symm))⟩
/-- Columns are put behind a new one. -/
theorem SB.app3 {w W W1 W' : World} {B g gc : Nat} {cs cs' : List Co} {ks : List Int} {c : Co} {cv kv v : Value} {n m : Nat} (h0 : SB w B g gc cs ks c cv kv W) (h : SB w B g gc cs ks c cv kv W1) (ho : OwnK W' B v cs') (hg : W1.grownBy W' (Value.slice (some ⟨W.heap.size, 0, none⟩) n m).ownBlock) (hl : v.ownBlock = (Value.slice (some ⟨W.heap.size, 0, none⟩) n m).ownBlock ∨ v.ownBlock = some W1.heap.size) :
    ∃ va vc, v = .slice va cs'.length vc ∧ SB w B g gc cs' ks c v kv (W'.setCell ⟨g, 0, none⟩ v) ∧ Blk W' g 25 [cv, kv] := by
  obtain ⟨va, vc, hv, _⟩ := Gn.Rd.form (RdK.of ho)
  have ht := touch_of_grown (S := fun q => q = W.heap.size) hg (fun q hq => by have hq : some W.heap.size = some q := hq; injection hq with hq; exact hq.symm)
  have hf := h0.fresh
  have hf1 := h.fresh
  have h1 := h.touch ht (fun e => hf.1 e) (fun e => hf.2.1 e) (fun q hq e => by have := (h0.oc.lt q hq).2; have e : q = W.heap.size := e; omega) (fun q hq e => by have := (h0.ok.lt q hq).2; have e : q = W.heap.size := e; omega) (fun q hq => by have := h0.b.size; have hq : q = W.heap.size := hq; omega)
  have hn : v.ownBlock ≠ some g ∧ v.ownBlock ≠ some gc := by
    rcases hl with e | e <;> rw [e]
    · exact own_new h0 n m
    · exact ⟨fun e => hf1.1 (by injection e with e; exact e.symm), fun e => hf1.2.1 (by injection e with e; exact e.symm)⟩
  exact ⟨va, vc, hv, h1.cols ho hn, h1.s⟩
def withId (c : Co) (y : Int) : Co := ⟨y, c.nm, c.k, c.u, c.d⟩
theorem coc_setI : ∀ (l : List Co) (i : Nat) (x : Co) (y : Int), l[i]? = some x → (Gn.cells coc l).set (i * 7) (.int .i64 y) = Gn.cells coc (l.set i (withId x y))
  | [], i, x, y, h => by simp at h
  | z :: t, 0, x, y, h => by
    injection h with h; subst h; rfl
  | z :: t, i + 1, x, y, h => by
    have ih := coc_setI t i x y (by simpa using h)
    rw [List.set_cons_succ, Gn.cells_cons, Gn.cells_cons, ← ih, show (i + 1) * 7 = i * 7 + 7 by omega]
    rfl
/-- A column's id is written in its place. -/
theorem SB.putI {w W : World} {B g gc gb n cap : Nat} {cs : List Co} {ks : List Int} {c : Co} {kv : Value} (h : SB w B g gc cs ks c (.slice (some ⟨gb, 0, none⟩) n cap) kv W) (hn : cs.length = n) {i : Nat} {x : Co} (hx : cs[i]? = some x) (y : Int) : SB w B g gc (cs.set i (withId x y)) ks c (.slice (some ⟨gb, 0, none⟩) n cap) kv (W.setCell ⟨gb, i * 7, none⟩ (.int .i64 y)) := by
  have hgB := (h.oc.lt gb rfl).1
  have ht := (Touch.refl (fun q => q = gb) W).setCell (p := ⟨gb, i * 7, none⟩) rfl (.int .i64 y)
  have ho : OwnK (W.setCell ⟨gb, i * 7, none⟩ (.int .i64 y)) B (.slice (some ⟨gb, 0, none⟩) n cap) (cs.set i (withId x y)) := by
    have h4 := h.oc
    unfold OwnK Gn.Own at h4 ⊢
    rw [List.length_set]
    rw [hn] at h4 ⊢
    have h3 := (h4.stored (i * 7) (.int .i64 y)).1
    rw [coc_setI cs i x y hx] at h3
    exact h3
  refine ⟨h.s.touch ht (fun e => h.nc.1 (by have e : g = gb := e; rw [e]; rfl)), h.cb.touch ht (fun e => h.nc.2 (by have e : gc = gb := e; rw [e]; rfl)), ho, own_touch h.ok ht (fun q hq e => ?_), h.b.trans (ht.below h.b.size (fun q hq => by have hq : q = gb := hq; have := h.hB; omega)), h.hB, h.hg, h.hgc, h.nc, h.nk⟩
  have e : q = gb := e
  rcases own_apart2 h.ok h.oc (by decide) with h2 | h2
  · rw [h2] at hq; cases hq
  · exact h2 (by rw [hq, e]; rfl)
theorem smok_set {cs : List Co} {k : Nat} {c1 : Co} {ks1 : List Int} (h : SmOk (cs, [0])) (hc : KOk c1) (hk : ks1 = [0] ∨ ks1 = []) : SmOk (cs.set k c1, ks1) := by
  refine ⟨fun c hm => ?_, fun q hq => ?_, by have := h.n; simp only at this ⊢; rw [List.length_set]; exact this, by rcases hk with rfl | rfl <;> simp⟩
  · rcases List.mem_or_eq_of_mem_set hm with hm | rfl
    · exact h.k c hm
    · exact hc
  · rcases hk with rfl | rfl
    · exact h.i q hq
    · cases hq
theorem smok_bump {n : Int} {o : Nat} {cs : List Co} (h : SmOk (cs, [0])) (hc : Ev.CL n o cs) (hn : n ≤ 21) (hl : cs.length ≤ 14) : SmOk (Ev.zc :: cs.map Ev.bump, [0]) := by
  refine ⟨fun c hm => ?_, h.i, by simp; omega, by simp⟩
  rcases List.mem_cons.1 hm with rfl | hm
  · exact ⟨by unfold Cl.I64; decide, by unfold Cl.I64; decide, by decide, by unfold Cl.I64; decide, by decide⟩
  · obtain ⟨d, hd, rfl⟩ := List.mem_map.1 hm
    have hk := h.k d hd
    have h0 := (hc.co d hd).id0
    have h1 := (hc.co d hd).id1
    exact ⟨by unfold Ev.bump Cl.I64; simp only; omega, hk.k, hk.nm, hk.n, hk.s⟩
/-- What the switch leaves. -/
def SWE (w : World) (B g gc k : Nat) (a : Ev.Sm) (W : World) : Prop := ∃ ks1 c1 cv1 kv1, SB w B g gc a.1 ks1 c1 cv1 kv1 W ∧ Ev.Sp a (a.1.set k c1, ks1) ∧ SmOk (a.1.set k c1, ks1)
end Go.Proofs.YtigcgkhcbmnboaaGreatDoor
