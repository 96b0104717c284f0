/- The walk of SchemaTells. -/
import Derived.Test.YtanjdjiigfdnmaaGreatDoorScd
import Derived.Test.YtanjdjiigfdnmaaGreatDoorSce
import Derived.Test.YtanjdjiigfdnmaaGreatDoorScRC
import Derived.Test.YtanjdjiigfdnmaaGreatDoorSca
import Derived.Test.YtanjdjiigfdnmaaGreatDoorScb
import Derived.Deep.DeepCutAuto
import Derived.Deep.CutBlock
namespace Go.Proofs.YtanjdjiigfdnmaaGreatDoor
open Go.RowKit
set_option linter.unusedVariables false
set_option linter.unusedSimpArgs false
set_option maxRecDepth 100000

/-- A schema's struct in block g, whose parts lie from base on. -/
def Lies (u : World) (g base : Nat) (L : List Co) (K : List Int) : Prop := ∃ xa xb, Blk u g 25 [xa, xb] ∧ OwnK u base xa L ∧ OwnI u base xb K
theorem Lies.later {u u' : World} {g base : Nat} {L : List Co} {K : List Int} (h : Lies u g base L K) (hb : Below u.heap.size u u') : Lies u' g base L K := by
 obtain ⟨xa, xb, h1, h2, h3⟩ := h
 exact ⟨xa, xb, h1.later hb, Gn.Own.later h2 hb, Gn.Own.later h3 hb⟩
/-- What is so while few runs twice: which of the two has been stored. -/
structure TwoIn (g : Nat) (v kv v2 kv2 : Value) (L1 : List Co) (K1 : List Int) (L2 : List Co) (K2 : List Int) (d : Nat → Bool) (u : World) : Prop where
 h1 : d 1 = true → d 0 = true
 h3 : d 3 = true → d 2 = true
 h4 : d 4 = true → d 1 = true
 h5 : d 5 = true → d 3 = true
 s0 : d 4 = false → Blk u g 25 [v, kv]
 s1 : d 4 = true → Lies u g (g + 2) L1 K1
 r0 : d 5 = false → Blk u (g + 1) 25 [v2, kv2]
 r1 : d 5 = true → Lies u (g + 1) (g + 2) L2 K2
theorem TwoIn.later {g : Nat} {v kv v2 kv2 : Value} {L1 : List Co} {K1 : List Int} {L2 : List Co} {K2 : List Int} {d : Nat → Bool} {u u' : World} (h : TwoIn g v kv v2 kv2 L1 K1 L2 K2 d u) (hb : Below u.heap.size u u') : TwoIn g v kv v2 kv2 L1 K1 L2 K2 d u' :=
 ⟨h.h1, h.h3, h.h4, h.h5, fun e => (h.s0 e).later hb, fun e => (h.s1 e).later hb, fun e => (h.r0 e).later hb, fun e => (h.r1 e).later hb⟩
theorem upd_ne {d : Nat → Bool} {j k : Nat} (h : k ≠ j) : upd d j k = d k := if_neg h
theorem upd_eq {d : Nat → Bool} {j : Nat} : upd d j j = true := if_pos rfl
theorem upd_mono {d : Nat → Bool} {j k : Nat} (h : d k = true) : upd d j k = true := by unfold upd; split <;> first | rfl | exact h
theorem TwoIn.up {g : Nat} {v kv v2 kv2 : Value} {L1 : List Co} {K1 : List Int} {L2 : List Co} {K2 : List Int} {d : Nat → Bool} {u : World} (h : TwoIn g v kv v2 kv2 L1 K1 L2 K2 d u) (j : Nat) (hj : j < 4) (h1 : j = 1 → d 0 = true) (h3 : j = 3 → d 2 = true) : TwoIn g v kv v2 kv2 L1 K1 L2 K2 (upd d j) u := by
 refine ⟨fun e => ?_, fun e => ?_, fun e => ?_, fun e => ?_, fun e => h.s0 ?_, fun e => h.s1 ?_, fun e => h.r0 ?_, fun e => h.r1 ?_⟩
 ·by_cases hh : 1 = j
  ·exact upd_mono (h1 hh.symm)
  ·rw [upd_ne hh] at e; exact upd_mono (h.h1 e)
 ·by_cases hh : 3 = j
  ·exact upd_mono (h3 hh.symm)
  ·rw [upd_ne hh] at e; exact upd_mono (h.h3 e)
 ·rw [upd_ne (by omega)] at e; exact upd_mono (h.h4 e)
 ·rw [upd_ne (by omega)] at e; exact upd_mono (h.h5 e)
 all_goals first | (rw [upd_ne (by omega)] at e; exact e)
theorem TwoIn.putS {g : Nat} {v kv v2 kv2 xa xb : Value} {L1 : List Co} {K1 : List Int} {L2 : List Co} {K2 : List Int} {d : Nat → Bool} {u : World} (h : TwoIn g v kv v2 kv2 L1 K1 L2 K2 d u) (hd : d 4 = false) (hp : d 1 = true) (o1 : OwnK u (g + 2) xa L1) (o2 : OwnI u (g + 2) xb K1) : TwoIn g v kv v2 kv2 L1 K1 L2 K2 (upd d 4) ((u.setCell ⟨g, 0, none⟩ xa).setCell ⟨g, 1, none⟩ xb) := by
 have hp2 := Blk.put (Blk.put (h.s0 hd) 0 xa) 1 xb
 have p1 := own_far (own_far o1 (p := ⟨g, 0, none⟩) (by simp only; omega) xa) (p := ⟨g, 1, none⟩) (by simp only; omega) xb
 have p2 := own_far (own_far o2 (p := ⟨g, 0, none⟩) (by simp only; omega) xa) (p := ⟨g, 1, none⟩) (by simp only; omega) xb
 have ht : Touch (fun q => q = g) u ((u.setCell ⟨g, 0, none⟩ xa).setCell ⟨g, 1, none⟩ xb) := Touch.setCell (S := fun q => q = g) (p := ⟨g, 1, none⟩) (Touch.setCell (S := fun q => q = g) (p := ⟨g, 0, none⟩) (Touch.refl _ _) rfl _) rfl _
 have hl : ∀ {L : List Co} {K : List Int}, Lies u (g + 1) (g + 2) L K → Lies ((u.setCell ⟨g, 0, none⟩ xa).setCell ⟨g, 1, none⟩ xb) (g + 1) (g + 2) L K := by
  rintro L K ⟨ya, yb, k1, k2, k3⟩
  exact ⟨ya, yb, k1.touch ht (by omega), own_touch k2 ht (fun q hq e => by have := (k2.lt q hq).1; omega), own_touch k3 ht (fun q hq e => by have := (k3.lt q hq).1; omega)⟩
 refine ⟨fun e => ?_, fun e => ?_, fun e => upd_mono hp, fun e => ?_, fun e => ?_, fun e => ⟨_, _, hp2, p1, p2⟩, fun e => (h.r0 ?_).touch ht (by omega), fun e => hl (h.r1 ?_)⟩
 ·rw [upd_ne (by omega)] at e; exact upd_mono (h.h1 e)
 ·rw [upd_ne (by omega)] at e; exact upd_mono (h.h3 e)
 ·rw [upd_ne (by omega)] at e; exact upd_mono (h.h5 e)
 ·rw [upd_eq] at e; cases e
 ·rw [upd_ne (by omega)] at e; exact e
 ·rw [upd_ne (by omega)] at e; exact e
theorem TwoIn.putR {g : Nat} {v kv v2 kv2 xa xb : Value} {L1 : List Co} {K1 : List Int} {L2 : List Co} {K2 : List Int} {d : Nat → Bool} {u : World} (h : TwoIn g v kv v2 kv2 L1 K1 L2 K2 d u) (hd : d 5 = false) (hp : d 3 = true) (o1 : OwnK u (g + 2) xa L2) (o2 : OwnI u (g + 2) xb K2) : TwoIn g v kv v2 kv2 L1 K1 L2 K2 (upd d 5) ((u.setCell ⟨g + 1, 0, none⟩ xa).setCell ⟨g + 1, 1, none⟩ xb) := by
 have hp2 := Blk.put (Blk.put (h.r0 hd) 0 xa) 1 xb
 have p1 := own_far (own_far o1 (p := ⟨g + 1, 0, none⟩) (by simp only; omega) xa) (p := ⟨g + 1, 1, none⟩) (by simp only; omega) xb
 have p2 := own_far (own_far o2 (p := ⟨g + 1, 0, none⟩) (by simp only; omega) xa) (p := ⟨g + 1, 1, none⟩) (by simp only; omega) xb
 have ht : Touch (fun q => q = g + 1) u ((u.setCell ⟨g + 1, 0, none⟩ xa).setCell ⟨g + 1, 1, none⟩ xb) := Touch.setCell (S := fun q => q = g + 1) (p := ⟨g + 1, 1, none⟩) (Touch.setCell (S := fun q => q = g + 1) (p := ⟨g + 1, 0, none⟩) (Touch.refl _ _) rfl _) rfl _
 have hl : ∀ {L : List Co} {K : List Int}, Lies u (g) (g + 2) L K → Lies ((u.setCell ⟨g + 1, 0, none⟩ xa).setCell ⟨g + 1, 1, none⟩ xb) (g) (g + 2) L K := by
  rintro L K ⟨ya, yb, k1, k2, k3⟩
  exact ⟨ya, yb, k1.touch ht (by omega), own_touch k2 ht (fun q hq e => by have := (k2.lt q hq).1; omega), own_touch k3 ht (fun q hq e => by have := (k3.lt q hq).1; omega)⟩
 refine ⟨fun e => ?_, fun e => ?_, fun e => ?_, fun e => upd_mono hp, fun e => (h.s0 ?_).touch ht (by omega), fun e => hl (h.s1 ?_), fun e => ?_, fun e => ⟨_, _, hp2, p1, p2⟩⟩
 ·rw [upd_ne (by omega)] at e; exact upd_mono (h.h1 e)
 ·rw [upd_ne (by omega)] at e; exact upd_mono (h.h3 e)
 ·rw [upd_ne (by omega)] at e; exact upd_mono (h.h4 e)
 ·rw [upd_ne (by omega)] at e; exact e
 ·rw [upd_ne (by omega)] at e; exact e
 ·rw [upd_eq] at e; cases e
/-- A number of an owned row is written. -/
theorem ownI_put {w : World} {base : Nat} {g n cap : Nat} {l : List Int} {i : Nat} {u : Int} (h : OwnI w base (.slice (some ⟨g, 0, none⟩) n cap) l) (hn : l.length = n) :
  OwnI (w.setCell ⟨g, i, none⟩ (.int .i64 u)) base (.slice (some ⟨g, 0, none⟩) n cap) (l.set i u) := by
 subst hn
 have h' : w.ownsRow base 3 1 (.slice (some ⟨g, 0, none⟩) l.length cap) l.length (Gn.cells inc l) := h
 have := (h'.stored i (.int .i64 u)).1
 unfold OwnI Gn.Own
 have e : Gn.cells inc (l.set i u) = (Gn.cells inc l).set i (.int .i64 u) := by
  have : ∀ l : List Int, Gn.cells inc l = l.map (fun x => .int .i64 x) := by
   intro l; induction l with
   | nil => rfl
   | cons x l ih => rw [Gn.cells_cons, ih]; rfl
  rw [this, this, List.map_set]
 rw [e, List.length_set]
 exact this
theorem ownI_melt {w : World} {base : Nat} {g n cap : Nat} {l : List Int} (h : OwnI w base (.slice (some ⟨g, 0, none⟩) n cap) l) (hn : l.length = n) (j : Nat) : w.frozen? ⟨g, j, none⟩ = false := by
 subst hn
 have h' : w.ownsRow base 3 1 (.slice (some ⟨g, 0, none⟩) l.length cap) l.length (Gn.cells inc l) := h
 exact h'.frozenAt j
theorem ownI_addr {w : World} {base n cap : Nat} {ad : Option Addr} {l : List Int} (h : OwnI w base (.slice ad n cap) l) (h0 : 0 < l.length) : ∃ g, ad = some ⟨g, 0, none⟩ := by
 rcases h.2 with ⟨_, e⟩ | ⟨g, c, cur, e, _⟩
 ·omega
 ·injection e with e
  exact ⟨g, e⟩
/-- The copy while it is written. -/
structure TW (w8 : World) (gc : Nat) (va vb : Value) (lc : List Co) (kc : List Int) (W : World) : Prop where
 s : Blk W gc 25 [va, vb]
 oc : OwnK W w8.heap.size va lc
 ok : OwnI W w8.heap.size vb kc
 b : Below w8.heap.size w8 W
theorem blk_apart {w : World} {g B : Nat} {t : TypeId} {cs : List Value} {v : Value} {α : Type} {enc : α → List Value} {k : Nat} {T : TypeId} {l : List α} (h : Blk w g t cs) (ho : Gn.Own enc k T w B v l) (hT : t ≠ T) : v.ownBlock ≠ some g := by
 intro e
 rcases ho.2 with ⟨rfl, _⟩ | ⟨g', cap, cur, rfl, _, hh, _⟩
 ·cases e
 ·have e : g' = g := by simpa [Value.ownBlock] using e
  have e := e.symm
  subst e
  unfold Blk at h
  rw [h] at hh
  injection hh with hh
  injection hh with _ hh
  exact hT hh
theorem TW.put {w8 W : World} {gc g n cap : Nat} {vb : Value} {lc : List Co} {kc : List Int} (h : TW w8 gc (.slice (some ⟨g, 0, none⟩) n cap) vb lc kc W) (hn : lc.length = n) {i : Nat} (hi : i < n) (x : Co) : TW w8 gc (.slice (some ⟨g, 0, none⟩) n cap) vb (lc.set i x) kc (put7W W g (i * 7) x) := by
 have hg := (h.oc.lt g rfl).1
 have ht := grown_put7 (i := i) h.oc x
 refine ⟨h.s.touch ht (fun e => ?_), own_put7 h.oc hn hi x, own_touch h.ok ht (fun g' hg' => ?_), h.b.trans (ht.below h.b.size (fun k hk => by have hk : k = g := hk; omega))⟩
 ·have e : gc = g := e
  exact blk_apart h.s h.oc (by decide) (by rw [e]; rfl)
 ·rcases own_apart2 h.ok h.oc (by decide) with h2 | h2
  ·rw [h2] at hg'; cases hg'
  ·intro e; exact h2 (by rw [hg', e]; rfl)
theorem TW.key {w8 W : World} {gc g n cap : Nat} {va : Value} {lc : List Co} {kc : List Int} (h : TW w8 gc va (.slice (some ⟨g, 0, none⟩) n cap) lc kc W) (hn : kc.length = n) (i : Nat) (x : Int) : TW w8 gc va (.slice (some ⟨g, 0, none⟩) n cap) lc (kc.set i x) (W.setCell ⟨g, i, none⟩ (.int .i64 x)) := by
 have hg := (h.ok.lt g rfl).1
 have ht := (Touch.refl (fun q => q = g) W).setCell (p := ⟨g, i, none⟩) rfl (.int .i64 x)
 refine ⟨h.s.touch ht (fun e => ?_), own_touch h.oc ht (fun g' hg' => ?_), ownI_put h.ok hn, h.b.trans (ht.below h.b.size (fun k hk => by have hk : k = g := hk; omega))⟩
 ·have e : gc = g := e
  exact blk_apart h.s h.ok (by decide) (by rw [e]; rfl)
 ·rcases own_apart2 h.oc h.ok (by decide) with h2 | h2
  ·rw [h2] at hg'; cases hg'
  ·intro e; exact h2 (by rw [hg', e]; rfl)
set_option maxHeartbeats 8000000 in
theorem schemaTells (v kv v2 kv2 : Value) (l : List Co) (ks : List Int) (l2 : List Co) (ks2 : List Int) (nm : ByteArray) (w : World) (hs : SchemaIn w v kv l ks) (hr : SchemaIn w v2 kv2 l2 ks2) (hn : nm.size ≤ maxLen) (T : TA w) :
  Calls Tryz.prog 3 #[.agg #[v, kv], .agg #[v2, kv2], .string nm] w fun e w' => e = .returned (.bool true) ∧ Below w.heap.size w w' := by
 have HT := Lib.hid T
 obtain ⟨L1, hL1⟩ : ∃ x, lFew11C l = x := ⟨_, rfl⟩
 obtain ⟨K1, hK1⟩ : ∃ x, ks.take 12 = x := ⟨_, rfl⟩
 obtain ⟨L2, hL2⟩ : ∃ x, lFew11C l2 = x := ⟨_, rfl⟩
 obtain ⟨K2, hK2⟩ : ∃ x, ks2.take 12 = x := ⟨_, rfl⟩
 have HF1 := Lib.hid (fun w1 (hb : Below w.heap.size w w1) => lFew11 v kv l ks w1 (hs.rd.later hb) (hs.rk.later hb) (few_in hs.in_))
 have HF2 := Lib.hid (fun w1 (hb : Below w.heap.size w w1) => lFew11 v2 kv2 l2 ks2 w1 (hr.rd.later hb) (hr.rk.later hb) (few_in hr.in_))
 rw [hL1, hK1] at HF1
 rw [hL2, hK2] at HF2
 have HK1 : Hid ((∀ c ∈ L1, KOk c) ∧ (∀ c ∈ L1, c.nm.size ≤ 40) ∧ L1.length ≤ 40 ∧ (∀ q ∈ K1, Cl.I64 q) ∧ K1.length ≤ 12) := Lib.hid (by rw [← hL1, ← hK1]; exact ⟨few_ok hs.in_, few_nm, few_len _, few_keys hs.ki, by rw [List.length_take]; omega⟩)
 have HK2 : Hid ((∀ c ∈ L2, KOk c) ∧ (∀ c ∈ L2, c.nm.size ≤ 40) ∧ L2.length ≤ 40 ∧ (∀ q ∈ K2, Cl.I64 q) ∧ K2.length ≤ 12) := Lib.hid (by rw [← hL2, ← hK2]; exact ⟨few_ok hr.in_, few_nm, few_len _, few_keys hr.ki, by rw [List.length_take]; omega⟩)
 have b1 := box_new w (.cells #[v, kv] 25)
 have b2 := box_new (w.alloc (.cells #[v, kv] 25)) (.cells #[v2, kv2] 25)
 have HB := Lib.hid (up b1 b2)
 have HY1 := Lib.hid ((Blk.new w 25 #[v, kv]).later b2)
 have HY2 := Lib.hid (Blk.new (w.alloc (.cells #[v, kv] 25)) 25 #[v2, kv2])
 rw [show (w.alloc (.cells #[v, kv] 25)).heap.size = w.heap.size + 1 by simp] at HY2
 have HSZ : Hid (((w.alloc (.cells #[v, kv] 25)).alloc (.cells #[v2, kv2] 25)).heap.size = w.heap.size + 2) := Lib.hid (by simp)
 clear T hs hr b1 b2 hL1 hK1 hL2 hK2
 go_enter Tryz.func3, Tryz.ntmps3
 go_upto_region 1 with fail
 generalize (w.alloc (.cells #[v, kv] 25)).alloc (.cells #[v2, kv2] 25) = wr at *
 obtain ⟨g, hg⟩ : ∃ g, w.heap.size = g := ⟨_, rfl⟩
 rw [hg] at HF1 HF2
 have HC1 := HF1
 have HC2 := HF2
 clear HF1 HF2
 simp only [hg] at HB HY1 HY2 HSZ ⊢
 refine region_growI_merge (fun u v => Touch (fun q => q = g ∨ q = g + 1) u v) (TwoIn g v kv v2 kv2 L1 K1 L2 K2) (fun _ _ _ => True) (fun u => Touch.refl _ _) (fun _ _ _ h k => h.trans k (fun _ h => .inl h)) (kjI #[Spc.eq (.agg #[v, kv]), ⟨fun x u => ∃ a b, x = .agg #[a, b] ∧ OwnK u (g + 2) a L1 ∧ OwnI u (g + 2) b K1, fun _ _ _ h hb => by obtain ⟨a, b, h1, h2, h3⟩ := h; exact ⟨a, b, h1, own_touch h2 hb (fun q hq e => by have := (h2.lt q hq).1; rcases e with e | e <;> omega), own_touch h3 hb (fun q hq e => by have := (h3.lt q hq).1; rcases e with e | e <;> omega)⟩⟩, Spc.eq (.agg #[v2, kv2]), ⟨fun x u => ∃ a b, x = .agg #[a, b] ∧ OwnK u (g + 2) a L2 ∧ OwnI u (g + 2) b K2, fun _ _ _ h hb => by obtain ⟨a, b, h1, h2, h3⟩ := h; exact ⟨a, b, h1, own_touch h2 hb (fun q hq e => by have := (h2.lt q hq).1; rcases e with e | e <;> omega), own_touch h3 hb (fun q hq e => by have := (h3.lt q hq).1; rcases e with e | e <;> omega)⟩⟩, Spc.any, Spc.any]) [22, 23, 24, 25] (fun ts u => Lies u g (g + 2) L1 K1 ∧ Lies u (g + 1) (g + 2) L2 K2 ∧ Below g w u ∧ g + 2 ≤ u.heap.size) (by kernel_rfl) (by kernel_rfl) (by kernel_rfl) kjI_later ⟨fun e => (by cases e), fun e => (by cases e), fun e => (by cases e), fun e => (by cases e), fun _ => HY1.out.later (Below.refl _ _).drew, fun e => (by cases e), fun _ => HY2.out.later (Below.refl _ _).drew, fun e => (by cases e)⟩ ?_ ?_ ?_
 ·intro QQ fd jo o a w1 ho hfd hdd hI hb hs hold hdep
  have hjo : jo < 6 := (Array.getElem?_eq_some_iff.1 ho).1
  skip
  have hsz : g + 2 ≤ w1.heap.size := by have h3 : wr.heap.size ≤ w1.heap.size := hb.size; have h2 := HSZ.out; omega
  have hbw : Below g w w1 := HB.out.drew.trans (hb.below (show g ≤ wr.heap.size by have := HSZ.out; omega) (fun q hq => by rcases hq with hq | hq <;> omega))
  have e3 : a.eval (.tmp 3) = .pointer (some ⟨g, 0, none⟩) := by
   show a.tmps.getD 3 undef = _
   rw [Array.getD_eq_getD_getElem?, hold 3 (by decide +kernel)]; rfl
  have e4 : a.eval (.tmp 4) = .pointer (some ⟨g + 1, 0, none⟩) := by
   show a.tmps.getD 4 undef = _
   rw [Array.getD_eq_getD_getElem?, hold 4 (by decide +kernel)]; rfl
  have ec : ∀ v, a.eval (.const v) = v := fun _ => rfl
  clear hold hs
  rcases (show jo = 0 ∨ jo = 1 ∨ jo = 2 ∨ jo = 3 ∨ jo = 4 ∨ jo = 5 by omega) with rfl | rfl | rfl | rfl | rfl | rfl
  all_goals (have ho2 := ho; simp only [List.getElem?_toArray, List.getElem?_cons_succ, List.getElem?_cons_zero, Option.some.injEq] at ho2; subst ho2)
  ·refine growI_val (I := (TwoIn g v kv v2 kv2 L1 K1 L2 K2)) (X := (fun _ _ _ => True)) (d := fd) (a := a) (w := w1) (.agg #[v, kv]) w1 ho rfl ?_ ((fun u => Touch.refl _ _) w1) ((hI.later (Below.refl _ _)).up 0 (by omega) (fun e => absurd e (by decide)) (fun e => absurd e (by decide))) trivial rfl
   have hd4 : fd 4 = false := by
    cases hc : fd 4 with
    | false => rfl
    | true => have h2 := hI.h1 (hI.h4 hc); rw [hfd] at h2; cases h2
   have hq := hI.s0 hd4
   have q0 := hq.cell 0
   have q1 := hq.cell 1
   simp only [List.getElem?_cons_succ, List.getElem?_cons_zero] at q0 q1
   unfold execOp; simp only [List.map_toArray, List.map_cons, List.map_nil, e3, ec]; first | (go_simp; done) | (go_simp; rfl)
  ·have d0 : a.eval (.tmp 22) = .agg #[v, kv] := hdep ⟨0, .data⟩ (by simp) rfl
   refine growI_call (I := (TwoIn g v kv v2 kv2 L1 K1 L2 K2)) (X := (fun _ _ _ => True)) (d := fd) (a := a) (w := w1) 12 #[.agg #[v, kv]] ho rfl ?_ ((HC1.out w1 hbw).mono ?_)
   ·unfold execOp resolve
    simp only [List.map_toArray, List.map_cons, List.map_nil, d0, ec]
    rfl
   ·rintro e c1 ⟨xa, xb, rfl, o1, o2, hb2⟩
    exact ⟨_, rfl, ⟨xa, xb, rfl, Gn.Own.lower o1 hsz, Gn.Own.lower o2 hsz⟩, (Touch.of_below hb2), ((hI.later hb2).up 1 (by omega) (fun e => hdd ⟨0, .data⟩ (by simp) rfl) (fun e => absurd e (by decide))), trivial⟩
  ·refine growI_val (I := (TwoIn g v kv v2 kv2 L1 K1 L2 K2)) (X := (fun _ _ _ => True)) (d := fd) (a := a) (w := w1) (.agg #[v2, kv2]) w1 ho rfl ?_ ((fun u => Touch.refl _ _) w1) ((hI.later (Below.refl _ _)).up 2 (by omega) (fun e => absurd e (by decide)) (fun e => absurd e (by decide))) trivial rfl
   have hd4 : fd 5 = false := by
    cases hc : fd 5 with
    | false => rfl
    | true => have h2 := hI.h3 (hI.h5 hc); rw [hfd] at h2; cases h2
   have hq := hI.r0 hd4
   have q0 := hq.cell 0
   have q1 := hq.cell 1
   simp only [List.getElem?_cons_succ, List.getElem?_cons_zero] at q0 q1
   unfold execOp; simp only [List.map_toArray, List.map_cons, List.map_nil, e4, ec]; first | (go_simp; done) | (go_simp; rfl)
  ·have d0 : a.eval (.tmp 24) = .agg #[v2, kv2] := hdep ⟨2, .data⟩ (by simp) rfl
   refine growI_call (I := (TwoIn g v kv v2 kv2 L1 K1 L2 K2)) (X := (fun _ _ _ => True)) (d := fd) (a := a) (w := w1) 12 #[.agg #[v2, kv2]] ho rfl ?_ ((HC2.out w1 hbw).mono ?_)
   ·unfold execOp resolve
    simp only [List.map_toArray, List.map_cons, List.map_nil, d0, ec]
    rfl
   ·rintro e c1 ⟨xa, xb, rfl, o1, o2, hb2⟩
    exact ⟨_, rfl, ⟨xa, xb, rfl, Gn.Own.lower o1 hsz, Gn.Own.lower o2 hsz⟩, (Touch.of_below hb2), ((hI.later hb2).up 3 (by omega) (fun e => absurd e (by decide)) (fun e => hdd ⟨2, .data⟩ (by simp) rfl)), trivial⟩
  ·obtain ⟨v1, d1, xa, xb, rfl, o1, o2⟩ : ∃ x, a.eval (.tmp 23) = x ∧ ∃ a b, x = .agg #[a, b] ∧ OwnK w1 (g + 2) a L1 ∧ OwnI w1 (g + 2) b K1 := ⟨_, rfl, hdep ⟨1, .data⟩ (by simp) rfl⟩
   have hs1 := hI.s0 hfd
   have q0 := hs1.cell 0
   have q1 := hs1.cell 1
   have q2 := hs1.frozen 0
   have q3 := hs1.frozen 1
   simp only [List.getElem?_cons_succ, List.getElem?_cons_zero] at q0 q1
   obtain ⟨ya, yc, rfl, _⟩ := Gn.Rd.form (RdK.of o1)
   obtain ⟨za, zc, rfl, _⟩ := Gn.Rd.form (RdI.of o2)
   refine growI_skip (I := (TwoIn g v kv v2 kv2 L1 K1 L2 K2)) (X := (fun _ _ _ => True)) (d := fd) (a := a) (w := w1) ((w1.setCell ⟨g, 0, none⟩ _).setCell ⟨g, 1, none⟩ _) ho rfl rfl ?_ (Touch.setCell (S := fun q => q = g ∨ q = g + 1) (p := ⟨g, 1, none⟩) (Touch.setCell (S := fun q => q = g ∨ q = g + 1) (p := ⟨g, 0, none⟩) (Touch.refl _ _) (.inl rfl) _) (.inl rfl) _) (TwoIn.putS hI hfd (hdd ⟨1, .data⟩ (by simp) rfl) o1 o2) trivial trivial
   unfold execOp; simp only [e3, d1, ec]
   go_simp
  ·obtain ⟨v1, d1, xa, xb, rfl, o1, o2⟩ : ∃ x, a.eval (.tmp 25) = x ∧ ∃ a b, x = .agg #[a, b] ∧ OwnK w1 (g + 2) a L2 ∧ OwnI w1 (g + 2) b K2 := ⟨_, rfl, hdep ⟨3, .data⟩ (by simp) rfl⟩
   have hs1 := hI.r0 hfd
   have q0 := hs1.cell 0
   have q1 := hs1.cell 1
   have q2 := hs1.frozen 0
   have q3 := hs1.frozen 1
   simp only [List.getElem?_cons_succ, List.getElem?_cons_zero] at q0 q1
   obtain ⟨ya, yc, rfl, _⟩ := Gn.Rd.form (RdK.of o1)
   obtain ⟨za, zc, rfl, _⟩ := Gn.Rd.form (RdI.of o2)
   refine growI_skip (I := (TwoIn g v kv v2 kv2 L1 K1 L2 K2)) (X := (fun _ _ _ => True)) (d := fd) (a := a) (w := w1) ((w1.setCell ⟨g + 1, 0, none⟩ _).setCell ⟨g + 1, 1, none⟩ _) ho rfl rfl ?_ (Touch.setCell (S := fun q => q = g ∨ q = g + 1) (p := ⟨g + 1, 1, none⟩) (Touch.setCell (S := fun q => q = g ∨ q = g + 1) (p := ⟨g + 1, 0, none⟩) (Touch.refl _ _) (.inr rfl) _) (.inr rfl) _) (TwoIn.putR hI hfd (hdd ⟨3, .data⟩ (by simp) rfl) o1 o2) trivial trivial
   unfold execOp; simp only [e4, d1, ec]
   go_simp
 ·intro a w1 hI hb hj
  have hbw : Below g w w1 := HB.out.drew.trans (hb.below (show g ≤ wr.heap.size by have := HSZ.out; omega) (fun q hq => by rcases hq with hq | hq <;> omega))
  have hsz : g + 2 ≤ w1.heap.size := by have h3 : wr.heap.size ≤ w1.heap.size := hb.size; have h2 := HSZ.out; omega
  exact ⟨hI.s1 (by decide), hI.r1 (by decide), hbw, hsz⟩
 rintro ts w6 ⟨h1, h2, hbw, hsz⟩
 simp only [fill, List.setIfInBounds_toArray, List.set_cons_succ, List.set_cons_zero]
 obtain ⟨xa, xb, B1, o1, o2⟩ := h1
 obtain ⟨ya, yb, B2, o3, o4⟩ := h2
 obtain ⟨a1, c1, rfl, _⟩ := Gn.Rd.form (RdK.of o1)
 obtain ⟨a2, c2, rfl, _⟩ := Gn.Rd.form (RdI.of o2)
 obtain ⟨a3, c3, rfl, _⟩ := Gn.Rd.form (RdK.of o3)
 obtain ⟨a4, c4, rfl, _⟩ := Gn.Rd.form (RdI.of o4)
 have HS := Lib.hid (SV.mk B1 (RdK.of o1) (RdI.of o2))
 have HR := Lib.hid (SV.mk B2 (RdK.of o3) (RdI.of o4))
 have HB6 : Hid (Below w.heap.size w w6) := Lib.hid (by rw [hg]; exact hbw)
 have C1 := Lib.hid (fun w1 (hv : SV w1 g (.slice a1 L1.length c1) (.slice a2 K1.length c2) L1 K1) => rCopyS _ _ L1 K1 w1 hv.c hv.k (by have := HK1.out.2.2.1; omega) (by have := HK1.out.2.2.2.2; omega))
 have C2 := Lib.hid (fun w1 (hv : SV w1 g (.slice a1 L1.length c1) (.slice a2 K1.length c2) L1 K1) => cCopyS _ _ L1 K1 w1 hv.c hv.k (by have := HK1.out.2.2.1; omega) (by have := HK1.out.2.2.2.2; omega))
 obtain ⟨x0, x1⟩ := HS.out.lie
 clear B1 B2 o1 o2 o3 o4 hbw hsz HB HY1 HY2 HSZ HC1 HC2 wr
 go_wp2_with fail
 ((with_reducible refine (C1.out w6 HS.out).mono ?_); rintro x w7 ⟨wa, wb, rfl, o5, o6, b7⟩)
 have HW := Lib.hid (SV.new o5 o6)
 have HB7 := Lib.hid (Below.trans b7 ((box_new w7 (.cells #[wa, wb] 25)).mono b7.size))
 obtain ⟨a5, c5, rfl, _⟩ := Gn.Rd.form (RdK.of o5)
 obtain ⟨a6, c6, rfl, _⟩ := Gn.Rd.form (RdI.of o6)
 have HS7 := Lib.hid (HS.out.later HB7.out)
 have HR7 := Lib.hid (HR.out.later HB7.out)
 clear x0 x1 o5 o6 b7 C1 HS HR
 go_upto_region 3 with fail
 obtain ⟨gw, hgw⟩ : ∃ g, w7.heap.size = g := ⟨_, rfl⟩
 simp only [hgw] at HW ⊢
 generalize w7.alloc (.cells #[.slice a5 L1.length c5, .slice a6 K1.length c6] 25) = w8 at *
 clear hgw
 obtain ⟨x0, x1⟩ := HS7.out.lie
 go_wp2_with fail
 ((with_reducible refine (C2.out w8 HS7.out).mono ?_); rintro x w9 ⟨da, db, rfl, o7, o8, b9⟩)
 have HC := Lib.hid (SV.new o7 o8)
 have HOC := Lib.hid (And.intro (Gn.Own.later o7 (box_new w9 (.cells #[da, db] 25))) (Gn.Own.later o8 (box_new w9 (.cells #[da, db] 25))))
 have HB9 := Lib.hid (Below.trans b9 ((box_new w9 (.cells #[da, db] 25)).mono b9.size))
 obtain ⟨a7, c7, rfl, _⟩ := Gn.Rd.form (RdK.of o7)
 obtain ⟨a8, c8, rfl, _⟩ := Gn.Rd.form (RdI.of o8)
 have HS9 := Lib.hid (HS7.out.later HB9.out)
 have HR9 := Lib.hid (HR7.out.later HB9.out)
 have HW9 := Lib.hid (HW.out.later HB9.out)
 have HS8 := Lib.hid HS7.out
 have HW8 := Lib.hid HW.out
 have HZ8 := Lib.hid (And.intro HB9.out b9.size)
 have HB78 := Lib.hid (up HB6.out HB7.out)
 have HB := Lib.hid (up (up HB6.out HB7.out) HB9.out)
 clear x0 x1 o7 o8 b9 C2 HS7 HR7 HW HB6 HB7
 go_upto_region 4 with fail
 obtain ⟨gc, hgc⟩ : ∃ g, w9.heap.size = g := ⟨_, rfl⟩
 simp only [hgc] at HC ⊢
 generalize w9.alloc (.cells #[.slice a7 L1.length c7, .slice a8 K1.length c8] 25) = wr at *
 clear hgc
 obtain ⟨x0, x1⟩ := HS9.out.lie
 obtain ⟨y0, y1⟩ := HR9.out.lie
 obtain ⟨z0, z1⟩ := HW9.out.lie
 obtain ⟨u0, u1⟩ := HC.out.lie
 have HTR := Lib.hid (HT.out.later HB.out)
 obtain ⟨b, hb0⟩ : ∃ b, Sc.name (bl nm) = b := ⟨_, rfl⟩
 have HN1 := Lib.hid (fun w1 => cIsNameL nm w1 hn b hb0)
 have HN2 := Lib.hid (fun w1 => rIsNameL nm w1 hn b hb0)
 obtain ⟨d, hd0⟩ : ∃ d, Sc.ck L1 K1 = d := ⟨_, rfl⟩
 have HC3 := Lib.hid (fun w1 (t : TA w1) (hv : SV w1 g (.slice a1 L1.length c1) (.slice a2 K1.length c2) L1 K1) => cCheckS _ _ L1 K1 w1 t hv.c hv.k HK1.out.1 HK1.out.2.2.2.1 d hd0)
 have HC4 := Lib.hid (fun w1 (hv : SV w1 gw (.slice a5 L1.length c5) (.slice a6 K1.length c6) L1 K1) => rCheckS _ _ L1 K1 w1 hv.c hv.k HK1.out.1 HK1.out.2.2.2.1 d hd0)
 obtain ⟨e, he0⟩ : ∃ e : Bool, e = true ↔ (L1 = L2 ∧ K1 = K2) := by
  by_cases hh : L1 = L2 ∧ K1 = K2
  ·exact ⟨true, by simp [hh]⟩
  ·exact ⟨false, by simp [hh]⟩
 have HC5 := Lib.hid (fun w1 (hv : SV w1 g (.slice a1 L1.length c1) (.slice a2 K1.length c2) L1 K1) (hu : SV w1 (g + 1) (.slice a3 L2.length c3) (.slice a4 K2.length c4) L2 K2) => cSame _ _ _ _ L1 L2 K1 K2 w1 hv.c hu.c hv.k hu.k e he0)
 have HC6 := Lib.hid (fun w1 (hv : SV w1 gw (.slice a5 L1.length c5) (.slice a6 K1.length c6) L1 K1) (hu : SV w1 (g + 1) (.slice a3 L2.length c3) (.slice a4 K2.length c4) L2 K2) => rSame _ _ _ _ L1 L2 K1 K2 w1 hv.c hu.c hv.k hu.k e he0)
 have HC7 := Lib.hid (fun w1 (hv : SV w1 g (.slice a1 L1.length c1) (.slice a2 K1.length c2) L1 K1) (hu : SV w1 gc (.slice a7 L1.length c7) (.slice a8 K1.length c8) L1 K1) => cSame _ _ _ _ L1 L1 K1 K1 w1 hv.c hu.c hv.k hu.k true (by simp))
 clear hb0 hd0 he0
 refine region_growI_merge (fun u v : World => Below u.heap.size u v) (fun _ _ => True) (fun _ _ _ => True) (fun u => Below.refl _ _) (fun _ _ _ h k => up h k) (kjI #[Spc.eq (.string nm), Spc.eq (.bool b), Spc.eq (.string nm), Spc.eq (.bool b), Spc.eq (.bool false), Spc.eq (.bool false), Spc.eq (.agg #[.slice a1 L1.length c1, .slice a2 K1.length c2]), Spc.eq (.int .i64 d), Spc.eq (.agg #[.slice a5 L1.length c5, .slice a6 K1.length c6]), Spc.eq (.int .i64 d), Spc.eq (.bool false), Spc.eq (.bool false), Spc.eq (.bool false), Spc.eq (.agg #[.slice a1 L1.length c1, .slice a2 K1.length c2]), Spc.eq (.agg #[.slice a3 L2.length c3, .slice a4 K2.length c4]), Spc.eq (.bool e), Spc.eq (.agg #[.slice a5 L1.length c5, .slice a6 K1.length c6]), Spc.eq (.agg #[.slice a3 L2.length c3, .slice a4 K2.length c4]), Spc.eq (.bool e), Spc.eq (.bool false), Spc.eq (.bool false), Spc.eq (.bool false), Spc.eq (.agg #[.slice a1 L1.length c1, .slice a2 K1.length c2]), Spc.eq (.agg #[.slice a7 L1.length c7, .slice a8 K1.length c8]), Spc.eq (.bool true), Spc.eq (.bool false), Spc.eq (.bool false)]) [30, 31, 32, 33, 34, 35, 36, 37, 38, 39, 40, 41, 42, 43, 44, 45, 46, 47, 48, 49, 50, 51, 52, 53, 54, 55, 56] (fun ts u => ts.getD 56 undef = .bool false ∧ Below wr.heap.size wr u) (by kernel_rfl) (by kernel_rfl) (by kernel_rfl) kjI_later trivial ?_ ?_ ?_
 ·intro QQ fd jo o a w1 ho hfd hdd hI hb hs hold hdep
  have hjo : jo < 27 := (Array.getElem?_eq_some_iff.1 ho).1
  have hb' : Below wr.heap.size wr w1 := up (Below.refl _ _).drew hb
  have x0' : w1.cell? ⟨g, 0, none⟩ = some (.slice a1 L1.length c1) := (hb'.cell (p := ⟨g, 0, none⟩) (cell_lt x0)).trans x0
  have x1' : w1.cell? ⟨g, 1, none⟩ = some (.slice a2 K1.length c2) := (hb'.cell (p := ⟨g, 1, none⟩) (cell_lt x1)).trans x1
  have y0' : w1.cell? ⟨g + 1, 0, none⟩ = some (.slice a3 L2.length c3) := (hb'.cell (p := ⟨g + 1, 0, none⟩) (cell_lt y0)).trans y0
  have y1' : w1.cell? ⟨g + 1, 1, none⟩ = some (.slice a4 K2.length c4) := (hb'.cell (p := ⟨g + 1, 1, none⟩) (cell_lt y1)).trans y1
  have z0' : w1.cell? ⟨gw, 0, none⟩ = some (.slice a5 L1.length c5) := (hb'.cell (p := ⟨gw, 0, none⟩) (cell_lt z0)).trans z0
  have z1' : w1.cell? ⟨gw, 1, none⟩ = some (.slice a6 K1.length c6) := (hb'.cell (p := ⟨gw, 1, none⟩) (cell_lt z1)).trans z1
  have u0' : w1.cell? ⟨gc, 0, none⟩ = some (.slice a7 L1.length c7) := (hb'.cell (p := ⟨gc, 0, none⟩) (cell_lt u0)).trans u0
  have u1' : w1.cell? ⟨gc, 1, none⟩ = some (.slice a8 K1.length c8) := (hb'.cell (p := ⟨gc, 1, none⟩) (cell_lt u1)).trans u1
  clear x0 x1 y0 y1 z0 z1 u0 u1
  have e2 : a.eval (.tmp 2) = .string nm := by
   show a.tmps.getD 2 undef = _
   rw [Array.getD_eq_getD_getElem?, hold 2 (by decide +kernel)]; rfl
  have e3 : a.eval (.tmp 3) = .pointer (some ⟨g, 0, none⟩) := by
   show a.tmps.getD 3 undef = _
   rw [Array.getD_eq_getD_getElem?, hold 3 (by decide +kernel)]; rfl
  have e4 : a.eval (.tmp 4) = .pointer (some ⟨g + 1, 0, none⟩) := by
   show a.tmps.getD 4 undef = _
   rw [Array.getD_eq_getD_getElem?, hold 4 (by decide +kernel)]; rfl
  have e7 : a.eval (.tmp 7) = .pointer (some ⟨gw, 0, none⟩) := by
   show a.tmps.getD 7 undef = _
   rw [Array.getD_eq_getD_getElem?, hold 7 (by decide +kernel)]; rfl
  have e8 : a.eval (.tmp 8) = .pointer (some ⟨gc, 0, none⟩) := by
   show a.tmps.getD 8 undef = _
   rw [Array.getD_eq_getD_getElem?, hold 8 (by decide +kernel)]; rfl
  have ec : ∀ v, a.eval (.const v) = v := fun _ => rfl
  clear hold hs
  rcases (show jo = 0 ∨ jo = 1 ∨ jo = 2 ∨ jo = 3 ∨ jo = 4 ∨ jo = 5 ∨ jo = 6 ∨ jo = 7 ∨ jo = 8 ∨ jo = 9 ∨ jo = 10 ∨ jo = 11 ∨ jo = 12 ∨ jo = 13 ∨ jo = 14 ∨ jo = 15 ∨ jo = 16 ∨ jo = 17 ∨ jo = 18 ∨ jo = 19 ∨ jo = 20 ∨ jo = 21 ∨ jo = 22 ∨ jo = 23 ∨ jo = 24 ∨ jo = 25 ∨ jo = 26 by omega) with rfl | rfl | rfl | rfl | rfl | rfl | rfl | rfl | rfl | rfl | rfl | rfl | rfl | rfl | rfl | rfl | rfl | rfl | rfl | rfl | rfl | rfl | rfl | rfl | rfl | rfl | rfl
  all_goals (have ho2 := ho; simp only [List.getElem?_toArray, List.getElem?_cons_succ, List.getElem?_cons_zero, Option.some.injEq] at ho2; subst ho2)
  ·refine gvT fd (.string nm) ho rfl ?_ rfl
   unfold execOp; simp only [List.map_toArray, List.map_cons, List.map_nil, e2, ec]; first | rfl | (go_simp; first | done | rfl | omega)
  ·have d0 : a.eval (.tmp 30) = .string nm := hdep ⟨0, .data⟩ (by simp) rfl
   refine growI_call (I := (fun _ _ => True)) (X := (fun _ _ _ => True)) (d := fd) (a := a) (w := w1) 15 #[.string nm] ho rfl ?_ ((HN1.out w1).mono ?_)
   ·unfold execOp resolve
    simp only [List.map_toArray, List.map_cons, List.map_nil, d0, ec]
    rfl
   ·rintro e c1 ⟨rfl, rfl⟩
    exact ⟨_, rfl, rfl, (Below.refl _ _), trivial, trivial⟩
  ·refine gvT fd (.string nm) ho rfl ?_ rfl
   unfold execOp; simp only [List.map_toArray, List.map_cons, List.map_nil, e2, ec]; first | rfl | (go_simp; first | done | rfl | omega)
  ·have d0 : a.eval (.tmp 32) = .string nm := hdep ⟨2, .data⟩ (by simp) rfl
   refine growI_call (I := (fun _ _ => True)) (X := (fun _ _ _ => True)) (d := fd) (a := a) (w := w1) 16 #[.string nm] ho rfl ?_ ((HN2.out w1).mono ?_)
   ·unfold execOp resolve
    simp only [List.map_toArray, List.map_cons, List.map_nil, d0, ec]
    rfl
   ·rintro e c1 ⟨rfl, rfl⟩
    exact ⟨_, rfl, rfl, (Below.refl _ _), trivial, trivial⟩
  ·have d0 : a.eval (.tmp 31) = .bool b := hdep ⟨1, .data⟩ (by simp) rfl
   have d1 : a.eval (.tmp 33) = .bool b := hdep ⟨3, .data⟩ (by simp) rfl
   refine gvT fd (.bool false) ho rfl ?_ rfl
   unfold execOp; simp only [List.map_toArray, List.map_cons, List.map_nil, d0, d1, ec]; first | (go_simp; done) | (cases b <;> (go_simp; done)) | (cases b <;> rfl)
  ·have d0 : a.eval (.tmp 34) = .bool false := hdep ⟨4, .data⟩ (by simp) rfl
   refine gvT fd (.bool false) ho rfl ?_ rfl
   unfold execOp; simp only [List.map_toArray, List.map_cons, List.map_nil, d0, ec]; first | rfl | (go_simp; first | done | rfl | omega)
  ·have eg : a.tmps.getD 35 undef = .bool false := hdep ⟨5, .guard⟩ (by simp) rfl
   refine gvT fd (.agg #[.slice a1 L1.length c1, .slice a2 K1.length c2]) ho (wantedI rfl (yieldedI rfl eg)) ?_ rfl
   unfold execOp; simp only [List.map_toArray, List.map_cons, List.map_nil, e3, ec]; first | rfl | (go_simp; first | done | rfl | omega)
  ·have eg : a.tmps.getD 35 undef = .bool false := hdep ⟨5, .guard⟩ (by simp) rfl
   have d0 : a.eval (.tmp 36) = .agg #[.slice a1 L1.length c1, .slice a2 K1.length c2] := hdep ⟨6, .data⟩ (by simp) rfl
   refine growI_call (I := (fun _ _ => True)) (X := (fun _ _ _ => True)) (d := fd) (a := a) (w := w1) 17 #[.agg #[.slice a1 L1.length c1, .slice a2 K1.length c2]] ho (wantedI rfl (yieldedI rfl eg)) ?_ ((HC3.out w1 (HTR.out.later hb') (HS9.out.later hb')).mono ?_)
   ·unfold execOp resolve
    simp only [List.map_toArray, List.map_cons, List.map_nil, d0, ec]
    rfl
   ·rintro e c1 ⟨rfl, hb2⟩
    exact ⟨_, rfl, rfl, hb2, trivial, trivial⟩
  ·have eg : a.tmps.getD 35 undef = .bool false := hdep ⟨5, .guard⟩ (by simp) rfl
   refine gvT fd (.agg #[.slice a5 L1.length c5, .slice a6 K1.length c6]) ho (wantedI rfl (yieldedI rfl eg)) ?_ rfl
   unfold execOp; simp only [List.map_toArray, List.map_cons, List.map_nil, e7, ec]; first | rfl | (go_simp; first | done | rfl | omega)
  ·have eg : a.tmps.getD 35 undef = .bool false := hdep ⟨5, .guard⟩ (by simp) rfl
   have d0 : a.eval (.tmp 38) = .agg #[.slice a5 L1.length c5, .slice a6 K1.length c6] := hdep ⟨8, .data⟩ (by simp) rfl
   refine growI_call (I := (fun _ _ => True)) (X := (fun _ _ _ => True)) (d := fd) (a := a) (w := w1) 18 #[.agg #[.slice a5 L1.length c5, .slice a6 K1.length c6]] ho (wantedI rfl (yieldedI rfl eg)) ?_ ((HC4.out w1 (HW9.out.later hb')).mono ?_)
   ·unfold execOp resolve
    simp only [List.map_toArray, List.map_cons, List.map_nil, d0, ec]
    rfl
   ·rintro e c1 ⟨rfl, hb2⟩
    exact ⟨_, rfl, rfl, hb2, trivial, trivial⟩
  ·have eg : a.tmps.getD 35 undef = .bool false := hdep ⟨5, .guard⟩ (by simp) rfl
   have d0 : a.eval (.tmp 37) = .int .i64 d := hdep ⟨7, .data⟩ (by simp) rfl
   have d1 : a.eval (.tmp 39) = .int .i64 d := hdep ⟨9, .data⟩ (by simp) rfl
   refine gvT fd (.bool false) ho (wantedI rfl (yieldedI rfl eg)) ?_ rfl
   unfold execOp; simp only [List.map_toArray, List.map_cons, List.map_nil, d0, d1, ec]; first | rfl | (go_simp; first | done | rfl | omega)
  ·have d0 : a.eval (.tmp 35) = .bool false := hdep ⟨5, .data⟩ (by simp) rfl
   have d1 : a.eval (.tmp 40) = .bool false := hdep ⟨10, .data⟩ (by simp) rfl
   refine gvT fd (.bool false) ho rfl ?_ rfl
   unfold execOp; simp only [List.map_toArray, List.map_cons, List.map_nil, d0, d1, ec]; first | rfl | (go_simp; first | done | rfl | omega)
  ·have d0 : a.eval (.tmp 41) = .bool false := hdep ⟨11, .data⟩ (by simp) rfl
   refine gvT fd (.bool false) ho rfl ?_ rfl
   unfold execOp; simp only [List.map_toArray, List.map_cons, List.map_nil, d0, ec]; first | rfl | (go_simp; first | done | rfl | omega)
  ·have eg : a.tmps.getD 42 undef = .bool false := hdep ⟨12, .guard⟩ (by simp) rfl
   refine gvT fd (.agg #[.slice a1 L1.length c1, .slice a2 K1.length c2]) ho (wantedI rfl (yieldedI rfl eg)) ?_ rfl
   unfold execOp; simp only [List.map_toArray, List.map_cons, List.map_nil, e3, ec]; first | rfl | (go_simp; first | done | rfl | omega)
  ·have eg : a.tmps.getD 42 undef = .bool false := hdep ⟨12, .guard⟩ (by simp) rfl
   refine gvT fd (.agg #[.slice a3 L2.length c3, .slice a4 K2.length c4]) ho (wantedI rfl (yieldedI rfl eg)) ?_ rfl
   unfold execOp; simp only [List.map_toArray, List.map_cons, List.map_nil, e4, ec]; first | rfl | (go_simp; first | done | rfl | omega)
  ·have eg : a.tmps.getD 42 undef = .bool false := hdep ⟨12, .guard⟩ (by simp) rfl
   have d0 : a.eval (.tmp 43) = .agg #[.slice a1 L1.length c1, .slice a2 K1.length c2] := hdep ⟨13, .data⟩ (by simp) rfl
   have d1 : a.eval (.tmp 44) = .agg #[.slice a3 L2.length c3, .slice a4 K2.length c4] := hdep ⟨14, .data⟩ (by simp) rfl
   refine growI_call (I := (fun _ _ => True)) (X := (fun _ _ _ => True)) (d := fd) (a := a) (w := w1) 19 #[.agg #[.slice a1 L1.length c1, .slice a2 K1.length c2], .agg #[.slice a3 L2.length c3, .slice a4 K2.length c4]] ho (wantedI rfl (yieldedI rfl eg)) ?_ ((HC5.out w1 (HS9.out.later hb') (HR9.out.later hb')).mono ?_)
   ·unfold execOp resolve
    simp only [List.map_toArray, List.map_cons, List.map_nil, d0, d1, ec]
    rfl
   ·rintro e c1 ⟨rfl, hb2⟩
    exact ⟨_, rfl, rfl, hb2, trivial, trivial⟩
  ·have eg : a.tmps.getD 42 undef = .bool false := hdep ⟨12, .guard⟩ (by simp) rfl
   refine gvT fd (.agg #[.slice a5 L1.length c5, .slice a6 K1.length c6]) ho (wantedI rfl (yieldedI rfl eg)) ?_ rfl
   unfold execOp; simp only [List.map_toArray, List.map_cons, List.map_nil, e7, ec]; first | rfl | (go_simp; first | done | rfl | omega)
  ·have eg : a.tmps.getD 42 undef = .bool false := hdep ⟨12, .guard⟩ (by simp) rfl
   refine gvT fd (.agg #[.slice a3 L2.length c3, .slice a4 K2.length c4]) ho (wantedI rfl (yieldedI rfl eg)) ?_ rfl
   unfold execOp; simp only [List.map_toArray, List.map_cons, List.map_nil, e4, ec]; first | rfl | (go_simp; first | done | rfl | omega)
  ·have eg : a.tmps.getD 42 undef = .bool false := hdep ⟨12, .guard⟩ (by simp) rfl
   have d0 : a.eval (.tmp 46) = .agg #[.slice a5 L1.length c5, .slice a6 K1.length c6] := hdep ⟨16, .data⟩ (by simp) rfl
   have d1 : a.eval (.tmp 47) = .agg #[.slice a3 L2.length c3, .slice a4 K2.length c4] := hdep ⟨17, .data⟩ (by simp) rfl
   refine growI_call (I := (fun _ _ => True)) (X := (fun _ _ _ => True)) (d := fd) (a := a) (w := w1) 20 #[.agg #[.slice a5 L1.length c5, .slice a6 K1.length c6], .agg #[.slice a3 L2.length c3, .slice a4 K2.length c4]] ho (wantedI rfl (yieldedI rfl eg)) ?_ ((HC6.out w1 (HW9.out.later hb') (HR9.out.later hb')).mono ?_)
   ·unfold execOp resolve
    simp only [List.map_toArray, List.map_cons, List.map_nil, d0, d1, ec]
    rfl
   ·rintro e c1 ⟨rfl, hb2⟩
    exact ⟨_, rfl, rfl, hb2, trivial, trivial⟩
  ·have eg : a.tmps.getD 42 undef = .bool false := hdep ⟨12, .guard⟩ (by simp) rfl
   have d0 : a.eval (.tmp 45) = .bool e := hdep ⟨15, .data⟩ (by simp) rfl
   have d1 : a.eval (.tmp 48) = .bool e := hdep ⟨18, .data⟩ (by simp) rfl
   refine gvT fd (.bool false) ho (wantedI rfl (yieldedI rfl eg)) ?_ rfl
   unfold execOp; simp only [List.map_toArray, List.map_cons, List.map_nil, d0, d1, ec]; first | (go_simp; done) | (cases e <;> (go_simp; done)) | (cases e <;> rfl)
  ·have d0 : a.eval (.tmp 42) = .bool false := hdep ⟨12, .data⟩ (by simp) rfl
   have d1 : a.eval (.tmp 49) = .bool false := hdep ⟨19, .data⟩ (by simp) rfl
   refine gvT fd (.bool false) ho rfl ?_ rfl
   unfold execOp; simp only [List.map_toArray, List.map_cons, List.map_nil, d0, d1, ec]; first | rfl | (go_simp; first | done | rfl | omega)
  ·have d0 : a.eval (.tmp 50) = .bool false := hdep ⟨20, .data⟩ (by simp) rfl
   refine gvT fd (.bool false) ho rfl ?_ rfl
   unfold execOp; simp only [List.map_toArray, List.map_cons, List.map_nil, d0, ec]; first | rfl | (go_simp; first | done | rfl | omega)
  ·have eg : a.tmps.getD 51 undef = .bool false := hdep ⟨21, .guard⟩ (by simp) rfl
   refine gvT fd (.agg #[.slice a1 L1.length c1, .slice a2 K1.length c2]) ho (wantedI rfl (yieldedI rfl eg)) ?_ rfl
   unfold execOp; simp only [List.map_toArray, List.map_cons, List.map_nil, e3, ec]; first | rfl | (go_simp; first | done | rfl | omega)
  ·have eg : a.tmps.getD 51 undef = .bool false := hdep ⟨21, .guard⟩ (by simp) rfl
   refine gvT fd (.agg #[.slice a7 L1.length c7, .slice a8 K1.length c8]) ho (wantedI rfl (yieldedI rfl eg)) ?_ rfl
   unfold execOp; simp only [List.map_toArray, List.map_cons, List.map_nil, e8, ec]; first | rfl | (go_simp; first | done | rfl | omega)
  ·have eg : a.tmps.getD 51 undef = .bool false := hdep ⟨21, .guard⟩ (by simp) rfl
   have d0 : a.eval (.tmp 52) = .agg #[.slice a1 L1.length c1, .slice a2 K1.length c2] := hdep ⟨22, .data⟩ (by simp) rfl
   have d1 : a.eval (.tmp 53) = .agg #[.slice a7 L1.length c7, .slice a8 K1.length c8] := hdep ⟨23, .data⟩ (by simp) rfl
   refine growI_call (I := (fun _ _ => True)) (X := (fun _ _ _ => True)) (d := fd) (a := a) (w := w1) 19 #[.agg #[.slice a1 L1.length c1, .slice a2 K1.length c2], .agg #[.slice a7 L1.length c7, .slice a8 K1.length c8]] ho (wantedI rfl (yieldedI rfl eg)) ?_ ((HC7.out w1 (HS9.out.later hb') (HC.out.later hb')).mono ?_)
   ·unfold execOp resolve
    simp only [List.map_toArray, List.map_cons, List.map_nil, d0, d1, ec]
    rfl
   ·rintro e c1 ⟨rfl, hb2⟩
    exact ⟨_, rfl, rfl, hb2, trivial, trivial⟩
  ·have eg : a.tmps.getD 51 undef = .bool false := hdep ⟨21, .guard⟩ (by simp) rfl
   have d0 : a.eval (.tmp 54) = .bool true := hdep ⟨24, .data⟩ (by simp) rfl
   refine gvT fd (.bool false) ho (wantedI rfl (yieldedI rfl eg)) ?_ rfl
   unfold execOp; simp only [List.map_toArray, List.map_cons, List.map_nil, d0, ec]; first | rfl | (go_simp; first | done | rfl | omega)
  ·have d0 : a.eval (.tmp 51) = .bool false := hdep ⟨21, .data⟩ (by simp) rfl
   have d1 : a.eval (.tmp 55) = .bool false := hdep ⟨25, .data⟩ (by simp) rfl
   refine gvT fd (.bool false) ho rfl ?_ rfl
   unfold execOp; simp only [List.map_toArray, List.map_cons, List.map_nil, d0, d1, ec]; first | rfl | (go_simp; first | done | rfl | omega)
 ·intro a w1 hI hb hj
  have hb' : Below wr.heap.size wr w1 := up (Below.refl _ _).drew hb
  exact ⟨hj 26 (by decide), hb'⟩
 rintro ts4 w10 ⟨h56, hb10⟩
 simp only [fill, List.setIfInBounds_toArray, List.set_cons_succ, List.set_cons_zero]
 rw [h56]
 have HS := Lib.hid (HS9.out.later hb10)
 have HW := Lib.hid (HW9.out.later hb10)
 have HO := Lib.hid (And.intro (Gn.Own.later HOC.out.1 hb10) (Gn.Own.later HOC.out.2 hb10))
 have HX := Lib.hid (HC.out.x.later hb10)
 have HBA := Lib.hid (up HB.out hb10)
 have HTW : Hid (TW w8 gc (.slice a7 L1.length c7) (.slice a8 K1.length c8) L1 K1 w10) := Lib.hid ⟨HX.out, HO.out.1, HO.out.2, up HZ8.out.1 hb10⟩
 have h40 : (L1.length : Int) ≤ 40 := by have := HK1.out.2.2.1; omega
 have h12 : (K1.length : Int) ≤ 12 := by have := HK1.out.2.2.2.2; omega
 clear x0 x1 y0 y1 z0 z1 u0 u1 HC3 HC4 HC5 HC6 HC7 HN1 HN2 HTR HS9 HR9 HW9 HOC HC HB9 HB hb10 h56
 go_wp2_with fail
 simp only [Array.getD_eq_getD_getElem?]
 go_loopw [9] (fun i wv => ∃ z : Int, i = .int .i64 z ∧ -1 ≤ z ∧ z ≤ L1.length ∧ Hid (Below w10.heap.size w10 wv)) (fun i _ => ((L1.length : Int) - intOf i).toNat)
 case atStart => exact ⟨-1, by rfl, by omega, by omega, Lib.hid (Below.refl _ _)⟩
 case round =>
  obtain ⟨z, rfl, hz0, hz1, HU⟩ := hrel
  have HSR := Lib.hid (HS.out.later HU.out)
  have HWR := Lib.hid (HW.out.later HU.out)
  obtain ⟨x0, x1⟩ := HSR.out.lie
  obtain ⟨z0, z1⟩ := HWR.out.lie
  by_cases hlt : z < L1.length
  ·have HMZ := Lib.hid hlt
   by_cases hneg : z < 0
   ·obtain rfl : z = -1 := by omega
    have hng : ¬ ((-1 : Int) ≥ 0) := by omega
    obtain ⟨n1, y1, hf1⟩ : ∃ n y, Sc.find (Sc.byId (nm.size : Int)) L1 = (n, y) := ⟨_, _, rfl⟩
    obtain ⟨n2, y2, hf2⟩ : ∃ n y, Sc.find (Sc.byName nm) L1 = (n, y) := ⟨_, _, rfl⟩
    have hl6 : L1.length ≤ 1000000 := by omega
    have P1 := Lib.hid (fun w1 (hv : SV w1 g (.slice a1 L1.length c1) (.slice a2 K1.length c2) L1 K1) => cPlace _ (.slice a2 K1.length c2) L1 (nm.size : Int) w1 hv.c hl6 n1 y1 hf1)
    have P2 := Lib.hid (fun w1 (hv : SV w1 gw (.slice a5 L1.length c5) (.slice a6 K1.length c6) L1 K1) => rPlace _ (.slice a6 K1.length c6) L1 (nm.size : Int) w1 hv.c hl6 n1 y1 hf1)
    have P3 := Lib.hid (fun w1 (hv : SV w1 g (.slice a1 L1.length c1) (.slice a2 K1.length c2) L1 K1) => cNamed _ (.slice a2 K1.length c2) L1 nm w1 hv.c hl6 n2 y2 hf2)
    have P4 := Lib.hid (fun w1 (hv : SV w1 gw (.slice a5 L1.length c5) (.slice a6 K1.length c6) L1 K1) => rNamed _ (.slice a6 K1.length c6) L1 nm w1 hv.c hl6 n2 y2 hf2)
    clear hf1 hf2 hl6
    go_wp2_with fail
    ((with_reducible refine (P1.out _ HSR.out).mono ?_); rintro e wA ⟨rfl, b⟩)
    have HSA := Lib.hid (HSR.out.later b)
    have HWA := Lib.hid (HWR.out.later b)
    have HUA := Lib.hid (up HU.out b)
    clear x0 x1 z0 z1 b P1 HSR HWR HU
    obtain ⟨z0, z1⟩ := HWA.out.lie
    go_wp2_with fail
    ((with_reducible refine (P2.out _ HWA.out).mono ?_); rintro e wB ⟨rfl, b⟩)
    have HSB := Lib.hid (HSA.out.later b)
    have HWB := Lib.hid (HWA.out.later b)
    have HUB := Lib.hid (up HUA.out b)
    clear z0 z1 b P2 HSA HWA HUA
    obtain ⟨x0, x1⟩ := HSB.out.lie
    go_wp2_with fail
    ((with_reducible refine (P3.out _ HSB.out).mono ?_); rintro e wC ⟨rfl, b⟩)
    have HWC := Lib.hid (HWB.out.later b)
    have HUC := Lib.hid (up HUB.out b)
    clear x0 x1 b P3 HSB HWB HUB
    obtain ⟨z0, z1⟩ := HWC.out.lie
    go_wp2_with fail
    ((with_reducible refine (P4.out _ HWC.out).mono ?_); rintro e wD ⟨rfl, b⟩)
    have HUD := Lib.hid (up HUC.out b)
    clear z0 z1 b P4 HWC HUC
    cases y1 <;> cases y2
    all_goals
     go_wp2_with fail
     go_roundw
     case rel => first | exact ⟨(-1 : Int) + 1, by go_num, by omega, by omega, HUD⟩ | ((repeat apply Exists.intro); exact ⟨⟨(-1 : Int) + 1, by go_num, by omega, by omega, HUD⟩, rfl⟩)
     case measure => have h2 := HMZ.out; first | (simp [intOf]; done) | (simp [intOf]; omega)
   ·obtain ⟨k, rfl⟩ : ∃ k : Nat, z = k := ⟨z.toNat, by omega⟩
    have hng : ((k : Int) ≥ 0) := by omega
    obtain ⟨c, hx⟩ : ∃ c, L1[k]? = some c := ⟨_, List.getElem?_eq_getElem (by omega)⟩
    obtain ⟨gb, off, rfl, p0, p1, p2, p3, p4, p5, p6⟩ := rdK_cells HSR.out.c (Below.refl _ _) hx
    obtain ⟨ci, cm, ck, cu, ⟨du, dn, ds⟩⟩ := c
    simp only at p0 p1 p2 p3 p4 p5 p6
    clear hx p2 p3 p4 p5 p6
    obtain ⟨n1, y1, hf1⟩ : ∃ n y, Sc.find (Sc.byId (ci : Int)) L1 = (n, y) := ⟨_, _, rfl⟩
    obtain ⟨n2, y2, hf2⟩ : ∃ n y, Sc.find (Sc.byName cm) L1 = (n, y) := ⟨_, _, rfl⟩
    have hl6 : L1.length ≤ 1000000 := by omega
    have P1 := Lib.hid (fun w1 (hv : SV w1 g (.slice (some ⟨gb, off, none⟩) L1.length c1) (.slice a2 K1.length c2) L1 K1) => cPlace _ (.slice a2 K1.length c2) L1 (ci : Int) w1 hv.c hl6 n1 y1 hf1)
    have P2 := Lib.hid (fun w1 (hv : SV w1 gw (.slice a5 L1.length c5) (.slice a6 K1.length c6) L1 K1) => rPlace _ (.slice a6 K1.length c6) L1 (ci : Int) w1 hv.c hl6 n1 y1 hf1)
    have P3 := Lib.hid (fun w1 (hv : SV w1 g (.slice (some ⟨gb, off, none⟩) L1.length c1) (.slice a2 K1.length c2) L1 K1) => cNamed _ (.slice a2 K1.length c2) L1 cm w1 hv.c hl6 n2 y2 hf2)
    have P4 := Lib.hid (fun w1 (hv : SV w1 gw (.slice a5 L1.length c5) (.slice a6 K1.length c6) L1 K1) => rNamed _ (.slice a6 K1.length c6) L1 cm w1 hv.c hl6 n2 y2 hf2)
    clear hf1 hf2 hl6
    go_upto_region 11 with fail
    go_region
    have HSR := Lib.hid (HSR.out.later (Below.refl _ _).drew)
    have HWR := Lib.hid (HWR.out.later (Below.refl _ _).drew)
    have HU := Lib.hid HU.out.drew
    clear x0 x1 z0 z1 p0 p1
    generalize wr.drew = wr2 at *
    obtain ⟨x0, x1⟩ := HSR.out.lie
    obtain ⟨z0, z1⟩ := HWR.out.lie
    go_wp2_with fail
    ((with_reducible refine (P1.out _ HSR.out).mono ?_); rintro e wA ⟨rfl, b⟩)
    have HSA := Lib.hid (HSR.out.later b)
    have HWA := Lib.hid (HWR.out.later b)
    have HUA := Lib.hid (up HU.out b)
    clear x0 x1 z0 z1 b P1 HSR HWR HU
    obtain ⟨z0, z1⟩ := HWA.out.lie
    go_wp2_with fail
    ((with_reducible refine (P2.out _ HWA.out).mono ?_); rintro e wB ⟨rfl, b⟩)
    have HSB := Lib.hid (HSA.out.later b)
    have HWB := Lib.hid (HWA.out.later b)
    have HUB := Lib.hid (up HUA.out b)
    clear z0 z1 b P2 HSA HWA HUA
    obtain ⟨x0, x1⟩ := HSB.out.lie
    go_wp2_with fail
    ((with_reducible refine (P3.out _ HSB.out).mono ?_); rintro e wC ⟨rfl, b⟩)
    have HWC := Lib.hid (HWB.out.later b)
    have HUC := Lib.hid (up HUB.out b)
    clear x0 x1 b P3 HSB HWB HUB
    obtain ⟨z0, z1⟩ := HWC.out.lie
    go_wp2_with fail
    ((with_reducible refine (P4.out _ HWC.out).mono ?_); rintro e wD ⟨rfl, b⟩)
    have HUD := Lib.hid (up HUC.out b)
    clear z0 z1 b P4 HWC HUC
    cases y1 <;> cases y2
    all_goals
     go_wp2_with fail
     go_roundw
     case rel => first | exact ⟨(k : Int) + 1, by go_num, by omega, by omega, HUD⟩ | ((repeat apply Exists.intro); exact ⟨⟨(k : Int) + 1, by go_num, by omega, by omega, HUD⟩, rfl⟩)
     case measure => have h2 := HMZ.out; first | (simp [intOf]; done) | (simp [intOf]; omega)
  ·have hlt1 : ¬ z < (L1.length : Int) := hlt
   have HTW2 : Hid (TW w8 gc (.slice a7 L1.length c7) (.slice a8 K1.length c8) L1 K1 wr) := Lib.hid ⟨HTW.out.s.later HU.out, Gn.Own.later HTW.out.oc HU.out, Gn.Own.later HTW.out.ok HU.out, up HTW.out.b HU.out⟩
   clear HTW HS HW HO HX HBA HU HSR HWR
   go_wp2_with fail
   clear x0 x1 z0 z1
   try simp only [Array.getD_eq_getD_getElem?]
   go_loopw [20] (fun i wr => ∃ (k : Nat) (lc : List Co), k ≤ L1.length ∧ lc.length = L1.length ∧ i = .int .i64 (k : Nat) ∧ Hid (TW w8 gc (.slice a7 L1.length c7) (.slice a8 K1.length c8) lc K1 wr)) (fun i _ => L1.length - (intOf i).toNat)
   case atStart => exact ⟨0, L1, by omega, rfl, by rfl, HTW2⟩
   case round =>
    obtain ⟨k, lc, hk, hlc, rfl, HK⟩ := hrel
    have s0 := HK.out.s.cell 0
    have s1 := HK.out.s.cell 1
    simp only [List.getElem?_cons_succ, List.getElem?_cons_zero] at s0 s1
    by_cases hlt : k < L1.length
    ·have hlt1 : (k : Int) < L1.length := by omega
     have hform : ∃ g, a7 = some ⟨g, 0, none⟩ := by
      rcases HK.out.oc.2 with ⟨h1, _⟩ | ⟨g, cap, cur, h1, _⟩
      ·injection h1 with _ h2 _; omega
      ·injection h1 with h2 _ _; exact ⟨g, h2⟩
     obtain ⟨gb, rfl⟩ := hform
     have hth := own_there7 HK.out.oc hlc hlt
     have hst := store_at7 wr gb (k * 7) ⟨-1, ⟨#[]⟩, 0, false, ⟨false, 0, ⟨#[]⟩⟩⟩ hth
     have HFI := Lib.hid (HK.out.put hlc hlt ⟨-1, ⟨#[]⟩, 0, false, ⟨false, 0, ⟨#[]⟩⟩⟩)
     have HLT := Lib.hid hlt
     obtain ⟨y, hy⟩ : ∃ y, lc[k]? = some y := ⟨_, List.getElem?_eq_getElem (by omega)⟩
     obtain ⟨gb', off', hgo, p0, p1, p2, p3, p4, p5, p6⟩ := rdK_cells (RdK.of HK.out.oc) (Below.refl _ _) hy
     injection hgo with hgo
     injection hgo with hg1 hg2 _
     subst hg1 hg2
     simp only [Nat.zero_add] at p0 p1 p2 p3 p4 p5 p6
     have q0 := (hth 0 (by omega)).2
     have q1 := (hth 1 (by omega)).2
     have q2 := (hth 2 (by omega)).2
     have q3 := (hth 3 (by omega)).2
     have q4 := (hth 4 (by omega)).2
     have q5 := (hth 5 (by omega)).2
     have q6 := (hth 6 (by omega)).2
     simp only [Nat.add_zero] at q0
     clear hth hy HK hst
     go_wp2_with fail
     go_roundw
     case rel => exact ⟨k + 1, _, HLT.out, by rw [List.length_set]; exact hlc, by go_num, HFI⟩
     case measure => have := HLT.out; simp [intOf]; omega
    ·have hlt1 : ¬ (k : Int) < L1.length := by omega
     clear hk
     go_wp2_with fail
     try simp only [Array.getD_eq_getD_getElem?]
     go_loopw [21] (fun i wr => ∃ (j : Nat) (kc : List Int), j ≤ K1.length ∧ kc.length = K1.length ∧ i = .int .i64 (j : Nat) ∧ Hid (TW w8 gc (.slice a7 L1.length c7) (.slice a8 K1.length c8) lc kc wr)) (fun i _ => K1.length - (intOf i).toNat)
     case atStart => exact ⟨0, K1, by omega, rfl, by rfl, HK⟩
     case round =>
      clear HK s0 s1
      obtain ⟨j, kc, hj, hkc, rfl, HK⟩ := hrel
      have s0 := HK.out.s.cell 0
      have s1 := HK.out.s.cell 1
      simp only [List.getElem?_cons_succ, List.getElem?_cons_zero] at s0 s1
      by_cases hltj : j < K1.length
      ·have hltj1 : (j : Int) < K1.length := by omega
       obtain ⟨gb, rfl⟩ := ownI_addr HK.out.ok (by omega)
       have hm := ownI_melt HK.out.ok hkc j
       obtain ⟨y, hy⟩ : ∃ y, kc[j]? = some y := ⟨_, List.getElem?_eq_getElem (by omega)⟩
       obtain ⟨gb', off', hgo, p0⟩ := rdI_cell (RdI.of HK.out.ok) (Below.refl _ _) hy
       injection hgo with hgo
       injection hgo with hg1 hg2 _
       subst hg1 hg2
       simp only [Nat.zero_add] at p0
       have HFI := Lib.hid (HK.out.key hkc j (-1))
       have HLT := Lib.hid hltj
       clear hy HK
       go_wp2_with fail
       go_roundw
       case rel => exact ⟨j + 1, _, HLT.out, by rw [List.length_set]; exact hkc, by go_num, HFI⟩
       case measure => have := HLT.out; simp [intOf]; omega
      ·have hltj1 : ¬ (j : Int) < K1.length := by omega
       have HS := Lib.hid (HS8.out.later HK.out.b)
       have HW := Lib.hid (HW8.out.later HK.out.b)
       have HBE := Lib.hid (up HB78.out HK.out.b)
       have HTE := Lib.hid (HT.out.later HBE.out)
       have HC8 := Lib.hid (rSame _ _ _ _ L1 L1 K1 K1 wr HS.out.c HW.out.c HS.out.k HW.out.k true (by simp))
       clear HK
       obtain ⟨x0, x1⟩ := HS.out.lie
       obtain ⟨z0, z1⟩ := HW.out.lie
       go_wp2_with fail
       ((with_reducible refine HC8.out.mono ?_); rintro e wx ⟨rfl, b⟩)
       clear x0 x1 z0 z1
       go_wp2_with fail
       ((with_reducible refine (works _ (HTE.out.later b)).mono ?_); rintro e wy ⟨rfl, b2⟩)
       go_wp2_with fail
       go_ret
       exact ⟨rfl, up (up HBE.out b) b2⟩
end Go.Proofs.YtanjdjiigfdnmaaGreatDoor
