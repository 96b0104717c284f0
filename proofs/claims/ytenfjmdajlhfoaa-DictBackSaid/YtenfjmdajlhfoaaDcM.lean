/- Texts and numbers in memory: slices that read as lists, slices that a call owns; lists that are compared and copied. -/
import Derived.Test.YtenfjmdajlhfoaaGen
import Derived.Test.YtenfjmdajlhfoaaSep
import Derived.Test.YtenfjmdajlhfoaaDcB
import Derived.Laws.OwnMore
namespace Go.Proofs.Ytenfjmdajlhfoaa
open Go.RowKit
set_option linter.unusedVariables false
set_option maxRecDepth 100000

theorem up {w w1 w2 : World} (h : Below w.heap.size w w1) (h2 : Below w1.heap.size w1 w2) : Below w.heap.size w w2 := h.trans (h2.mono h.size)
theorem up_new (w : World) (o : Obj) : Below w.heap.size w (w.alloc o) := (Below.refl _ _).alloc (Nat.le_refl _) _
theorem undrew {w w' : World} (h : Below w.drew.heap.size w.drew w') : Below w.heap.size w w' := ⟨h.os, h.tape, h.output, h.size, h.block⟩
/-- Texts. -/
def txc (x : ByteArray) : List Value := [.string x]
theorem txL : Gn.Lay txc 1 := ⟨fun _ => rfl, fun x v hv => by simp [txc] at hv; subst hv; rfl, by omega⟩
theorem txY : Gn.Ty 22 9 (.string ⟨#[]⟩) 1 16 := ⟨Try.underlying22, by kernel_rfl, by kernel_rfl, rfl, by omega⟩
def RdT (w : World) (B : Nat) (v : Value) (l : List ByteArray) : Prop := Gn.Rd txc 1 w B v l
def OwnT (w : World) (base : Nat) (v : Value) (l : List ByteArray) : Prop := Gn.Own txc 1 9 w base v l
theorem rdT_cell {W w : World} {B n c : Nat} {ad : Option Addr} {l : List ByteArray} (h : RdT W B (.slice ad n c) l) (hb : Below B W w) {i : Nat} {x : ByteArray} (hi : l[i]? = some x) :
    ∃ b off, ad = some ⟨b, off, none⟩ ∧ w.cell? ⟨b, off + i, none⟩ = some (.string x) := by
  obtain ⟨hl, e⟩ := List.getElem?_eq_some_iff.1 hi
  obtain ⟨b, off, rfl, _, hc⟩ := Gn.Rd.at h hb hl
  rw [e] at hc
  refine ⟨b, off, rfl, ?_⟩
  have := hc 0 _ rfl
  simpa using this
/-- Numbers. -/
def inc (x : Int) : List Value := [.int .i64 x]
theorem inL : Gn.Lay inc 1 := ⟨fun _ => rfl, fun x v hv => by simp [inc] at hv; subst hv; rfl, by omega⟩
theorem inY : Gn.Ty 26 3 (.int .i64 0) 1 8 := ⟨Try.underlying26, by kernel_rfl, by kernel_rfl, rfl, by omega⟩
def RdI (w : World) (B : Nat) (v : Value) (l : List Int) : Prop := Gn.Rd inc 1 w B v l
def OwnI (w : World) (base : Nat) (v : Value) (l : List Int) : Prop := Gn.Own inc 1 3 w base v l
theorem rdI_cell {W w : World} {B n c : Nat} {ad : Option Addr} {l : List Int} (h : RdI W B (.slice ad n c) l) (hb : Below B W w) {i : Nat} {x : Int} (hi : l[i]? = some x) :
    ∃ b off, ad = some ⟨b, off, none⟩ ∧ w.cell? ⟨b, off + i, none⟩ = some (.int .i64 x) := by
  obtain ⟨hl, e⟩ := List.getElem?_eq_some_iff.1 hi
  obtain ⟨b, off, rfl, _, hc⟩ := Gn.Rd.at h hb hl
  rw [e] at hc
  refine ⟨b, off, rfl, ?_⟩
  have := hc 0 _ rfl
  simpa using this
theorem RdT.of {w : World} {base : Nat} {v : Value} {l : List ByteArray} (h : OwnT w base v l) : RdT w w.heap.size v l := Gn.Own.rd txL h
theorem RdI.of {w : World} {base : Nat} {v : Value} {l : List Int} (h : OwnI w base v l) : RdI w w.heap.size v l := Gn.Own.rd inL h
theorem RdT.later {w w' : World} {v : Value} {l : List ByteArray} (h : RdT w w.heap.size v l) (hb : Below w.heap.size w w') : RdT w' w'.heap.size v l := Gn.Rd.later h hb
theorem RdI.later {w w' : World} {v : Value} {l : List Int} (h : RdI w w.heap.size v l) (hb : Below w.heap.size w w') : RdI w' w'.heap.size v l := Gn.Rd.later h hb
theorem OwnT.later {w w' : World} {base : Nat} {v : Value} {l : List ByteArray} (h : OwnT w base v l) (hb : Below w.heap.size w w') : OwnT w' base v l := Gn.Own.later h hb
theorem OwnI.later {w w' : World} {base : Nat} {v : Value} {l : List Int} (h : OwnI w base v l) (hb : Below w.heap.size w w') : OwnI w' base v l := Gn.Own.later h hb
theorem own_form {α : Type} {enc : α → List Value} {k : Nat} {T : TypeId} {w : World} {base : Nat} {v : Value} {l : List α} (h : Gn.Own enc k T w base v l) : ∃ a c, v = .slice a l.length c ∧ l.length ≤ c := by
  obtain ⟨h0, h1⟩ := h
  rcases h1 with ⟨rfl, hn⟩ | ⟨g, cap, cur, rfl, _, _, hc, _⟩
  · exact ⟨none, 0, by rw [hn], by omega⟩
  · exact ⟨_, _, rfl, hc⟩
theorem own_touch {α : Type} {enc : α → List Value} {k : Nat} {T : TypeId} {S : Nat → Prop} {w w' : World} {base : Nat} {v : Value} {l : List α} (h : Gn.Own enc k T w base v l) (ht : Touch S w w') (hn : ∀ g, v.ownBlock = some g → ¬ S g) : Gn.Own enc k T w' base v l := by
  obtain ⟨h0, h1⟩ := h
  refine ⟨h0, ?_⟩
  rcases h1 with h1 | ⟨g, cap, cur, rfl, hg, hh, r⟩
  · exact .inl h1
  · have hlt : g < w.heap.size := by
      rcases Nat.lt_or_ge g w.heap.size with hlt | hge
      · exact hlt
      · rw [Array.getElem?_eq_none hge] at hh; cases hh
    exact .inr ⟨g, cap, cur, rfl, hg, (ht.block g hlt (hn g rfl)).trans hh, r⟩
/-- Rows of unlike types lie apart; a row and a map, a row and a block of a type of its own. -/
theorem own_apart {α β : Type} {enc : α → List Value} {enc' : β → List Value} {k k' : Nat} {T T' : TypeId} {w : World} {B B' : Nat} {v v' : Value} {l : List α} {l' : List β} (h : Gn.Own enc k T w B v l) (h' : Gn.Own enc' k' T' w B' v' l') (hT : T ≠ T') :
    v.ownBlock = none ∨ v.ownBlock ≠ v'.ownBlock := by
  rcases h.2 with ⟨rfl, _⟩ | ⟨g, cap, cur, rfl, _, hh, _⟩
  · exact .inl rfl
  · refine .inr fun e => ?_
    rcases h'.2 with ⟨rfl, _⟩ | ⟨g', cap', cur', rfl, _, hh', _⟩
    · cases e
    · have e : g = g' := by simpa [Value.ownBlock] using e
      subst e
      rw [hh] at hh'
      injection hh' with hh'
      injection hh' with _ hh'
      exact hT hh'
theorem own_blk {α : Type} {enc : α → List Value} {k : Nat} {T T' : TypeId} {w : World} {B g p : Nat} {v : Value} {l : List α} {cs : List Value} (h : Gn.Own enc k T w B v l) (hp : Blk w p T' cs) (hT : T ≠ T') (e : v.ownBlock = some g) : g ≠ p := by
  rintro rfl
  rcases h.2 with ⟨rfl, _⟩ | ⟨g', cap, cur, rfl, _, hh, _⟩
  · cases e
  · have e : g' = g := by simpa [Value.ownBlock] using e
    subst e
    unfold Blk at hp
    rw [hh] at hp
    injection hp with hp
    injection hp with _ hp
    exact hT hp
theorem own_map {α : Type} {enc : α → List Value} {k : Nat} {T : TypeId} {w : World} {B g m n : Nat} {v : Value} {l : List α} {es : Array MapEntry} (h : Gn.Own enc k T w B v l) (hp : w.heap[m]? = some (.map es n)) (e : v.ownBlock = some g) : g ≠ m := by
  rintro rfl
  rcases h.2 with ⟨rfl, _⟩ | ⟨g', cap, cur, rfl, _, hh, _⟩
  · cases e
  · have e : g' = g := by simpa [Value.ownBlock] using e
    subst e
    rw [hh] at hp
    cases hp
theorem Touch.own {α : Type} {enc : α → List Value} {k : Nat} {T : TypeId} {w w' : World} {base : Nat} {v : Value} {l : List α} (hown : Gn.Own enc k T w base v l) (hg : w.grownBy w' v.ownBlock) : Touch (fun i => v.ownBlock = some i) w w' := by
  have hb := Gn.below_of_own (hown.lower (Nat.zero_le _)) hg (Nat.zero_le _)
  exact ⟨hb.os, hb.tape, hb.output, hb.size, fun i hi hn => hg.block i hi (fun e => hn e.symm)⟩
theorem falseOf {b : Bool} {p : Prop} (h : b = true ↔ p) (n : ¬ p) : b = false := by
  cases b with
  | false => rfl
  | true => exact absurd (h.1 rfl) n
theorem tl_eq (x y : ByteArray) : (x.toList == y.toList) = decide (x = y) := by
  have h : ∀ s : ByteArray, s.toList = s.data.toList := fun s => Lib.toList_data s
  rw [h, h, Bool.eq_iff_iff]
  simp only [beq_iff_eq, decide_eq_true_eq]
  exact ⟨fun h => ByteArray.ext (Array.toList_inj.1 h), fun h => by rw [h]⟩
set_option maxHeartbeats 4000000 in
theorem eqInts (v1 v2 : Value) (l1 l2 : List Int) (w : World) (h1 : RdI w w.heap.size v1 l1) (h2 : RdI w w.heap.size v2 l2) (hl : l1.length ≤ 1000000) (b : Bool) (hb : b = true ↔ l1 = l2) :
    Calls Try.prog 16 #[v1, v2] w fun e w' => e = .returned (.bool b) ∧ Below w.heap.size w w' := by
  have HR1 := Lib.hid h1
  have HR2 := Lib.hid h2
  have HB := Lib.hid hb
  obtain ⟨a1, c1, rfl, _⟩ := Gn.Rd.form h1
  obtain ⟨a2, c2, rfl, _⟩ := Gn.Rd.form h2
  clear h1 h2 hb
  by_cases hn : l1.length = l2.length
  · have hn' : ((l1.length : Int) != (l2.length : Nat)) = false := by simp; omega
    go_enter Try.func16, Try.ntmps16
    go_wp2_with fail
    go_loopw [5] (fun i wr => ∃ k : Nat, k ≤ l1.length ∧ i = .int .i64 (k : Nat) ∧ Hid (∀ j, j < k → l1[j]? = l2[j]?) ∧ Hid (Below w.heap.size w wr)) (fun i _ => l1.length - (intOf i).toNat)
    case atStart => exact ⟨0, by omega, by rfl, Lib.hid (fun j hj => by omega), Lib.hid (Below.refl _ _)⟩
    case round =>
      obtain ⟨k, hk, rfl, HE, HU⟩ := hrel
      by_cases hlt : k < l1.length
      · have hlt1 : (k : Int) < l1.length := by omega
        have hlt2 : (k : Int) < l2.length := by omega
        obtain ⟨x, hx⟩ : ∃ x, l1[k]? = some x := ⟨_, List.getElem?_eq_getElem hlt⟩
        obtain ⟨y, hy⟩ : ∃ y, l2[k]? = some y := ⟨_, List.getElem?_eq_getElem (by omega)⟩
        obtain ⟨b1, o1, rfl, p0⟩ := rdI_cell HR1.out HU.out.drew hx
        obtain ⟨b2, o2, rfl, q0⟩ := rdI_cell HR2.out HU.out.drew hy
        have HU2 := Lib.hid HU.out.drew
        by_cases hxy : x = y
        · have e1 : ((x : Int) != y) = false := by simpa using hxy
          have HE2 := Lib.hid (show ∀ j, j < k + 1 → l1[j]? = l2[j]? from fun j hj => by
            rcases Nat.lt_succ_iff_lt_or_eq.1 hj with h | rfl
            · exact HE.out j h
            · rw [hx, hy, hxy])
          clear hx hy hxy hn
          go_wp2_with fail
          go_region
          all_goals
            go_wp2_with fail
            go_roundw
            case rel => exact ⟨k + 1, by omega, by go_num, HE2, HU2⟩
            case measure => simp [intOf]; omega
        · have e1 : ((x : Int) != y) = true := by simpa using hxy
          obtain rfl : b = false := falseOf HB.out (fun e => hxy (by rw [e, hy] at hx; injection hx with e; exact e.symm))
          clear hx hy hxy hn
          go_wp2_with fail
          go_region
          all_goals
            go_wp2_with fail
            go_ret
            exact ⟨rfl, HU2.out⟩
      · have hlt1 : ¬ (k : Int) < l1.length := by omega
        have hbt : b = true := HB.out.2 (List.ext_getElem? fun j => by
          rcases Nat.lt_or_ge j k with h | h
          · exact HE.out j h
          · rw [List.getElem?_eq_none (by omega), List.getElem?_eq_none (by omega)])
        subst hbt
        clear hn
        go_wp2_with fail
        go_ret
        exact ⟨rfl, HU.out⟩
  · have hn' : ((l1.length : Int) != (l2.length : Nat)) = true := by simp; omega
    obtain rfl : b = false := falseOf HB.out (fun e => hn (by rw [e]))
    clear hn
    go_enter Try.func16, Try.ntmps16
    go_wp2_with fail
    go_ret
    exact ⟨rfl, Below.refl _ _⟩
set_option maxHeartbeats 4000000 in
theorem eqTexts (v1 v2 : Value) (l1 l2 : List ByteArray) (w : World) (h1 : RdT w w.heap.size v1 l1) (h2 : RdT w w.heap.size v2 l2) (hl : l1.length ≤ 1000000) (b : Bool) (hb : b = true ↔ l1 = l2) :
    Calls Try.prog 15 #[v1, v2] w fun e w' => e = .returned (.bool b) ∧ Below w.heap.size w w' := by
  have HR1 := Lib.hid h1
  have HR2 := Lib.hid h2
  have HB := Lib.hid hb
  obtain ⟨a1, c1, rfl, _⟩ := Gn.Rd.form h1
  obtain ⟨a2, c2, rfl, _⟩ := Gn.Rd.form h2
  clear h1 h2 hb
  by_cases hn : l1.length = l2.length
  · have hn' : ((l1.length : Int) != (l2.length : Nat)) = false := by simp; omega
    go_enter Try.func15, Try.ntmps15
    go_wp2_with fail
    go_loopw [5] (fun i wr => ∃ k : Nat, k ≤ l1.length ∧ i = .int .i64 (k : Nat) ∧ Hid (∀ j, j < k → l1[j]? = l2[j]?) ∧ Hid (Below w.heap.size w wr)) (fun i _ => l1.length - (intOf i).toNat)
    case atStart => exact ⟨0, by omega, by rfl, Lib.hid (fun j hj => by omega), Lib.hid (Below.refl _ _)⟩
    case round =>
      obtain ⟨k, hk, rfl, HE, HU⟩ := hrel
      by_cases hlt : k < l1.length
      · have hlt1 : (k : Int) < l1.length := by omega
        have hlt2 : (k : Int) < l2.length := by omega
        obtain ⟨x, hx⟩ : ∃ x, l1[k]? = some x := ⟨_, List.getElem?_eq_getElem hlt⟩
        obtain ⟨y, hy⟩ : ∃ y, l2[k]? = some y := ⟨_, List.getElem?_eq_getElem (by omega)⟩
        obtain ⟨b1, o1, rfl, p0⟩ := rdT_cell HR1.out HU.out.drew hx
        obtain ⟨b2, o2, rfl, q0⟩ := rdT_cell HR2.out HU.out.drew hy
        have HU2 := Lib.hid HU.out.drew
        by_cases hxy : x = y
        · have e1 : (x.toList == y.toList) = true := by rw [tl_eq]; exact decide_eq_true hxy
          have HE2 := Lib.hid (show ∀ j, j < k + 1 → l1[j]? = l2[j]? from fun j hj => by
            rcases Nat.lt_succ_iff_lt_or_eq.1 hj with h | rfl
            · exact HE.out j h
            · rw [hx, hy, hxy])
          clear hx hy hxy hn
          go_wp2_with fail
          go_region
          all_goals
            go_wp2_with fail
            go_roundw
            case rel => exact ⟨k + 1, by omega, by go_num, HE2, HU2⟩
            case measure => simp [intOf]; omega
        · have e1 : (x.toList == y.toList) = false := by rw [tl_eq]; exact decide_eq_false hxy
          obtain rfl : b = false := falseOf HB.out (fun e => hxy (by rw [e, hy] at hx; injection hx with e; exact e.symm))
          clear hx hy hxy hn
          go_wp2_with fail
          go_region
          all_goals
            go_wp2_with fail
            go_ret
            exact ⟨rfl, HU2.out⟩
      · have hlt1 : ¬ (k : Int) < l1.length := by omega
        have hbt : b = true := HB.out.2 (List.ext_getElem? fun j => by
          rcases Nat.lt_or_ge j k with h | h
          · exact HE.out j h
          · rw [List.getElem?_eq_none (by omega), List.getElem?_eq_none (by omega)])
        subst hbt
        clear hn
        go_wp2_with fail
        go_ret
        exact ⟨rfl, HU.out⟩
  · have hn' : ((l1.length : Int) != (l2.length : Nat)) = true := by simp; omega
    obtain rfl : b = false := falseOf HB.out (fun e => hn (by rw [e]))
    clear hn
    go_enter Try.func15, Try.ntmps15
    go_wp2_with fail
    go_ret
    exact ⟨rfl, Below.refl _ _⟩
set_option maxHeartbeats 4000000 in
theorem copyInts (v : Value) (l : List Int) (w : World) (h : RdI w w.heap.size v l) (hl : l.length ≤ 1000000) :
    Calls Try.prog 21 #[v] w fun e w' => ∃ v', e = .returned v' ∧ OwnI w' w.heap.size v' l ∧ Below w.heap.size w w' := by
  have HR := Lib.hid h
  have HO : Hid (OwnI w w.heap.size (.slice none 0 0) []) := Lib.hid (Gn.Own.nil _ _)
  clear h
  go_enter Try.func21, Try.ntmps21
  go_wp2_with (at_builtin
               refine Gn.wpList_app inL inY rfl (.tmp 4) (.tmp 5) rfl w.heap.size (.slice none 0 0) [] rfl HO.out v l rfl HR.out (by simp; omega) (Nat.le_refl _) ?_
               intro v1 w1 ho1 hg1 hl1 hn1)
  go_ret
  exact ⟨_, rfl, ho1, Gn.below_of_own HO.out hg1 (Nat.le_refl _)⟩
/-- A slice's beginning. -/
theorem rd_to {α : Type} {enc : α → List Value} {k : Nat} {w : World} {B c m : Nat} {a : Option Addr} {l : List α} (h : Gn.Rd enc k w B (.slice a l.length c) l) (hm : m ≤ l.length) : Gn.Rd enc k w B (.slice a m c) (l.take m) := by
  obtain ⟨a', c', e, h1, h2, h3, h5⟩ := h
  injection e with e1 e2 e3
  subst e1 e3
  have hlen : (l.take m).length = m := by rw [List.length_take]; omega
  refine ⟨_, _, by rw [hlen], by rw [hlen]; omega, h2, h3, fun hp => ?_⟩
  obtain ⟨b, off, rfl, hb, hc⟩ := h5 (by omega)
  refine ⟨b, off, rfl, hb, fun i x j u hi hj => hc i x j u ?_ hj⟩
  rw [List.getElem?_take] at hi
  split at hi
  · exact hi
  · cases hi
end Go.Proofs.Ytenfjmdajlhfoaa
