/- Rows, columns, places and texts in memory; rows that are compared, copied and cut. -/
import Derived.Test.YtanjdjiigfdnmaaGreatDoorClRet
import Derived.Test.YtanjdjiigfdnmaaGreatDoorGen
import Derived.Test.YtanjdjiigfdnmaaGreatDoorRwP
import Derived.OwnWalk
import Derived.Laws.OwnMore
namespace Go.Proofs.YtanjdjiigfdnmaaGreatDoor
open Go.RowKit
set_option linter.unusedVariables false
set_option maxRecDepth 100000

/-- A cell's cells. -/
def clc (c : Cl.C) : List Value := [.bool c.u, .int .i64 c.n, .string c.s]
theorem clL : Gn.Lay clc 3 := ⟨fun _ => rfl, fun x v hv => by simp [clc] at hv; rcases hv with rfl | rfl | rfl <;> rfl, by omega⟩
def clz : Value := .agg #[.bool false, .int .i64 0, .string ⟨#[]⟩]
theorem clY : Gn.Ty 42 34 clz 3 32 := ⟨Tryz.underlying42, by kernel_rfl, by kernel_rfl, rfl, by omega⟩
def RdC (w : World) (B : Nat) (v : Value) (l : List Cl.C) : Prop := Gn.Rd clc 3 w B v l
def OwnC (w : World) (base : Nat) (v : Value) (l : List Cl.C) : Prop := Gn.Own clc 3 34 w base v l
theorem rdC_cells {W w : World} {B n c : Nat} {ad : Option Addr} {l : List Cl.C} (h : RdC W B (.slice ad n c) l) (hb : Below B W w) {i : Nat} {x : Cl.C} (hi : l[i]? = some x) :
    ∃ b off, ad = some ⟨b, off, none⟩ ∧ w.cell? ⟨b, off + i * 3, none⟩ = some (.bool x.u) ∧ w.cell? ⟨b, off + i * 3 + 1, none⟩ = some (.int .i64 x.n) ∧ w.cell? ⟨b, off + i * 3 + 2, none⟩ = some (.string x.s) := by
  obtain ⟨hl, e⟩ := List.getElem?_eq_some_iff.1 hi
  obtain ⟨b, off, rfl, _, hc⟩ := Gn.Rd.at h hb hl
  rw [e] at hc
  exact ⟨b, off, rfl, hc 0 _ rfl, hc 1 _ rfl, hc 2 _ rfl⟩
/-- A column's cells. -/
structure Co where
  id : Int
  nm : ByteArray
  k : Int
  u : Bool
  d : Cl.C
def coc (x : Co) : List Value := [.int .i64 x.id, .string x.nm, .int .i64 x.k, .bool x.u, .bool x.d.u, .int .i64 x.d.n, .string x.d.s]
theorem coL : Gn.Lay coc 7 := ⟨fun _ => rfl, fun x v hv => by simp [coc] at hv; rcases hv with rfl | rfl | rfl | rfl | rfl | rfl | rfl <;> rfl, by omega⟩
def coz : Value := .agg #[.int .i64 0, .string ⟨#[]⟩, .int .i64 0, .bool false, .bool false, .int .i64 0, .string ⟨#[]⟩]
theorem coY : Gn.Ty 22 36 coz 7 72 := ⟨Tryz.underlying22, by kernel_rfl, by kernel_rfl, rfl, by omega⟩
def RdK (w : World) (B : Nat) (v : Value) (l : List Co) : Prop := Gn.Rd coc 7 w B v l
def OwnK (w : World) (base : Nat) (v : Value) (l : List Co) : Prop := Gn.Own coc 7 36 w base v l
theorem rdK_type {W w : World} {B n c : Nat} {ad : Option Addr} {l : List Co} (h : RdK W B (.slice ad n c) l) (hb : Below B W w) {i : Nat} {x : Co} (hi : l[i]? = some x) :
    ∃ b off, ad = some ⟨b, off, none⟩ ∧ w.cell? ⟨b, off + i * 7 + 2, none⟩ = some (.int .i64 x.k) ∧ w.cell? ⟨b, off + i * 7 + 2 + 1, none⟩ = some (.bool x.u) := by
  obtain ⟨hl, e⟩ := List.getElem?_eq_some_iff.1 hi
  obtain ⟨b, off, rfl, _, hc⟩ := Gn.Rd.at h hb hl
  rw [e] at hc
  exact ⟨b, off, rfl, hc 2 _ rfl, hc 3 _ rfl⟩
/-- The types of columns. -/
def tys (l : List Co) : List Rw.Ty := l.map fun x => (x.u, x.k)
theorem tys_len (l : List Co) : (tys l).length = l.length := by simp [tys]
theorem tys_at {l : List Co} {i : Nat} {x : Co} (h : l[i]? = some x) : (tys l)[i]? = some (x.u, x.k) := by unfold tys; rw [List.getElem?_map, h]; rfl
/-- Places. -/
def inc (x : Int) : List Value := [.int .i64 x]
theorem inL : Gn.Lay inc 1 := ⟨fun _ => rfl, fun x v hv => by simp [inc] at hv; subst hv; rfl, by omega⟩
theorem inY : Gn.Ty 23 3 (.int .i64 0) 1 8 := ⟨Tryz.underlying23, by kernel_rfl, by kernel_rfl, rfl, by omega⟩
def RdI (w : World) (B : Nat) (v : Value) (l : List Int) : Prop := Gn.Rd inc 1 w B v l
def OwnI (w : World) (base : Nat) (v : Value) (l : List Int) : Prop := Gn.Own inc 1 3 w base v l
theorem rdI_cell {W w : World} {B n c : Nat} {ad : Option Addr} {l : List Int} (h : RdI W B (.slice ad n c) l) (hb : Below B W w) {i : Nat} {x : Int} (hi : l[i]? = some x) :
    ∃ b off, ad = some ⟨b, off, none⟩ ∧ w.cell? ⟨b, off + i, none⟩ = some (.int .i64 x) := by
  obtain ⟨hl, e⟩ := List.getElem?_eq_some_iff.1 hi
  obtain ⟨b, off, rfl, _, hc⟩ := Gn.Rd.at h hb hl
  rw [e] at hc
  refine ⟨b, off, rfl, ?_⟩
  have := hc 0 _ rfl
  simpa using this
/-- Texts. -/
def txc (x : ByteArray) : List Value := [.string x]
theorem txL : Gn.Lay txc 1 := ⟨fun _ => rfl, fun x v hv => by simp [txc] at hv; subst hv; rfl, by omega⟩
theorem txY : Gn.Ty 69 9 (.string ⟨#[]⟩) 1 16 := ⟨Tryz.underlying69, by kernel_rfl, by kernel_rfl, rfl, by omega⟩
def OwnT (w : World) (base : Nat) (v : Value) (l : List ByteArray) : Prop := Gn.Own txc 1 9 w base v l

theorem rd_one {α : Type} {enc : α → List Value} {k : Nat} (T : TypeId) (L : Gn.Lay enc k) (w : World) (x : α) (cs : Array Value) (h : cs = (enc x).toArray) : Gn.Rd enc k (w.alloc (.cells cs T)) (w.alloc (.cells cs T)).heap.size (.slice (some ⟨w.heap.size, 0, none⟩) 1 1) [x] :=
  Gn.Own.rd L (Gn.Own.lit (T := T) L w 0 [x] cs 1 1 (by rw [h]; simp [Gn.cells]) rfl rfl (by simp [maxLen]) (Nat.zero_le _))
/-- Rows, columns and places that lie as they were made. -/
theorem RdC.of {w : World} {base : Nat} {v : Value} {l : List Cl.C} (h : OwnC w base v l) : RdC w w.heap.size v l := Gn.Own.rd clL h
theorem RdK.of {w : World} {base : Nat} {v : Value} {l : List Co} (h : OwnK w base v l) : RdK w w.heap.size v l := Gn.Own.rd coL h
theorem RdI.of {w : World} {base : Nat} {v : Value} {l : List Int} (h : OwnI w base v l) : RdI w w.heap.size v l := Gn.Own.rd inL h
theorem RdC.later {w w' : World} {v : Value} {l : List Cl.C} (h : RdC w w.heap.size v l) (hb : Below w.heap.size w w') : RdC w' w'.heap.size v l := Gn.Rd.later h hb
theorem RdK.later {w w' : World} {v : Value} {l : List Co} (h : RdK w w.heap.size v l) (hb : Below w.heap.size w w') : RdK w' w'.heap.size v l := Gn.Rd.later h hb
theorem RdI.later {w w' : World} {v : Value} {l : List Int} (h : RdI w w.heap.size v l) (hb : Below w.heap.size w w') : RdI w' w'.heap.size v l := Gn.Rd.later h hb
theorem falseOf {b : Bool} {p : Prop} (h : b = true ↔ p) (n : ¬ p) : b = false := by
  cases b with
  | false => rfl
  | true => exact absurd (h.1 rfl) n

set_option maxHeartbeats 4000000 in
theorem eqRow (v1 v2 : Value) (l1 l2 : List Cl.C) (w : World) (h1 : RdC w w.heap.size v1 l1) (h2 : RdC w w.heap.size v2 l2) (hl : l1.length ≤ 1000000) (b : Bool) (hb : b = true ↔ l1 = l2) :
    Calls Tryz.prog 33 #[v1, v2] w fun e w' => e = .returned (.bool b) ∧ Below w.heap.size w w' := by
  have HR1 := Lib.hid h1
  have HR2 := Lib.hid h2
  have HB := Lib.hid hb
  obtain ⟨a1, c1, rfl, _⟩ := Gn.Rd.form h1
  obtain ⟨a2, c2, rfl, _⟩ := Gn.Rd.form h2
  clear h1 h2 hb
  by_cases hn : l1.length = l2.length
  · have hn' : ((l1.length : Int) != (l2.length : Nat)) = false := by simp; omega
    go_enter Tryz.func33, Tryz.ntmps33
    go_wp2_with fail
    go_loopw [5] (fun i wr => ∃ k : Nat, k ≤ l1.length ∧ i = .int .i64 (k : Nat) ∧ Hid (∀ j, j < k → l1[j]? = l2[j]?) ∧ Hid (Below w.heap.size w wr)) (fun i _ => l1.length - (intOf i).toNat)
    case atStart => exact ⟨0, by omega, by rfl, Lib.hid (fun j hj => by omega), Lib.hid (Below.refl _ _)⟩
    case round =>
      obtain ⟨k, hk, rfl, HE, HU⟩ := hrel
      by_cases hlt : k < l1.length
      · have hlt1 : (k : Int) < l1.length := by omega
        have hlt2 : (k : Int) < l2.length := by omega
        obtain ⟨x, hx⟩ : ∃ x, l1[k]? = some x := ⟨_, List.getElem?_eq_getElem hlt⟩
        obtain ⟨y, hy⟩ : ∃ y, l2[k]? = some y := ⟨_, List.getElem?_eq_getElem (by omega)⟩
        obtain ⟨b1, o1, rfl, p0, p1, p2⟩ := rdC_cells HR1.out HU.out.drew hx
        obtain ⟨b2, o2, rfl, q0, q1, q2⟩ := rdC_cells HR2.out HU.out.drew hy
        have heq := fun w => run_eqc x y w
        unfold cv at heq
        have HU2 := Lib.hid HU.out.drew
        by_cases hxy : x = y
        · have e1 : eqc x y = true := (eqc_iff x y).2 hxy
          rw [e1] at heq
          have HE2 := Lib.hid (show ∀ j, j < k + 1 → l1[j]? = l2[j]? from fun j hj => by
            rcases Nat.lt_succ_iff_lt_or_eq.1 hj with h | rfl
            · exact HE.out j h
            · rw [hx, hy, hxy])
          clear hx hy hxy e1 hn
          go_wp2_with fail
          go_region
          all_goals
            go_wp2_with fail
            go_roundw
            case rel => exact ⟨k + 1, by omega, by go_num, HE2, HU2⟩
            case measure => simp [intOf]; omega
        · have e1 : eqc x y = false := by
            cases he : eqc x y with
            | false => rfl
            | true => exact absurd ((eqc_iff x y).1 he) hxy
          rw [e1] at heq
          obtain rfl : b = false := falseOf HB.out (fun e => hxy (by rw [e, hy] at hx; injection hx with e; exact e.symm))
          clear hx hy hxy e1 hn
          go_wp2_with fail
          go_region
          all_goals
            go_wp2_with fail
            go_ret
            exact ⟨rfl, HU2.out⟩
      · have hlt1 : ¬ (k : Int) < l1.length := by omega
        have hbt : b = true := HB.out.2 (List.ext_getElem? fun j => by
          rcases Nat.lt_or_ge j k with h | h
          · exact HE.out j h
          · rw [List.getElem?_eq_none (by omega), List.getElem?_eq_none (by omega)])
        subst hbt
        clear hn
        go_wp2_with fail
        go_ret
        exact ⟨rfl, HU.out⟩
  · have hn' : ((l1.length : Int) != (l2.length : Nat)) = true := by simp; omega
    obtain rfl : b = false := falseOf HB.out (fun e => hn (by rw [e]))
    clear hn
    go_enter Tryz.func33, Tryz.ntmps33
    go_wp2_with fail
    go_ret
    exact ⟨rfl, Below.refl _ _⟩
set_option maxHeartbeats 4000000 in
theorem copyCols (v : Value) (l : List Co) (w : World) (h : RdK w w.heap.size v l) (hl : l.length ≤ 1000000) :
    Calls Tryz.prog 46 #[v] w fun e w' => ∃ v', e = .returned v' ∧ OwnK w' w.heap.size v' l ∧ Below w.heap.size w w' := by
  have HR := Lib.hid h
  have HO : Hid (OwnK w w.heap.size (.slice none 0 0) []) := Lib.hid (Gn.Own.nil _ _)
  clear h
  go_enter Tryz.func46, Tryz.ntmps46
  go_wp2_with (at_builtin
               refine Gn.wpList_app coL coY rfl (.tmp 4) (.tmp 5) rfl w.heap.size (.slice none 0 0) [] rfl HO.out v l rfl HR.out (by simp; omega) (Nat.le_refl _) ?_
               intro v1 w1 ho1 hg1 hl1 hn1)
  go_ret
  exact ⟨_, rfl, ho1, Gn.below_of_own HO.out hg1 (Nat.le_refl _)⟩
set_option maxHeartbeats 4000000 in
theorem copyInts (v : Value) (l : List Int) (w : World) (h : RdI w w.heap.size v l) (hl : l.length ≤ 1000000) :
    Calls Tryz.prog 47 #[v] w fun e w' => ∃ v', e = .returned v' ∧ OwnI w' w.heap.size v' l ∧ Below w.heap.size w w' := by
  have HR := Lib.hid h
  have HO : Hid (OwnI w w.heap.size (.slice none 0 0) []) := Lib.hid (Gn.Own.nil _ _)
  clear h
  go_enter Tryz.func47, Tryz.ntmps47
  go_wp2_with (at_builtin
               refine Gn.wpList_app inL inY rfl (.tmp 4) (.tmp 5) rfl w.heap.size (.slice none 0 0) [] rfl HO.out v l rfl HR.out (by simp; omega) (Nat.le_refl _) ?_
               intro v1 w1 ho1 hg1 hl1 hn1)
  go_ret
  exact ⟨_, rfl, ho1, Gn.below_of_own HO.out hg1 (Nat.le_refl _)⟩
/-- A slice's beginning. -/
theorem rd_to {α : Type} {enc : α → List Value} {k : Nat} {w : World} {B c m : Nat} {a : Option Addr} {l : List α} (h : Gn.Rd enc k w B (.slice a l.length c) l) (hm : m ≤ l.length) : Gn.Rd enc k w B (.slice a m c) (l.take m) := by
  obtain ⟨a', c', e, h1, h2, h3, h5⟩ := h
  injection e with e1 e2 e3
  subst e1 e3
  have hlen : (l.take m).length = m := by rw [List.length_take]; omega
  refine ⟨_, _, by rw [hlen], by rw [hlen]; omega, h2, h3, fun hp => ?_⟩
  obtain ⟨b, off, rfl, hb, hc⟩ := h5 (by omega)
  refine ⟨b, off, rfl, hb, fun i x j u hi hj => hc i x j u ?_ hj⟩
  rw [List.getElem?_take] at hi
  split at hi
  · exact hi
  · cases hi
/-- A row that is cut. -/
def cutC (c : Cl.C) : Cl.C := ⟨c.u, c.n, c.s.extract 0 (min (c.s.size : Int) 1100).toNat⟩
theorem cutC_size (c : Cl.C) : (cutC c).s.size ≤ 1100 := by simp [cutC]; omega
def cutR (l : List Cl.C) : List Cl.C := (l.take 40).map cutC
theorem cutR_len (l : List Cl.C) : (cutR l).length ≤ 40 := by simp [cutR]; omega
theorem cutR_ok {l : List Cl.C} (h : ∀ c ∈ l, Cl.I64 c.n) : ∀ c ∈ cutR l, Cl.I64 c.n ∧ c.s.size ≤ 1100 := by
  intro c hc
  unfold cutR at hc
  obtain ⟨d, hd, rfl⟩ := List.mem_map.1 hc
  exact ⟨h d (List.mem_of_mem_take hd), cutC_size d⟩
theorem cutR_snoc {l : List Cl.C} {k : Nat} {x : Cl.C} (h : l[k]? = some x) (hk : k < 40) : ((l.take k).map cutC) ++ [cutC x] = (l.take (k + 1)).map cutC := by
  rw [List.take_add_one, h, List.map_append]; rfl
end Go.Proofs.YtanjdjiigfdnmaaGreatDoor
