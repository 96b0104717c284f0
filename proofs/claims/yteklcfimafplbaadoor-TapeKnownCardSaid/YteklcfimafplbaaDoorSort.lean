/- The library's sort, at places that are compared by their keys. -/
import Derived.Test.YteklcfimafplbaaDoorCmp
import Derived.Test.YteklcfimafplbaaDoorShelfS
import Derived.Shelf.SlSortCmp.NoneTotal
namespace Go.Proofs.YteklcfimafplbaaDoor
open Go.RowKit Go.Shelf Go.Lib Go.Sort
set_option linter.unusedVariables false
set_option maxRecDepth 100000

/-- Places that there are. -/
def Pl (n : Nat) : Type := {i : Nat // i < n}
def encP {n : Nat} (x : Pl n) : Value := .int .i64 ((x.1 : Nat) : Int)
def keyAt (l : List Nd) (p : Nat) : ByteArray := match l[p]? with | some x => x.key | none => ⟨#[]⟩
theorem keyAt_is {l : List Nd} {p : Nat} {x : Nd} (h : l[p]? = some x) : keyAt l p = x.key := by unfold keyAt; rw [h]
def cfP (l : List Nd) (x y : Pl l.length) : Int := cmpB (keyAt l x.1) (keyAt l y.1)
theorem ltP (l : List Nd) (x y : Pl l.length) : ltOf (cfP l) x y = Tp.ly (keyAt l x.1) (keyAt l y.1) := cmpB_lt _ _
theorem swoP (l : List Nd) : SWO (ltOf (cfP l)) where
  irrefl x := by rw [ltP]; exact Tp.ly_irrefl _
  trans x y z h1 h2 := by rw [ltP] at *; exact Tp.ly_trans h1 h2
  ntrans x y z h1 h2 := by rw [ltP] at *; exact Tp.ly_ntrans h1 h2
section
variable {m : Nat} [Inhabited (Pl m)]
theorem sw_heap {w : World} {g n : Nat} {os : Array Obj} {cur : Array Value} {e : TypeId} {fr : Nat × Nat} (d : Array (Pl m)) (hb : w.heap[g]? = some (.cells cur e fr)) :
    (sortWorld encP w g 0 n d os).heap[g]? = some (.cells (putCells encP 0 d cur) e fr) := by
  have hg : g < w.heap.size := (Array.getElem?_eq_some_iff.1 hb).1
  unfold sortWorld
  rw [heap_grow_old _ _ (by simpa using hg)]
  simp [putRow, mapBlock, Sort.ahead, Array.getElem?_modify, hb, onCells]
theorem sw_touch {w : World} {g n : Nat} {os : Array Obj} (d : Array (Pl m)) : Touch (fun i => i = g) w (sortWorld encP w g 0 n d os) := by
  refine ⟨rfl, rfl, rfl, by simp [sortWorld], fun k hk hne => ?_⟩
  unfold sortWorld
  rw [heap_grow_old _ _ (by simpa using hk)]
  have : g ≠ k := fun e => hne e.symm
  simp [putRow, mapBlock, Sort.ahead, Array.getElem?_modify, this]
theorem take_put (cur : Array Value) (ts : List (Pl m)) (h : ts.length ≤ cur.size) : (putCells encP 0 ts.toArray cur).toList.take ts.length = ts.map encP := by
  apply List.ext_getElem?
  intro j
  by_cases hj : j < ts.length
  · rw [List.getElem?_take_of_lt hj, Array.getElem?_toList]
    simp [putCells, hj, show j < cur.size by omega]
  · rw [List.getElem?_take_eq_none (by omega), List.getElem?_eq_none (by simp; omega)]
end
theorem cells_plc {m : Nat} (d : List (Pl m)) : Gn.cells inc (d.map fun x => ((x.1 : Nat) : Int)) = d.map encP := by
  induction d with
  | nil => rfl
  | cons x d ih => rw [List.map_cons, Gn.cells_cons, ih]; rfl
set_option maxHeartbeats 4000000 in
theorem sortPl (l : List Nd) (v : Value) (tb : Nat) (w : World) (B : Nat) (hR : RdN w B v l) (hB : B ≤ w.heap.size) (ht : Blk w tb 25 [v]) (g cap base : Nat) (ps : List (Pl l.length)) (h0 : 0 < l.length) (hl : l.length ≤ 4000)
    (hown : OwnI w base (.slice (some ⟨g, 0, none⟩) ps.length cap) (ps.map fun x => ((x.1 : Nat) : Int))) (hg : B ≤ g) (htg : tb ≠ g) (hps : ps.length ≤ 4000) :
    Calls Tryd.prog 37 #[.slice (some ⟨g, 0, none⟩) ps.length cap, .func (.func 38) #[] #[.pointer (some ⟨tb, 0, none⟩)]] w fun e w' =>
      e = .returned (.tuple #[]) ∧ ∃ qs : List (Pl l.length), qs.Perm ps ∧ qs.Pairwise (fun a b => Tp.ly (keyAt l b.1) (keyAt l a.1) = false) ∧ OwnI w' base (.slice (some ⟨g, 0, none⟩) ps.length cap) (qs.map fun x => ((x.1 : Nat) : Int)) ∧ Touch (fun i => i = g) w w' := by
  letI : Inhabited (Pl l.length) := ⟨⟨0, h0⟩⟩
  have hrow : w.ownsRow base 3 1 (.slice (some ⟨g, 0, none⟩) (ps.map fun x => ((x.1 : Nat) : Int)).length cap) (ps.map fun x => ((x.1 : Nat) : Int)).length (Gn.cells inc (ps.map fun x => ((x.1 : Nat) : Int))) := by
    have := hown
    unfold OwnI Gn.Own at this
    rw [List.length_map] at this ⊢
    exact this
  rw [cells_plc, List.length_map] at hrow
  have hgl : g < w.heap.size := (World.ownsRow.lt hrow g rfl).2
  have hH : Holds encP w g 0 ps.toArray := fun j hj => by
    have hj' : j < ps.length := by simpa using hj
    refine ⟨?_, hrow.frozenAt _⟩
    rw [Nat.zero_add, hrow.cellAt j (by omega), List.getElem?_map, List.getElem?_eq_getElem hj']
    simp [hj']
  have hcmp : CmpLays1 Tryd.prog 38 #[.pointer (some ⟨tb, 0, none⟩)] encP (cfP l) g 0 ps.toArray.size w := fun m os dk _ x y => by
    have htch := sw_touch (w := w) (g := g) (n := m) (os := os) dk
    have hR2 : RdN (sortWorld encP w g 0 m dk os) B v l := Gn.Rd.below hR (htch.below hB (fun i e => by rw [e]; exact hg)) (Nat.le_refl _)
    have ht2 := (ht.touch htch htg).cell 0
    obtain ⟨xx, hxx⟩ : ∃ xx, l[x.1]? = some xx := ⟨_, List.getElem?_eq_getElem x.2⟩
    obtain ⟨yy, hyy⟩ : ∃ yy, l[y.1]? = some yy := ⟨_, List.getElem?_eq_getElem y.2⟩
    refine (cmpAt l v tb _ B hR2 ht2 x.1 y.1 xx yy hxx hyy).mono fun e w' ⟨he, n, hn⟩ => ⟨?_, n, #[], ?_⟩
    · rw [he, cfP, keyAt_is hxx, keyAt_is hyy]
    · rw [hn, grow_empty]
  have eg : ∀ args w, (callFunc 38 args).run Tryd.prog w = .ok (.enter 38 args) w := enters_of Tryd.func38 (by kernel_rfl) rfl
  have hcon := Tryd.slices_SortFunc encP (fun _ => rfl) (cfP l) (swoP l) 38 #[.pointer (some ⟨tb, 0, none⟩)] g 0 cap ps.toArray w eg hcmp hH hgl (by simp; omega)
  rw [show ps.toArray.size = ps.length by simp] at hcon
  refine hcon.mono fun e w' ⟨he, d', n, os, hp, hs, hw⟩ => ⟨he, d'.toList, ?_, ?_, ?_, ?_⟩
  · have h2 := hp.2.2
    have e1 : d'.size = ps.length := by have := hp.1; simpa using this
    rw [show d'.extract 0 ps.length = d' by rw [← e1]; simp, show ps.toArray.extract 0 ps.length = ps.toArray by simp] at h2
    exact h2
  · have e1 : d'.size = ps.length := by have := hp.1; simpa using this
    rw [List.pairwise_iff_getElem]
    intro i j hi hj hij
    have hi' : i < d'.size := by simpa using hi
    have hj' : j < d'.size := by simpa using hj
    have := hs i j (Nat.zero_le _) hij (by omega)
    rw [getElem!_pos d' j hj', getElem!_pos d' i hi', ltP] at this
    simpa using this
  · have e1 : d'.size = ps.length := by have := hp.1; simpa using this
    rw [hw]
    rcases hrow.2 with ⟨h, _⟩ | ⟨g', cap', cur, e2, hbase, hb, h1, h2, h3, h4⟩
    · cases h
    · injection e2 with e2 _ e3
      injection e2 with e2
      injection e2 with e2
      subst e2 e3
      unfold OwnI Gn.Own
      rw [cells_plc, List.length_map]
      have hll : d'.toList.length = ps.length := by simpa using e1
      rw [hll]
      refine ⟨by simp [e1], .inr ⟨g, cap, _, rfl, hbase, sw_heap d' hb, h1, h2, by simp [putCells, h3], ?_⟩⟩
      rw [Nat.mul_one, ← hll]
      have := take_put cur d'.toList (by rw [hll]; omega)
      simpa using this
  · rw [hw]; exact sw_touch _
theorem sortNone (p : Option Addr) (cap : Nat) (fv : Value) (w : World) : Calls Tryd.prog 37 #[.slice p 0 cap, fv] w fun e w' => e = .returned (.tuple #[]) ∧ w = w' :=
  (AnyF.slices_SortFunc_none { Tryd.laysSlF6_f37 with } p cap fv w).mono fun _ _ h => ⟨h.1, h.2.symm⟩
end Go.Proofs.YteklcfimafplbaaDoor
