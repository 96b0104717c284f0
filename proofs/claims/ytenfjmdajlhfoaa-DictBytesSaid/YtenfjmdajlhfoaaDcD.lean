/- The dictionary as an object: a block with its texts and a map of their places; newDictionary, place, Split. -/
import Derived.Test.YtenfjmdajlhfoaaDcM
import Derived.Laws.EntriesVeiled
namespace Go.Proofs.Ytenfjmdajlhfoaa
open Go.RowKit
set_option linter.unusedVariables false
set_option maxRecDepth 100000

theorem beq_same (x y : ByteArray) : (x == y) = decide (x = y) := by rw [beq_toListBytes, tl_eq]
/-- Entries, in the order in which they came, each with its place. -/
def pents : Nat → List ByteArray → List MapEntry
  | _, [] => []
  | i, y :: t => { key := .string y, val := .int .i64 (i : Nat), born := i } :: pents (i + 1) t
theorem pents_snoc : ∀ (i : Nat) (l : List ByteArray) (y : ByteArray), pents i (l ++ [y]) = pents i l ++ [{ key := .string y, val := .int .i64 ((i + l.length : Nat) : Int), born := i + l.length }]
  | i, [], y => by simp [pents]
  | i, q :: t, y => by
    rw [List.cons_append, pents, pents, pents_snoc (i + 1) t y]
    simp
    omega
theorem pfind_none (x : ByteArray) : ∀ (l : List ByteArray) (i j : Nat), ¬ Dc.idx l x < l.length → Instr.findNow .string (.string x) (pents i l) j = some none
  | [], _, _, _ => rfl
  | y :: t, i, j, h => by
    rw [Dc.idx_cons] at h
    by_cases e : y = x
    · rw [if_pos e] at h; simp at h
    · rw [if_neg e] at h
      have hb : (x == y) = false := by rw [beq_same]; exact decide_eq_false fun e2 => e e2.symm
      simp only [pents, Instr.findNow, Instr.sameNow, hb]
      exact pfind_none x t (i + 1) (j + 1) (by simp at h; omega)
theorem pfind_some (x : ByteArray) : ∀ (l : List ByteArray) (i j : Nat), Dc.idx l x < l.length → Instr.findNow .string (.string x) (pents i l) j = some (some (j + Dc.idx l x, .int .i64 ((i + Dc.idx l x : Nat) : Int)))
  | [], _, _, h => by simp [Dc.idx] at h
  | y :: t, i, j, h => by
    rw [Dc.idx_cons] at h ⊢
    by_cases e : y = x
    · have hb : (x == y) = true := by rw [beq_same]; exact decide_eq_true e.symm
      rw [if_pos e]
      simp only [pents, Instr.findNow, Instr.sameNow, hb]
      rfl
    · rw [if_neg e] at h
      have hb : (x == y) = false := by rw [beq_same]; exact decide_eq_false fun e2 => e e2.symm
      rw [if_neg e]
      simp only [pents, Instr.findNow, Instr.sameNow, hb]
      rw [pfind_some x t (i + 1) (j + 1) (by simp at h; omega), show j + 1 + Dc.idx t x = j + (Dc.idx t x + 1) by omega, show i + 1 + Dc.idx t x = i + (Dc.idx t x + 1) by omega]
/-- A block that is such a map. -/
def IsMap (w : World) (m : Nat) (l : List ByteArray) : Prop := w.heap[m]? = some (.map (pents 0 l).toArray l.length)
theorem IsMap.lt {w : World} {m : Nat} {l : List ByteArray} (h : IsMap w m l) : m < w.heap.size := (Array.getElem?_eq_some_iff.1 h).1
theorem IsMap.later {w w' : World} {m : Nat} {l : List ByteArray} (h : IsMap w m l) (hb : Below w.heap.size w w') : IsMap w' m l := (hb.block m h.lt).trans h
theorem IsMap.touch {S : Nat → Prop} {w w' : World} {m : Nat} {l : List ByteArray} (h : IsMap w m l) (ht : Touch S w w') (hn : ¬ S m) : IsMap w' m l := (ht.block m h.lt hn).trans h
theorem check_str (w : World) (b : Bool) (x : ByteArray) : (Instr.checkKey b 10000 9 (.string x)).run Try.prog w = .ok () w := by
  unfold Instr.checkKey
  simp [Sem.run_bind, run_underlying Try.underlying9, Result.andThen]
theorem pfind_key (w : World) (x : ByteArray) (es : List MapEntry) (r : Option (Nat × Value)) (h : Instr.findNow .string (.string x) es 0 = some r) :
    (Instr.findKey 9 (.string x) es).run Try.prog w = .ok r w := by
  unfold Instr.findKey
  simp [Sem.run_bind, run_underlying Try.underlying9, Result.andThen, h]
theorem map_none {w : World} {m : Nat} {l : List ByteArray} (h : IsMap w m l) (x : ByteArray) (hx : ¬ Dc.idx l x < l.length) :
    (Instr.lookup 49 (.map (some m)) (.string x) true).run Try.prog w = .ok (.tuple #[.int .i64 0, .bool false]) w := by
  have hz : ∀ w, (zeroValue 3).run Try.prog w = .ok (.int .i64 0) w := fun w => by kernel_rfl
  unfold Instr.lookup IsMap at *
  simp [Sem.run_bind, run_underlying Try.underlying49, Result.andThen, getObj, Sem.run, h, check_str, pfind_key w x _ _ (pfind_none x l 0 0 hx), hz]
theorem map_some {w : World} {m : Nat} {l : List ByteArray} (h : IsMap w m l) (x : ByteArray) (hx : Dc.idx l x < l.length) :
    (Instr.lookup 49 (.map (some m)) (.string x) true).run Try.prog w = .ok (.tuple #[.int .i64 (Dc.idx l x : Nat), .bool true]) w := by
  have hq := pfind_some x l 0 0 hx
  unfold Instr.lookup IsMap at *
  simp [Sem.run_bind, run_underlying Try.underlying49, Result.andThen, getObj, Sem.run, h, check_str, pfind_key w x _ _ hq]
/-- What a store of a new key leaves. -/
def mput (w : World) (m : Nat) (l : List ByteArray) (y : ByteArray) : World := { w with heap := w.heap.setIfInBounds m (.map (pents 0 (l ++ [y])).toArray (l.length + 1)) }
theorem map_put {w : World} {m : Nat} {l : List ByteArray} (h : IsMap w m l) (x : ByteArray) (hx : ¬ Dc.idx l x < l.length) :
    (Instr.mapUpdate 49 (.map (some m)) (.string x) (.int .i64 (l.length : Nat))).run Try.prog w = .ok () (mput w m l x) := by
  unfold Instr.mapUpdate IsMap at *
  simp [Sem.run_bind, run_underlying Try.underlying49, Result.andThen, getObj, setObj, Sem.run, h, check_str, pfind_key w x _ _ (pfind_none x l 0 0 hx), mput, pents_snoc]
theorem IsMap.put {w : World} {m : Nat} {l : List ByteArray} (h : IsMap w m l) (y : ByteArray) : IsMap (mput w m l y) m (l ++ [y]) := by
  have := h.lt
  unfold IsMap mput
  simp [this]
theorem mput_other (w : World) (m : Nat) (l : List ByteArray) (y : ByteArray) (k : Nat) (h : k ≠ m) : (mput w m l y).heap[k]? = w.heap[k]? := by
  simp [mput, Ne.symm h]
theorem mput_size (w : World) (m : Nat) (l : List ByteArray) (y : ByteArray) : (mput w m l y).heap.size = w.heap.size := by simp [mput]
theorem touch_mput (w : World) (m : Nat) (l : List ByteArray) (y : ByteArray) : Touch (fun k => k = m) w (mput w m l y) :=
  ⟨rfl, rfl, rfl, by rw [mput_size]; exact Nat.le_refl _, fun k _ hk => mput_other w m l y k hk⟩
theorem IsMap.new (w : World) : IsMap (w.alloc (.map #[] 0)) w.heap.size [] := heap_alloc_new w _

/-- A dictionary, in its block. -/
structure DV (w : World) (B p m : Nat) (v : Value) (D : List ByteArray) : Prop where
  blk : Blk w p 51 [v, .map (some m)]
  own : OwnT w B v D
  map : IsMap w m D
  lp : B ≤ p
  lm : B ≤ m
theorem tx_ne_dic : (9 : TypeId) ≠ 51 := by decide
theorem in_ne_dic : (3 : TypeId) ≠ 51 := by decide
theorem in_ne_tx : (3 : TypeId) ≠ 9 := by decide
theorem DV.pm {w : World} {B p m : Nat} {v : Value} {D : List ByteArray} (h : DV w B p m v D) : m ≠ p := by
  rintro rfl
  have h1 := h.blk
  have h2 := h.map
  unfold Blk at h1
  unfold IsMap at h2
  rw [h1] at h2
  cases h2
/-- What a dictionary's calls may touch. -/
def dset (p m : Nat) (v : Value) (i : Nat) : Prop := i = p ∨ i = m ∨ v.ownBlock = some i
theorem DV.later {w w' : World} {B p m : Nat} {v : Value} {D : List ByteArray} (h : DV w B p m v D) (hb : Below w.heap.size w w') : DV w' B p m v D := ⟨h.blk.later hb, h.own.later hb, h.map.later hb, h.lp, h.lm⟩
theorem DV.touch {S : Nat → Prop} {w w' : World} {B p m : Nat} {v : Value} {D : List ByteArray} (h : DV w B p m v D) (ht : Touch S w w') (hS : ∀ i, dset p m v i → ¬ S i) : DV w' B p m v D :=
  ⟨h.blk.touch ht (hS p (.inl rfl)), own_touch h.own ht (fun g hg => hS g (.inr (.inr hg))), h.map.touch ht (hS m (.inr (.inl rfl))), h.lp, h.lm⟩
theorem DV.low {w : World} {B p m : Nat} {v : Value} {D : List ByteArray} (h : DV w B p m v D) : ∀ i, dset p m v i → B ≤ i := by
  rintro i (rfl | rfl | e)
  · exact h.lp
  · exact h.lm
  · exact (h.own.lt i e).1
/-- A row of numbers lies apart from a dictionary. -/
theorem DV.ints {w : World} {B B' p m : Nat} {v u : Value} {D : List ByteArray} {N : List Int} (h : DV w B p m v D) (hn : OwnI w B' u N) : ∀ i, u.ownBlock = some i → ¬ dset p m v i := by
  intro i e hd
  rcases hd with rfl | rfl | e2
  · exact own_blk hn h.blk in_ne_dic e rfl
  · exact own_map hn h.map e rfl
  · have := own_apart hn h.own in_ne_tx
    rw [e, e2] at this
    rcases this with h | h
    · cases h
    · exact h rfl
def PlPost (w : World) (B p m : Nat) (v : Value) (D : List ByteArray) (x : ByteArray) (e : Ending) (w' : World) : Prop :=
  e = .returned (.tuple #[.int .i64 (Dc.idx D x : Nat), .bool (decide (¬ Dc.idx D x < D.length))]) ∧ ∃ v', DV w' B p m v' (Dc.put D x) ∧ Touch (dset p m v) w w'
theorem place_old (w : World) (B p m : Nat) (v : Value) (D : List ByteArray) (x : ByteArray) (h : DV w B p m v D) (hx : Dc.idx D x < D.length) (hD : D.length ≤ 10000000) :
    Calls Try.prog 27 #[.pointer (some ⟨p, 0, none⟩), .string x] w (PlPost w B p m v D x) := by
  have H := Lib.hid h
  have hc0 : w.cell? ⟨p, 0, none⟩ = some v := h.blk.cell 0
  have hc1 : w.cell? ⟨p, 1, none⟩ = some (.map (some m)) := h.blk.cell 1
  have hl := map_some h.map x hx
  have HX : Hid (PlPost w B p m v D x (.returned (.tuple #[.int .i64 (Dc.idx D x : Nat), .bool false])) w) := Lib.hid ⟨by rw [decide_eq_false (by omega)], v, by rw [Dc.put_old D x hx]; exact h, Touch.refl _ _⟩
  clear h hx
  generalize Dc.idx D x = k at *
  go_enter Try.func27, Try.ntmps27
  go_wp2
  go_ret2
  exact HX.out
/-- Behind an append onto its texts. -/
theorem dv_app {w1 w2 : World} {B p m : Nat} {v v1 : Value} {D D' : List ByteArray} (o : Obj) (hk : Blk w1 p 51 [v, .map (some m)]) (hm : IsMap w1 m D') (ho : OwnT w1 B v D) (lp : B ≤ p) (lm : B ≤ m)
    (ho1 : OwnT w2 B v1 D') (hg1 : (w1.alloc o).grownBy w2 v.ownBlock) :
    w2.cell? ⟨p, 0, none⟩ = some v ∧ w2.frozen? ⟨p, 0, none⟩ = false ∧ DV (w2.setCell ⟨p, 0, none⟩ v1) B p m v1 D' ∧ Touch (dset p m v) w1 (w2.setCell ⟨p, 0, none⟩ v1) := by
  have hb := up_new w1 o
  have ho' := Gn.Own.later ho hb
  have ht := Touch.own ho' hg1
  have hk2 : Blk w2 p 51 [v, .map (some m)] := (hk.later hb).touch ht (fun e => own_blk ho' (hk.later hb) tx_ne_dic e rfl)
  have hm2 : IsMap w2 m D' := (hm.later hb).touch ht (fun e => own_map ho' (hm.later hb) e rfl)
  have hs : Touch (fun i => i = p) w2 (w2.setCell ⟨p, 0, none⟩ v1) := (Touch.refl (fun i => i = p) w2).setCell (p := ⟨p, 0, none⟩) rfl v1
  have hpm : m ≠ p := by
    rintro rfl
    unfold Blk at hk; unfold IsMap at hm
    rw [hk] at hm; cases hm
  refine ⟨hk2.cell 0, hk2.frozen 0, ⟨hk2.put 0 v1, own_touch ho1 hs (fun g hg => own_blk ho1 hk2 tx_ne_dic hg), hm2.touch hs hpm, lp, lm⟩, ?_⟩
  exact ((Touch.of_below hb).trans ht (fun i hi => .inl (.inr (.inr hi)))).trans hs (fun i hi => .inl (.inl hi))
theorem rdTx_one (w : World) (y : ByteArray) : RdT (w.alloc (.cells #[.string y] 9)) (w.alloc (.cells #[.string y] 9)).heap.size (.slice (some ⟨w.heap.size, 0, none⟩) 1 1) [y] :=
  Gn.Own.rd txL (Gn.Own.lit (T := 9) txL w 0 [y] #[.string y] 1 1 rfl rfl rfl (by simp [maxLen]) (Nat.zero_le _))
theorem rdIn_one (w : World) (y : Int) : RdI (w.alloc (.cells #[.int .i64 y] 3)) (w.alloc (.cells #[.int .i64 y] 3)).heap.size (.slice (some ⟨w.heap.size, 0, none⟩) 1 1) [y] :=
  Gn.Own.rd inL (Gn.Own.lit (T := 3) inL w 0 [y] #[.int .i64 y] 1 1 rfl rfl rfl (by simp [maxLen]) (Nat.zero_le _))
set_option maxHeartbeats 1000000 in
theorem place_new (w : World) (B p m : Nat) (v : Value) (D : List ByteArray) (x : ByteArray) (h : DV w B p m v D) (hx : ¬ Dc.idx D x < D.length) (hD : D.length ≤ 10000000) :
    Calls Try.prog 27 #[.pointer (some ⟨p, 0, none⟩), .string x] w (PlPost w B p m v D x) := by
  have hc0 : w.cell? ⟨p, 0, none⟩ = some v := h.blk.cell 0
  have hc1 : w.cell? ⟨p, 1, none⟩ = some (.map (some m)) := h.blk.cell 1
  have hl := map_none h.map x hx
  have hp := map_put h.map x hx
  have HM1 := Lib.hid (h.map.put x)
  have HT1 : Hid (Touch (dset p m v) w (mput w m D x)) := Lib.hid ((touch_mput w m D x).mono (fun i hi => .inr (.inl hi)))
  have HO1 : Hid (OwnT (mput w m D x) B v D) := Lib.hid (own_touch h.own (touch_mput w m D x) (fun g hg e => own_map h.own h.map hg e))
  have HK1 := Lib.hid (h.blk.touch (touch_mput w m D x) (fun e => h.pm e.symm))
  have hsz := mput_size w m D x
  have hBw : B ≤ (mput w m D x).heap.size := by rw [hsz]; have := h.lp; have := h.blk.lt; omega
  have lp := h.lp
  have lm := h.lm
  have hi : Dc.idx D x = D.length := by have := Dc.idx_le D x; omega
  have HX : Hid (Dc.put D x = D ++ [x]) := Lib.hid (Dc.put_new D x hx)
  unfold PlPost
  rw [hi, HX.out]
  obtain ⟨a, c, rfl, _⟩ := own_form h.own
  clear hsz
  generalize mput w m D x = w1 at *
  have hc10 : w1.cell? ⟨p, 0, none⟩ = some _ := HK1.out.cell 0
  have hc11 : w1.cell? ⟨p, 1, none⟩ = some _ := HK1.out.cell 1
  clear h hx HX hi
  go_enter Try.func27, Try.ntmps27
  go_wp2_with (at_builtin
               refine Gn.wpList_app txL txY rfl (.tmp 33) (.tmp 35) rfl B _ D rfl (HO1.out.later (up_new _ _)) _ [x] rfl (rdTx_one w1 x) (by simp; omega) (by rw [World.size_alloc]; omega) ?_
               intro v1 w2 ho1 hg1 hl1 hn1
               obtain ⟨q1, q2, q3, q4⟩ := dv_app _ HK1.out HM1.out HO1.out lp lm ho1 hg1
               have HD := Lib.hid q3
               have HT := Lib.hid (HT1.out.trans q4 (fun i hi => .inl hi))
               obtain ⟨a1, c1, hv, _⟩ := own_form ho1
               rw [show (D ++ [x]).length = D.length + 1 by simp] at hv
               subst hv
               clear q3 q4 ho1 hg1 hl1 hn1)
  go_ret2
  exact ⟨by simp, _, HD.out, HT.out⟩
theorem place (w : World) (B p m : Nat) (v : Value) (D : List ByteArray) (x : ByteArray) (h : DV w B p m v D) (hD : D.length ≤ 10000000) :
    Calls Try.prog 27 #[.pointer (some ⟨p, 0, none⟩), .string x] w (PlPost w B p m v D x) := by
  by_cases hx : Dc.idx D x < D.length
  · exact place_old w B p m v D x h hx hD
  · exact place_new w B p m v D x h hx hD
theorem newDic (w : World) : Calls Try.prog 26 #[] w fun e w' => ∃ p m, e = .returned (.pointer (some ⟨p, 0, none⟩)) ∧ DV w' w.heap.size p m (.slice none 0 0) [] ∧ Below w.heap.size w w' := by
  have hmm := @run_makeMap Try.prog
  go_enter Try.func26, Try.ntmps26
  go_wp2_with fail
  go_ret
  refine ⟨w.heap.size + 1, w.heap.size, rfl, ⟨?_, Gn.Own.nil _ _, (IsMap.new w).later (up_new _ _), by omega, by omega⟩, (up_new w _).alloc (by simp) _⟩
  have := Blk.new (w.alloc (.map #[] 0)) 51 #[.slice none 0 0, .map (some w.heap.size)]
  simpa using this
/-- A slice of numbers that is made, without any in it. -/
theorem make_ints (s : Nat) (hs : s ≤ 16000000) (w : World) : ∃ cs : Array Value, cs.size = s ∧
    (Instr.makeSlice 26 (.int .i64 0) (.int .i64 (s : Nat))).run Try.prog w = .ok (.slice (some ⟨w.heap.size, 0, none⟩) 0 s) (w.alloc (.cells cs 3)) := by
  obtain ⟨i, hi, hz, hsz, hby⟩ := inY.parts
  have h := run_makeSlice w 26 3 i (.int .i64 0) Try.underlying26 hi hz .i64 .i64 0 (s : Nat) (by omega) (by omega) (by rw [hsz]; simp; omega) (by rw [hby]; omega) (by omega)
  refine ⟨madeCells (Value.int .i64 0).cells (s * i.size), ?_, h⟩
  simp [madeCells, hsz]
theorem own_made (w : World) (base s : Nat) (cs : Array Value) (hc : cs.size = s) (hs : s ≤ 16000000) (hb : base ≤ w.heap.size) : OwnI (w.alloc (.cells cs 3)) base (.slice (some ⟨w.heap.size, 0, none⟩) 0 s) [] :=
  ⟨by simp [Gn.cells], .inr ⟨w.heap.size, s, cs, rfl, hb, heap_alloc_new w _, Nat.zero_le _, by unfold maxLen; omega, by omega, by simp [Gn.cells]⟩⟩
/-- Numbers, as Go has them. -/
def ofN (N : List Nat) : List Int := N.map fun (n : Nat) => (n : Int)
theorem ofN_snoc (N : List Nat) (n : Nat) : ofN (N ++ [n]) = ofN N ++ [(n : Int)] := by simp [ofN]
theorem ofN_len (N : List Nat) : (ofN N).length = N.length := by simp [ofN]
theorem drop_at {α : Type} {l : List α} {k : Nat} {x : α} (h : l[k]? = some x) : l.drop k = x :: l.drop (k + 1) := by
  obtain ⟨h1, h2⟩ := List.getElem?_eq_some_iff.1 h
  rw [List.drop_eq_getElem_cons h1, h2]
def SpPost (w : World) (R : List ByteArray × List Nat) (e : Ending) (w' : World) : Prop := ∃ dv nv, e = .returned (.tuple #[dv, nv]) ∧ OwnT w' w.heap.size dv R.1 ∧ OwnI w' w.heap.size nv (ofN R.2) ∧ Below w.heap.size w w'
set_option maxHeartbeats 4000000 in
theorem split (v : Value) (l : List ByteArray) (w : World) (h : RdT w w.heap.size v l) (hl : l.length ≤ 1000000) (R : List ByteArray × List Nat) (hR : Dc.spl [] [] l = R) :
    Calls Try.prog 13 #[v] w (SpPost w R) := by
  have HR := Lib.hid h
  have HS : Hid (Dc.spl [] [] (l.drop 0) = R) := Lib.hid hR
  have HN := Lib.hid (newDic w)
  obtain ⟨a, c, rfl, _⟩ := Gn.Rd.form h
  clear h hR
  go_enter Try.func13, Try.ntmps13
  go_wp2_with fail
  refine HN.out.mono ?_
  rintro e w1 ⟨p, m, rfl, hd, hb⟩
  obtain ⟨cs, hcs, hmk⟩ := make_ints l.length (by omega) w1
  have hb2 := up_new w1 (.cells cs 3)
  have HB0 := Lib.hid (up hb hb2)
  have HD0 := Lib.hid (hd.later hb2)
  have HO0 := Lib.hid (own_made w1 w.heap.size l.length cs hcs (by omega) hb.size)
  have hsz := hb.size
  clear HN hd hb hb2 hcs
  go_wp2_with fail
  generalize (w1.alloc (.cells cs 3)) = w2 at *
  generalize (Value.slice (some ⟨w1.heap.size, 0, none⟩) 0 l.length) = nv0 at *
  clear hmk hsz
  go_loopw [3, 15] (fun nv i wr => ∃ (k : Nat) (d : List ByteArray) (N : List Nat) (dv : Value), k ≤ l.length ∧ i = .int .i64 (k : Nat) ∧ Hid (N.length = k ∧ d.length ≤ k) ∧ Hid (Dc.spl d N (l.drop k) = R) ∧ Hid (DV wr w.heap.size p m dv d) ∧ Hid (OwnI wr w.heap.size nv (ofN N)) ∧ Hid (Below w.heap.size w wr)) (fun _ i _ => l.length - (intOf i).toNat)
  case atStart => exact ⟨0, [], [], _, by omega, rfl, Lib.hid ⟨rfl, by simp⟩, HS, HD0, HO0, HB0⟩
  case round =>
    clear HS HD0 HO0 HB0
    obtain ⟨k, d, N, dv, hk, rfl, HL, HS, HD, HO, HW⟩ := hrel
    by_cases hlt : k < l.length
    · have hlt1 : (k : Int) < l.length := by omega
      obtain ⟨x, hx⟩ : ∃ x, l[k]? = some x := ⟨_, List.getElem?_eq_getElem hlt⟩
      obtain ⟨b, off, rfl, p0⟩ := rdT_cell HR.out HW.out hx
      have HS2 : Hid (Dc.spl (Dc.put d x) (N ++ [Dc.idx d x]) (l.drop (k + 1)) = R) := Lib.hid (by have := HS.out; rw [drop_at hx, Dc.spl_cons] at this; exact this)
      have HP := Lib.hid (place _ w.heap.size p m dv d x HD.out (by have := HL.out; omega))
      have HL2 : Hid ((N ++ [Dc.idx d x]).length = k + 1 ∧ (Dc.put d x).length ≤ k + 1) := Lib.hid ⟨by simp [HL.out.1], by have := Dc.put_len d x; have := HL.out; omega⟩
      clear HS hx
      go_wp2_with fail
      refine HP.out.mono ?_
      rintro e w3 ⟨rfl, dv2, hd2, ht⟩
      have HO3 := Lib.hid (own_touch HO.out ht (HD.out.ints HO.out))
      have HW3 := Lib.hid (HW.out.trans (ht.below HW.out.size HD.out.low))
      have HD3 := Lib.hid hd2
      have hNl : N.length ≤ 1000000 := by have := HL.out; omega
      clear HP hd2 ht HO HW HD
      generalize Dc.idx d x = q at *
      have hid3 := rdIn_one w3 (q : Nat)
      go_wp2_with (at_builtin
                   refine Gn.wpList_app inL inY rfl (.tmp 25) (.tmp 27) rfl w.heap.size _ (ofN N) rfl (HO3.out.later (up_new _ _)) _ [(q : Int)] rfl hid3 (by rw [ofN_len]; simp; omega) (by rw [World.size_alloc]; have := HW3.out.size; omega) ?_
                   intro v1 w4 ho4 hg4 hl4 hn4
                   have ht4 := Touch.own (HO3.out.later (up_new w3 (.cells #[.int .i64 (q : Nat)] 3))) hg4
                   have HD4 := Lib.hid ((HD3.out.later (up_new w3 (.cells #[.int .i64 (q : Nat)] 3))).touch ht4 (fun i h1 h2 => (HD3.out.later (up_new w3 (.cells #[.int .i64 (q : Nat)] 3))).ints (HO3.out.later (up_new _ _)) i h2 h1))
                   have HW4 := Lib.hid ((HW3.out.trans ((up_new w3 (.cells #[.int .i64 (q : Nat)] 3)).mono HW3.out.size)).trans (Gn.below_of_own (HO3.out.later (up_new w3 (.cells #[.int .i64 (q : Nat)] 3))) hg4 (by rw [World.size_alloc]; have := HW3.out.size; omega)))
                   have HO4 : Hid (OwnI w4 w.heap.size v1 (ofN (N ++ [q]))) := Lib.hid (by rw [ofN_snoc]; exact ho4)
                   clear ho4 hg4 hl4 hn4 ht4 hid3)
      go_roundw
      case rel => exact ⟨k + 1, _, _, _, by omega, by go_num, HL2, HS2, HD4, HO4, HW4⟩
      case measure => simp [intOf]; omega
    · obtain rfl : k = l.length := by omega
      have hE : (d, N) = R := by have := HS.out; rw [List.drop_length] at this; exact this
      subst hE
      have hc0 := HD.out.blk.cell 0
      obtain ⟨a1, c1, rfl, _⟩ := own_form HD.out.own
      go_wp2_with fail
      go_ret2
      exact ⟨_, _, rfl, HD.out.own, HO.out, HW.out⟩
end Go.Proofs.Ytenfjmdajlhfoaa
