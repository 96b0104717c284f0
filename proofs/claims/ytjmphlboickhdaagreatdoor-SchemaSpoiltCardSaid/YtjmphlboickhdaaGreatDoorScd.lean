/- Several texts in one: ScFew, ScPut, ScSpP, ScSpW. -/
import Derived.Test.YtjmphlboickhdaaGreatDoorSca
import Derived.Test.YtjmphlboickhdaaGreatDoorScb
import Derived.Deep.MidRow
import Derived.Deep.DeepCutAuto
import Derived.Deep.CutBlock
import Derived.Test.YtjmphlboickhdaaGreatDoorScc
import Derived.Test.YtjmphlboickhdaaGreatDoorScBackW
/- A column that is written in its place of an owned row; cells of it. -/
namespace Go.Proofs.YtjmphlboickhdaaGreatDoor
open Go.RowKit
set_option linter.unusedVariables false
set_option linter.unusedSimpArgs false

theorem coc_set7 : ∀ (l : List Co) (i : Nat) (x : Co), i < l.length → (((((((Gn.cells coc l).set (i * 7) (.int .i64 x.id)).set (i * 7 + 1) (.string x.nm)).set (i * 7 + 2) (.int .i64 x.k)).set (i * 7 + 3) (.bool x.u)).set (i * 7 + 4) (.bool x.d.u)).set (i * 7 + 5) (.int .i64 x.d.n)).set (i * 7 + 6) (.string x.d.s) = Gn.cells coc (l.set i x)
  | [], i, x, h => by simp at h
  | y :: t, 0, x, _ => rfl
  | y :: t, i + 1, x, h => by
    have ih := coc_set7 t i x (by simpa using h)
    rw [List.set_cons_succ, Gn.cells_cons, Gn.cells_cons, ← ih]
    rw [show (i + 1) * 7 = i * 7 + 7 by omega, show i * 7 + 7 + 1 = i * 7 + 1 + 7 by omega, show i * 7 + 7 + 2 = i * 7 + 2 + 7 by omega, show i * 7 + 7 + 3 = i * 7 + 3 + 7 by omega, show i * 7 + 7 + 4 = i * 7 + 4 + 7 by omega, show i * 7 + 7 + 5 = i * 7 + 5 + 7 by omega, show i * 7 + 7 + 6 = i * 7 + 6 + 7 by omega]
    rfl
/-- The world behind the write. -/
def put7W (w : World) (g o : Nat) (x : Co) : World := ((((((w.setCell ⟨g, o, none⟩ (.int .i64 x.id)).setCell ⟨g, o + 1, none⟩ (.string x.nm)).setCell ⟨g, o + 2, none⟩ (.int .i64 x.k)).setCell ⟨g, o + 3, none⟩ (.bool x.u)).setCell ⟨g, o + 4, none⟩ (.bool x.d.u)).setCell ⟨g, o + 5, none⟩ (.int .i64 x.d.n)).setCell ⟨g, o + 6, none⟩ (.string x.d.s)
theorem own_put7 {w : World} {base g n cap i : Nat} {l : List Co} (h : OwnK w base (.slice (some ⟨g, 0, none⟩) n cap) l) (hn : l.length = n) (hi : i < n) (x : Co) :
    OwnK (put7W w g (i * 7) x) base (.slice (some ⟨g, 0, none⟩) n cap) (l.set i x) := by
  unfold OwnK Gn.Own at h ⊢
  rw [List.length_set]
  rw [hn] at h ⊢
  have h3 := (((((((h.stored (i * 7) (.int .i64 x.id)).1.stored (i * 7 + 1) (.string x.nm)).1.stored (i * 7 + 2) (.int .i64 x.k)).1.stored (i * 7 + 3) (.bool x.u)).1.stored (i * 7 + 4) (.bool x.d.u)).1.stored (i * 7 + 5) (.int .i64 x.d.n)).1.stored (i * 7 + 6) (.string x.d.s)).1
  rw [coc_set7 l i x (by omega)] at h3
  exact h3
theorem grown_put7 {w : World} {base g n cap i : Nat} {l : List Co} (h : OwnK w base (.slice (some ⟨g, 0, none⟩) n cap) l) (x : Co) : Touch (fun k => k = g) w (put7W w g (i * 7) x) := by
  unfold put7W
  have hS : (fun k => k = g) g := rfl
  exact (((((((Touch.refl _ _).setCell hS _).setCell hS _).setCell hS _).setCell hS _).setCell hS _).setCell hS _).setCell hS _
theorem own_there7 {w : World} {base g n cap i : Nat} {l : List Co} (h : OwnK w base (.slice (some ⟨g, 0, none⟩) n cap) l) (hn : l.length = n) (hi : i < n) : w.there g (i * 7) 7 := fun j hj => by
  unfold OwnK Gn.Own at h
  rw [hn] at h
  have hc := Gn.cells_len coL l
  refine ⟨?_, h.frozenAt _⟩
  rw [h.cellAt (i * 7 + j) (by omega), List.getElem?_eq_getElem (by rw [hc]; omega)]; rfl
end Go.Proofs.YtjmphlboickhdaaGreatDoor

/- The law's few: a schema that is cut, in memory of its own. -/
namespace Go.Proofs.YtjmphlboickhdaaGreatDoor
open Go.RowKit
set_option linter.unusedVariables false
set_option linter.unusedSimpArgs false
set_option maxRecDepth 100000

def cutN (s : ByteArray) (n : Int) : ByteArray := s.extract 0 (min (s.size : Int) n).toNat
def cutK (c : Co) : Co := ⟨c.id, cutN c.nm 40, c.k, c.u, ⟨c.d.u, c.d.n, cutN c.d.s 1100⟩⟩
theorem cutN_size (s : ByteArray) (n : Nat) : (cutN s n).size ≤ n := by unfold cutN; rw [ByteArray.size_extract]; omega
def lFew11C (l : List Co) : List Co := (l.take 40).map cutK
def mixK (k : Nat) (l : List Co) : List Co := (l.take k).map cutK ++ l.drop k
theorem mixK_len (k : Nat) (l : List Co) : (mixK k l).length = l.length := by unfold mixK; simp; omega
theorem mixK_at {k : Nat} {l : List Co} {x : Co} (h : l[k]? = some x) : (mixK k l)[k]? = some x := by
  have hk := (List.getElem?_eq_some_iff.1 h).1
  unfold mixK
  rw [List.getElem?_append_right (by simp; omega)]
  simp [show k - min k l.length = 0 by omega, h]
theorem mixK_set {k : Nat} {l : List Co} {x : Co} (h : l[k]? = some x) : (mixK k l).set k (cutK x) = mixK (k + 1) l := by
  have hk := (List.getElem?_eq_some_iff.1 h).1
  unfold mixK
  have hl : ((l.take k).map cutK).length = k := by simp; omega
  rw [List.set_append_right _ _ (by omega), hl, Nat.sub_self, List.take_add_one, h, List.drop_eq_getElem_cons hk]
  have e : l[k] = x := by rw [List.getElem?_eq_getElem hk] at h; injection h
  simp [e]
theorem mixK_zero (l : List Co) : mixK 0 l = l := by simp [mixK]
theorem mixK_all (l : List Co) : mixK l.length l = l.map cutK := by simp [mixK]
structure FW (w : World) (l : List Co) (ks : List Int) (cv kv : Value) (W : World) : Prop where
  s : Blk W w.heap.size 25 [cv, kv]
  r : Blk W (w.heap.size + 1) 25 [nilS, nilS]
  oc : OwnK W (w.heap.size + 2) cv l
  ok : OwnI W (w.heap.size + 2) kv ks
  b : Below w.heap.size w W
  sz : w.heap.size + 2 ≤ W.heap.size
theorem FW.later {w W W' : World} {l : List Co} {ks : List Int} {cv kv : Value} (h : FW w l ks cv kv W) (hb : Below W.heap.size W W') : FW w l ks cv kv W' :=
  ⟨h.s.later hb, h.r.later hb, Gn.Own.later h.oc hb, Gn.Own.later h.ok hb, up h.b hb, Nat.le_trans h.sz hb.size⟩
theorem own_touch {α : Type} {enc : α → List Value} {k : Nat} {T : TypeId} {S : Nat → Prop} {w w' : World} {B : Nat} {v : Value} {l : List α} (h : Gn.Own enc k T w B v l) (ht : Touch S w w') (hn : ∀ g, v.ownBlock = some g → ¬ S g) : Gn.Own enc k T w' B v l := by
  obtain ⟨h0, h1⟩ := h
  refine ⟨h0, ?_⟩
  rcases h1 with h1 | ⟨g, cap, cur, rfl, hg, hh, r⟩
  · exact .inl h1
  · have hlt : g < w.heap.size := by
      rcases Nat.lt_or_ge g w.heap.size with hlt | hge
      · exact hlt
      · rw [Array.getElem?_eq_none hge] at hh; cases hh
    exact .inr ⟨g, cap, cur, rfl, hg, (ht.block g hlt (hn g rfl)).trans hh, r⟩
/-- A column is written in its place. -/
theorem FW.put {w W : World} {l : List Co} {ks : List Int} {g n cap : Nat} {kv : Value} (h : FW w l ks (.slice (some ⟨g, 0, none⟩) n cap) kv W) (hn : l.length = n) {i : Nat} (hi : i < n) (x : Co) : FW w (l.set i x) ks (.slice (some ⟨g, 0, none⟩) n cap) kv (put7W W g (i * 7) x) := by
  have hg := (h.oc.lt g rfl).1
  have ht := grown_put7 (i := i) h.oc x
  refine ⟨h.s.touch ht (by show ¬ w.heap.size = g; omega), h.r.touch ht (by show ¬ w.heap.size + 1 = g; omega), own_put7 h.oc hn hi x, own_touch h.ok ht (fun g' hg' => ?_), ?_, ?_⟩
  · rcases own_apart2 h.ok h.oc (by decide) with h2 | h2
    · rw [h2] at hg'; cases hg'
    · intro e; exact h2 (by rw [hg', e]; rfl)
  · exact h.b.trans (ht.below h.sz (fun k hk => by subst hk; omega) |>.mono (by omega))
  · exact Nat.le_trans h.sz ht.size
theorem FW.touch {w W W' : World} {S : Nat → Prop} {l : List Co} {ks : List Int} {cv kv : Value} (h : FW w l ks cv kv W) (ht : Touch S W W') (hS : ∀ q, S q → w.heap.size + 2 ≤ q) (h1 : ∀ g, cv.ownBlock = some g → ¬ S g) (h2 : ∀ g, kv.ownBlock = some g → ¬ S g) : FW w l ks cv kv W' :=
  ⟨h.s.touch ht (fun hh => by have := hS _ hh; omega), h.r.touch ht (fun hh => by have := hS _ hh; omega), own_touch h.oc ht h1, own_touch h.ok ht h2, h.b.trans (ht.below h.sz hS |>.mono (by omega)), Nat.le_trans h.sz ht.size⟩
theorem retSf {fn : Func} {p : Tmp} (h : fn.results = #[.cell p 25]) (tmps : Array Value) (w : World) (g : Nat) (cv kv : Value) (hp : tmps.getD p undef = .pointer (some ⟨g, 0, none⟩)) (hg : w.heap[g]? = some (.cells #[cv, kv] 25 (0, 0))) :
    (results fn tmps).run Tryz.prog w = .ok (.agg #[cv, kv]) w :=
  results_cell_row h tmps w g 25 _ (0, 0) _ hp hg Tryz.underlying25 rfl schema_info
/-- What few answers. -/
def FPost (w : World) (L : List Co) (K : List Int) (e : Ending) (w' : World) : Prop := ∃ cv kv, e = .returned (.agg #[cv, kv]) ∧ OwnK w' w.heap.size cv L ∧ OwnI w' w.heap.size kv K ∧ Below w.heap.size w w'
theorem take_min {α : Type} (l : List α) (n : Nat) (m : Int) (hm : m = (n : Nat)) : l.take (min (l.length : Int) m).toNat = l.take n := by
  subst hm
  rcases Nat.lt_or_ge l.length n with h | h
  · rw [List.take_of_length_le (by omega), List.take_of_length_le (by omega)]
  · congr 1; omega
theorem slice_cut (xs : ByteArray) (n : Int) (h0 : 0 ≤ n) (hm : xs.size ≤ 9223372036854775807) (w : World) : (Instr.slice 9 (.string xs) none (some (.int .i64 (min (xs.size : Int) n))) none).run Tryz.prog w = .ok (.string (cutN xs n)) w := by
  rw [run_slice_string_to_if w 9 xs .i64 _ Tryz.underlying9, if_pos (by omega)]; rfl
theorem store_at7 (W : World) (g o : Nat) (x : Co) (h : W.there g o 7) : (Instr.storeAt 36 (.pointer (some ⟨g, o, none⟩)) (kov x)).run Tryz.prog W = .ok () (put7W W g o x) :=
  run_storeAt_mid (P := Tryz.prog) W g o 36 #[.int .i64 x.id, .string x.nm, .int .i64 x.k, .bool x.u, .bool x.d.u, .int .i64 x.d.n, .string x.d.s] h col_info (by first | kernel_rfl | simp [Value.oneCell'])
set_option maxHeartbeats 8000000 in
theorem lFew11 (v kv : Value) (l : List Co) (ks : List Int) (w : World) (h : RdK w w.heap.size v l) (hk : RdI w w.heap.size kv ks) (hs : ∀ c ∈ l, c.nm.size ≤ maxLen ∧ c.d.s.size ≤ maxLen) :
    Calls Tryz.prog 9 #[.agg #[v, kv]] w fun e w' => FPost w (lFew11C l) (ks.take 12) e w' := by
  have hml := Gn.Rd.len' h
  have hmk := Gn.Rd.len' hk
  have hr := h
  have hrk := hk
  obtain ⟨a, c, rfl, hc, _⟩ := Gn.Rd.form h
  obtain ⟨ka, kc, rfl, hkc, _⟩ := Gn.Rd.form hk
  have hru := rd_to (m := (min (l.length : Int) 40).toNat) h (by omega)
  have hrk := rd_to (m := (min (ks.length : Int) 12).toNat) hk (by omega)
  rw [take_min l 40 40 rfl] at hru
  rw [take_min ks 12 12 rfl] at hrk
  obtain ⟨l0, hl0⟩ : ∃ l0, l.take 40 = l0 := ⟨_, rfl⟩
  obtain ⟨k0, hk0⟩ : ∃ k0, ks.take 12 = k0 := ⟨_, rfl⟩
  have hll : l0.length ≤ 40 := by rw [← hl0, List.length_take]; omega
  have hlk : k0.length ≤ 12 := by rw [← hk0, List.length_take]; omega
  have HS : Hid (∀ c ∈ l0, c.nm.size ≤ maxLen ∧ c.d.s.size ≤ maxLen) := Lib.hid (fun c hc => hs c (by rw [← hl0] at hc; exact List.mem_of_mem_take hc))
  have HC : Hid (lFew11C l = l0.map cutK) := Lib.hid (by unfold lFew11C; rw [hl0])
  rw [HC.out, hk0]
  rw [hl0] at hru
  rw [hk0] at hrk
  have b1 := box_new w (.cells #[.slice a l.length c, .slice ka ks.length kc] 25)
  have b2 := box_new (w.alloc (.cells #[.slice a l.length c, .slice ka ks.length kc] 25)) (.cells #[.slice none 0 0, .slice none 0 0] 25)
  have HB := Lib.hid (up b1 b2)
  have HX := Lib.hid ((Blk.new w 25 #[.slice a l.length c, .slice ka ks.length kc]).later b2)
  have HY := Lib.hid (Blk.new (w.alloc (.cells #[.slice a l.length c, .slice ka ks.length kc] 25)) 25 #[nilS, nilS])
  rw [show (w.alloc (.cells #[.slice a l.length c, .slice ka ks.length kc] 25)).heap.size = w.heap.size + 1 by simp] at HY
  unfold nilS at HY
  have HSZ : Hid (((w.alloc (.cells #[.slice a l.length c, .slice ka ks.length kc] 25)).alloc (.cells #[.slice none 0 0, .slice none 0 0] 25)).heap.size = w.heap.size + 2) := Lib.hid (by simp)
  have HR := Lib.hid ((hru.later b1).later b2)
  have HRK0 := Lib.hid hrk
  clear h hk hr hru hrk hs hl0 hk0 b1 b2 HC
  go_enter Tryz.func9, Tryz.ntmps9
  go_upto_region 1 with fail
  generalize (w.alloc (.cells #[.slice a l.length c, .slice ka ks.length kc] 25)).alloc (.cells #[.slice none 0 0, .slice none 0 0] 25) = w2 at *
  have x0 := HX.out.cell 0
  have x1 := HX.out.cell 1
  simp only [List.getElem?_cons_succ, List.getElem?_cons_zero] at x0 x1
  have HCC := Lib.hid (copyCols _ l0 w2 HR.out (by omega))
  go_wp2_with fail
  ((with_reducible refine HCC.out.mono ?_); rintro e w3 ⟨v3, rfl, ho, hb⟩)
  have hsz : w2.heap.size = w.heap.size + 2 := HSZ.out
  have HO3 : Hid (OwnK w3 (w.heap.size + 2) v3 l0) := Lib.hid (by rw [← hsz]; exact ho)
  have HB3 := Lib.hid (HB.out.trans (hb.mono (by omega)))
  have HX3 := Lib.hid (HX.out.later hb)
  have HY3 := Lib.hid (HY.out.later hb)
  have hs3 : w.heap.size + 2 ≤ w3.heap.size := by have := hb.size; omega
  have x0 := HX3.out.cell 0
  have x1 := HX3.out.cell 1
  have x2 := HX3.out.frozen 0
  simp only [List.getElem?_cons_succ, List.getElem?_cons_zero] at x0 x1
  clear ho hb HB HX HY HR HCC HSZ hsz
  obtain ⟨va3, vc3, rfl, _⟩ := Gn.Rd.form (RdK.of HO3.out)
  go_upto_region 2 with fail
  generalize HW4 : w3.setCell ⟨w.heap.size, 0, none⟩ (.slice va3 l0.length vc3) = W4 at *
  have HX4 : Hid (Blk W4 w.heap.size 25 [.slice va3 l0.length vc3, .slice ka ks.length kc]) := Lib.hid (by rw [← HW4]; exact Blk.put HX3.out 0 _)
  have HY4 : Hid (Blk W4 (w.heap.size + 1) 25 [.slice none 0 0, .slice none 0 0]) := Lib.hid (by rw [← HW4]; exact HY3.out.far (by simp only; omega) _)
  have HB4 : Hid (Below w.heap.size w W4) := Lib.hid (by rw [← HW4]; exact HB3.out.setCell (by simp only; omega) _)
  have HO4 : Hid (OwnK W4 (w.heap.size + 2) (.slice va3 l0.length vc3) l0) := Lib.hid (by rw [← HW4]; exact own_far HO3.out (by simp only; omega) _)
  have hs4 : w.heap.size + 2 ≤ W4.heap.size := by rw [← HW4]; simpa using hs3
  have hrk4 : RdI W4 W4.heap.size (.slice ka (min (ks.length : Int) 12).toNat kc) k0 := (Gn.Rd.below HRK0.out HB4.out (Nat.le_refl _)).more HB4.out.size
  have HRK4 := Lib.hid hrk4
  clear x0 x1 x2 HX3 HY3 HB3 HO3 HW4
  have x0 := HX4.out.cell 0
  have x1 := HX4.out.cell 1
  simp only [List.getElem?_cons_succ, List.getElem?_cons_zero] at x0 x1
  have HCI := Lib.hid (copyInts _ k0 W4 HRK4.out (by omega))
  go_wp2_with fail
  ((with_reducible refine HCI.out.mono ?_); rintro e w5 ⟨v5, rfl, ho, hb⟩)
  have HX5 := Lib.hid (HX4.out.later hb)
  have HY5 := Lib.hid (HY4.out.later hb)
  have HB5 := Lib.hid (HB4.out.trans (hb.mono (by omega)))
  have HO5 := Lib.hid (Gn.Own.later HO4.out hb)
  have HI5 : Hid (OwnI w5 (w.heap.size + 2) v5 k0) := Lib.hid (Gn.Own.lower ho hs4)
  have hs5 : w.heap.size + 2 ≤ w5.heap.size := by have := hb.size; omega
  have x0 := HX5.out.cell 0
  have x1 := HX5.out.cell 1
  have x2 := HX5.out.frozen 1
  simp only [List.getElem?_cons_succ, List.getElem?_cons_zero] at x0 x1
  clear ho hb HX4 HY4 HB4 HO4 HRK4 HCI hrk4 HRK0
  obtain ⟨va5, vc5, rfl, _⟩ := Gn.Rd.form (RdI.of HI5.out)
  go_wp2_with fail
  generalize HW6 : w5.setCell ⟨w.heap.size, 1, none⟩ (.slice va5 k0.length vc5) = W6 at *
  have HF : Hid (FW w l0 k0 (.slice va3 l0.length vc3) (.slice va5 k0.length vc5) W6) := Lib.hid (by
    rw [← HW6]
    exact ⟨Blk.put HX5.out 1 _, HY5.out.far (by simp only; omega) _, own_far HO5.out (by simp only; omega) _, own_far HI5.out (by simp only; omega) _, HB5.out.setCell (by simp only; omega) _, by simpa using hs5⟩)
  clear HX5 HY5 HB5 HO5 HI5 x0 x1 x2 HW6 hs5 hs4 hs3
  have hl0 : ((l0.length : Nat) : Int) ≤ 40 := by omega
  go_loopw [3] (fun i wr => ∃ k : Nat, k ≤ l0.length ∧ i = .int .i64 (k : Nat) ∧ Hid (FW w (mixK k l0) k0 (.slice va3 l0.length vc3) (.slice va5 k0.length vc5) wr)) (fun i _ => l0.length - (intOf i).toNat)
  case atStart => exact ⟨0, by omega, by rfl, by rw [mixK_zero]; exact HF⟩
  case round =>
    obtain ⟨k, hk, rfl, HK⟩ := hrel
    have s0 := HK.out.s.cell 0
    have s1 := HK.out.s.cell 1
    simp only [List.getElem?_cons_succ, List.getElem?_cons_zero] at s0 s1
    by_cases hlt : k < l0.length
    · have hlt1 : (k : Int) < l0.length := by omega
      obtain ⟨x, hx⟩ : ∃ x, l0[k]? = some x := ⟨_, List.getElem?_eq_getElem hlt⟩
      have HST := Lib.hid (mixK_set hx)
      have hzs := HS.out x (List.mem_of_getElem? hx)
      have hform : ∃ g, va3 = some ⟨g, 0, none⟩ := by
        rcases HK.out.oc.2 with ⟨h1, _⟩ | ⟨g, cap, cur, h1, _⟩
        · injection h1 with _ h2 _; omega
        · injection h1 with h2 _ _; exact ⟨g, h2⟩
      obtain ⟨gb, rfl⟩ := hform
      obtain ⟨gb', off, hgo, p0, p1, p2, p3, p4, p5, p6⟩ := rdK_cells (RdK.of HK.out.oc) (Below.refl _ _) (mixK_at hx)
      injection hgo with hgo
      injection hgo with hg1 hg2 _
      subst hg1 hg2
      simp only [Nat.zero_add] at p0 p1 p2 p3 p4 p5 p6
      unfold maxLen at hzs
      have HS2 := Lib.hid (fun w => slice_cut x.nm 40 (by omega) (by omega) w)
      have HS3 := Lib.hid (fun w => slice_cut x.d.s 1100 (by omega) (by omega) w)
      obtain ⟨s2, hs2⟩ : ∃ s2, cutN x.nm 40 = s2 := ⟨_, rfl⟩
      obtain ⟨s3, hs3⟩ : ∃ s3, cutN x.d.s 1100 = s3 := ⟨_, rfl⟩
      have HCK : Hid (cutK x = ⟨x.id, s2, x.k, x.u, ⟨x.d.u, x.d.n, s3⟩⟩) := Lib.hid (by unfold cutK; rw [hs2, hs3])
      rw [hs2] at HS2
      rw [hs3] at HS3
      obtain ⟨xi, xm, xk, xu, ⟨xa, xb, xc⟩⟩ := x
      simp only at p0 p1 p2 p3 p4 p5 p6 HS2 HS3 HCK hzs
      have bq := box_new wr (.cells #[.int .i64 xi, .string xm, .int .i64 xk, .bool xu, .bool xa, .int .i64 xb, .string xc] 36)
      have HVQ := Lib.hid (Blk.new wr 36 #[.int .i64 xi, .string xm, .int .i64 xk, .bool xu, .bool xa, .int .i64 xb, .string xc])
      have HKQ := Lib.hid (HK.out.later bq)
      have HGQ := Lib.hid (And.intro (fun g hg => (HK.out.oc.lt g hg).2) (fun g hg => (HK.out.ok.lt g hg).2))
      have HSQ := Lib.hid HK.out.sz
      clear hx hs2 hs3 bq HK
      go_upto_region 7 with fail
      generalize hgq : wr.heap.size = gq at *
      generalize wr.alloc (.cells #[.int .i64 xi, .string xm, .int .i64 xk, .bool xu, .bool xa, .int .i64 xb, .string xc] 36) = wq at *
      clear p0 p1 p2 p3 p4 p5 p6 s0 s1
      have v1 := HVQ.out.cell 1
      have v6 := HVQ.out.cell 6
      have f1 := HVQ.out.frozen 1
      have f6 := HVQ.out.frozen 6
      simp only [List.getElem?_cons_succ, List.getElem?_cons_zero] at v1 v6
      have t2 := HS2.out wq
      have t3 := HS3.out (wq.setCell ⟨gq, 1, none⟩ (.string s2))
      go_upto_region 9 with fail
      have ht := (((Touch.refl (fun q => q = gq) wq).setCell (p := ⟨gq, 1, none⟩) rfl (.string s2)).setCell (p := ⟨gq, 6, none⟩) rfl (.string s3))
      have HK9 := Lib.hid (HKQ.out.touch ht (fun q hq => by have := HSQ.out; rw [hq]; exact this) (fun g hg => by have := HGQ.out.1 g hg; intro e; omega) (fun g hg => by have := HGQ.out.2 g hg; intro e; omega))
      have HV9 := Lib.hid (Blk.put (Blk.put HVQ.out 1 (.string s2)) 6 (.string s3))
      clear ht v1 v6 f1 f6 t2 t3 HVQ HKQ
      generalize (wq.setCell ⟨gq, 1, none⟩ (.string s2)).setCell ⟨gq, 6, none⟩ (.string s3) = w9 at *
      have v0 := HV9.out.cell 0
      have v1 := HV9.out.cell 1
      have v2 := HV9.out.cell 2
      have v3 := HV9.out.cell 3
      have v4 := HV9.out.cell 4
      have v5 := HV9.out.cell 5
      have v6 := HV9.out.cell 6
      have s0 := HK9.out.s.cell 0
      simp only [List.getElem?_cons_succ, List.getElem?_cons_zero, List.set_cons_succ, List.set_cons_zero] at v0 v1 v2 v3 v4 v5 v6 s0
      have hth := own_there7 HK9.out.oc (mixK_len k l0) hlt
      have hx9 : ∃ y, (mixK k l0)[k]? = some y := ⟨_, List.getElem?_eq_getElem (by rw [mixK_len]; exact hlt)⟩
      obtain ⟨y, hy⟩ := hx9
      obtain ⟨gb', off', hgo, p0, p1, p2, p3, p4, p5, p6⟩ := rdK_cells (RdK.of HK9.out.oc) (Below.refl _ _) hy
      injection hgo with hgo
      injection hgo with hg1 hg2 _
      subst hg1 hg2
      simp only [Nat.zero_add] at p0 p1 p2 p3 p4 p5 p6
      have q0 := (hth 0 (by omega)).2
      have q1 := (hth 1 (by omega)).2
      have q2 := (hth 2 (by omega)).2
      have q3 := (hth 3 (by omega)).2
      have q4 := (hth 4 (by omega)).2
      have q5 := (hth 5 (by omega)).2
      have q6 := (hth 6 (by omega)).2
      simp only [Nat.add_zero] at q0
      have HFI := Lib.hid (HK9.out.put (mixK_len k l0) hlt ⟨xi, s2, xk, xu, ⟨xa, xb, s3⟩⟩)
      have HLT := Lib.hid hlt
      clear hth hy HK9 HV9 HS2 HS3
      go_wp2_with fail
      go_roundw
      case rel => exact ⟨k + 1, HLT.out, by go_num, Lib.hid (by rw [← HST.out, HCK.out]; exact HFI.out)⟩
      case measure => have := HLT.out; simp [intOf]; omega
    · have hlt1 : ¬ (k : Int) < l0.length := by omega
      obtain rfl : k = l0.length := by omega
      have f0 := HK.out.r.cell 0
      have f1 := HK.out.r.cell 1
      have f2 := HK.out.r.frozen 0
      have f3 := HK.out.r.frozen 1
      simp only [List.getElem?_cons_succ, List.getElem?_cons_zero, nilS] at f0 f1
      have HRS := Lib.hid (Blk.put (Blk.put HK.out.r 0 (.slice va3 l0.length vc3)) 1 (.slice va5 k0.length vc5))
      have HO1 := Lib.hid (own_far (own_far HK.out.oc (p := ⟨w.heap.size + 1, 0, none⟩) (by simp only; omega) (.slice va3 l0.length vc3)) (p := ⟨w.heap.size + 1, 1, none⟩) (by simp only; omega) (.slice va5 k0.length vc5))
      have HO2 := Lib.hid (own_far (own_far HK.out.ok (p := ⟨w.heap.size + 1, 0, none⟩) (by simp only; omega) (.slice va3 l0.length vc3)) (p := ⟨w.heap.size + 1, 1, none⟩) (by simp only; omega) (.slice va5 k0.length vc5))
      have HBE := Lib.hid ((HK.out.b.setCell (p := ⟨w.heap.size + 1, 0, none⟩) (by simp only; omega) (.slice va3 l0.length vc3)).setCell (p := ⟨w.heap.size + 1, 1, none⟩) (by simp only; omega) (.slice va5 k0.length vc5))
      rw [mixK_all] at HO1
      clear HK
      go_wp2_with fail
      exact bodyPost_ret (retSf rfl _ _ (w.heap.size + 1) (.slice va3 l0.length vc3) (.slice va5 k0.length vc5) rfl HRS.out) rfl ⟨_, _, rfl, Gn.Own.lower HO1.out (by omega), Gn.Own.lower HO2.out (by omega), HBE.out⟩
end Go.Proofs.YtjmphlboickhdaaGreatDoor

/- SchemaSpoilt, plainly: a schema that may be, in which one thing is wrong, may not be. -/
namespace Go.Proofs.YtjmphlboickhdaaGreatDoor.Sc
open Cl
set_option linter.unusedVariables false
set_option linter.unusedSimpArgs false
set_option maxRecDepth 100000

theorem set_at {l : List Co} {k : Nat} {c : Co} (h : k < l.length) : (l.set k c)[k]? = some c := by simp [h]
theorem set_ne {l : List Co} {k j : Nat} {c : Co} (h : k ≠ j) : (l.set k c)[j]? = l[j]? := by simp [h]
theorem okAt_no {l : List Co} {i : Nat} {c : Co} (h : ¬ ((least l i ≤ c.id ∧ c.id ≤ 1048576) ∧ name (bl c.nm) = true ∧ chk c.u c.k c.d = 0 ∧ fresh l i c = true)) : okAt l i c = false := by
  cases e : okAt l i c with
  | false => rfl
  | true => exact absurd (okAt_parts.1 e) h
theorem least_ge {l : List Co} {k : Nat} {c : Co} (h : okC l = true) (hk : k < l.length) : 1 ≤ least (l.set k c) k := by
  unfold least
  split
  · omega
  · next h0 =>
    obtain ⟨x, hx⟩ : ∃ x, l[k - 1]? = some x := ⟨_, List.getElem?_eq_getElem (by omega)⟩
    rw [getD_of (x := x) (by rw [set_ne (by omega)]; exact hx)]
    have := (least_pos h _ _ hx).1
    omega
/-- An id that may not be. -/
theorem spoilt_id {l : List Co} {k : Nat} {c : Co} (h : okC l = true) (hk : k < l.length) (hi : c.id < 1 ∨ 1048576 < c.id) : okC (l.set k c) = false :=
  okC_no (set_at hk) (okAt_no fun hh => by have := least_ge (c := c) h hk; have := hh.1; omega)
theorem spoilt_name {l : List Co} {k : Nat} {c : Co} (hk : k < l.length) (hi : name (bl c.nm) = false) : okC (l.set k c) = false :=
  okC_no (set_at hk) (okAt_no fun hh => by rw [hi] at hh; exact absurd hh.2.1 (by decide))
theorem spoilt_chk {l : List Co} {k : Nat} {c : Co} (hk : k < l.length) (hi : chk c.u c.k c.d ≠ 0) : okC (l.set k c) = false :=
  okC_no (set_at hk) (okAt_no fun hh => hi hh.2.2.1)
theorem Made.at {cs : List Co} {ks : List Int} (h : Made cs ks) {i : Nat} {c : Co} (hc : cs[i]? = some c) : (least cs i ≤ c.id ∧ c.id ≤ 1048576) ∧ name (bl c.nm) = true ∧ chk c.u c.k c.d = 0 ∧ fresh cs i c = true := okAt_parts.1 ((okC_iff.1 h.ok).2 i c hc)
/-- The id of the next one, or of the first. -/
theorem spoilt_ids {cs : List Co} {ks : List Int} (h : Made cs ks) {k : Nat} {c d : Co} (hk : k < cs.length) (h1 : cs.length ≠ 1) (hd : cs[(k + 1) % cs.length]? = some d) (hi : c.id = d.id) : okC (cs.set k c) = false := by
  rcases Nat.lt_or_ge (k + 1) cs.length with hlt | hge
  · rw [Nat.mod_eq_of_lt hlt] at hd
    refine okC_no (i := k + 1) (by rw [set_ne (by omega)]; exact hd) (okAt_no fun hh => ?_)
    have := hh.1.1
    unfold least at this
    rw [if_neg (by omega), Nat.add_sub_cancel, getD_of (set_at hk)] at this
    omega
  · have hk1 : k + 1 = cs.length := by omega
    rw [hk1, Nat.mod_self] at hd
    refine okC_no (set_at hk) (okAt_no fun hh => ?_)
    have := hh.1.1
    unfold least at this
    rw [if_neg (by omega)] at this
    obtain ⟨x, hx⟩ : ∃ x, cs[k - 1]? = some x := ⟨_, List.getElem?_eq_getElem (by omega)⟩
    rw [getD_of (x := x) (by rw [set_ne (by omega)]; exact hx)] at this
    have hle : d.id ≤ x.id := by
      rcases Nat.eq_zero_or_pos (k - 1) with h0 | h0
      · rw [h0] at hx; rw [hx] at hd; injection hd with hd; subst hd; exact Int.le_refl _
      · have : ∀ j y, 0 < j → cs[j]? = some y → d.id < y.id := by
          intro j
          induction j with
          | zero => intro y h0; omega
          | succ j ih =>
            intro y _ hy
            have hyl := (List.getElem?_eq_some_iff.1 hy).1
            have h3 := (h.at hy).1.1
            unfold least at h3
            obtain ⟨z, hz⟩ : ∃ z, cs[j]? = some z := ⟨_, List.getElem?_eq_getElem (by omega)⟩
            rw [if_neg (by omega), Nat.add_sub_cancel, getD_of hz] at h3
            rcases Nat.eq_zero_or_pos j with hj | hj
            · subst hj; rw [hz] at hd; injection hd with hd; subst hd; omega
            · have := ih z hj hz; omega
        have := this _ _ h0 hx; omega
    omega
theorem fresh_no {l : List Co} {i j : Nat} {c d : Co} (hj : j < i) (hd : l[j]? = some d) (e : bl d.nm = bl c.nm) : fresh l i c = false := by
  unfold fresh
  rw [List.all_eq_false]
  exact ⟨d, List.mem_of_getElem? (i := j) (by rw [List.getElem?_take_of_lt hj]; exact hd), by simp [e]⟩
/-- The name of the next one, or of the first. -/
theorem spoilt_names {cs : List Co} {k : Nat} {c d : Co} (hk : k < cs.length) (h1 : cs.length ≠ 1) (hd : cs[(k + 1) % cs.length]? = some d) (hi : c.nm = d.nm) : okC (cs.set k c) = false := by
  rcases Nat.lt_or_ge (k + 1) cs.length with hlt | hge
  · rw [Nat.mod_eq_of_lt hlt] at hd
    refine okC_no (i := k + 1) (by rw [set_ne (by omega)]; exact hd) (okAt_no fun hh => ?_)
    have := hh.2.2.2
    rw [fresh_no (j := k) (by omega) (set_at hk) (by rw [hi])] at this
    cases this
  · have hk1 : k + 1 = cs.length := by omega
    rw [hk1, Nat.mod_self] at hd
    refine okC_no (set_at hk) (okAt_no fun hh => ?_)
    have := hh.2.2.2
    rw [fresh_no (j := 0) (by omega) (by rw [set_ne (by omega)]; exact hd) (by rw [hi])] at this
    cases this
theorem spoilt_five (u : Bool) (k : Int) : chk u k ⟨false, 5, ⟨#[120]⟩⟩ ≠ 0 := by
  intro h
  obtain ⟨h1, h2⟩ := chk_ok h
  obtain ⟨a, b⟩ := may_le h1
  rcases (show k = 1 ∨ k = 2 ∨ k = 3 ∨ k = 4 ∨ k = 5 by omega) with rfl | rfl | rfl | rfl | rfl <;> cases u <;> revert h2 <;> decide
theorem spoilt_null (k : Int) : chk false k ⟨true, 0, ⟨#[]⟩⟩ ≠ 0 := by
  intro h
  obtain ⟨h1, h2⟩ := chk_ok h
  obtain ⟨a, b⟩ := may_le h1
  rcases (show k = 1 ∨ k = 2 ∨ k = 3 ∨ k = 4 ∨ k = 5 by omega) with rfl | rfl | rfl | rfl | rfl <;> revert h2 <;> decide
theorem spoilt_kind {u : Bool} {k : Int} {c : C} (hk : may k = false) : chk u k c ≠ 0 := by
  intro h
  rw [(chk_ok h).1] at hk; cases hk
theorem okKAt_no {l : List Co} {ks : List Int} {i : Nat} {k : Int} (h : ¬ ((leastK ks i ≤ k ∧ k < (l.length : Int)) ∧ (l.getD k.toNat co0).u = false)) : okKAt l ks i k = false := by
  cases e : okKAt l ks i k with
  | false => rfl
  | true => exact absurd (okKAt_parts.1 e) h
theorem spoilt_k7 (l : List Co) (ks : List Int) : okK l (ks ++ [(l.length : Int)]) = false :=
  okK_no (i := ks.length) (c := (l.length : Int)) (by simp) (okKAt_no fun hh => by have := hh.1.2; omega)
theorem spoilt_k8 (l : List Co) (ks : List Int) : okK l (-1 :: ks) = false :=
  okK_no (i := 0) rfl (okKAt_no fun hh => by have := hh.1.1; unfold leastK at this; simp at this)
theorem spoilt_k9 (l : List Co) (k : Int) : okK l [k, k] = false :=
  okK_no (i := 1) rfl (okKAt_no fun hh => by have := hh.1.1; unfold leastK at this; simp at this; omega)
theorem spoilt_k10 {l : List Co} {k : Nat} {c : Co} (hk : k < l.length) (hu : c.u = true) : okK (l.set k c) [(k : Int)] = false :=
  okK_no (i := 0) rfl (okKAt_no fun hh => by
    have := hh.2
    rw [Int.toNat_natCast, getD_of (set_at hk), hu] at this; cases this)
theorem ck_set7 (l : List Co) (c : Co) (k : Nat) (ks : List Int) : ck (l.set k c) (ks ++ [(l.length : Int)]) = 2 := ck_no (.inr (by have := spoilt_k7 (l.set k c) ks; rwa [List.length_set] at this))
end Go.Proofs.YtjmphlboickhdaaGreatDoor.Sc

/- The walk of SchemaSpoilt: a schema that may be, in which one thing is wrong, may not be, and has no text. -/
namespace Go.Proofs.YtjmphlboickhdaaGreatDoor
open Go.RowKit Go.Sort
set_option linter.unusedVariables false
set_option linter.unusedSimpArgs false
set_option maxRecDepth 100000

/-- A schema, and a column, in variables of their own. -/
structure SB (w : World) (B g gc : Nat) (cs : List Co) (ks : List Int) (c : Co) (cv kv : Value) (W : World) : Prop where
  s : Blk W g 25 [cv, kv]
  cb : Blk W gc 36 [.int .i64 c.id, .string c.nm, .int .i64 c.k, .bool c.u, .bool c.d.u, .int .i64 c.d.n, .string c.d.s]
  oc : OwnK W B cv cs
  ok : OwnI W B kv ks
  b : Below w.heap.size w W
  hB : w.heap.size ≤ B
  hg : B ≤ g
  hgc : g < gc
  nc : cv.ownBlock ≠ some g ∧ cv.ownBlock ≠ some gc
  nk : kv.ownBlock ≠ some g ∧ kv.ownBlock ≠ some gc
theorem SB.later {w W W' : World} {B g gc : Nat} {cs : List Co} {ks : List Int} {c : Co} {cv kv : Value} (h : SB w B g gc cs ks c cv kv W) (hb : Below W.heap.size W W') : SB w B g gc cs ks c cv kv W' :=
  ⟨h.s.later hb, h.cb.later hb, Gn.Own.later h.oc hb, Gn.Own.later h.ok hb, up h.b hb, h.hB, h.hg, h.hgc, h.nc, h.nk⟩
/-- A cell of the column is written. -/
theorem SB.col {w W : World} {B g gc : Nat} {cs : List Co} {ks : List Int} {c : Co} {cv kv : Value} (h : SB w B g gc cs ks c cv kv W) (j : Nat) (v : Value) (c' : Co)
    (hc : ([.int .i64 c.id, .string c.nm, .int .i64 c.k, .bool c.u, .bool c.d.u, .int .i64 c.d.n, .string c.d.s] : List Value).set j v = [.int .i64 c'.id, .string c'.nm, .int .i64 c'.k, .bool c'.u, .bool c'.d.u, .int .i64 c'.d.n, .string c'.d.s]) : SB w B g gc cs ks c' cv kv (W.setCell ⟨gc, j, none⟩ v) := by
  have ht := (Touch.refl (fun q => q = gc) W).setCell (p := ⟨gc, j, none⟩) rfl v
  have hgc := h.hgc
  refine ⟨h.s.touch ht (by show ¬ g = gc; omega), by rw [← hc]; exact Blk.put h.cb j v, own_touch h.oc ht (fun q hq e => ?_), own_touch h.ok ht (fun q hq e => ?_), h.b.setCell (by have := h.hB; have := h.hg; simp only; omega) v, h.hB, h.hg, h.hgc, h.nc, h.nk⟩
  · have e : q = gc := e
    subst e; exact h.nc.2 hq
  · have e : q = gc := e
    subst e; exact h.nk.2 hq
/-- The keys' slice is another one. -/
theorem SB.keys {w W : World} {B g gc : Nat} {cs : List Co} {ks ks' : List Int} {c : Co} {cv kv kv' : Value} (h : SB w B g gc cs ks c cv kv W) (ho : OwnI W B kv' ks') (hn : kv'.ownBlock ≠ some g ∧ kv'.ownBlock ≠ some gc) : SB w B g gc cs ks' c cv kv' (W.setCell ⟨g, 1, none⟩ kv') := by
  have ht := (Touch.refl (fun q => q = g) W).setCell (p := ⟨g, 1, none⟩) rfl kv'
  have hgc := h.hgc
  refine ⟨Blk.put h.s 1 kv', h.cb.touch ht (by show ¬ gc = g; omega), own_touch h.oc ht (fun q hq e => ?_), own_touch ho ht (fun q hq e => ?_), h.b.setCell (by have := h.hB; have := h.hg; simp only; omega) kv', h.hB, h.hg, h.hgc, h.nc, hn⟩
  · have e : q = g := e
    subst e; exact h.nc.1 hq
  · have e : q = g := e
    subst e; exact hn.1 hq
/-- The columns' slice is another one. -/
theorem SB.cols {w W : World} {B g gc : Nat} {cs cs' : List Co} {ks : List Int} {c : Co} {cv kv cv' : Value} (h : SB w B g gc cs ks c cv kv W) (ho : OwnK W B cv' cs') (hn : cv'.ownBlock ≠ some g ∧ cv'.ownBlock ≠ some gc) : SB w B g gc cs' ks c cv' kv (W.setCell ⟨g, 0, none⟩ cv') := by
  have ht := (Touch.refl (fun q => q = g) W).setCell (p := ⟨g, 0, none⟩) rfl cv'
  have hgc := h.hgc
  refine ⟨Blk.put h.s 0 cv', h.cb.touch ht (by show ¬ gc = g; omega), own_touch ho ht (fun q hq e => ?_), own_touch h.ok ht (fun q hq e => ?_), h.b.setCell (by have := h.hB; have := h.hg; simp only; omega) cv', h.hB, h.hg, h.hgc, hn, h.nk⟩
  · have e : q = g := e
    subst e; exact hn.1 hq
  · have e : q = g := e
    subst e; exact h.nk.1 hq
theorem SB.touch {w W W' : World} {S : Nat → Prop} {B g gc : Nat} {cs : List Co} {ks : List Int} {c : Co} {cv kv : Value} (h : SB w B g gc cs ks c cv kv W) (ht : Touch S W W') (h1 : ¬ S g) (h2 : ¬ S gc) (h3 : ∀ q, cv.ownBlock = some q → ¬ S q) (h4 : ∀ q, kv.ownBlock = some q → ¬ S q) (hb : ∀ q, S q → w.heap.size ≤ q) : SB w B g gc cs ks c cv kv W' :=
  ⟨h.s.touch ht h1, h.cb.touch ht h2, own_touch h.oc ht h3, own_touch h.ok ht h4, h.b.trans (ht.below h.b.size hb), h.hB, h.hg, h.hgc, h.nc, h.nk⟩
theorem SB.fresh {w W : World} {B g gc : Nat} {cs : List Co} {ks : List Int} {c : Co} {cv kv : Value} (h : SB w B g gc cs ks c cv kv W) : g ≠ W.heap.size ∧ gc ≠ W.heap.size ∧ B ≤ W.heap.size := by
  have h1 := h.s.lt
  have h2 := h.cb.lt
  have h3 := h.hg
  omega
/-- A key is appended. -/
theorem SB.appk {w W W' : World} {B g gc : Nat} {cs : List Co} {ks ks' : List Int} {c : Co} {cv kv v : Value} (h : SB w B g gc cs ks c cv kv W) (ho : OwnI W' B v ks') (hg : W.grownBy W' kv.ownBlock) (hl : v.ownBlock = kv.ownBlock ∨ v.ownBlock = some W.heap.size) :
    SB w B g gc cs ks' c cv v (W'.setCell ⟨g, 1, none⟩ v) ∧ Blk W' g 25 [cv, kv] := by
  have hs : Blk W' g 25 [cv, kv] := h.s.app2 hg h.ok (by decide)
  have hc := h.cb.app2 hg h.ok (by decide)
  have hf := h.fresh
  have hn : v.ownBlock ≠ some g ∧ v.ownBlock ≠ some gc := by
    rcases hl with e | e <;> rw [e]
    · exact h.nk
    · exact ⟨fun e => hf.1 (by injection e with e; exact e.symm), fun e => hf.2.1 (by injection e with e; exact e.symm)⟩
  have ht := (Touch.refl (fun q => q = g) W').setCell (p := ⟨g, 1, none⟩) rfl v
  have hgc := h.hgc
  have hB := h.hB
  refine ⟨⟨Blk.put hs 1 v, hc.touch ht (by show ¬ gc = g; omega), own_touch (Gn.Own.kept h.oc hg (own_apart2 h.oc h.ok (by decide))) ht (fun q hq e => ?_), own_touch ho ht (fun q hq e => ?_), (h.b.grown hg (by have := h.b.size; omega) (fun q e => by have := (h.ok.lt q e).1; omega)).setCell (by have := h.hg; simp only; omega) v, hB, h.hg, hgc, h.nc, hn⟩, hs⟩
  · have e : q = g := e
    subst e; exact h.nc.1 hq
  · have e : q = g := e
    subst e; exact hn.1 hq
theorem own_new {w W : World} {B g gc : Nat} {cs : List Co} {ks : List Int} {c : Co} {cv kv : Value} (h : SB w B g gc cs ks c cv kv W) (n m : Nat) : (Value.slice (some ⟨W.heap.size, 0, none⟩) n m).ownBlock ≠ some g ∧ (Value.slice (some ⟨W.heap.size, 0, none⟩) n m).ownBlock ≠ some gc := by
  have hf := h.fresh
  exact ⟨fun e => hf.1 (by injection e with e; exact e.symm), fun e => hf.2.1 (by injection e with e; exact e.symm)⟩
theorem SB.put {w W : World} {B g gc gb n cap : Nat} {cs : List Co} {ks : List Int} {c : Co} {kv : Value} (h : SB w B g gc cs ks c (.slice (some ⟨gb, 0, none⟩) n cap) kv W) (hn : cs.length = n) {i : Nat} (hi : i < n) (x : Co) : SB w B g gc (cs.set i x) ks c (.slice (some ⟨gb, 0, none⟩) n cap) kv (put7W W gb (i * 7) x) := by
  have hgB := (h.oc.lt gb rfl).1
  have ht := grown_put7 (i := i) h.oc x
  refine ⟨h.s.touch ht (fun e => h.nc.1 (by have e : g = gb := e; rw [e]; rfl)), h.cb.touch ht (fun e => h.nc.2 (by have e : gc = gb := e; rw [e]; rfl)), own_put7 h.oc hn hi x, own_touch h.ok ht (fun q hq e => ?_), h.b.trans (ht.below h.b.size (fun q hq => by have hq : q = gb := hq; have := h.hB; omega)), h.hB, h.hg, h.hgc, h.nc, h.nk⟩
  have e : q = gb := e
  rcases own_apart2 h.ok h.oc (by decide) with h2 | h2
  · rw [h2] at hq; cases hq
  · exact h2 (by rw [hq, e]; rfl)
/-- Keys are put behind a new one. -/
theorem SB.app8 {w W W1 W' : World} {B g gc : Nat} {cs : List Co} {ks ks' : List Int} {c : Co} {cv kv v : Value} {n m : Nat} (h0 : SB w B g gc cs ks c cv kv W) (h : SB w B g gc cs ks c cv kv W1) (ho : OwnI W' B v ks') (hg : W1.grownBy W' (Value.slice (some ⟨W.heap.size, 0, none⟩) n m).ownBlock) (hl : v.ownBlock = (Value.slice (some ⟨W.heap.size, 0, none⟩) n m).ownBlock ∨ v.ownBlock = some W1.heap.size) :
    ∃ va vc, v = .slice va ks'.length vc ∧ SB w B g gc cs ks' c cv v (W'.setCell ⟨g, 1, none⟩ v) ∧ Blk W' g 25 [cv, kv] := by
  obtain ⟨va, vc, hv, _⟩ := Gn.Rd.form (RdI.of ho)
  have ht := Touch.of_grown (S := fun q => q = W.heap.size) hg (fun q hq => by have hq : some W.heap.size = some q := hq; injection hq with hq; exact hq.symm)
  have hf := h0.fresh
  have hf1 := h.fresh
  have h1 := h.touch ht (fun e => hf.1 e) (fun e => hf.2.1 e) (fun q hq e => by have := (h0.oc.lt q hq).2; have e : q = W.heap.size := e; omega) (fun q hq e => by have := (h0.ok.lt q hq).2; have e : q = W.heap.size := e; omega) (fun q hq => by have := h0.b.size; have hq : q = W.heap.size := hq; omega)
  have hn : v.ownBlock ≠ some g ∧ v.ownBlock ≠ some gc := by
    rcases hl with e | e <;> rw [e]
    · exact own_new h0 n m
    · exact ⟨fun e => hf1.1 (by injection e with e; exact e.symm), fun e => hf1.2.1 (by injection e with e; exact e.symm)⟩
  exact ⟨va, vc, hv, h1.keys ho hn, h1.s⟩
/-- What the switch leaves. -/
def SW (w : World) (B g gc k : Nat) (cs : List Co) (W : World) : Prop := ∃ cs1 ks1 c1 cv1 kv1, SB w B g gc cs1 ks1 c1 cv1 kv1 W ∧ ((cs1 = cs ∧ Sc.ck (cs.set k c1) ks1 = 2 ∧ KOk c1 ∧ ∀ x ∈ ks1, Cl.I64 x) ∨ (cs1 = [] ∧ ks1 = []))
set_option maxHeartbeats 16000000 in
theorem schemaSpoilt (sv : Value) (L : List S5) (K what at_ : Int) (w : World) (hI : SeedIn w sv L K) (hw0 : -9223372036854775808 ≤ what) (hw1 : what ≤ 9223372036854775807) (ha0 : -9223372036854775808 ≤ at_) (ha1 : at_ ≤ 9223372036854775807) (T : TA w) : Calls Tryz.prog 8 #[.agg #[sv, .int .i64 K], .int .i64 what, .int .i64 at_] w fun e w' => e = .returned (.bool true) ∧ Below w.heap.size w w' := by
  have HT := Lib.hid T
  have HI := Lib.hid hI
  have HWH : Hid (Cl.I64 what) := Lib.hid ⟨hw0, hw1⟩
  have HAT : Hid (Cl.I64 at_) := Lib.hid ⟨ha0, ha1⟩
  have b0 := box_new w (.cells #[sv, .int .i64 K] 49)
  have HB0 := Lib.hid b0
  have HX := Lib.hid (Blk.new w 49 #[sv, .int .i64 K])
  have HR := Lib.hid (hI.rd.later b0)
  have x0 := HX.out.cell 0
  have x1 := HX.out.cell 1
  simp only [List.getElem?_cons_succ, List.getElem?_cons_zero] at x0 x1
  clear T hI b0 hw0 hw1 ha0 ha1
  go_enter Tryz.func8, Tryz.ntmps8
  go_upto_region 1 with fail
  generalize hg0 : w.heap.size = g0 at *
  generalize hw0 : w.alloc (.cells #[sv, .int .i64 K] 49) = w0 at *
  go_wp2_with fail
  subst hg0
  ((with_reducible refine (lMade sv L K w0 HR.out HI.out.in_ HI.out.k).mono ?_); rintro x w2 ⟨cv, kv, cs, ks, rfl, hm, ho, hi, b2⟩)
  have HM := Lib.hid hm
  have HV := Lib.hid (SV.new ho hi)
  have HO := Lib.hid (Gn.Own.later ho (box_new w2 (.cells #[cv, kv] 25)))
  have HOI := Lib.hid (Gn.Own.later hi (box_new w2 (.cells #[cv, kv] 25)))
  have HB2 := Lib.hid (up (up HB0.out b2) (box_new w2 (.cells #[cv, kv] 25)))
  have HLT2 : Hid ((∀ q, cv.ownBlock = some q → q < w2.heap.size) ∧ (∀ q, kv.ownBlock = some q → q < w2.heap.size)) := Lib.hid ⟨fun q hq => (ho.lt q hq).2, fun q hq => (hi.lt q hq).2⟩
  have HS0 : Hid (w.heap.size ≤ w0.heap.size ∧ w0.heap.size ≤ w2.heap.size) := Lib.hid ⟨HB0.out.size, b2.size⟩
  clear x0 x1 b2 HB0 HI HR HX hw0
  obtain ⟨ca, cc, rfl, _⟩ := Gn.Rd.form (RdK.of ho)
  obtain ⟨ka, kc, rfl, _⟩ := Gn.Rd.form (RdI.of hi)
  clear ho hi
  have hl1 := hm.l1
  have hl16 := hm.l16
  obtain ⟨kz, hkz⟩ : ∃ kz, at_ % (cs.length : Int) = kz := ⟨_, rfl⟩
  have HBK := Lib.hid (bringAt at_ cs.length kz HAT.out (by omega) (by omega) hkz)
  have hkz0 : 0 ≤ kz := by rw [← hkz]; exact Int.emod_nonneg _ (by omega)
  have hkz1 : kz < cs.length := by rw [← hkz]; exact Int.emod_lt_of_pos _ (by omega)
  obtain ⟨k, rfl⟩ : ∃ k : Nat, kz = k := ⟨kz.toNat, by omega⟩
  have hk : k < cs.length := by omega
  obtain ⟨m, hm12⟩ : ∃ m, what % 12 = m := ⟨_, rfl⟩
  have HBM := Lib.hid (bringAt what 12 m HWH.out (by omega) (by omega) hm12)
  have hm0 : 0 ≤ m := by omega
  have hm1 : m < 12 := by omega
  obtain ⟨z5, hz5⟩ : ∃ z, at_ % 5 = z := ⟨_, rfl⟩
  obtain ⟨z7, hz7⟩ : ∃ z, at_ % 7 = z := ⟨_, rfl⟩
  obtain ⟨z4, hz4⟩ : ∃ z, at_ % 4 = z := ⟨_, rfl⟩
  have HB5 := Lib.hid (bringAt at_ 5 z5 HAT.out (by omega) (by omega) hz5)
  have HB7 := Lib.hid (bringAt at_ 7 z7 HAT.out (by omega) (by omega) hz7)
  have HB4 := Lib.hid (bringAt at_ 4 z4 HAT.out (by omega) (by omega) hz4)
  have h5 : z5 = 0 ∨ z5 = 1 ∨ z5 = 2 ∨ z5 = 3 ∨ z5 = 4 := by omega
  have h7 : z7 = 0 ∨ z7 = 1 ∨ z7 = 2 ∨ z7 = 3 ∨ z7 = 4 ∨ z7 = 5 ∨ z7 = 6 := by omega
  have h4 : z4 = 0 ∨ z4 = 1 ∨ z4 = 2 ∨ z4 = 3 := by omega
  have HZ5 := Lib.hid h5
  have HZ7 := Lib.hid h7
  have HZ4 := Lib.hid h4
  obtain ⟨c, hx⟩ : ∃ c, cs[k]? = some c := ⟨_, List.getElem?_eq_getElem hk⟩
  have HCX := Lib.hid hx
  have HKO := Lib.hid (HM.out.ko c (List.mem_of_getElem? hx))
  clear hkz hm12 hz5 hz7 hz4 h5 h7 h4 hm
  go_wp2_with fail
  generalize hg : w2.heap.size = g at *
  generalize w2.alloc (.cells #[.slice ca cs.length cc, .slice ka ks.length kc] 25) = w3 at *
  obtain ⟨x0, x1⟩ := HV.out.lie
  obtain ⟨gb, off, rfl, p0, p1, p2, p3, p4, p5, p6⟩ := rdK_cells HV.out.c (Below.refl _ _) hx
  clear hx
  go_wp2_with fail
  ((with_reducible refine (HBK.out _).mono ?_); rintro e w4 ⟨rfl, rfl⟩)
  obtain ⟨xi, xm, xk, xu, ⟨xa, xb, xc⟩⟩ := c
  simp only at p0 p1 p2 p3 p4 p5 p6
  have hgs : g < w3.heap.size := HV.out.x.lt
  have hsb0 : SB w w0.heap.size g w3.heap.size cs ks ⟨xi, xm, xk, xu, ⟨xa, xb, xc⟩⟩ (.slice (some ⟨gb, off, none⟩) cs.length cc) (.slice ka ks.length kc) (w3.alloc (.cells #[.int .i64 xi, .string xm, .int .i64 xk, .bool xu, .bool xa, .int .i64 xb, .string xc] 36)) :=
    ⟨HV.out.x.later (box_new _ _), Blk.new w3 36 #[.int .i64 xi, .string xm, .int .i64 xk, .bool xu, .bool xa, .int .i64 xb, .string xc], Gn.Own.later HO.out (box_new _ _), Gn.Own.later HOI.out (box_new _ _), up HB2.out (box_new _ _), HS0.out.1, HS0.out.2, hgs,
      ⟨fun e => by have := HLT2.out.1 _ e; omega, fun e => by have := HLT2.out.1 _ e; omega⟩, ⟨fun e => by have := HLT2.out.2 _ e; omega, fun e => by have := HLT2.out.2 _ e; omega⟩⟩
  have HSB0 := Lib.hid hsb0
  clear hsb0
  go_wp2_with fail
  ((with_reducible refine (HBM.out _).mono ?_); rintro e w4 ⟨rfl, rfl⟩)
  generalize hgc : w3.heap.size = gc at *
  generalize w3.alloc (.cells #[.int .i64 xi, .string xm, .int .i64 xk, .bool xu, .bool xa, .int .i64 xb, .string xc] 36) = w5 at *
  clear x0 x1 p0 p1 p2 p3 p4 p5 p6 HV HO HOI HLT2 HB2 HBK HBM HS0
  have HSB := HSB0
  clear HSB0
  go_upto_block 0 with fail
  go_cut [] (fun wx => Hid (SW w w0.heap.size g gc k cs wx))
  case first =>
    have hm12 : m = 0 ∨ m = 1 ∨ m = 2 ∨ m = 3 ∨ m = 4 ∨ m = 5 ∨ m = 6 ∨ m = 7 ∨ m = 8 ∨ m = 9 ∨ m = 10 ∨ m = 11 := by omega
    rcases hm12 with rfl | rfl | rfl | rfl | rfl | rfl | rfl | rfl | rfl | rfl | rfl | rfl
    · skip
      obtain ⟨W1, HW1⟩ : ∃ W1, w5.alloc (.cells #[.int .i64 0, .int .i64 (-1), .int .i64 1048577, .int .i64 (-9223372036854775808), .int .i64 9223372036854775807] 3) = W1 := ⟨_, rfl⟩
      have HS1 := HSB.out.later (box_new w5 (.cells #[.int .i64 0, .int .i64 (-1), .int .i64 1048577, .int .i64 (-9223372036854775808), .int .i64 9223372036854775807] 3))
      have HL1 := Blk.new w5 3 #[.int .i64 0, .int .i64 (-1), .int .i64 1048577, .int .i64 (-9223372036854775808), .int .i64 9223372036854775807]
      rw [HW1] at HS1 HL1
      have HS1 := Lib.hid HS1
      have l0 := HL1.cell 0
      have l1 := HL1.cell 1
      have l2 := HL1.cell 2
      have l3 := HL1.cell 3
      have l4 := HL1.cell 4
      simp only [List.getElem?_cons_succ, List.getElem?_cons_zero] at l0 l1 l2 l3 l4
      clear HL1
      have v0 := HS1.out.cb.cell 0
      have v1 := HS1.out.cb.cell 1
      have v2 := HS1.out.cb.cell 2
      have v3 := HS1.out.cb.cell 3
      have v4 := HS1.out.cb.cell 4
      have v5 := HS1.out.cb.cell 5
      have v6 := HS1.out.cb.cell 6
      have f0 := HS1.out.cb.frozen 0
      have f1 := HS1.out.cb.frozen 1
      have f2 := HS1.out.cb.frozen 2
      have f3 := HS1.out.cb.frozen 3
      have f4 := HS1.out.cb.frozen 4
      have f5 := HS1.out.cb.frozen 5
      have f6 := HS1.out.cb.frozen 6
      have s0 := HS1.out.s.cell 0
      have s1 := HS1.out.s.cell 1
      have sf0 := HS1.out.s.frozen 0
      have sf1 := HS1.out.s.frozen 1
      simp only [List.getElem?_cons_succ, List.getElem?_cons_zero] at v0 v1 v2 v3 v4 v5 v6 s0 s1
      have hz := HZ5.out
      rcases hz with rfl | rfl | rfl | rfl | rfl
      all_goals
        go_wp2_with fail
        ((with_reducible refine (HB5.out _).mono ?_); rintro e w6 ⟨rfl, rfl⟩)
        go_wp2_with fail
        go_meet
      all_goals first
        | exact Lib.hid ⟨cs, ks, ⟨0, xm, xk, xu, ⟨xa, xb, xc⟩⟩, _, _, HS1.out.col 0 _ ⟨0, xm, xk, xu, ⟨xa, xb, xc⟩⟩ rfl, .inl ⟨rfl, Sc.ck_no (.inl (Sc.spoilt_id HM.out.ok hk (by simp only; omega))), ⟨⟨by show (-9223372036854775808 : Int) ≤ 0; decide, by show (0 : Int) ≤ 9223372036854775807; decide⟩, HKO.out.k, HKO.out.nm, HKO.out.n, HKO.out.s⟩, fun x hx => HM.out.ki x hx⟩⟩
        | exact Lib.hid ⟨cs, ks, ⟨-1, xm, xk, xu, ⟨xa, xb, xc⟩⟩, _, _, HS1.out.col 0 _ ⟨-1, xm, xk, xu, ⟨xa, xb, xc⟩⟩ rfl, .inl ⟨rfl, Sc.ck_no (.inl (Sc.spoilt_id HM.out.ok hk (by simp only; omega))), ⟨⟨by show (-9223372036854775808 : Int) ≤ -1; decide, by show (-1 : Int) ≤ 9223372036854775807; decide⟩, HKO.out.k, HKO.out.nm, HKO.out.n, HKO.out.s⟩, fun x hx => HM.out.ki x hx⟩⟩
        | exact Lib.hid ⟨cs, ks, ⟨1048577, xm, xk, xu, ⟨xa, xb, xc⟩⟩, _, _, HS1.out.col 0 _ ⟨1048577, xm, xk, xu, ⟨xa, xb, xc⟩⟩ rfl, .inl ⟨rfl, Sc.ck_no (.inl (Sc.spoilt_id HM.out.ok hk (by simp only; omega))), ⟨⟨by show (-9223372036854775808 : Int) ≤ 1048577; decide, by show (1048577 : Int) ≤ 9223372036854775807; decide⟩, HKO.out.k, HKO.out.nm, HKO.out.n, HKO.out.s⟩, fun x hx => HM.out.ki x hx⟩⟩
        | exact Lib.hid ⟨cs, ks, ⟨-9223372036854775808, xm, xk, xu, ⟨xa, xb, xc⟩⟩, _, _, HS1.out.col 0 _ ⟨-9223372036854775808, xm, xk, xu, ⟨xa, xb, xc⟩⟩ rfl, .inl ⟨rfl, Sc.ck_no (.inl (Sc.spoilt_id HM.out.ok hk (by simp only; omega))), ⟨⟨by show (-9223372036854775808 : Int) ≤ -9223372036854775808; decide, by show (-9223372036854775808 : Int) ≤ 9223372036854775807; decide⟩, HKO.out.k, HKO.out.nm, HKO.out.n, HKO.out.s⟩, fun x hx => HM.out.ki x hx⟩⟩
        | exact Lib.hid ⟨cs, ks, ⟨9223372036854775807, xm, xk, xu, ⟨xa, xb, xc⟩⟩, _, _, HS1.out.col 0 _ ⟨9223372036854775807, xm, xk, xu, ⟨xa, xb, xc⟩⟩ rfl, .inl ⟨rfl, Sc.ck_no (.inl (Sc.spoilt_id HM.out.ok hk (by simp only; omega))), ⟨⟨by show (-9223372036854775808 : Int) ≤ 9223372036854775807; decide, by show (9223372036854775807 : Int) ≤ 9223372036854775807; decide⟩, HKO.out.k, HKO.out.nm, HKO.out.n, HKO.out.s⟩, fun x hx => HM.out.ki x hx⟩⟩
    · skip
      have v0 := HSB.out.cb.cell 0
      have v1 := HSB.out.cb.cell 1
      have v2 := HSB.out.cb.cell 2
      have v3 := HSB.out.cb.cell 3
      have v4 := HSB.out.cb.cell 4
      have v5 := HSB.out.cb.cell 5
      have v6 := HSB.out.cb.cell 6
      have f0 := HSB.out.cb.frozen 0
      have f1 := HSB.out.cb.frozen 1
      have f2 := HSB.out.cb.frozen 2
      have f3 := HSB.out.cb.frozen 3
      have f4 := HSB.out.cb.frozen 4
      have f5 := HSB.out.cb.frozen 5
      have f6 := HSB.out.cb.frozen 6
      have s0 := HSB.out.s.cell 0
      have s1 := HSB.out.s.cell 1
      have sf0 := HSB.out.s.frozen 0
      have sf1 := HSB.out.s.frozen 1
      simp only [List.getElem?_cons_succ, List.getElem?_cons_zero] at v0 v1 v2 v3 v4 v5 v6 s0 s1
      obtain ⟨nx, hnx⟩ : ∃ nx, (k + 1) % cs.length = nx := ⟨_, rfl⟩
      have hnl : nx < cs.length := by rw [← hnx]; exact Nat.mod_lt _ (by omega)
      have hr2 : ((k : Int) + 1) % (cs.length : Int) = (nx : Nat) := by rw [← hnx]; push_cast; rfl
      have hr1 : ((k : Int) + 1).tmod (cs.length : Int) = (nx : Nat) := by rw [Int.tmod_eq_emod_of_nonneg (by omega)]; exact hr2
      obtain ⟨d, hd⟩ : ∃ d, cs[nx]? = some d := ⟨_, List.getElem?_eq_getElem hnl⟩
      have HD := Lib.hid (show cs[(k + 1) % cs.length]? = some d by rw [hnx]; exact hd)
      have HKD := Lib.hid (HM.out.ko d (List.mem_of_getElem? hd))
      obtain ⟨gb', off', hgo, p0, p1, p2, p3, p4, p5, p6⟩ := rdK_cells (RdK.of HSB.out.oc) (Below.refl _ _) hd
      injection hgo with hgo
      injection hgo with hg1 hg2 _
      subst hg1 hg2
      have hl0 : (cs.length : Int) ≠ 0 := by omega
      have hnl1 : (nx : Int) < cs.length := by omega
      obtain ⟨di, dm, dk, du, ⟨da, db, dc⟩⟩ := d
      simp only at p0 p1
      have hgne : gb ≠ gc := fun e => HSB.out.nc.2 (by rw [e]; rfl)
      clear hnx hd p2 p3 p4 p5 p6
      by_cases h1 : cs.length = 1
      · have h11 : (cs.length : Int) = 1 := by omega
        have hn0 : nx = 0 := by omega
        subst hn0
        simp only [Nat.zero_mul, Nat.add_zero] at p0 p1
        go_upto_region 10 with fail
        go_region
        all_goals
          go_wp2_with fail
          go_meet
          exact Lib.hid ⟨cs, ks, ⟨0, xm, xk, xu, ⟨xa, xb, xc⟩⟩, _, _, ((HSB.out.col 0 (.int .i64 di) ⟨di, xm, xk, xu, ⟨xa, xb, xc⟩⟩ rfl).later (Below.refl _ _).drew).col 0 _ ⟨0, xm, xk, xu, ⟨xa, xb, xc⟩⟩ rfl, .inl ⟨rfl, Sc.ck_no (.inl (Sc.spoilt_id HM.out.ok hk (by simp only; omega))), ⟨⟨by show (-9223372036854775808 : Int) ≤ 0; decide, by show (0 : Int) ≤ 9223372036854775807; decide⟩, HKO.out.k, HKO.out.nm, HKO.out.n, HKO.out.s⟩, fun x hx => HM.out.ki x hx⟩⟩
      · have h11 : ¬ (cs.length : Int) = 1 := by omega
        go_upto_region 10 with fail
        go_region
        all_goals
          go_wp2_with fail
          go_meet
          exact Lib.hid ⟨cs, ks, ⟨di, xm, xk, xu, ⟨xa, xb, xc⟩⟩, _, _, (HSB.out.col 0 _ ⟨di, xm, xk, xu, ⟨xa, xb, xc⟩⟩ rfl).later (Below.refl _ _).drew, .inl ⟨rfl, Sc.ck_no (.inl (Sc.spoilt_ids HM.out hk h1 HD.out rfl)), ⟨HKD.out.id, HKO.out.k, HKO.out.nm, HKO.out.n, HKO.out.s⟩, fun x hx => HM.out.ki x hx⟩⟩
    · skip
      obtain ⟨W1, HW1⟩ : ∃ W1, w5.alloc (.cells #[.string ⟨#[]⟩, .string ⟨#[65]⟩, .string ⟨#[49]⟩, .string ⟨#[97, 32, 98]⟩, .string ⟨#[95, 97]⟩, .string ⟨#[97, 10]⟩, .string ⟨#[97, 98, 99, 100, 101, 102, 103, 104, 105, 106, 107, 108, 109, 110, 111, 112, 113, 114, 115, 116, 117, 118, 119, 120, 121, 122, 97, 98, 99, 100, 101, 102, 103]⟩] 9) = W1 := ⟨_, rfl⟩
      have HS1 := HSB.out.later (box_new w5 (.cells #[.string ⟨#[]⟩, .string ⟨#[65]⟩, .string ⟨#[49]⟩, .string ⟨#[97, 32, 98]⟩, .string ⟨#[95, 97]⟩, .string ⟨#[97, 10]⟩, .string ⟨#[97, 98, 99, 100, 101, 102, 103, 104, 105, 106, 107, 108, 109, 110, 111, 112, 113, 114, 115, 116, 117, 118, 119, 120, 121, 122, 97, 98, 99, 100, 101, 102, 103]⟩] 9))
      have HL1 := Blk.new w5 9 #[.string ⟨#[]⟩, .string ⟨#[65]⟩, .string ⟨#[49]⟩, .string ⟨#[97, 32, 98]⟩, .string ⟨#[95, 97]⟩, .string ⟨#[97, 10]⟩, .string ⟨#[97, 98, 99, 100, 101, 102, 103, 104, 105, 106, 107, 108, 109, 110, 111, 112, 113, 114, 115, 116, 117, 118, 119, 120, 121, 122, 97, 98, 99, 100, 101, 102, 103]⟩]
      rw [HW1] at HS1 HL1
      have HS1 := Lib.hid HS1
      have l0 := HL1.cell 0
      have l1 := HL1.cell 1
      have l2 := HL1.cell 2
      have l3 := HL1.cell 3
      have l4 := HL1.cell 4
      have l5 := HL1.cell 5
      have l6 := HL1.cell 6
      simp only [List.getElem?_cons_succ, List.getElem?_cons_zero] at l0 l1 l2 l3 l4 l5 l6
      clear HL1
      have v0 := HS1.out.cb.cell 0
      have v1 := HS1.out.cb.cell 1
      have v2 := HS1.out.cb.cell 2
      have v3 := HS1.out.cb.cell 3
      have v4 := HS1.out.cb.cell 4
      have v5 := HS1.out.cb.cell 5
      have v6 := HS1.out.cb.cell 6
      have f0 := HS1.out.cb.frozen 0
      have f1 := HS1.out.cb.frozen 1
      have f2 := HS1.out.cb.frozen 2
      have f3 := HS1.out.cb.frozen 3
      have f4 := HS1.out.cb.frozen 4
      have f5 := HS1.out.cb.frozen 5
      have f6 := HS1.out.cb.frozen 6
      have s0 := HS1.out.s.cell 0
      have s1 := HS1.out.s.cell 1
      have sf0 := HS1.out.s.frozen 0
      have sf1 := HS1.out.s.frozen 1
      simp only [List.getElem?_cons_succ, List.getElem?_cons_zero] at v0 v1 v2 v3 v4 v5 v6 s0 s1
      have hz := HZ7.out
      rcases hz with rfl | rfl | rfl | rfl | rfl | rfl | rfl
      all_goals
        go_wp2_with fail
        ((with_reducible refine (HB7.out _).mono ?_); rintro e w6 ⟨rfl, rfl⟩)
        go_wp2_with fail
        go_meet
      all_goals first
        | exact Lib.hid ⟨cs, ks, ⟨xi, ⟨#[]⟩, xk, xu, ⟨xa, xb, xc⟩⟩, _, _, HS1.out.col 1 _ ⟨xi, ⟨#[]⟩, xk, xu, ⟨xa, xb, xc⟩⟩ rfl, .inl ⟨rfl, Sc.ck_no (.inl (Sc.spoilt_name hk (by show Sc.name (bl ⟨#[]⟩) = false; decide))), ⟨HKO.out.id, HKO.out.k, by show (⟨#[]⟩ : ByteArray).size ≤ 1000000; decide, HKO.out.n, HKO.out.s⟩, fun x hx => HM.out.ki x hx⟩⟩
        | exact Lib.hid ⟨cs, ks, ⟨xi, ⟨#[65]⟩, xk, xu, ⟨xa, xb, xc⟩⟩, _, _, HS1.out.col 1 _ ⟨xi, ⟨#[65]⟩, xk, xu, ⟨xa, xb, xc⟩⟩ rfl, .inl ⟨rfl, Sc.ck_no (.inl (Sc.spoilt_name hk (by show Sc.name (bl ⟨#[65]⟩) = false; decide))), ⟨HKO.out.id, HKO.out.k, by show (⟨#[65]⟩ : ByteArray).size ≤ 1000000; decide, HKO.out.n, HKO.out.s⟩, fun x hx => HM.out.ki x hx⟩⟩
        | exact Lib.hid ⟨cs, ks, ⟨xi, ⟨#[49]⟩, xk, xu, ⟨xa, xb, xc⟩⟩, _, _, HS1.out.col 1 _ ⟨xi, ⟨#[49]⟩, xk, xu, ⟨xa, xb, xc⟩⟩ rfl, .inl ⟨rfl, Sc.ck_no (.inl (Sc.spoilt_name hk (by show Sc.name (bl ⟨#[49]⟩) = false; decide))), ⟨HKO.out.id, HKO.out.k, by show (⟨#[49]⟩ : ByteArray).size ≤ 1000000; decide, HKO.out.n, HKO.out.s⟩, fun x hx => HM.out.ki x hx⟩⟩
        | exact Lib.hid ⟨cs, ks, ⟨xi, ⟨#[97, 32, 98]⟩, xk, xu, ⟨xa, xb, xc⟩⟩, _, _, HS1.out.col 1 _ ⟨xi, ⟨#[97, 32, 98]⟩, xk, xu, ⟨xa, xb, xc⟩⟩ rfl, .inl ⟨rfl, Sc.ck_no (.inl (Sc.spoilt_name hk (by show Sc.name (bl ⟨#[97, 32, 98]⟩) = false; decide))), ⟨HKO.out.id, HKO.out.k, by show (⟨#[97, 32, 98]⟩ : ByteArray).size ≤ 1000000; decide, HKO.out.n, HKO.out.s⟩, fun x hx => HM.out.ki x hx⟩⟩
        | exact Lib.hid ⟨cs, ks, ⟨xi, ⟨#[95, 97]⟩, xk, xu, ⟨xa, xb, xc⟩⟩, _, _, HS1.out.col 1 _ ⟨xi, ⟨#[95, 97]⟩, xk, xu, ⟨xa, xb, xc⟩⟩ rfl, .inl ⟨rfl, Sc.ck_no (.inl (Sc.spoilt_name hk (by show Sc.name (bl ⟨#[95, 97]⟩) = false; decide))), ⟨HKO.out.id, HKO.out.k, by show (⟨#[95, 97]⟩ : ByteArray).size ≤ 1000000; decide, HKO.out.n, HKO.out.s⟩, fun x hx => HM.out.ki x hx⟩⟩
        | exact Lib.hid ⟨cs, ks, ⟨xi, ⟨#[97, 10]⟩, xk, xu, ⟨xa, xb, xc⟩⟩, _, _, HS1.out.col 1 _ ⟨xi, ⟨#[97, 10]⟩, xk, xu, ⟨xa, xb, xc⟩⟩ rfl, .inl ⟨rfl, Sc.ck_no (.inl (Sc.spoilt_name hk (by show Sc.name (bl ⟨#[97, 10]⟩) = false; decide))), ⟨HKO.out.id, HKO.out.k, by show (⟨#[97, 10]⟩ : ByteArray).size ≤ 1000000; decide, HKO.out.n, HKO.out.s⟩, fun x hx => HM.out.ki x hx⟩⟩
        | exact Lib.hid ⟨cs, ks, ⟨xi, ⟨#[97, 98, 99, 100, 101, 102, 103, 104, 105, 106, 107, 108, 109, 110, 111, 112, 113, 114, 115, 116, 117, 118, 119, 120, 121, 122, 97, 98, 99, 100, 101, 102, 103]⟩, xk, xu, ⟨xa, xb, xc⟩⟩, _, _, HS1.out.col 1 _ ⟨xi, ⟨#[97, 98, 99, 100, 101, 102, 103, 104, 105, 106, 107, 108, 109, 110, 111, 112, 113, 114, 115, 116, 117, 118, 119, 120, 121, 122, 97, 98, 99, 100, 101, 102, 103]⟩, xk, xu, ⟨xa, xb, xc⟩⟩ rfl, .inl ⟨rfl, Sc.ck_no (.inl (Sc.spoilt_name hk (by show Sc.name (bl ⟨#[97, 98, 99, 100, 101, 102, 103, 104, 105, 106, 107, 108, 109, 110, 111, 112, 113, 114, 115, 116, 117, 118, 119, 120, 121, 122, 97, 98, 99, 100, 101, 102, 103]⟩) = false; decide))), ⟨HKO.out.id, HKO.out.k, by show (⟨#[97, 98, 99, 100, 101, 102, 103, 104, 105, 106, 107, 108, 109, 110, 111, 112, 113, 114, 115, 116, 117, 118, 119, 120, 121, 122, 97, 98, 99, 100, 101, 102, 103]⟩ : ByteArray).size ≤ 1000000; decide, HKO.out.n, HKO.out.s⟩, fun x hx => HM.out.ki x hx⟩⟩
    · skip
      have v0 := HSB.out.cb.cell 0
      have v1 := HSB.out.cb.cell 1
      have v2 := HSB.out.cb.cell 2
      have v3 := HSB.out.cb.cell 3
      have v4 := HSB.out.cb.cell 4
      have v5 := HSB.out.cb.cell 5
      have v6 := HSB.out.cb.cell 6
      have f0 := HSB.out.cb.frozen 0
      have f1 := HSB.out.cb.frozen 1
      have f2 := HSB.out.cb.frozen 2
      have f3 := HSB.out.cb.frozen 3
      have f4 := HSB.out.cb.frozen 4
      have f5 := HSB.out.cb.frozen 5
      have f6 := HSB.out.cb.frozen 6
      have s0 := HSB.out.s.cell 0
      have s1 := HSB.out.s.cell 1
      have sf0 := HSB.out.s.frozen 0
      have sf1 := HSB.out.s.frozen 1
      simp only [List.getElem?_cons_succ, List.getElem?_cons_zero] at v0 v1 v2 v3 v4 v5 v6 s0 s1
      obtain ⟨nx, hnx⟩ : ∃ nx, (k + 1) % cs.length = nx := ⟨_, rfl⟩
      have hnl : nx < cs.length := by rw [← hnx]; exact Nat.mod_lt _ (by omega)
      have hr2 : ((k : Int) + 1) % (cs.length : Int) = (nx : Nat) := by rw [← hnx]; push_cast; rfl
      have hr1 : ((k : Int) + 1).tmod (cs.length : Int) = (nx : Nat) := by rw [Int.tmod_eq_emod_of_nonneg (by omega)]; exact hr2
      obtain ⟨d, hd⟩ : ∃ d, cs[nx]? = some d := ⟨_, List.getElem?_eq_getElem hnl⟩
      have HD := Lib.hid (show cs[(k + 1) % cs.length]? = some d by rw [hnx]; exact hd)
      have HKD := Lib.hid (HM.out.ko d (List.mem_of_getElem? hd))
      obtain ⟨gb', off', hgo, p0, p1, p2, p3, p4, p5, p6⟩ := rdK_cells (RdK.of HSB.out.oc) (Below.refl _ _) hd
      injection hgo with hgo
      injection hgo with hg1 hg2 _
      subst hg1 hg2
      have hl0 : (cs.length : Int) ≠ 0 := by omega
      have hnl1 : (nx : Int) < cs.length := by omega
      obtain ⟨di, dm, dk, du, ⟨da, db, dc⟩⟩ := d
      simp only at p0 p1
      have hgne : gb ≠ gc := fun e => HSB.out.nc.2 (by rw [e]; rfl)
      clear hnx hd p2 p3 p4 p5 p6
      by_cases h1 : cs.length = 1
      · have h11 : (cs.length : Int) = 1 := by omega
        have hn0 : nx = 0 := by omega
        subst hn0
        simp only [Nat.zero_mul, Nat.add_zero] at p0 p1
        go_upto_region 16 with fail
        go_region
        all_goals
          go_wp2_with fail
          go_meet
          exact Lib.hid ⟨cs, ks, ⟨xi, ⟨#[]⟩, xk, xu, ⟨xa, xb, xc⟩⟩, _, _, ((HSB.out.col 1 (.string dm) ⟨xi, dm, xk, xu, ⟨xa, xb, xc⟩⟩ rfl).later (Below.refl _ _).drew).col 1 _ ⟨xi, ⟨#[]⟩, xk, xu, ⟨xa, xb, xc⟩⟩ rfl, .inl ⟨rfl, Sc.ck_no (.inl (Sc.spoilt_name hk (by show Sc.name (bl ⟨#[]⟩) = false; decide))), ⟨HKO.out.id, HKO.out.k, by show (⟨#[]⟩ : ByteArray).size ≤ 1000000; decide, HKO.out.n, HKO.out.s⟩, fun x hx => HM.out.ki x hx⟩⟩
      · have h11 : ¬ (cs.length : Int) = 1 := by omega
        go_upto_region 16 with fail
        go_region
        all_goals
          go_wp2_with fail
          go_meet
          exact Lib.hid ⟨cs, ks, ⟨xi, dm, xk, xu, ⟨xa, xb, xc⟩⟩, _, _, (HSB.out.col 1 _ ⟨xi, dm, xk, xu, ⟨xa, xb, xc⟩⟩ rfl).later (Below.refl _ _).drew, .inl ⟨rfl, Sc.ck_no (.inl (Sc.spoilt_names hk h1 HD.out rfl)), ⟨HKO.out.id, HKO.out.k, HKD.out.nm, HKO.out.n, HKO.out.s⟩, fun x hx => HM.out.ki x hx⟩⟩
    · skip
      obtain ⟨W1, HW1⟩ : ∃ W1, w5.alloc (.cells #[.int .i64 0, .int .i64 6, .int .i64 (-1), .int .i64 9223372036854775807] 3) = W1 := ⟨_, rfl⟩
      have HS1 := HSB.out.later (box_new w5 (.cells #[.int .i64 0, .int .i64 6, .int .i64 (-1), .int .i64 9223372036854775807] 3))
      have HL1 := Blk.new w5 3 #[.int .i64 0, .int .i64 6, .int .i64 (-1), .int .i64 9223372036854775807]
      rw [HW1] at HS1 HL1
      have HS1 := Lib.hid HS1
      have l0 := HL1.cell 0
      have l1 := HL1.cell 1
      have l2 := HL1.cell 2
      have l3 := HL1.cell 3
      simp only [List.getElem?_cons_succ, List.getElem?_cons_zero] at l0 l1 l2 l3
      clear HL1
      have v0 := HS1.out.cb.cell 0
      have v1 := HS1.out.cb.cell 1
      have v2 := HS1.out.cb.cell 2
      have v3 := HS1.out.cb.cell 3
      have v4 := HS1.out.cb.cell 4
      have v5 := HS1.out.cb.cell 5
      have v6 := HS1.out.cb.cell 6
      have f0 := HS1.out.cb.frozen 0
      have f1 := HS1.out.cb.frozen 1
      have f2 := HS1.out.cb.frozen 2
      have f3 := HS1.out.cb.frozen 3
      have f4 := HS1.out.cb.frozen 4
      have f5 := HS1.out.cb.frozen 5
      have f6 := HS1.out.cb.frozen 6
      have s0 := HS1.out.s.cell 0
      have s1 := HS1.out.s.cell 1
      have sf0 := HS1.out.s.frozen 0
      have sf1 := HS1.out.s.frozen 1
      simp only [List.getElem?_cons_succ, List.getElem?_cons_zero] at v0 v1 v2 v3 v4 v5 v6 s0 s1
      have hz := HZ4.out
      rcases hz with rfl | rfl | rfl | rfl
      all_goals
        go_wp2_with fail
        ((with_reducible refine (HB4.out _).mono ?_); rintro e w6 ⟨rfl, rfl⟩)
        go_wp2_with fail
        go_meet
      all_goals first
        | exact Lib.hid ⟨cs, ks, ⟨xi, xm, 0, xu, ⟨xa, xb, xc⟩⟩, _, _, HS1.out.col 2 _ ⟨xi, xm, 0, xu, ⟨xa, xb, xc⟩⟩ rfl, .inl ⟨rfl, Sc.ck_no (.inl (Sc.spoilt_chk hk (Sc.spoilt_kind (by show Cl.may (0) = false; decide)))), ⟨HKO.out.id, ⟨by show (-9223372036854775808 : Int) ≤ 0; decide, by show (0 : Int) ≤ 9223372036854775807; decide⟩, HKO.out.nm, HKO.out.n, HKO.out.s⟩, fun x hx => HM.out.ki x hx⟩⟩
        | exact Lib.hid ⟨cs, ks, ⟨xi, xm, 6, xu, ⟨xa, xb, xc⟩⟩, _, _, HS1.out.col 2 _ ⟨xi, xm, 6, xu, ⟨xa, xb, xc⟩⟩ rfl, .inl ⟨rfl, Sc.ck_no (.inl (Sc.spoilt_chk hk (Sc.spoilt_kind (by show Cl.may (6) = false; decide)))), ⟨HKO.out.id, ⟨by show (-9223372036854775808 : Int) ≤ 6; decide, by show (6 : Int) ≤ 9223372036854775807; decide⟩, HKO.out.nm, HKO.out.n, HKO.out.s⟩, fun x hx => HM.out.ki x hx⟩⟩
        | exact Lib.hid ⟨cs, ks, ⟨xi, xm, -1, xu, ⟨xa, xb, xc⟩⟩, _, _, HS1.out.col 2 _ ⟨xi, xm, -1, xu, ⟨xa, xb, xc⟩⟩ rfl, .inl ⟨rfl, Sc.ck_no (.inl (Sc.spoilt_chk hk (Sc.spoilt_kind (by show Cl.may (-1) = false; decide)))), ⟨HKO.out.id, ⟨by show (-9223372036854775808 : Int) ≤ -1; decide, by show (-1 : Int) ≤ 9223372036854775807; decide⟩, HKO.out.nm, HKO.out.n, HKO.out.s⟩, fun x hx => HM.out.ki x hx⟩⟩
        | exact Lib.hid ⟨cs, ks, ⟨xi, xm, 9223372036854775807, xu, ⟨xa, xb, xc⟩⟩, _, _, HS1.out.col 2 _ ⟨xi, xm, 9223372036854775807, xu, ⟨xa, xb, xc⟩⟩ rfl, .inl ⟨rfl, Sc.ck_no (.inl (Sc.spoilt_chk hk (Sc.spoilt_kind (by show Cl.may (9223372036854775807) = false; decide)))), ⟨HKO.out.id, ⟨by show (-9223372036854775808 : Int) ≤ 9223372036854775807; decide, by show (9223372036854775807 : Int) ≤ 9223372036854775807; decide⟩, HKO.out.nm, HKO.out.n, HKO.out.s⟩, fun x hx => HM.out.ki x hx⟩⟩
    · skip
      have v0 := HSB.out.cb.cell 0
      have v1 := HSB.out.cb.cell 1
      have v2 := HSB.out.cb.cell 2
      have v3 := HSB.out.cb.cell 3
      have v4 := HSB.out.cb.cell 4
      have v5 := HSB.out.cb.cell 5
      have v6 := HSB.out.cb.cell 6
      have f0 := HSB.out.cb.frozen 0
      have f1 := HSB.out.cb.frozen 1
      have f2 := HSB.out.cb.frozen 2
      have f3 := HSB.out.cb.frozen 3
      have f4 := HSB.out.cb.frozen 4
      have f5 := HSB.out.cb.frozen 5
      have f6 := HSB.out.cb.frozen 6
      have s0 := HSB.out.s.cell 0
      have s1 := HSB.out.s.cell 1
      have sf0 := HSB.out.s.frozen 0
      have sf1 := HSB.out.s.frozen 1
      simp only [List.getElem?_cons_succ, List.getElem?_cons_zero] at v0 v1 v2 v3 v4 v5 v6 s0 s1
      go_wp2_with fail
      go_meet
      exact Lib.hid ⟨cs, ks, ⟨xi, xm, xk, xu, ⟨false, 5, ⟨#[120]⟩⟩⟩, _, _, ((HSB.out.col 4 (.bool false) ⟨xi, xm, xk, xu, ⟨false, xb, xc⟩⟩ rfl).col 5 (.int .i64 5) ⟨xi, xm, xk, xu, ⟨false, 5, xc⟩⟩ rfl).col 6 (.string ⟨#[120]⟩) ⟨xi, xm, xk, xu, ⟨false, 5, ⟨#[120]⟩⟩⟩ rfl, .inl ⟨rfl, Sc.ck_no (.inl (Sc.spoilt_chk hk (Sc.spoilt_five _ _))), ⟨HKO.out.id, HKO.out.k, HKO.out.nm, ⟨by show (-9223372036854775808 : Int) ≤ 5; decide, by show (5 : Int) ≤ 9223372036854775807; decide⟩, by show (⟨#[120]⟩ : ByteArray).size ≤ 1000000; decide⟩, fun x hx => HM.out.ki x hx⟩⟩
    · skip
      have v0 := HSB.out.cb.cell 0
      have v1 := HSB.out.cb.cell 1
      have v2 := HSB.out.cb.cell 2
      have v3 := HSB.out.cb.cell 3
      have v4 := HSB.out.cb.cell 4
      have v5 := HSB.out.cb.cell 5
      have v6 := HSB.out.cb.cell 6
      have f0 := HSB.out.cb.frozen 0
      have f1 := HSB.out.cb.frozen 1
      have f2 := HSB.out.cb.frozen 2
      have f3 := HSB.out.cb.frozen 3
      have f4 := HSB.out.cb.frozen 4
      have f5 := HSB.out.cb.frozen 5
      have f6 := HSB.out.cb.frozen 6
      have s0 := HSB.out.s.cell 0
      have s1 := HSB.out.s.cell 1
      have sf0 := HSB.out.s.frozen 0
      have sf1 := HSB.out.s.frozen 1
      simp only [List.getElem?_cons_succ, List.getElem?_cons_zero] at v0 v1 v2 v3 v4 v5 v6 s0 s1
      go_wp2_with fail
      go_meet
      exact Lib.hid ⟨cs, ks, ⟨xi, xm, xk, false, ⟨true, 0, ⟨#[]⟩⟩⟩, _, _, (((HSB.out.col 3 (.bool false) ⟨xi, xm, xk, false, ⟨xa, xb, xc⟩⟩ rfl).col 4 (.bool true) ⟨xi, xm, xk, false, ⟨true, xb, xc⟩⟩ rfl).col 5 (.int .i64 0) ⟨xi, xm, xk, false, ⟨true, 0, xc⟩⟩ rfl).col 6 (.string ⟨#[]⟩) ⟨xi, xm, xk, false, ⟨true, 0, ⟨#[]⟩⟩⟩ rfl, .inl ⟨rfl, Sc.ck_no (.inl (Sc.spoilt_chk hk (Sc.spoilt_null _))), ⟨HKO.out.id, HKO.out.k, HKO.out.nm, ⟨by show (-9223372036854775808 : Int) ≤ 0; decide, by show (0 : Int) ≤ 9223372036854775807; decide⟩, by show (⟨#[]⟩ : ByteArray).size ≤ 1000000; decide⟩, fun x hx => HM.out.ki x hx⟩⟩
    · skip
      have v0 := HSB.out.cb.cell 0
      have v1 := HSB.out.cb.cell 1
      have v2 := HSB.out.cb.cell 2
      have v3 := HSB.out.cb.cell 3
      have v4 := HSB.out.cb.cell 4
      have v5 := HSB.out.cb.cell 5
      have v6 := HSB.out.cb.cell 6
      have f0 := HSB.out.cb.frozen 0
      have f1 := HSB.out.cb.frozen 1
      have f2 := HSB.out.cb.frozen 2
      have f3 := HSB.out.cb.frozen 3
      have f4 := HSB.out.cb.frozen 4
      have f5 := HSB.out.cb.frozen 5
      have f6 := HSB.out.cb.frozen 6
      have s0 := HSB.out.s.cell 0
      have s1 := HSB.out.s.cell 1
      have sf0 := HSB.out.s.frozen 0
      have sf1 := HSB.out.s.frozen 1
      simp only [List.getElem?_cons_succ, List.getElem?_cons_zero] at v0 v1 v2 v3 v4 v5 v6 s0 s1
      have HSb := Lib.hid (HSB.out.later (box_new w5 (.cells #[.int .i64 (cs.length : Nat)] 3)))
      have HRI := Lib.hid (rd_one 3 inL w5 (cs.length : Int) #[.int .i64 (cs.length : Nat)] rfl)
      have HNK : Hid (ks.length + ([(cs.length : Int)] : List Int).length ≤ 100000000) := Lib.hid (by have := (Sc.okK_iff.1 HM.out.kk).1; simp; omega)
      have HSZ := Lib.hid HSb.out.fresh.2.2
      go_wp2_with (at_builtin
                   refine Gn.wpList_app inL inY rfl (.tmp 104) (.tmp 108) rfl w0.heap.size (.slice ka ks.length kc) ks rfl HSb.out.ok _ [(cs.length : Int)] rfl HRI.out HNK.out HSZ.out ?_
                   intro va1 wa1 ho1 hg1 hl1 hn1
                   obtain ⟨va, vc1, hv1, _⟩ := Gn.Rd.form (RdI.of ho1)
                   rw [show (ks ++ [(cs.length : Int)]).length = ks.length + 1 by simp] at hv1
                   subst hv1
                   have HA := Lib.hid (HSb.out.appk ho1 hg1 hl1)
                   have q0 := HA.out.2.cell 0
                   have q1 := HA.out.2.cell 1
                   have q2 := HA.out.2.frozen 0
                   have q3 := HA.out.2.frozen 1
                   simp only [List.getElem?_cons_succ, List.getElem?_cons_zero] at q0 q1
                   clear ho1 hg1 hl1 hn1)
      go_meet
      exact Lib.hid ⟨cs, (ks ++ [(cs.length : Int)]), ⟨xi, xm, xk, xu, ⟨xa, xb, xc⟩⟩, _, _, HA.out.1, .inl ⟨rfl, Sc.ck_set7 _ _ _ _, HKO.out, fun x hx => by
        rcases List.mem_append.1 hx with hx | hx
        · exact HM.out.ki x hx
        · simp at hx; subst hx; constructor <;> omega⟩⟩
    · skip
      have v0 := HSB.out.cb.cell 0
      have v1 := HSB.out.cb.cell 1
      have v2 := HSB.out.cb.cell 2
      have v3 := HSB.out.cb.cell 3
      have v4 := HSB.out.cb.cell 4
      have v5 := HSB.out.cb.cell 5
      have v6 := HSB.out.cb.cell 6
      have f0 := HSB.out.cb.frozen 0
      have f1 := HSB.out.cb.frozen 1
      have f2 := HSB.out.cb.frozen 2
      have f3 := HSB.out.cb.frozen 3
      have f4 := HSB.out.cb.frozen 4
      have f5 := HSB.out.cb.frozen 5
      have f6 := HSB.out.cb.frozen 6
      have s0 := HSB.out.s.cell 0
      have s1 := HSB.out.s.cell 1
      have sf0 := HSB.out.s.frozen 0
      have sf1 := HSB.out.s.frozen 1
      simp only [List.getElem?_cons_succ, List.getElem?_cons_zero] at v0 v1 v2 v3 v4 v5 v6 s0 s1
      have HSb := Lib.hid (HSB.out.later (box_new w5 (.cells #[.int .i64 (-1)] 3)))
      have HOL : Hid (OwnI (w5.alloc (.cells #[.int .i64 (-1)] 3)) w0.heap.size (.slice (some ⟨w5.heap.size, 0, none⟩) 1 1) [(-1 : Int)]) := Lib.hid (Gn.Own.lit inL w5 w0.heap.size [(-1 : Int)] _ 1 1 rfl rfl rfl (by simp [maxLen]) HSB.out.fresh.2.2)
      have HRI := Lib.hid (RdI.of HSb.out.ok)
      have HNK : Hid (([(-1 : Int)] : List Int).length + ks.length ≤ 100000000) := Lib.hid (by have := (Sc.okK_iff.1 HM.out.kk).1; simp; omega)
      have HSZ := Lib.hid HSb.out.fresh.2.2
      obtain ⟨W1, HW1⟩ : ∃ W1, w5.alloc (.cells #[.int .i64 (-1)] 3) = W1 := ⟨_, rfl⟩
      rw [HW1] at HSb HOL HRI HSZ
      have t0 := HSb.out.s.cell 0
      have t1 := HSb.out.s.cell 1
      simp only [List.getElem?_cons_succ, List.getElem?_cons_zero] at t0 t1
      go_wp2_with (at_builtin
                   refine Gn.wpList_app inL inY rfl (.tmp 113) (.tmp 115) rfl w0.heap.size (.slice (some ⟨w5.heap.size, 0, none⟩) 1 1) [(-1 : Int)] rfl HOL.out (.slice ka ks.length kc) ks rfl HRI.out HNK.out HSZ.out ?_
                   intro va1 wa1 ho1 hg1 hl1 hn1
                   obtain ⟨va, vc1, hv1, hsb, hbk⟩ := SB.app8 HSB.out HSb.out ho1 hg1 hl1
                   rw [show ([(-1 : Int)] ++ ks).length = ks.length + 1 by simp] at hv1
                   subst hv1
                   have HA := Lib.hid hsb
                   have HBK8 := Lib.hid hbk
                   have q0 := HBK8.out.cell 0
                   have q1 := HBK8.out.cell 1
                   have q2 := HBK8.out.frozen 0
                   have q3 := HBK8.out.frozen 1
                   simp only [List.getElem?_cons_succ, List.getElem?_cons_zero] at q0 q1
                   clear ho1 hg1 hl1 hn1 hsb hbk)
      go_meet
      exact Lib.hid ⟨cs, (-1 :: ks), ⟨xi, xm, xk, xu, ⟨xa, xb, xc⟩⟩, _, _, HA.out, .inl ⟨rfl, Sc.ck_no (.inr (Sc.spoilt_k8 _ _)), HKO.out, fun x hx => by
        rcases List.mem_cons.1 hx with rfl | hx
        · constructor <;> decide
        · exact HM.out.ki x hx⟩⟩
    · skip
      have v0 := HSB.out.cb.cell 0
      have v1 := HSB.out.cb.cell 1
      have v2 := HSB.out.cb.cell 2
      have v3 := HSB.out.cb.cell 3
      have v4 := HSB.out.cb.cell 4
      have v5 := HSB.out.cb.cell 5
      have v6 := HSB.out.cb.cell 6
      have f0 := HSB.out.cb.frozen 0
      have f1 := HSB.out.cb.frozen 1
      have f2 := HSB.out.cb.frozen 2
      have f3 := HSB.out.cb.frozen 3
      have f4 := HSB.out.cb.frozen 4
      have f5 := HSB.out.cb.frozen 5
      have f6 := HSB.out.cb.frozen 6
      have s0 := HSB.out.s.cell 0
      have s1 := HSB.out.s.cell 1
      have sf0 := HSB.out.s.frozen 0
      have sf1 := HSB.out.s.frozen 1
      simp only [List.getElem?_cons_succ, List.getElem?_cons_zero] at v0 v1 v2 v3 v4 v5 v6 s0 s1
      have HSb := Lib.hid (HSB.out.later (box_new w5 (.cells #[.int .i64 (k : Nat), .int .i64 (k : Nat)] 3)))
      have HOL : Hid (OwnI (w5.alloc (.cells #[.int .i64 (k : Nat), .int .i64 (k : Nat)] 3)) w0.heap.size (.slice (some ⟨w5.heap.size, 0, none⟩) 2 2) [(k : Int), (k : Int)]) := Lib.hid (Gn.Own.lit inL w5 w0.heap.size [(k : Int), (k : Int)] _ 2 2 rfl rfl rfl (by simp [maxLen]) HSB.out.fresh.2.2)
      have HA := Lib.hid (HSb.out.keys HOL.out (own_new HSB.out 2 2))
      obtain ⟨W1, HW1⟩ : ∃ W1, w5.alloc (.cells #[.int .i64 (k : Nat), .int .i64 (k : Nat)] 3) = W1 := ⟨_, rfl⟩
      rw [HW1] at HSb HA
      have q0 := HSb.out.s.cell 0
      have q1 := HSb.out.s.cell 1
      have q2 := HSb.out.s.frozen 0
      have q3 := HSb.out.s.frozen 1
      simp only [List.getElem?_cons_succ, List.getElem?_cons_zero] at q0 q1
      clear HOL
      go_wp2_with fail
      go_meet
      exact Lib.hid ⟨cs, [(k : Int), (k : Int)], ⟨xi, xm, xk, xu, ⟨xa, xb, xc⟩⟩, _, _, HA.out, .inl ⟨rfl, Sc.ck_no (.inr (Sc.spoilt_k9 _ _)), HKO.out, fun x hx => by
        simp at hx
        subst hx; constructor <;> omega⟩⟩
    · skip
      have v0 := HSB.out.cb.cell 0
      have v1 := HSB.out.cb.cell 1
      have v2 := HSB.out.cb.cell 2
      have v3 := HSB.out.cb.cell 3
      have v4 := HSB.out.cb.cell 4
      have v5 := HSB.out.cb.cell 5
      have v6 := HSB.out.cb.cell 6
      have f0 := HSB.out.cb.frozen 0
      have f1 := HSB.out.cb.frozen 1
      have f2 := HSB.out.cb.frozen 2
      have f3 := HSB.out.cb.frozen 3
      have f4 := HSB.out.cb.frozen 4
      have f5 := HSB.out.cb.frozen 5
      have f6 := HSB.out.cb.frozen 6
      have s0 := HSB.out.s.cell 0
      have s1 := HSB.out.s.cell 1
      have sf0 := HSB.out.s.frozen 0
      have sf1 := HSB.out.s.frozen 1
      simp only [List.getElem?_cons_succ, List.getElem?_cons_zero] at v0 v1 v2 v3 v4 v5 v6 s0 s1
      have HSa := Lib.hid (HSB.out.col 3 (.bool true) ⟨xi, xm, xk, true, ⟨xa, xb, xc⟩⟩ rfl)
      obtain ⟨W0, HW0⟩ : ∃ W0, w5.setCell ⟨gc, 3, none⟩ (.bool true) = W0 := ⟨_, rfl⟩
      rw [HW0] at HSa
      have HSb := Lib.hid (HSa.out.later (box_new W0 (.cells #[.int .i64 (k : Nat)] 3)))
      have HOL : Hid (OwnI (W0.alloc (.cells #[.int .i64 (k : Nat)] 3)) w0.heap.size (.slice (some ⟨W0.heap.size, 0, none⟩) 1 1) [(k : Int)]) := Lib.hid (Gn.Own.lit inL W0 w0.heap.size [(k : Int)] _ 1 1 rfl rfl rfl (by simp [maxLen]) HSa.out.fresh.2.2)
      have HA := Lib.hid (HSb.out.keys HOL.out (own_new HSa.out 1 1))
      obtain ⟨W1, HW1⟩ : ∃ W1, W0.alloc (.cells #[.int .i64 (k : Nat)] 3) = W1 := ⟨_, rfl⟩
      rw [HW1] at HSb HA
      have q0 := HSb.out.s.cell 0
      have q1 := HSb.out.s.cell 1
      have q2 := HSb.out.s.frozen 0
      have q3 := HSb.out.s.frozen 1
      simp only [List.getElem?_cons_succ, List.getElem?_cons_zero] at q0 q1
      clear HOL
      go_wp2_with fail
      go_meet
      exact Lib.hid ⟨cs, [(k : Int)], ⟨xi, xm, xk, true, ⟨xa, xb, xc⟩⟩, _, _, HA.out, .inl ⟨rfl, Sc.ck_no (.inr (Sc.spoilt_k10 hk rfl)), ⟨HKO.out.id, HKO.out.k, HKO.out.nm, HKO.out.n, HKO.out.s⟩, fun x hx => by
        simp at hx
        subst hx; constructor <;> omega⟩⟩
    · skip
      have v0 := HSB.out.cb.cell 0
      have v1 := HSB.out.cb.cell 1
      have v2 := HSB.out.cb.cell 2
      have v3 := HSB.out.cb.cell 3
      have v4 := HSB.out.cb.cell 4
      have v5 := HSB.out.cb.cell 5
      have v6 := HSB.out.cb.cell 6
      have f0 := HSB.out.cb.frozen 0
      have f1 := HSB.out.cb.frozen 1
      have f2 := HSB.out.cb.frozen 2
      have f3 := HSB.out.cb.frozen 3
      have f4 := HSB.out.cb.frozen 4
      have f5 := HSB.out.cb.frozen 5
      have f6 := HSB.out.cb.frozen 6
      have s0 := HSB.out.s.cell 0
      have s1 := HSB.out.s.cell 1
      have sf0 := HSB.out.s.frozen 0
      have sf1 := HSB.out.s.frozen 1
      simp only [List.getElem?_cons_succ, List.getElem?_cons_zero] at v0 v1 v2 v3 v4 v5 v6 s0 s1
      go_wp2_with fail
      go_meet
      exact Lib.hid ⟨[], [], ⟨xi, xm, xk, xu, ⟨xa, xb, xc⟩⟩, _, _, (HSB.out.cols (Gn.Own.nil _ _) ⟨(by intro e; cases e), (by intro e; cases e)⟩).keys (Gn.Own.nil _ _) ⟨(by intro e; cases e), (by intro e; cases e)⟩, .inr ⟨rfl, rfl⟩⟩
  case rest =>
  obtain ⟨cs1, ks1, c1, cv1, kv1, hsb, hor⟩ := hcut.out
  clear hcut HSB HKO HCX HAT HWH HB5 HB7 HB4 HZ5 HZ7 HZ4
  obtain ⟨ya, yc, rfl, _⟩ := Gn.Rd.form (RdK.of hsb.oc)
  obtain ⟨za, zc, rfl, _⟩ := Gn.Rd.form (RdI.of hsb.ok)
  have HSB := Lib.hid hsb
  have s0 := hsb.s.cell 0
  have s1 := hsb.s.cell 1
  simp only [List.getElem?_cons_succ, List.getElem?_cons_zero] at s0 s1
  clear hsb
  have q2 : ((2 : Int) == 2) = true := by decide
  rcases hor with ⟨rfl, hck, hko1, hki1⟩ | ⟨rfl, rfl⟩
  · have hpos : (0 : Int) < cs1.length := by omega
    have hform : ∃ q, ya = some ⟨q, 0, none⟩ := by
      rcases HSB.out.oc.2 with ⟨h1, _⟩ | ⟨q, cap, cur, h1, _⟩
      · injection h1 with _ h2 _; omega
      · injection h1 with h2 _ _; exact ⟨q, h2⟩
    obtain ⟨gy, rfl⟩ := hform
    have hk1 : (k : Int) < cs1.length := by omega
    have HKM : Hid (∀ x ∈ cs1.set k c1, KOk x) := Lib.hid (fun x hx => by
      rcases List.mem_or_eq_of_mem_set hx with h | h
      · exact HM.out.ko x h
      · rw [h]; exact hko1)
    have HPT := Lib.hid (HSB.out.put rfl hk c1)
    have HCK := Lib.hid hck
    have HKI := Lib.hid hki1
    have hth := own_there7 HSB.out.oc rfl hk
    obtain ⟨y, hy⟩ : ∃ y, cs1[k]? = some y := ⟨_, List.getElem?_eq_getElem hk⟩
    obtain ⟨gb', off', hgo, p0, p1, p2, p3, p4, p5, p6⟩ := rdK_cells (RdK.of HSB.out.oc) (Below.refl _ _) hy
    injection hgo with hgo
    injection hgo with hg1 hg2 _
    subst hg1 hg2
    simp only [Nat.zero_add] at p0 p1 p2 p3 p4 p5 p6
    have q0 := (hth 0 (by omega)).2
    have q1 := (hth 1 (by omega)).2
    have q2' := (hth 2 (by omega)).2
    have q3 := (hth 3 (by omega)).2
    have q4 := (hth 4 (by omega)).2
    have q5 := (hth 5 (by omega)).2
    have q6 := (hth 6 (by omega)).2
    simp only [Nat.add_zero] at q0
    have v0 := HSB.out.cb.cell 0
    have v1 := HSB.out.cb.cell 1
    have v2 := HSB.out.cb.cell 2
    have v3 := HSB.out.cb.cell 3
    have v4 := HSB.out.cb.cell 4
    have v5 := HSB.out.cb.cell 5
    have v6 := HSB.out.cb.cell 6
    simp only [List.getElem?_cons_succ, List.getElem?_cons_zero] at v0 v1 v2 v3 v4 v5 v6
    clear hth hy hck hki1 hko1
    go_upto_region 37 with fail
    have HPS := Lib.hid HPT.out
    have hw9 : ∃ w9, w9 = put7W wc gy (k * 7) c1 := ⟨_, rfl⟩
    obtain ⟨w9, hw9⟩ := hw9
    unfold put7W at hw9
    rw [← hw9]
    have HP9 : Hid (SB w w0.heap.size g gc (cs1.set k c1) ks1 c1 (.slice (some ⟨gy, 0, none⟩) cs1.length yc) (.slice za ks1.length zc) w9) := Lib.hid (by rw [hw9]; exact HPT.out)
    clear hw9 HPT HPS v0 v1 v2 v3 v4 v5 v6 p0 p1 p2 p3 p4 p5 p6 q0 q1 q2' q3 q4 q5 q6 s0 s1
    have s0 := HP9.out.s.cell 0
    have s1 := HP9.out.s.cell 1
    simp only [List.getElem?_cons_succ, List.getElem?_cons_zero] at s0 s1
    have HBW := Lib.hid HP9.out.b
    have CT := Lib.hid (cTextS _ _ _ ks1 w9 (HT.out.later HBW.out) (RdK.of HP9.out.oc) (RdI.of HP9.out.ok) HKM.out HKI.out 2 HCK.out ⟨#[]⟩ rfl)
    have CK := Lib.hid (fun w1 (T1 : TA w1) (g1 : RdK w1 w1.heap.size (.slice (some ⟨gy, 0, none⟩) cs1.length yc) (cs1.set k c1)) (g2 : RdI w1 w1.heap.size (.slice za ks1.length zc) ks1) => cCheckS _ _ _ ks1 w1 T1 g1 g2 HKM.out HKI.out 2 HCK.out)
    go_wp2_with fail
    ((with_reducible refine CT.out.mono ?_); rintro e wt ⟨rfl, b4⟩)
    have HBT := Lib.hid (up HBW.out b4)
    have HPT := Lib.hid (HP9.out.later b4)
    have s0 := HPT.out.s.cell 0
    have s1 := HPT.out.s.cell 1
    simp only [List.getElem?_cons_succ, List.getElem?_cons_zero] at s0 s1
    clear b4
    go_wp2_with fail
    ((with_reducible refine (CK.out wt (HT.out.later HBT.out) (RdK.of HPT.out.oc) (RdI.of HPT.out.ok)).mono ?_); rintro e wu ⟨rfl, b4⟩)
    have HBU := Lib.hid (up HBT.out b4)
    clear b4
    go_wp2_with fail
    ((with_reducible refine (works _ (HT.out.later HBU.out)).mono ?_); rintro e wv ⟨rfl, b4⟩)
    have HBV := Lib.hid (up HBU.out b4)
    clear b4
    go_wp2_with fail
    go_ret
    exact ⟨rfl, HBV.out⟩
  · have hpos : ¬ (0 : Int) < (([] : List Co).length : Nat) := by simp
    have HP9 := HSB
    simp only [List.length_nil] at HP9 s0 s1 ⊢
    have HBW := Lib.hid HP9.out.b
    have CT := Lib.hid (cTextS _ _ _ [] wc (HT.out.later HBW.out) (RdK.of HP9.out.oc) (RdI.of HP9.out.ok) (by simp) (by simp) 2 (by decide) ⟨#[]⟩ rfl)
    have CK := Lib.hid (fun w1 (T1 : TA w1) (g1 : RdK w1 w1.heap.size (.slice ya 0 yc) []) (g2 : RdI w1 w1.heap.size (.slice za 0 zc) []) => cCheckS _ _ _ [] w1 T1 g1 g2 (by simp) (by simp) 2 (by decide))
    go_wp2_with fail
    ((with_reducible refine CT.out.mono ?_); rintro e wt ⟨rfl, b4⟩)
    have HBT := Lib.hid (up HBW.out b4)
    have HPT := Lib.hid (HP9.out.later b4)
    have s0 := HPT.out.s.cell 0
    have s1 := HPT.out.s.cell 1
    simp only [List.getElem?_cons_succ, List.getElem?_cons_zero] at s0 s1
    clear b4
    go_wp2_with fail
    ((with_reducible refine (CK.out wt (HT.out.later HBT.out) (RdK.of HPT.out.oc) (RdI.of HPT.out.ok)).mono ?_); rintro e wu ⟨rfl, b4⟩)
    have HBU := Lib.hid (up HBT.out b4)
    clear b4
    go_wp2_with fail
    ((with_reducible refine (works _ (HT.out.later HBU.out)).mono ?_); rintro e wv ⟨rfl, b4⟩)
    have HBV := Lib.hid (up HBU.out b4)
    clear b4
    go_wp2_with fail
    go_ret
    exact ⟨rfl, HBV.out⟩
end Go.Proofs.YtjmphlboickhdaaGreatDoor
