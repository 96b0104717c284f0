/- Several texts in one: GrowI, ScCp, ScFew, ScFr, ScFrT, ScMS, ScPut, ScSV, ScTlP. -/
import Derived.Test.YtanjdjiigfdnmaaGreatDoorRwM
import Derived.Test.YtanjdjiigfdnmaaGreatDoorClFr
import Derived.Test.YtanjdjiigfdnmaaGreatDoorSca
import Derived.Test.YtanjdjiigfdnmaaGreatDoorScb
import Derived.Deep.MidRow
import Derived.Deep.DeepCutAuto
import Derived.Deep.CutBlock
/- A seed's rows of five numbers in memory. -/
namespace Go.Proofs.YtanjdjiigfdnmaaGreatDoor
open Go.RowKit
set_option linter.unusedVariables false
set_option maxRecDepth 100000

structure S5 where
  a : Int
  b : Int
  c : Int
  d : Int
  e : Int
def s5c (x : S5) : List Value := [.int .i64 x.a, .int .i64 x.b, .int .i64 x.c, .int .i64 x.d, .int .i64 x.e]
theorem s5L : Gn.Lay s5c 5 := ⟨fun _ => rfl, fun x v hv => by simp [s5c] at hv; rcases hv with rfl | rfl | rfl | rfl | rfl <;> rfl, by omega⟩
def RdA (w : World) (B : Nat) (v : Value) (l : List S5) : Prop := Gn.Rd s5c 5 w B v l
theorem RdA.later {w w' : World} {v : Value} {l : List S5} (h : RdA w w.heap.size v l) (hb : Below w.heap.size w w') : RdA w' w'.heap.size v l := Gn.Rd.later h hb
structure S5.In (x : S5) : Prop where
  a : Cl.I64 x.a
  b : Cl.I64 x.b
  c : Cl.I64 x.c
  d : Cl.I64 x.d
  e : Cl.I64 x.e
theorem rdA_cells {W w : World} {B n c : Nat} {ad : Option Addr} {l : List S5} (h : RdA W B (.slice ad n c) l) (hb : Below B W w) {i : Nat} {x : S5} (hi : l[i]? = some x) :
    ∃ b off, ad = some ⟨b, off, none⟩ ∧ w.cell? ⟨b, off + i * 5, none⟩ = some (.int .i64 x.a) ∧ w.cell? ⟨b, off + i * 5 + 1, none⟩ = some (.int .i64 x.b) ∧ w.cell? ⟨b, off + i * 5 + 2, none⟩ = some (.int .i64 x.c) ∧ w.cell? ⟨b, off + i * 5 + 3, none⟩ = some (.int .i64 x.d) ∧ w.cell? ⟨b, off + i * 5 + 4, none⟩ = some (.int .i64 x.e) := by
  obtain ⟨hl, e⟩ := List.getElem?_eq_some_iff.1 hi
  obtain ⟨b, off, rfl, _, hc⟩ := Gn.Rd.at h hb hl
  rw [e] at hc
  exact ⟨b, off, rfl, hc 0 _ rfl, hc 1 _ rfl, hc 2 _ rfl, hc 3 _ rfl, hc 4 _ rfl⟩
/-- A seed that came in. -/
structure SeedIn (W : World) (v : Value) (l : List S5) (K : Int) : Prop where
  rd : RdA W W.heap.size v l
  in_ : ∀ x ∈ l, S5.In x
  k : Cl.I64 K
end Go.Proofs.YtanjdjiigfdnmaaGreatDoor

/- How a seed of the laws of layer 11 that came in is read. -/
namespace Go.Proofs.YtanjdjiigfdnmaaGreatDoor
open Go.ChangeShapes Go.WideShapes Go.ChangeAt Go.RowKit Go.Deep
set_option linter.unusedVariables false
set_option maxRecDepth 100000

instance : Inhabited S5 := ⟨⟨0, 0, 0, 0, 0⟩⟩
theorem pick_list {α : Type} [Inhabited α] (n : Nat) (Q : Nat → α → Prop) (h : ∀ i, i < n → ∃ p, Q i p) : ∃ l : List α, l.length = n ∧ ∀ i p, l[i]? = some p → Q i p := by
  induction n with
  | zero => exact ⟨[], rfl, fun i p hp => by simp at hp⟩
  | succ n ih =>
    obtain ⟨l, hl, hq⟩ := ih fun i hi => h i (by omega)
    obtain ⟨p, hp⟩ := h n (by omega)
    refine ⟨l ++ [p], by simp [hl], fun i q hq2 => ?_⟩
    rcases Nat.lt_or_ge i l.length with hi | hi
    · rw [List.getElem?_append_left hi] at hq2
      exact hq i q hq2
    · rw [List.getElem?_append_right hi] at hq2
      have hi2 : i - l.length = 0 := by
        rcases Nat.eq_zero_or_pos (i - l.length) with h0 | h0
        · exact h0
        · rw [List.getElem?_eq_none (by simp; omega)] at hq2; cases hq2
      rw [hi2] at hq2
      simp at hq2
      subst hq2
      rw [show i = n by omega]
      exact hp
theorem add_flat (b off k : Nat) : (⟨b, off, none⟩ : Addr).add k = ⟨b, off + k, none⟩ := by unfold Addr.add; split <;> simp_all
theorem blk_lt {w : World} {a : Addr} {v : Value} (h : w.cell? a = some v) : a.block < w.heap.size := block_lt_of_cell h
/-- A part of a struct, of however many cells. -/
theorem open_part {H : Type} {enc : TypeId × Value → H} {P : Program} {W : World} {fuel : Nat} {t : TypeId} {fs : Array Field} {cs : List Value} {x : DataW H × List MemPlace} (he : P.underlying t = some (.struct fs))
    (h : DataW.trod enc P W 0 (fun _ => true) true fuel t cs = some x) (i : Nat) (f : Field) (hf : fs[i]? = some f) (off k : Nat) (T : TypeId) (ho : f.offset = off) (hT : f.type = T) (hk : P.cellsOf T = k) : ∃ n y, DataW.trod enc P W 0 (fun _ => true) true n T ((cs.drop off).take k) = some y := by
  subst ho hT hk
  obtain ⟨xs, n, _, _, _, hlen, hh⟩ := DataW.trod_struct he h
  have hix : i < xs.length := by rw [hlen]; exact (Array.getElem?_eq_some_iff.1 hf).1
  exact ⟨n, xs[i], (hh i f hf).trans (List.getElem?_eq_getElem hix)⟩
end Go.Proofs.YtanjdjiigfdnmaaGreatDoor

/- How a schema of the laws of layer 11 that came in is read. -/
namespace Go.Proofs.YtanjdjiigfdnmaaGreatDoor
open Go.ChangeShapes Go.WideShapes Go.ChangeAt Go.RowKit Go.Deep
set_option linter.unusedVariables false
set_option maxRecDepth 100000

/-- A column of whatever size. -/
structure KIn (c : Co) : Prop where
  id : Cl.I64 c.id
  k : Cl.I64 c.k
  nm : c.nm.size ≤ maxLen
  n : Cl.I64 c.d.n
  s : c.d.s.size ≤ maxLen
/-- A schema that came in. -/
structure SchemaIn (W : World) (v kv : Value) (l : List Co) (ks : List Int) : Prop where
  rd : RdK W W.heap.size v l
  in_ : ∀ x ∈ l, KIn x
  rk : RdI W W.heap.size kv ks
  ki : ∀ q ∈ ks, Cl.I64 q
/-- A cell among cells. -/
theorem cell_of {H : Type} {enc : TypeId × Value → H} {W : World} {fuel : Nat} {cs : List Value} {x : DataW H × List MemPlace} (hf : DataW.trod enc Tryz.prog W 0 (fun _ => true) true fuel 34 cs = some x) (hl : cs.length = 3) : ∃ c : Cl.C, cs = clc c ∧ Cl.I64 c.n ∧ c.s.size ≤ maxLen := by
  obtain ⟨n0, v0, y0, e0, t0⟩ := open_field Tryz.underlying34 (by kernel_rfl) hf 0 _ rfl (by omega)
  obtain ⟨n1, v1, y1, e1, t1⟩ := open_field Tryz.underlying34 (by kernel_rfl) hf 1 _ rfl (by omega)
  obtain ⟨n2, v2, y2, e2, t2⟩ := open_field Tryz.underlying34 (by kernel_rfl) hf 2 _ rfl (by omega)
  obtain ⟨k0, c0, _⟩ := DataW.trod_bool Tryz.underlying4 t0
  obtain ⟨k1, c1, _, b1⟩ := DataW.trod_int Tryz.underlying2 t1
  obtain ⟨k2, c2, _, b2⟩ := DataW.trod_string Tryz.underlying9 t2
  obtain rfl := (List.cons.inj c0).1
  obtain rfl := (List.cons.inj c1).1
  obtain rfl := (List.cons.inj c2).1
  match cs, hl with
  | [a, b, c], _ =>
    simp at e0 e1 e2
    subst e0 e1 e2
    exact ⟨⟨k0, k1, k2⟩, rfl, bounds_i64 b1, b2⟩
theorem col_cells : Tryz.prog.cellsOf 36 = 7 := by kernel_rfl
theorem col_of {H : Type} {enc : TypeId × Value → H} {W : World} {fuel : Nat} {cs : List Value} {x : DataW H × List MemPlace} (hf : DataW.trod enc Tryz.prog W 0 (fun _ => true) true fuel 36 cs = some x) (hl : cs.length = 7) : ∃ c : Co, cs = coc c ∧ KIn c := by
  obtain ⟨n0, y0, t0⟩ := open_part Tryz.underlying36 hf 0 _ rfl 0 1 3 rfl rfl (by kernel_rfl)
  obtain ⟨n1, y1, t1⟩ := open_part Tryz.underlying36 hf 1 _ rfl 1 1 9 rfl rfl (by kernel_rfl)
  obtain ⟨n2, y2, t2⟩ := open_part Tryz.underlying36 hf 2 _ rfl 2 2 32 rfl rfl (by kernel_rfl)
  obtain ⟨n3, y3, t3⟩ := open_part Tryz.underlying36 hf 3 _ rfl 4 3 34 rfl rfl (by kernel_rfl)
  match cs, hl with
  | [a0, a1, a2, a3, a4, a5, a6], _ =>
    simp only [List.drop_succ_cons, List.drop_zero, List.take_succ_cons, List.take_zero] at t0 t1 t2 t3
    obtain ⟨k0, c0, _, b0⟩ := DataW.trod_int Tryz.underlying3 t0
    obtain ⟨k1, c1, _, b1⟩ := DataW.trod_string Tryz.underlying9 t1
    obtain ⟨m0, v0, z0, e0, s0⟩ := open_field Tryz.underlying32 (by kernel_rfl) t2 0 _ rfl (by simp)
    obtain ⟨m1, v1, z1, e1, s1⟩ := open_field Tryz.underlying32 (by kernel_rfl) t2 1 _ rfl (by simp)
    obtain ⟨k2, c2, _, b2⟩ := DataW.trod_int Tryz.underlying3 s0
    obtain ⟨k3, c3, _⟩ := DataW.trod_bool Tryz.underlying4 s1
    obtain ⟨c, hc, b3, b4⟩ := cell_of t3 rfl
    obtain rfl := (List.cons.inj c0).1
    obtain rfl := (List.cons.inj c1).1
    obtain rfl := (List.cons.inj c2).1
    obtain rfl := (List.cons.inj c3).1
    simp at e0 e1
    subst e0 e1
    unfold clc at hc
    injection hc with h4 hc
    injection hc with h5 hc
    injection hc with h6 hc
    subst h4 h5 h6
    exact ⟨⟨k0, k1, k2, k3, c⟩, rfl, ⟨bounds_i64 b0, bounds_i64 b2, b1, b3, b4⟩⟩
instance : Inhabited Co := ⟨⟨0, ⟨#[]⟩, 0, false, Cl.empty⟩⟩
/-- Columns that came in. -/
theorem cols_of {H : Type} {enc : TypeId × Value → H} {W : World} {fuel : Nat} {v : Value} {x : DataW H × List MemPlace} (hf : DataW.trod enc Tryz.prog W 0 (fun _ => true) true fuel 22 [v] = some x) : ∃ l, RdK W W.heap.size v l ∧ ∀ p ∈ l, KIn p := by
  rcases open_slice Tryz.underlying22 hf with ⟨hcs, _⟩ | ⟨x, len, cap, m, n, D, Pl, hcs, hb, hl, hm, hmm, _, hi⟩
  · obtain rfl := (List.cons.inj hcs).1
    exact ⟨[], Gn.Rd.nil _ _, by simp⟩
  · obtain rfl := (List.cons.inj hcs).1
    rw [if_pos rfl] at hmm
    subst hmm
    obtain ⟨ps, hlen, hps⟩ := pick_list (α := Co) len (fun i p => KIn p ∧ ∀ j, j < 7 → W.cell? ((x.add (i * 7)).add j) = (coc p)[j]?) (fun i hi' => by
      obtain ⟨cs, hc, ht⟩ := hi i (by omega)
      rw [col_cells] at hc
      obtain ⟨_, hcl, hat⟩ := World.cells?_some hc
      obtain ⟨c, rfl, h1⟩ := col_of ht hcl
      exact ⟨c, h1, hat⟩)
    refine ⟨ps, ⟨some x, _, by rw [hlen], by omega, hm, by simp, fun hp => ?_⟩, fun p hp => ?_⟩
    · obtain ⟨b, off, spot⟩ := x
      have h0 : W.cell? (((⟨b, off, spot⟩ : Addr).add (0 * 7)).add 0) = some (.int .i64 (ps[0]'hp).id) := (hps 0 _ (List.getElem?_eq_getElem hp)).2 0 (by omega)
      have hs : spot = none := by simpa [Addr.add] using World.cell?_spot h0
      subst hs
      refine ⟨b, off, rfl, by simpa [Addr.add] using blk_lt h0, fun i p j u hip hj => ?_⟩
      have hj7 : j < 7 := by have := (List.getElem?_eq_some_iff.1 hj).1; simpa [coc] using this
      have := (hps i p hip).2 j hj7
      rw [add_flat, add_flat, hj] at this
      exact this
    · obtain ⟨i, hi', rfl⟩ := List.getElem_of_mem hp
      exact (hps i _ (List.getElem?_eq_getElem hi')).1
/-- Numbers that came in. -/
theorem ints_of {H : Type} {enc : TypeId × Value → H} {W : World} {fuel : Nat} {v : Value} {x : DataW H × List MemPlace} (hf : DataW.trod enc Tryz.prog W 0 (fun _ => true) true fuel 23 [v] = some x) : ∃ l, RdI W W.heap.size v l ∧ ∀ q ∈ l, Cl.I64 q := by
  rcases open_ints Tryz.underlying23 Tryz.underlying3 (by kernel_rfl) hf with ⟨hcs, _⟩ | ⟨x, len, cap, zs, hcs, _, hl, hm, hz, _, hcell, hwz⟩
  · obtain rfl := (List.cons.inj hcs).1
    exact ⟨[], Gn.Rd.nil _ _, by simp⟩
  · obtain rfl := (List.cons.inj hcs).1
    have hz' : zs.length = cap := by simpa using hz
    refine ⟨zs.take len, ⟨some x, cap, by simp; omega, by simp; omega, hm, by simp, fun hp => ?_⟩, fun q hq => bounds_i64 (hwz q (List.mem_of_mem_take hq))⟩
    simp at hp
    obtain ⟨b, off, spot⟩ := x
    have hc := hcell 0 (by omega)
    have hs : spot = none := by simpa [Addr.add] using World.cell?_spot hc
    subst hs
    refine ⟨b, off, rfl, by simpa [Addr.add] using blk_lt hc, fun i y j u hi hj => ?_⟩
    have hil := (List.getElem?_eq_some_iff.1 hi).1
    have hil' : i < len := by simp at hil; omega
    have hj0 : j = 0 := by have := (List.getElem?_eq_some_iff.1 hj).1; simp [inc] at this; exact this
    subst hj0
    have := hcell i (by omega)
    rw [add_flat] at this
    rw [List.getElem?_take_of_lt hil'] at hi
    rw [List.getD_eq_getElem?_getD, hi] at this
    have hu : u = .int .i64 y := by simpa [inc] using hj.symm
    subst hu
    simpa using this
theorem open_schema {H : Type} {enc : TypeId × Value → H} {W : World} {base : Nat} {v : Value} {d : DataW H} {p : List MemPlace}
    (hv : Value.okWide Tryz.prog W .any base 25 v) (h : DataW.Trod enc Tryz.prog W 0 (fun _ => true) true 25 v d p) : ∃ sv kv l ks, v = .agg #[sv, kv] ∧ SchemaIn W sv kv l ks := by
  have hv2 : ∃ cs, v = .agg cs := by
    simp only [Value.okWide, Tryz.underlying25] at hv
    obtain ⟨cs, h1, _⟩ := hv
    exact ⟨cs, h1⟩
  obtain ⟨⟨cs⟩, rfl⟩ := hv2
  obtain ⟨fuel, hf⟩ := h
  have hf : DataW.trod enc Tryz.prog W 0 (fun _ => true) true fuel 25 cs = some (d, p) := hf
  obtain ⟨n0, y0, t0⟩ := open_part Tryz.underlying25 hf 0 _ rfl 0 1 22 rfl rfl (by kernel_rfl)
  obtain ⟨n1, y1, t1⟩ := open_part Tryz.underlying25 hf 1 _ rfl 1 1 23 rfl rfl (by kernel_rfl)
  obtain ⟨xs, n, hs, _, hz, _, _⟩ := DataW.trod_struct Tryz.underlying25 hf
  have hl2 : cs.length = 2 := by first | (simpa using hz) | (rw [hz]; kernel_rfl) | (have := hz; simp at this; omega)
  match cs, hl2 with
  | [a, b], _ =>
    simp only [List.drop_succ_cons, List.drop_zero, List.take_succ_cons, List.take_zero] at t0 t1
    obtain ⟨l, h1, h2⟩ := cols_of t0
    obtain ⟨ks, h3, h4⟩ := ints_of t1
    exact ⟨a, b, l, ks, rfl, ⟨h1, h2, h3, h4⟩⟩
end Go.Proofs.YtanjdjiigfdnmaaGreatDoor

/- A column that is written in its place of an owned row; cells of it. -/
namespace Go.Proofs.YtanjdjiigfdnmaaGreatDoor
open Go.RowKit
set_option linter.unusedVariables false
set_option linter.unusedSimpArgs false

theorem coc_set7 : ∀ (l : List Co) (i : Nat) (x : Co), i < l.length → (((((((Gn.cells coc l).set (i * 7) (.int .i64 x.id)).set (i * 7 + 1) (.string x.nm)).set (i * 7 + 2) (.int .i64 x.k)).set (i * 7 + 3) (.bool x.u)).set (i * 7 + 4) (.bool x.d.u)).set (i * 7 + 5) (.int .i64 x.d.n)).set (i * 7 + 6) (.string x.d.s) = Gn.cells coc (l.set i x)
  | [], i, x, h => by simp at h
  | y :: t, 0, x, _ => rfl
  | y :: t, i + 1, x, h => by
    have ih := coc_set7 t i x (by simpa using h)
    rw [List.set_cons_succ, Gn.cells_cons, Gn.cells_cons, ← ih]
    rw [show (i + 1) * 7 = i * 7 + 7 by omega, show i * 7 + 7 + 1 = i * 7 + 1 + 7 by omega, show i * 7 + 7 + 2 = i * 7 + 2 + 7 by omega, show i * 7 + 7 + 3 = i * 7 + 3 + 7 by omega, show i * 7 + 7 + 4 = i * 7 + 4 + 7 by omega, show i * 7 + 7 + 5 = i * 7 + 5 + 7 by omega, show i * 7 + 7 + 6 = i * 7 + 6 + 7 by omega]
    rfl
/-- The world behind the write. -/
def put7W (w : World) (g o : Nat) (x : Co) : World := ((((((w.setCell ⟨g, o, none⟩ (.int .i64 x.id)).setCell ⟨g, o + 1, none⟩ (.string x.nm)).setCell ⟨g, o + 2, none⟩ (.int .i64 x.k)).setCell ⟨g, o + 3, none⟩ (.bool x.u)).setCell ⟨g, o + 4, none⟩ (.bool x.d.u)).setCell ⟨g, o + 5, none⟩ (.int .i64 x.d.n)).setCell ⟨g, o + 6, none⟩ (.string x.d.s)
theorem own_put7 {w : World} {base g n cap i : Nat} {l : List Co} (h : OwnK w base (.slice (some ⟨g, 0, none⟩) n cap) l) (hn : l.length = n) (hi : i < n) (x : Co) :
    OwnK (put7W w g (i * 7) x) base (.slice (some ⟨g, 0, none⟩) n cap) (l.set i x) := by
  unfold OwnK Gn.Own at h ⊢
  rw [List.length_set]
  rw [hn] at h ⊢
  have h3 := (((((((h.stored (i * 7) (.int .i64 x.id)).1.stored (i * 7 + 1) (.string x.nm)).1.stored (i * 7 + 2) (.int .i64 x.k)).1.stored (i * 7 + 3) (.bool x.u)).1.stored (i * 7 + 4) (.bool x.d.u)).1.stored (i * 7 + 5) (.int .i64 x.d.n)).1.stored (i * 7 + 6) (.string x.d.s)).1
  rw [coc_set7 l i x (by omega)] at h3
  exact h3
theorem grown_put7 {w : World} {base g n cap i : Nat} {l : List Co} (h : OwnK w base (.slice (some ⟨g, 0, none⟩) n cap) l) (x : Co) : Touch (fun k => k = g) w (put7W w g (i * 7) x) := by
  unfold put7W
  have hS : (fun k => k = g) g := rfl
  exact (((((((Touch.refl _ _).setCell hS _).setCell hS _).setCell hS _).setCell hS _).setCell hS _).setCell hS _).setCell hS _
theorem own_there7 {w : World} {base g n cap i : Nat} {l : List Co} (h : OwnK w base (.slice (some ⟨g, 0, none⟩) n cap) l) (hn : l.length = n) (hi : i < n) : w.there g (i * 7) 7 := fun j hj => by
  unfold OwnK Gn.Own at h
  rw [hn] at h
  have hc := Gn.cells_len coL l
  refine ⟨?_, h.frozenAt _⟩
  rw [h.cellAt (i * 7 + j) (by omega), List.getElem?_eq_getElem (by rw [hc]; omega)]; rfl
end Go.Proofs.YtanjdjiigfdnmaaGreatDoor

/- The law's few: a schema that is cut, in memory of its own. -/
namespace Go.Proofs.YtanjdjiigfdnmaaGreatDoor
open Go.RowKit
set_option linter.unusedVariables false
set_option linter.unusedSimpArgs false
set_option maxRecDepth 100000

def cutN (s : ByteArray) (n : Int) : ByteArray := s.extract 0 (min (s.size : Int) n).toNat
def cutK (c : Co) : Co := ⟨c.id, cutN c.nm 40, c.k, c.u, ⟨c.d.u, c.d.n, cutN c.d.s 1100⟩⟩
theorem cutN_size (s : ByteArray) (n : Nat) : (cutN s n).size ≤ n := by unfold cutN; rw [ByteArray.size_extract]; omega
def lFew11C (l : List Co) : List Co := (l.take 40).map cutK
def mixK (k : Nat) (l : List Co) : List Co := (l.take k).map cutK ++ l.drop k
theorem mixK_len (k : Nat) (l : List Co) : (mixK k l).length = l.length := by unfold mixK; simp; omega
theorem mixK_at {k : Nat} {l : List Co} {x : Co} (h : l[k]? = some x) : (mixK k l)[k]? = some x := by
  have hk := (List.getElem?_eq_some_iff.1 h).1
  unfold mixK
  rw [List.getElem?_append_right (by simp; omega)]
  simp [show k - min k l.length = 0 by omega, h]
theorem mixK_set {k : Nat} {l : List Co} {x : Co} (h : l[k]? = some x) : (mixK k l).set k (cutK x) = mixK (k + 1) l := by
  have hk := (List.getElem?_eq_some_iff.1 h).1
  unfold mixK
  have hl : ((l.take k).map cutK).length = k := by simp; omega
  rw [List.set_append_right _ _ (by omega), hl, Nat.sub_self, List.take_add_one, h, List.drop_eq_getElem_cons hk]
  have e : l[k] = x := by rw [List.getElem?_eq_getElem hk] at h; injection h
  simp [e]
theorem mixK_zero (l : List Co) : mixK 0 l = l := by simp [mixK]
theorem mixK_all (l : List Co) : mixK l.length l = l.map cutK := by simp [mixK]
structure FW (w : World) (l : List Co) (ks : List Int) (cv kv : Value) (W : World) : Prop where
  s : Blk W w.heap.size 25 [cv, kv]
  r : Blk W (w.heap.size + 1) 25 [nilS, nilS]
  oc : OwnK W (w.heap.size + 2) cv l
  ok : OwnI W (w.heap.size + 2) kv ks
  b : Below w.heap.size w W
  sz : w.heap.size + 2 ≤ W.heap.size
theorem FW.later {w W W' : World} {l : List Co} {ks : List Int} {cv kv : Value} (h : FW w l ks cv kv W) (hb : Below W.heap.size W W') : FW w l ks cv kv W' :=
  ⟨h.s.later hb, h.r.later hb, Gn.Own.later h.oc hb, Gn.Own.later h.ok hb, up h.b hb, Nat.le_trans h.sz hb.size⟩
theorem own_touch {α : Type} {enc : α → List Value} {k : Nat} {T : TypeId} {S : Nat → Prop} {w w' : World} {B : Nat} {v : Value} {l : List α} (h : Gn.Own enc k T w B v l) (ht : Touch S w w') (hn : ∀ g, v.ownBlock = some g → ¬ S g) : Gn.Own enc k T w' B v l := by
  obtain ⟨h0, h1⟩ := h
  refine ⟨h0, ?_⟩
  rcases h1 with h1 | ⟨g, cap, cur, rfl, hg, hh, r⟩
  · exact .inl h1
  · have hlt : g < w.heap.size := by
      rcases Nat.lt_or_ge g w.heap.size with hlt | hge
      · exact hlt
      · rw [Array.getElem?_eq_none hge] at hh; cases hh
    exact .inr ⟨g, cap, cur, rfl, hg, (ht.block g hlt (hn g rfl)).trans hh, r⟩
/-- A column is written in its place. -/
theorem FW.put {w W : World} {l : List Co} {ks : List Int} {g n cap : Nat} {kv : Value} (h : FW w l ks (.slice (some ⟨g, 0, none⟩) n cap) kv W) (hn : l.length = n) {i : Nat} (hi : i < n) (x : Co) : FW w (l.set i x) ks (.slice (some ⟨g, 0, none⟩) n cap) kv (put7W W g (i * 7) x) := by
  have hg := (h.oc.lt g rfl).1
  have ht := grown_put7 (i := i) h.oc x
  refine ⟨h.s.touch ht (by show ¬ w.heap.size = g; omega), h.r.touch ht (by show ¬ w.heap.size + 1 = g; omega), own_put7 h.oc hn hi x, own_touch h.ok ht (fun g' hg' => ?_), ?_, ?_⟩
  · rcases own_apart2 h.ok h.oc (by decide) with h2 | h2
    · rw [h2] at hg'; cases hg'
    · intro e; exact h2 (by rw [hg', e]; rfl)
  · exact h.b.trans (ht.below h.sz (fun k hk => by subst hk; omega) |>.mono (by omega))
  · exact Nat.le_trans h.sz ht.size
theorem FW.touch {w W W' : World} {S : Nat → Prop} {l : List Co} {ks : List Int} {cv kv : Value} (h : FW w l ks cv kv W) (ht : Touch S W W') (hS : ∀ q, S q → w.heap.size + 2 ≤ q) (h1 : ∀ g, cv.ownBlock = some g → ¬ S g) (h2 : ∀ g, kv.ownBlock = some g → ¬ S g) : FW w l ks cv kv W' :=
  ⟨h.s.touch ht (fun hh => by have := hS _ hh; omega), h.r.touch ht (fun hh => by have := hS _ hh; omega), own_touch h.oc ht h1, own_touch h.ok ht h2, h.b.trans (ht.below h.sz hS |>.mono (by omega)), Nat.le_trans h.sz ht.size⟩
theorem retSf {fn : Func} {p : Tmp} (h : fn.results = #[.cell p 25]) (tmps : Array Value) (w : World) (g : Nat) (cv kv : Value) (hp : tmps.getD p undef = .pointer (some ⟨g, 0, none⟩)) (hg : w.heap[g]? = some (.cells #[cv, kv] 25 (0, 0))) :
    (results fn tmps).run Tryz.prog w = .ok (.agg #[cv, kv]) w :=
  results_cell_row h tmps w g 25 _ (0, 0) _ hp hg Tryz.underlying25 rfl schema_info
/-- What few answers. -/
def FPost (w : World) (L : List Co) (K : List Int) (e : Ending) (w' : World) : Prop := ∃ cv kv, e = .returned (.agg #[cv, kv]) ∧ OwnK w' w.heap.size cv L ∧ OwnI w' w.heap.size kv K ∧ Below w.heap.size w w'
theorem take_min {α : Type} (l : List α) (n : Nat) (m : Int) (hm : m = (n : Nat)) : l.take (min (l.length : Int) m).toNat = l.take n := by
  subst hm
  rcases Nat.lt_or_ge l.length n with h | h
  · rw [List.take_of_length_le (by omega), List.take_of_length_le (by omega)]
  · congr 1; omega
theorem slice_cut (xs : ByteArray) (n : Int) (h0 : 0 ≤ n) (hm : xs.size ≤ 9223372036854775807) (w : World) : (Instr.slice 9 (.string xs) none (some (.int .i64 (min (xs.size : Int) n))) none).run Tryz.prog w = .ok (.string (cutN xs n)) w := by
  rw [run_slice_string_to_if w 9 xs .i64 _ Tryz.underlying9, if_pos (by omega)]; rfl
theorem store_at7 (W : World) (g o : Nat) (x : Co) (h : W.there g o 7) : (Instr.storeAt 36 (.pointer (some ⟨g, o, none⟩)) (kov x)).run Tryz.prog W = .ok () (put7W W g o x) :=
  run_storeAt_mid (P := Tryz.prog) W g o 36 #[.int .i64 x.id, .string x.nm, .int .i64 x.k, .bool x.u, .bool x.d.u, .int .i64 x.d.n, .string x.d.s] h col_info (by first | kernel_rfl | simp [Value.oneCell'])
set_option maxHeartbeats 8000000 in
theorem lFew11 (v kv : Value) (l : List Co) (ks : List Int) (w : World) (h : RdK w w.heap.size v l) (hk : RdI w w.heap.size kv ks) (hs : ∀ c ∈ l, c.nm.size ≤ maxLen ∧ c.d.s.size ≤ maxLen) :
    Calls Tryz.prog 12 #[.agg #[v, kv]] w fun e w' => FPost w (lFew11C l) (ks.take 12) e w' := by
  have hml := Gn.Rd.len' h
  have hmk := Gn.Rd.len' hk
  have hr := h
  have hrk := hk
  obtain ⟨a, c, rfl, hc, _⟩ := Gn.Rd.form h
  obtain ⟨ka, kc, rfl, hkc, _⟩ := Gn.Rd.form hk
  have hru := rd_to (m := (min (l.length : Int) 40).toNat) h (by omega)
  have hrk := rd_to (m := (min (ks.length : Int) 12).toNat) hk (by omega)
  rw [take_min l 40 40 rfl] at hru
  rw [take_min ks 12 12 rfl] at hrk
  obtain ⟨l0, hl0⟩ : ∃ l0, l.take 40 = l0 := ⟨_, rfl⟩
  obtain ⟨k0, hk0⟩ : ∃ k0, ks.take 12 = k0 := ⟨_, rfl⟩
  have hll : l0.length ≤ 40 := by rw [← hl0, List.length_take]; omega
  have hlk : k0.length ≤ 12 := by rw [← hk0, List.length_take]; omega
  have HS : Hid (∀ c ∈ l0, c.nm.size ≤ maxLen ∧ c.d.s.size ≤ maxLen) := Lib.hid (fun c hc => hs c (by rw [← hl0] at hc; exact List.mem_of_mem_take hc))
  have HC : Hid (lFew11C l = l0.map cutK) := Lib.hid (by unfold lFew11C; rw [hl0])
  rw [HC.out, hk0]
  rw [hl0] at hru
  rw [hk0] at hrk
  have b1 := box_new w (.cells #[.slice a l.length c, .slice ka ks.length kc] 25)
  have b2 := box_new (w.alloc (.cells #[.slice a l.length c, .slice ka ks.length kc] 25)) (.cells #[.slice none 0 0, .slice none 0 0] 25)
  have HB := Lib.hid (up b1 b2)
  have HX := Lib.hid ((Blk.new w 25 #[.slice a l.length c, .slice ka ks.length kc]).later b2)
  have HY := Lib.hid (Blk.new (w.alloc (.cells #[.slice a l.length c, .slice ka ks.length kc] 25)) 25 #[nilS, nilS])
  rw [show (w.alloc (.cells #[.slice a l.length c, .slice ka ks.length kc] 25)).heap.size = w.heap.size + 1 by simp] at HY
  unfold nilS at HY
  have HSZ : Hid (((w.alloc (.cells #[.slice a l.length c, .slice ka ks.length kc] 25)).alloc (.cells #[.slice none 0 0, .slice none 0 0] 25)).heap.size = w.heap.size + 2) := Lib.hid (by simp)
  have HR := Lib.hid ((hru.later b1).later b2)
  have HRK0 := Lib.hid hrk
  clear h hk hr hru hrk hs hl0 hk0 b1 b2 HC
  go_enter Tryz.func12, Tryz.ntmps12
  go_upto_region 1 with fail
  generalize (w.alloc (.cells #[.slice a l.length c, .slice ka ks.length kc] 25)).alloc (.cells #[.slice none 0 0, .slice none 0 0] 25) = w2 at *
  have x0 := HX.out.cell 0
  have x1 := HX.out.cell 1
  simp only [List.getElem?_cons_succ, List.getElem?_cons_zero] at x0 x1
  have HCC := Lib.hid (copyCols _ l0 w2 HR.out (by omega))
  go_wp2_with fail
  ((with_reducible refine HCC.out.mono ?_); rintro e w3 ⟨v3, rfl, ho, hb⟩)
  have hsz : w2.heap.size = w.heap.size + 2 := HSZ.out
  have HO3 : Hid (OwnK w3 (w.heap.size + 2) v3 l0) := Lib.hid (by rw [← hsz]; exact ho)
  have HB3 := Lib.hid (HB.out.trans (hb.mono (by omega)))
  have HX3 := Lib.hid (HX.out.later hb)
  have HY3 := Lib.hid (HY.out.later hb)
  have hs3 : w.heap.size + 2 ≤ w3.heap.size := by have := hb.size; omega
  have x0 := HX3.out.cell 0
  have x1 := HX3.out.cell 1
  have x2 := HX3.out.frozen 0
  simp only [List.getElem?_cons_succ, List.getElem?_cons_zero] at x0 x1
  clear ho hb HB HX HY HR HCC HSZ hsz
  obtain ⟨va3, vc3, rfl, _⟩ := Gn.Rd.form (RdK.of HO3.out)
  go_upto_region 2 with fail
  generalize HW4 : w3.setCell ⟨w.heap.size, 0, none⟩ (.slice va3 l0.length vc3) = W4 at *
  have HX4 : Hid (Blk W4 w.heap.size 25 [.slice va3 l0.length vc3, .slice ka ks.length kc]) := Lib.hid (by rw [← HW4]; exact Blk.put HX3.out 0 _)
  have HY4 : Hid (Blk W4 (w.heap.size + 1) 25 [.slice none 0 0, .slice none 0 0]) := Lib.hid (by rw [← HW4]; exact HY3.out.far (by simp only; omega) _)
  have HB4 : Hid (Below w.heap.size w W4) := Lib.hid (by rw [← HW4]; exact HB3.out.setCell (by simp only; omega) _)
  have HO4 : Hid (OwnK W4 (w.heap.size + 2) (.slice va3 l0.length vc3) l0) := Lib.hid (by rw [← HW4]; exact own_far HO3.out (by simp only; omega) _)
  have hs4 : w.heap.size + 2 ≤ W4.heap.size := by rw [← HW4]; simpa using hs3
  have hrk4 : RdI W4 W4.heap.size (.slice ka (min (ks.length : Int) 12).toNat kc) k0 := (Gn.Rd.below HRK0.out HB4.out (Nat.le_refl _)).more HB4.out.size
  have HRK4 := Lib.hid hrk4
  clear x0 x1 x2 HX3 HY3 HB3 HO3 HW4
  have x0 := HX4.out.cell 0
  have x1 := HX4.out.cell 1
  simp only [List.getElem?_cons_succ, List.getElem?_cons_zero] at x0 x1
  have HCI := Lib.hid (copyInts _ k0 W4 HRK4.out (by omega))
  go_wp2_with fail
  ((with_reducible refine HCI.out.mono ?_); rintro e w5 ⟨v5, rfl, ho, hb⟩)
  have HX5 := Lib.hid (HX4.out.later hb)
  have HY5 := Lib.hid (HY4.out.later hb)
  have HB5 := Lib.hid (HB4.out.trans (hb.mono (by omega)))
  have HO5 := Lib.hid (Gn.Own.later HO4.out hb)
  have HI5 : Hid (OwnI w5 (w.heap.size + 2) v5 k0) := Lib.hid (Gn.Own.lower ho hs4)
  have hs5 : w.heap.size + 2 ≤ w5.heap.size := by have := hb.size; omega
  have x0 := HX5.out.cell 0
  have x1 := HX5.out.cell 1
  have x2 := HX5.out.frozen 1
  simp only [List.getElem?_cons_succ, List.getElem?_cons_zero] at x0 x1
  clear ho hb HX4 HY4 HB4 HO4 HRK4 HCI hrk4 HRK0
  obtain ⟨va5, vc5, rfl, _⟩ := Gn.Rd.form (RdI.of HI5.out)
  go_wp2_with fail
  generalize HW6 : w5.setCell ⟨w.heap.size, 1, none⟩ (.slice va5 k0.length vc5) = W6 at *
  have HF : Hid (FW w l0 k0 (.slice va3 l0.length vc3) (.slice va5 k0.length vc5) W6) := Lib.hid (by
    rw [← HW6]
    exact ⟨Blk.put HX5.out 1 _, HY5.out.far (by simp only; omega) _, own_far HO5.out (by simp only; omega) _, own_far HI5.out (by simp only; omega) _, HB5.out.setCell (by simp only; omega) _, by simpa using hs5⟩)
  clear HX5 HY5 HB5 HO5 HI5 x0 x1 x2 HW6 hs5 hs4 hs3
  have hl0 : ((l0.length : Nat) : Int) ≤ 40 := by omega
  go_loopw [3] (fun i wr => ∃ k : Nat, k ≤ l0.length ∧ i = .int .i64 (k : Nat) ∧ Hid (FW w (mixK k l0) k0 (.slice va3 l0.length vc3) (.slice va5 k0.length vc5) wr)) (fun i _ => l0.length - (intOf i).toNat)
  case atStart => exact ⟨0, by omega, by rfl, by rw [mixK_zero]; exact HF⟩
  case round =>
    obtain ⟨k, hk, rfl, HK⟩ := hrel
    have s0 := HK.out.s.cell 0
    have s1 := HK.out.s.cell 1
    simp only [List.getElem?_cons_succ, List.getElem?_cons_zero] at s0 s1
    by_cases hlt : k < l0.length
    · have hlt1 : (k : Int) < l0.length := by omega
      obtain ⟨x, hx⟩ : ∃ x, l0[k]? = some x := ⟨_, List.getElem?_eq_getElem hlt⟩
      have HST := Lib.hid (mixK_set hx)
      have hzs := HS.out x (List.mem_of_getElem? hx)
      have hform : ∃ g, va3 = some ⟨g, 0, none⟩ := by
        rcases HK.out.oc.2 with ⟨h1, _⟩ | ⟨g, cap, cur, h1, _⟩
        · injection h1 with _ h2 _; omega
        · injection h1 with h2 _ _; exact ⟨g, h2⟩
      obtain ⟨gb, rfl⟩ := hform
      obtain ⟨gb', off, hgo, p0, p1, p2, p3, p4, p5, p6⟩ := rdK_cells (RdK.of HK.out.oc) (Below.refl _ _) (mixK_at hx)
      injection hgo with hgo
      injection hgo with hg1 hg2 _
      subst hg1 hg2
      simp only [Nat.zero_add] at p0 p1 p2 p3 p4 p5 p6
      unfold maxLen at hzs
      have HS2 := Lib.hid (fun w => slice_cut x.nm 40 (by omega) (by omega) w)
      have HS3 := Lib.hid (fun w => slice_cut x.d.s 1100 (by omega) (by omega) w)
      obtain ⟨s2, hs2⟩ : ∃ s2, cutN x.nm 40 = s2 := ⟨_, rfl⟩
      obtain ⟨s3, hs3⟩ : ∃ s3, cutN x.d.s 1100 = s3 := ⟨_, rfl⟩
      have HCK : Hid (cutK x = ⟨x.id, s2, x.k, x.u, ⟨x.d.u, x.d.n, s3⟩⟩) := Lib.hid (by unfold cutK; rw [hs2, hs3])
      rw [hs2] at HS2
      rw [hs3] at HS3
      obtain ⟨xi, xm, xk, xu, ⟨xa, xb, xc⟩⟩ := x
      simp only at p0 p1 p2 p3 p4 p5 p6 HS2 HS3 HCK hzs
      have bq := box_new wr (.cells #[.int .i64 xi, .string xm, .int .i64 xk, .bool xu, .bool xa, .int .i64 xb, .string xc] 36)
      have HVQ := Lib.hid (Blk.new wr 36 #[.int .i64 xi, .string xm, .int .i64 xk, .bool xu, .bool xa, .int .i64 xb, .string xc])
      have HKQ := Lib.hid (HK.out.later bq)
      have HGQ := Lib.hid (And.intro (fun g hg => (HK.out.oc.lt g hg).2) (fun g hg => (HK.out.ok.lt g hg).2))
      have HSQ := Lib.hid HK.out.sz
      clear hx hs2 hs3 bq HK
      go_upto_region 7 with fail
      generalize hgq : wr.heap.size = gq at *
      generalize wr.alloc (.cells #[.int .i64 xi, .string xm, .int .i64 xk, .bool xu, .bool xa, .int .i64 xb, .string xc] 36) = wq at *
      clear p0 p1 p2 p3 p4 p5 p6 s0 s1
      have v1 := HVQ.out.cell 1
      have v6 := HVQ.out.cell 6
      have f1 := HVQ.out.frozen 1
      have f6 := HVQ.out.frozen 6
      simp only [List.getElem?_cons_succ, List.getElem?_cons_zero] at v1 v6
      have t2 := HS2.out wq
      have t3 := HS3.out (wq.setCell ⟨gq, 1, none⟩ (.string s2))
      go_upto_region 9 with fail
      have ht := (((Touch.refl (fun q => q = gq) wq).setCell (p := ⟨gq, 1, none⟩) rfl (.string s2)).setCell (p := ⟨gq, 6, none⟩) rfl (.string s3))
      have HK9 := Lib.hid (HKQ.out.touch ht (fun q hq => by have := HSQ.out; rw [hq]; exact this) (fun g hg => by have := HGQ.out.1 g hg; intro e; omega) (fun g hg => by have := HGQ.out.2 g hg; intro e; omega))
      have HV9 := Lib.hid (Blk.put (Blk.put HVQ.out 1 (.string s2)) 6 (.string s3))
      clear ht v1 v6 f1 f6 t2 t3 HVQ HKQ
      generalize (wq.setCell ⟨gq, 1, none⟩ (.string s2)).setCell ⟨gq, 6, none⟩ (.string s3) = w9 at *
      have v0 := HV9.out.cell 0
      have v1 := HV9.out.cell 1
      have v2 := HV9.out.cell 2
      have v3 := HV9.out.cell 3
      have v4 := HV9.out.cell 4
      have v5 := HV9.out.cell 5
      have v6 := HV9.out.cell 6
      have s0 := HK9.out.s.cell 0
      simp only [List.getElem?_cons_succ, List.getElem?_cons_zero, List.set_cons_succ, List.set_cons_zero] at v0 v1 v2 v3 v4 v5 v6 s0
      have hth := own_there7 HK9.out.oc (mixK_len k l0) hlt
      have hx9 : ∃ y, (mixK k l0)[k]? = some y := ⟨_, List.getElem?_eq_getElem (by rw [mixK_len]; exact hlt)⟩
      obtain ⟨y, hy⟩ := hx9
      obtain ⟨gb', off', hgo, p0, p1, p2, p3, p4, p5, p6⟩ := rdK_cells (RdK.of HK9.out.oc) (Below.refl _ _) hy
      injection hgo with hgo
      injection hgo with hg1 hg2 _
      subst hg1 hg2
      simp only [Nat.zero_add] at p0 p1 p2 p3 p4 p5 p6
      have q0 := (hth 0 (by omega)).2
      have q1 := (hth 1 (by omega)).2
      have q2 := (hth 2 (by omega)).2
      have q3 := (hth 3 (by omega)).2
      have q4 := (hth 4 (by omega)).2
      have q5 := (hth 5 (by omega)).2
      have q6 := (hth 6 (by omega)).2
      simp only [Nat.add_zero] at q0
      have HFI := Lib.hid (HK9.out.put (mixK_len k l0) hlt ⟨xi, s2, xk, xu, ⟨xa, xb, s3⟩⟩)
      have HLT := Lib.hid hlt
      clear hth hy HK9 HV9 HS2 HS3
      go_wp2_with fail
      go_roundw
      case rel => exact ⟨k + 1, HLT.out, by go_num, Lib.hid (by rw [← HST.out, HCK.out]; exact HFI.out)⟩
      case measure => have := HLT.out; simp [intOf]; omega
    · have hlt1 : ¬ (k : Int) < l0.length := by omega
      obtain rfl : k = l0.length := by omega
      have f0 := HK.out.r.cell 0
      have f1 := HK.out.r.cell 1
      have f2 := HK.out.r.frozen 0
      have f3 := HK.out.r.frozen 1
      simp only [List.getElem?_cons_succ, List.getElem?_cons_zero, nilS] at f0 f1
      have HRS := Lib.hid (Blk.put (Blk.put HK.out.r 0 (.slice va3 l0.length vc3)) 1 (.slice va5 k0.length vc5))
      have HO1 := Lib.hid (own_far (own_far HK.out.oc (p := ⟨w.heap.size + 1, 0, none⟩) (by simp only; omega) (.slice va3 l0.length vc3)) (p := ⟨w.heap.size + 1, 1, none⟩) (by simp only; omega) (.slice va5 k0.length vc5))
      have HO2 := Lib.hid (own_far (own_far HK.out.ok (p := ⟨w.heap.size + 1, 0, none⟩) (by simp only; omega) (.slice va3 l0.length vc3)) (p := ⟨w.heap.size + 1, 1, none⟩) (by simp only; omega) (.slice va5 k0.length vc5))
      have HBE := Lib.hid ((HK.out.b.setCell (p := ⟨w.heap.size + 1, 0, none⟩) (by simp only; omega) (.slice va3 l0.length vc3)).setCell (p := ⟨w.heap.size + 1, 1, none⟩) (by simp only; omega) (.slice va5 k0.length vc5))
      rw [mixK_all] at HO1
      clear HK
      go_wp2_with fail
      exact bodyPost_ret (retSf rfl _ _ (w.heap.size + 1) (.slice va3 l0.length vc3) (.slice va5 k0.length vc5) rfl HRS.out) rfl ⟨_, _, rfl, Gn.Own.lower HO1.out (by omega), Gn.Own.lower HO2.out (by omega), HBE.out⟩
end Go.Proofs.YtanjdjiigfdnmaaGreatDoor

/- A drawn region, one obligation an operation: what its value is, is said by itself, of any world that stands in a relation (reflexive, transitive) to the one at the beginning; and an invariant says what the world is, by which operations have run (so that an append, or a store, may know that it has not run yet). Own text (gen/XGrowS's, with the invariant). -/
namespace Go.Proofs.YtanjdjiigfdnmaaGreatDoor
open Go Go.RowKit
set_option linter.unusedVariables false

def upd (d : Nat → Bool) (j : Nat) : Nat → Bool := fun i => if i = j then true else d i
structure GInvI (Lt : World → World → Prop) (I : (Nat → Bool) → World → Prop) (ops : Array Oper) (J : Nat → Value → World → Prop) (a0 : Act) (w0 : World) (listed : Array Bool) (a : Act) (w : World) : Prop where
  b : Lt w0 w
  size : a.tmps.size = a0.tmps.size
  defers : a.defers = a0.defers
  old : ∀ s, (∀ j, j < ops.size → dstOf ops j ≠ some s) → a.tmps[s]? = a0.tmps[s]?
  ls : listed.size = ops.size
  got : ∀ j, j < ops.size → listed.getD j false = true → J j (valOf ops a j) w
  inv : I (fun j => listed.getD j false) w
theorem GInvI.step {Lt : World → World → Prop} {I : (Nat → Bool) → World → Prop} {X : (Nat → Bool) → World → World → Prop} (ht : ∀ a b c, Lt a b → Lt b c → Lt a c) {ops : Array Oper} {J : Nat → Value → World → Prop} {a0 : Act} {w0 : World} (hB : growB ops a0.tmps.size = true) (hJ : ∀ (d : Nat → Bool) (j : Nat) (v : Value) (w w' : World), d j = true → J j v w → Lt w w' → X d w w' → J j v w')
    {listed : Array Bool} {a : Act} {w w' : World} {i : Nat} {o : Oper} {v : Value} (h : GInvI Lt I ops J a0 w0 listed a w) (ho : ops[i]? = some o) (hv : J i (match o.dst with | some _ => v | none => undef) w') (hb : Lt w w') (hI : I (upd (fun j => listed.getD j false) i) w') (hX : X (fun j => listed.getD j false) w w') :
    GInvI Lt I ops J a0 w0 (listed.setIfInBounds i true) (a.put o.dst v) w' := by
  have hi : i < ops.size := (Array.getElem?_eq_some_iff.1 ho).1
  obtain ⟨_, hd⟩ := growB_spec hB ho
  have hdi : dstOf ops i = o.dst := by unfold dstOf; rw [ho]; rfl
  refine ⟨ht _ _ _ h.b hb, ?_, ?_, fun s hs => ?_, by simp [h.ls], fun j hj hl => ?_, ?_⟩
  · unfold Act.put; split <;> simp [h.size]
  · unfold Act.put; split <;> exact h.defers
  · have hne := hs i hi
    rw [hdi] at hne
    unfold Act.put
    split
    · rename_i d hdd
      rw [hdd] at hne
      rw [Array.getElem?_setIfInBounds_ne (by intro e; exact hne (by rw [e]))]
      exact h.old s hs
    · exact h.old s hs
  · by_cases hij : j = i
    · subst hij
      unfold valOf
      rw [hdi]
      unfold Act.put
      cases hdd : o.dst with
      | none => rw [hdd] at hv; exact hv
      | some d =>
        rw [hdd] at hv
        have := (hd d hdd).1
        simp only
        rw [Array.getD_eq_getD_getElem?, Array.getElem?_setIfInBounds_self, if_pos (by rw [h.size]; exact this)]
        exact hv
    · have hl2 : listed.getD j false = true := by
        rw [Array.getD_eq_getD_getElem?, Array.getElem?_setIfInBounds_ne (Ne.symm hij)] at hl
        rw [Array.getD_eq_getD_getElem?]; exact hl
      have hg := hJ (fun j => listed.getD j false) _ _ _ _ hl2 (h.got j hj hl2) hb hX
      have e : valOf ops (a.put o.dst v) j = valOf ops a j := by
        unfold valOf
        cases hdj : dstOf ops j with
        | none => rfl
        | some s =>
          unfold Act.put
          cases hdd : o.dst with
          | none => rfl
          | some d =>
            have hne : d ≠ s := fun e => (hd d hdd).2 j hj hij (by rw [hdj, e])
            simp only
            rw [Array.getD_eq_getD_getElem?, Array.getElem?_setIfInBounds_ne hne, ← Array.getD_eq_getD_getElem?]
      rw [e]; exact hg
  · have e : (fun j => (listed.setIfInBounds i true).getD j false) = upd (fun j => listed.getD j false) i := by
      funext j
      unfold upd
      by_cases hji : j = i
      · subst hji
        rw [if_pos rfl, Array.getD_eq_getD_getElem?, Array.getElem?_setIfInBounds_self, if_pos (by rw [h.ls]; exact hi)]; rfl
      · rw [if_neg hji, Array.getD_eq_getD_getElem?, Array.getElem?_setIfInBounds_ne (fun e => hji e.symm), ← Array.getD_eq_getD_getElem?]
    rw [e]; exact hI
/-- **A drawn region.** -/
theorem wpAny_growI {Lt : World → World → Prop} {I : (Nat → Bool) → World → Prop} {X : (Nat → Bool) → World → World → Prop} (ht : ∀ a b c, Lt a b → Lt b c → Lt a c) {P : Program} {ops : Array Oper} {Q : Exit → Act → World → Prop} {J : Nat → Value → World → Prop} {a0 : Act} {w0 : World} (hB : growB ops a0.tmps.size = true) (hJ : ∀ (d : Nat → Bool) (j : Nat) (v : Value) (w w' : World), d j = true → J j v w → Lt w w' → X d w w' → J j v w')
    (hstep : ∀ (d : Nat → Bool) (j : Nat) (o : Oper) (a : Act) (w : World), ops[j]? = some o → d j = false → (∀ e ∈ o.after, Region.binds .any e = true → d e.on = true) → I d w → Lt w0 w → a.tmps.size = a0.tmps.size → (∀ s, (∀ j, j < ops.size → dstOf ops j ≠ some s) → a.tmps[s]? = a0.tmps[s]?) →
      (∀ e ∈ o.after, Region.binds .any e = true → J e.on (valOf ops a e.on) w) → wpOp P ops Q j (fun a' w' => ∃ v, a' = a.put o.dst v ∧ J j (match o.dst with | some _ => v | none => undef) w' ∧ Lt w w' ∧ I (upd d j) w' ∧ X d w w') a w)
    (hend : ∀ a w, I (fun j => decide (j < ops.size)) w → Lt w0 w → a.defers = a0.defers → a.tmps.size = a0.tmps.size → (∀ s, (∀ j, j < ops.size → dstOf ops j ≠ some s) → a.tmps[s]? = a0.tmps[s]?) → (∀ j, j < ops.size → J j (valOf ops a j) w) → Q .normal a w) :
    ∀ (fuel : Nat) (listed : Array Bool) (a : Act) (w : World), GInvI Lt I ops J a0 w0 listed a w → listed.toList.count false = fuel → wpAny P .any ops Q fuel listed a w
  | fuel, listed, a, w, inv, hc => by
    have fin : Region.ready .any ops listed = [] → Q .normal a w := fun h0 => by
      have hall : ∀ j, j < ops.size → listed.getD j false = true := by
        intro j
        induction j using Nat.strongRecOn with
        | _ j ih =>
          intro hj
          cases hl : listed.getD j false with
          | true => rfl
          | false =>
            exfalso
            obtain ⟨o, ho⟩ : ∃ o, ops[j]? = some o := ⟨_, Array.getElem?_eq_getElem hj⟩
            have : j ∈ Region.ready .any ops listed := mem_ready.2 ⟨by
              rw [Array.getD_eq_getD_getElem?] at hl ⊢
              rw [Array.getElem?_eq_getElem (by rw [inv.ls]; exact hj)] at hl ⊢
              exact hl, o, ho, fun e he hb => ih e.on ((growB_spec hB ho).1 e he hb) (by have := (growB_spec hB ho).1 e he hb; omega)⟩
            rw [h0] at this; cases this
      exact hend a w (by
        have e : (fun j => listed.getD j false) = fun j => decide (j < ops.size) := by
          funext j
          by_cases hj : j < ops.size
          · simp only [hall j hj, hj, decide_true]
          · rw [Array.getD_eq_getD_getElem?, Array.getElem?_eq_none (by rw [inv.ls]; omega)]
            simp [hj]
        rw [← e]; exact inv.inv) inv.b inv.defers inv.size inv.old fun j hj => inv.got j hj (hall j hj)
    cases fuel with
    | zero =>
      refine ⟨?_, ?_⟩
      · cases hr : Region.ready .any ops listed with
        | nil => rfl
        | cons i t =>
          exfalso
          have hi : i ∈ Region.ready .any ops listed := by rw [hr]; exact List.mem_cons_self ..
          obtain ⟨hun, o, ho, _⟩ := mem_ready.1 hi
          have hlt : i < listed.size := by rw [inv.ls]; exact (Array.getElem?_eq_some_iff.1 ho).1
          have := List.count_eq_zero.1 hc
          rw [Array.getD_eq_getD_getElem?, Array.getElem?_eq_getElem hlt] at hun
          exact this (by rw [← show listed[i] = false from hun]; exact Array.getElem_mem_toList hlt)
      · refine fin ?_
        cases hr : Region.ready .any ops listed with
        | nil => rfl
        | cons i t =>
          exfalso
          have hi : i ∈ Region.ready .any ops listed := by rw [hr]; exact List.mem_cons_self ..
          obtain ⟨hun, o, ho, _⟩ := mem_ready.1 hi
          have hlt : i < listed.size := by rw [inv.ls]; exact (Array.getElem?_eq_some_iff.1 ho).1
          have := List.count_eq_zero.1 hc
          rw [Array.getD_eq_getD_getElem?, Array.getElem?_eq_getElem hlt] at hun
          exact this (by rw [← show listed[i] = false from hun]; exact Array.getElem_mem_toList hlt)
    | succ f =>
      refine ⟨fin, fun i hi => ?_⟩
      obtain ⟨hun, o, ho, hdep⟩ := mem_ready.1 hi
      have hlt : i < listed.size := by rw [inv.ls]; exact (Array.getElem?_eq_some_iff.1 ho).1
      refine wpOp_mono (fun a' w' hh => ?_) (hstep _ i o a w ho (by rw [Array.getD_eq_getD_getElem?] at hun ⊢; rw [Array.getElem?_eq_getElem hlt] at hun ⊢; exact hun) hdep inv.inv inv.b inv.size inv.old fun e he hb => inv.got e.on (by have := (growB_spec hB ho).1 e he hb; have := (Array.getElem?_eq_some_iff.1 ho).1; omega) (hdep e he hb))
      obtain ⟨v, rfl, hv, hb, hI, hX⟩ := hh
      have hcount : (listed.setIfInBounds i true).toList.count false = f := by
        obtain ⟨l⟩ := listed
        simp only [List.size_toArray] at hlt
        simp [hlt] at hun
        simp only [List.setIfInBounds_toArray]
        have hm : l.count false ≠ 0 := by
          intro h0
          exact List.count_eq_zero.1 h0 (hun ▸ List.getElem_mem hlt)
        simp only at hc
        rw [List.count_set hlt, hun]
        simp
        omega
      exact wpAny_growI ht hB hJ hstep hend f _ _ _ (inv.step ht hB hJ ho hv hb hI hX) hcount
theorem region_growI (Lt : World → World → Prop) (I : (Nat → Bool) → World → Prop) (X : (Nat → Bool) → World → World → Prop) (hr : ∀ w, Lt w w) (ht : ∀ a b c, Lt a b → Lt b c → Lt a c) {P : Program} {id : Nat} {ops : Array Oper} {Q : Exit → Act → World → Prop} (J : Nat → Value → World → Prop) {a0 : Act} {w : World} (hm : P.follows .mixedOrders = true) (hB : growB ops a0.tmps.size = true) (hJ : ∀ (d : Nat → Bool) (j : Nat) (v : Value) (w w' : World), d j = true → J j v w → Lt w w' → X d w w' → J j v w') (h0 : I (fun _ => false) w.drew)
    (hstep : ∀ (d : Nat → Bool) (j : Nat) (o : Oper) (a : Act) (w1 : World), ops[j]? = some o → d j = false → (∀ e ∈ o.after, Region.binds .any e = true → d e.on = true) → I d w1 → Lt w.drew w1 → a.tmps.size = a0.tmps.size → (∀ s, (∀ j, j < ops.size → dstOf ops j ≠ some s) → a.tmps[s]? = a0.tmps[s]?) →
      (∀ e ∈ o.after, Region.binds .any e = true → J e.on (valOf ops a e.on) w1) → wpOp P ops Q j (fun a' w' => ∃ v, a' = a.put o.dst v ∧ J j (match o.dst with | some _ => v | none => undef) w' ∧ Lt w1 w' ∧ I (upd d j) w' ∧ X d w1 w') a w1)
    (hend : ∀ a w1, I (fun j => decide (j < ops.size)) w1 → Lt w.drew w1 → a.defers = a0.defers → a.tmps.size = a0.tmps.size → (∀ s, (∀ j, j < ops.size → dstOf ops j ≠ some s) → a.tmps[s]? = a0.tmps[s]?) → (∀ j, j < ops.size → J j (valOf ops a j) w1) → Q .normal a w1) : (Code.region id ops true).wp P Q a0 w := by
  refine wp_region_any hm ?_
  exact wpAny_growI ht (w0 := w.drew) hB hJ hstep hend _ _ _ _ ⟨hr _, rfl, rfl, fun s _ => rfl, by simp, fun j hj hl => by rw [Array.getD_eq_getD_getElem?] at hl; simp [hj] at hl, by
    have e : (fun j => (Array.replicate ops.size false).getD j false) = fun _ => false := by
      funext j
      rw [Array.getD_eq_getD_getElem?, Array.getElem?_replicate]
      split <;> rfl
    rw [e]; exact h0⟩ (by simp)
/-- An operation that gives a value. -/
theorem growI_val {Lt : World → World → Prop} {I : (Nat → Bool) → World → Prop} {X : (Nat → Bool) → World → World → Prop} {d : Nat → Bool} {P : Program} {ops : Array Oper} {Q : Exit → Act → World → Prop} {J : Nat → Value → World → Prop} {a : Act} {w : World} {j : Nat} {o : Oper} (v : Value) (w' : World) (ho : ops[j]? = some o) (hw : Region.wanted o (yielded ops a.tmps) = true)
    (hr : (execOp a.eval o).run P w = .ok (.value v) w') (hb : Lt w w') (hI : I (upd d j) w') (hX : X d w w') (hJ : J j (match o.dst with | some _ => v | none => undef) w') : wpOp P ops Q j (fun a' w' => ∃ v, a' = a.put o.dst v ∧ J j (match o.dst with | some _ => v | none => undef) w' ∧ Lt w w' ∧ I (upd d j) w' ∧ X d w w') a w := by
  unfold wpOp
  rw [ho]
  simp only [hw, if_true]
  left
  unfold Oper.wp
  rw [hr]
  exact ⟨v, rfl, hJ, hb, hI, hX⟩
/-- An operation that writes memory. -/
theorem growI_skip {Lt : World → World → Prop} {I : (Nat → Bool) → World → Prop} {X : (Nat → Bool) → World → World → Prop} {d : Nat → Bool} {P : Program} {ops : Array Oper} {Q : Exit → Act → World → Prop} {J : Nat → Value → World → Prop} {a : Act} {w : World} {j : Nat} {o : Oper} (w' : World) (ho : ops[j]? = some o) (hw : Region.wanted o (yielded ops a.tmps) = true)
    (hn : o.dst = none) (hr : (execOp a.eval o).run P w = .ok .skip w') (hb : Lt w w') (hI : I (upd d j) w') (hX : X d w w') (hJ : J j undef w') : wpOp P ops Q j (fun a' w' => ∃ v, a' = a.put o.dst v ∧ J j (match o.dst with | some _ => v | none => undef) w' ∧ Lt w w' ∧ I (upd d j) w' ∧ X d w w') a w := by
  unfold wpOp
  rw [ho]
  simp only [hw, if_true]
  left
  unfold Oper.wp
  rw [hr]
  exact ⟨undef, by unfold Act.put; rw [hn], by rw [hn]; exact hJ, hb, hI, hX⟩
/-- An operation that calls. -/
theorem growI_call {Lt : World → World → Prop} {I : (Nat → Bool) → World → Prop} {X : (Nat → Bool) → World → World → Prop} {d : Nat → Bool} {P : Program} {ops : Array Oper} {Q : Exit → Act → World → Prop} {J : Nat → Value → World → Prop} {a : Act} {w : World} {j : Nat} {o : Oper} (f : FuncId) (args : Array Value) (ho : ops[j]? = some o) (hw : Region.wanted o (yielded ops a.tmps) = true)
    (hr : (execOp a.eval o).run P w = .ok (.enter f args) w) (hc : Calls P f args w fun e w' => ∃ v, e = .returned v ∧ J j (match o.dst with | some _ => v | none => undef) w' ∧ Lt w w' ∧ I (upd d j) w' ∧ X d w w') : wpOp P ops Q j (fun a' w' => ∃ v, a' = a.put o.dst v ∧ J j (match o.dst with | some _ => v | none => undef) w' ∧ Lt w w' ∧ I (upd d j) w' ∧ X d w w') a w := by
  unfold wpOp
  rw [ho]
  simp only [hw, if_true]
  left
  unfold Oper.wp
  rw [hr, Oper.upon_enter]
  refine Calls.mono hc fun e w' ⟨v, he, h1, h2, h3, h4⟩ => ?_
  subst he
  exact ⟨v, rfl, h1, h2, h3, h4⟩
/-- An operation that is not wanted. -/
theorem growI_not {Lt : World → World → Prop} {I : (Nat → Bool) → World → Prop} {X : (Nat → Bool) → World → World → Prop} {d : Nat → Bool} {P : Program} {ops : Array Oper} {Q : Exit → Act → World → Prop} {J : Nat → Value → World → Prop} {a : Act} {w : World} {j : Nat} {o : Oper} (ho : ops[j]? = some o) (hw : Region.wanted o (yielded ops a.tmps) = false)
    (hb : Lt w w) (hI : I (upd d j) w) (hX : X d w w) (hJ : J j undef w) : wpOp P ops Q j (fun a' w' => ∃ v, a' = a.put o.dst v ∧ J j (match o.dst with | some _ => v | none => undef) w' ∧ Lt w w' ∧ I (upd d j) w' ∧ X d w w') a w := by
  unfold wpOp
  rw [ho]
  simp only [hw]
  exact ⟨undef, rfl, by cases o.dst <;> exact hJ, hb, hI, hX⟩
theorem region_growI_merge (Lt : World → World → Prop) (I : (Nat → Bool) → World → Prop) (X : (Nat → Bool) → World → World → Prop) (hr : ∀ w, Lt w w) (ht : ∀ a b c, Lt a b → Lt b c → Lt a c) {P : Program} {id : Nat} {ops : Array Oper} {Q : Exit → Act → World → Prop} (J : Nat → Value → World → Prop) (ws : List Nat) (R : Array Value → World → Prop) {a0 : Act} {w : World} (hm : P.follows .mixedOrders = true) (hB : growB ops a0.tmps.size = true)
    (hW : ((List.range ops.size).all fun j => match dstOf ops j with | some s => ws.contains s | none => true) = true) (hJ : ∀ (d : Nat → Bool) (j : Nat) (v : Value) (w w' : World), d j = true → J j v w → Lt w w' → X d w w' → J j v w') (h0 : I (fun _ => false) w.drew)
    (hstep : ∀ (Q : Exit → Act → World → Prop) (d : Nat → Bool) (j : Nat) (o : Oper) (a : Act) (w1 : World), ops[j]? = some o → d j = false → (∀ e ∈ o.after, Region.binds .any e = true → d e.on = true) → I d w1 → Lt w.drew w1 → a.tmps.size = a0.tmps.size → (∀ s, (∀ j, j < ops.size → dstOf ops j ≠ some s) → a.tmps[s]? = a0.tmps[s]?) →
      (∀ e ∈ o.after, Region.binds .any e = true → J e.on (valOf ops a e.on) w1) → wpOp P ops Q j (fun a' w' => ∃ v, a' = a.put o.dst v ∧ J j (match o.dst with | some _ => v | none => undef) w' ∧ Lt w1 w' ∧ I (upd d j) w' ∧ X d w1 w') a w1)
    (hend : ∀ a w1, I (fun j => decide (j < ops.size)) w1 → Lt w.drew w1 → (∀ j, j < ops.size → J j (valOf ops a j) w1) → R a.tmps w1)
    (k : ∀ (ts : Array Value) (w' : World), R ts w' → Q .normal ⟨fill ts ws a0.tmps, a0.defers⟩ w') : (Code.region id ops true).wp P Q a0 w := by
  refine region_merge ws R (region_growI Lt I X hr ht J hm hB hJ h0 (hstep _) fun a w1 hi hb hd hs hold hj => ⟨rfl, hd, hs, ?_, hend a w1 hi hb hj⟩) k
  apply Array.ext_getElem?
  intro i
  rw [blank_get, blank_get, hs]
  by_cases hi : i ∈ ws
  · by_cases h2 : i < a0.tmps.size
    · rw [if_pos ⟨hi, h2⟩, if_pos ⟨hi, h2⟩]
    · rw [if_neg (fun h => h2 h.2), if_neg (fun h => h2 h.2), Array.getElem?_eq_none (by omega), Array.getElem?_eq_none (by omega)]
  · rw [if_neg (fun h => hi h.1), if_neg (fun h => hi h.1)]
    refine hold i fun j hj e => hi ?_
    have := List.all_eq_true.1 hW j (List.mem_range.2 hj)
    rw [e] at this
    simpa using this
/-- What an operation's value is: a property that later worlds keep. -/
structure Spc (Lt : World → World → Prop) where
  f : Value → World → Prop
  keep : ∀ v w w', f v w → Lt w w' → f v w'
def Spc.eq {Lt : World → World → Prop} (u : Value) : Spc Lt := ⟨fun v _ => v = u, fun _ _ _ h _ => h⟩
def Spc.any {Lt : World → World → Prop} : Spc Lt := ⟨fun _ _ => True, fun _ _ _ _ _ => trivial⟩
def kjI {Lt : World → World → Prop} (L : Array (Spc Lt)) (j : Nat) (v : Value) (w : World) : Prop := (L.getD j Spc.any).f v w
theorem kjI_later {Lt : World → World → Prop} {X : (Nat → Bool) → World → World → Prop} {L : Array (Spc Lt)} : ∀ (d : Nat → Bool) (j : Nat) (v : Value) (w w' : World), d j = true → kjI L j v w → Lt w w' → X d w w' → kjI L j v w' := fun d j v w w' _ h hb _ => (L.getD j Spc.any).keep v w w' h hb
/-- One operation's value is said by F, which only steps behind it must keep (an append into what is owned). -/
def kjP {Lt : World → World → Prop} (p : Nat) (F : Value → World → Prop) (L : Array (Spc Lt)) (j : Nat) (v : Value) (w : World) : Prop := if j = p then F v w else kjI L j v w
theorem kjP_later {Lt : World → World → Prop} {p : Nat} {F : Value → World → Prop} {L : Array (Spc Lt)} : ∀ (d : Nat → Bool) (j : Nat) (v : Value) (w w' : World), d j = true → kjP p F L j v w → Lt w w' → (d p = true → ∀ v, F v w → F v w') → kjP p F L j v w' := fun d j v w w' hd h hb hX => by
  unfold kjP at h ⊢
  by_cases hj : j = p
  · subst hj
    rw [if_pos rfl] at h ⊢
    exact hX hd v h
  · rw [if_neg hj] at h ⊢
    exact kjI_later (X := fun _ _ _ => True) d j v w w' hd h hb trivial
theorem yieldedI {ops : Array Oper} {ts : Array Value} {j s : Nat} {b : Bool} (h : dstOf ops j = some s) (e : ts.getD s undef = .bool b) : yielded ops ts j = some b := by
  unfold yielded
  have h' : (ops[j]?).bind (·.dst) = some s := h
  rw [h']
  rw [Array.getD_eq_getD_getElem?] at e
  simp only [Option.bind_some]
  cases hh : ts[s]? with
  | none => rw [hh] at e; cases e
  | some v => rw [hh] at e; simp only [Option.getD_some] at e; rw [e]
theorem wantedI {o : Oper} {y : Nat → Option Bool} {j : Nat} {b : Bool} (h : o.guard = some (j, b)) (e : y j = some b) : Region.wanted o y = true := by
  unfold Region.wanted
  rw [h]
  simp [e]
theorem unwantedI {o : Oper} {y : Nat → Option Bool} {j : Nat} {b c : Bool} (h : o.guard = some (j, b)) (e : y j = some c) (hn : c ≠ b) : Region.wanted o y = false := by
  unfold Region.wanted
  rw [h]
  simp [e, hn]
end Go.Proofs.YtanjdjiigfdnmaaGreatDoor

/- slices.Clone of columns and numbers; Copy of a schema, the program's and the reference's. -/
namespace Go.Proofs.YtanjdjiigfdnmaaGreatDoor
open Go.RowKit
set_option linter.unusedVariables false
set_option linter.unusedSimpArgs false
set_option maxRecDepth 100000

set_option maxHeartbeats 4000000 in
theorem cCloneK (v : Value) (l : List Co) (w : World) (h : RdK w w.heap.size v l) (hl : l.length ≤ 1000000) :
    Calls Tryz.prog 48 #[v] w fun e w' => ∃ v', e = .returned v' ∧ OwnK w' w.heap.size v' l ∧ Below w.heap.size w w' := by
  obtain ⟨a, c, rfl, hc, hm, hn⟩ := Gn.Rd.form h
  have HR := Lib.hid h
  have HO : Hid (OwnK (w.alloc (.cells #[] 36)) w.heap.size (.slice (some ⟨w.heap.size, 0, none⟩) 0 0) ([] : List Co)) := Lib.hid (Gn.Own.lit coL w w.heap.size [] _ 0 0 rfl rfl rfl (by simp) (Nat.le_refl _))
  have HB := Lib.hid (box_new w (.cells #[] 36))
  have HR2 := Lib.hid (h.later (box_new w (.cells #[] 36)))
  have HSZ := Lib.hid HB.out.size
  cases a with
  | none =>
    have hl0 : l = [] := List.eq_nil_of_length_eq_zero (by have := hn rfl; omega)
    subst hl0
    obtain rfl := hn rfl
    have qT : ∀ w, (binOp .eql 22 (.slice none 0 0) (.slice none 0 0)).run Tryz.prog w = .ok (.bool true) w := fun w => Lib.run_eql_slice_nil w 22 36 none 0 0 0 0 Tryz.underlying22
    clear h
    go_enter Tryz.func48, Tryz.ntmps48
    go_wp2_with fail
    go_ret
    exact ⟨_, rfl, Gn.Own.nil _ _, Below.refl _ _⟩
  | some ad =>
    have qT : ∀ w, (binOp .eql 22 (.slice (some ad) l.length c) (.slice none 0 0)).run Tryz.prog w = .ok (.bool false) w := fun w => Lib.run_eql_slice_nil w 22 36 (some ad) _ c 0 0 Tryz.underlying22
    have HLN : Hid (([] : List Co).length + l.length ≤ 100000000) := Lib.hid (by simp; omega)
    clear h
    go_enter Tryz.func48, Tryz.ntmps48
    go_wp2_with (at_builtin
                 refine Gn.wpList_app coL coY rfl (.tmp 5) (.tmp 6) rfl w.heap.size (.slice (some ⟨w.heap.size, 0, none⟩) 0 0) [] rfl HO.out (.slice (some ad) l.length c) l rfl HR2.out HLN.out HSZ.out ?_
                 intro v1 w1 ho1 hg1 hl1 hn1)
    go_ret
    exact ⟨_, rfl, ho1, HB.out.trans (Gn.below_of_own HO.out hg1 HSZ.out)⟩
set_option maxHeartbeats 4000000 in
theorem cCloneI (v : Value) (l : List Int) (w : World) (h : RdI w w.heap.size v l) (hl : l.length ≤ 1000000) :
    Calls Tryz.prog 49 #[v] w fun e w' => ∃ v', e = .returned v' ∧ OwnI w' w.heap.size v' l ∧ Below w.heap.size w w' := by
  obtain ⟨a, c, rfl, hc, hm, hn⟩ := Gn.Rd.form h
  have HR := Lib.hid h
  have HO : Hid (OwnI (w.alloc (.cells #[] 3)) w.heap.size (.slice (some ⟨w.heap.size, 0, none⟩) 0 0) ([] : List Int)) := Lib.hid (Gn.Own.lit inL w w.heap.size [] _ 0 0 rfl rfl rfl (by simp) (Nat.le_refl _))
  have HB := Lib.hid (box_new w (.cells #[] 3))
  have HR2 := Lib.hid (h.later (box_new w (.cells #[] 3)))
  have HSZ := Lib.hid HB.out.size
  cases a with
  | none =>
    have hl0 : l = [] := List.eq_nil_of_length_eq_zero (by have := hn rfl; omega)
    subst hl0
    obtain rfl := hn rfl
    have qT : ∀ w, (binOp .eql 23 (.slice none 0 0) (.slice none 0 0)).run Tryz.prog w = .ok (.bool true) w := fun w => Lib.run_eql_slice_nil w 23 3 none 0 0 0 0 Tryz.underlying23
    clear h
    go_enter Tryz.func49, Tryz.ntmps49
    go_wp2_with fail
    go_ret
    exact ⟨_, rfl, Gn.Own.nil _ _, Below.refl _ _⟩
  | some ad =>
    have qT : ∀ w, (binOp .eql 23 (.slice (some ad) l.length c) (.slice none 0 0)).run Tryz.prog w = .ok (.bool false) w := fun w => Lib.run_eql_slice_nil w 23 3 (some ad) _ c 0 0 Tryz.underlying23
    have HLN : Hid (([] : List Int).length + l.length ≤ 100000000) := Lib.hid (by simp; omega)
    clear h
    go_enter Tryz.func49, Tryz.ntmps49
    go_wp2_with (at_builtin
                 refine Gn.wpList_app inL inY rfl (.tmp 5) (.tmp 6) rfl w.heap.size (.slice (some ⟨w.heap.size, 0, none⟩) 0 0) [] rfl HO.out (.slice (some ad) l.length c) l rfl HR2.out HLN.out HSZ.out ?_
                 intro v1 w1 ho1 hg1 hl1 hn1)
    go_ret
    exact ⟨_, rfl, ho1, HB.out.trans (Gn.below_of_own HO.out hg1 HSZ.out)⟩
set_option maxHeartbeats 8000000 in
theorem cCopyS (v kv : Value) (l : List Co) (ks : List Int) (w : World) (h : RdK w w.heap.size v l) (hk : RdI w w.heap.size kv ks) (hl : l.length ≤ 1000000) (hkl : ks.length ≤ 1000000) :
    Calls Tryz.prog 14 #[.agg #[v, kv]] w fun e w' => FPost w l ks e w' := by
  obtain ⟨a, c, rfl, _⟩ := Gn.Rd.form h
  obtain ⟨ka, kc, rfl, _⟩ := Gn.Rd.form hk
  obtain ⟨v, hv⟩ : ∃ v, v = Value.slice a l.length c := ⟨_, rfl⟩
  obtain ⟨kv, hkv⟩ : ∃ v, v = Value.slice ka ks.length kc := ⟨_, rfl⟩
  rw [← hv] at h ⊢
  rw [← hkv] at hk ⊢
  have HV := Lib.hid h
  have HKV := Lib.hid hk
  have HCK := Lib.hid (fun w1 (g : RdK w1 w1.heap.size v l) => cCloneK v l w1 g hl)
  have HCI := Lib.hid (fun w1 (g : RdI w1 w1.heap.size kv ks) => cCloneI kv ks w1 g hkl)
  have b1 := box_new w (.cells #[v, kv] 25)
  have b2 := box_new (w.alloc (.cells #[v, kv] 25)) (.cells #[nilS, nilS] 25)
  have HB := Lib.hid (up b1 b2)
  have HX := Lib.hid ((Blk.new w 25 #[v, kv]).later b2)
  have HY := Lib.hid (Blk.new (w.alloc (.cells #[v, kv] 25)) 25 #[nilS, nilS])
  rw [show (w.alloc (.cells #[v, kv] 25)).heap.size = w.heap.size + 1 by simp] at HY
  have HSZ : Hid (((w.alloc (.cells #[v, kv] 25)).alloc (.cells #[nilS, nilS] 25)).heap.size = w.heap.size + 2) := Lib.hid (by simp)
  have x0 := HX.out.cell 0
  have x1 := HX.out.cell 1
  simp only [List.getElem?_cons_succ, List.getElem?_cons_zero] at x0 x1
  unfold nilS at HB HX HSZ x0 x1
  clear h hk b1 b2 hv hkv
  have HY' := HY
  unfold nilS at HY'
  clear HY
  go_enter Tryz.func14, Tryz.ntmps14
  go_upto_region 1 with fail
  have HY : Hid (Blk ((w.alloc (.cells #[v, kv] 25)).alloc (.cells #[.slice none 0 0, .slice none 0 0] 25)) (w.heap.size + 1) 25 [nilS, nilS]) := HY'
  clear HY'
  generalize (w.alloc (.cells #[v, kv] 25)).alloc (.cells #[.slice none 0 0, .slice none 0 0] 25) = wr at *
  refine region_growI_merge (fun u v => Touch (fun q => q = w.heap.size + 1) u v) (fun d u => (d 7 = false → Blk u (w.heap.size + 1) 25 [nilS, nilS]) ∧ (d 7 = true → ∃ xa xb, Blk u (w.heap.size + 1) 25 [xa, xb] ∧ OwnK u (w.heap.size + 2) xa l ∧ OwnI u (w.heap.size + 2) xb ks)) (fun _ _ _ => True) (fun u => Touch.refl _ _) (fun _ _ _ h k => h.trans k (fun _ h => .inl h)) (kjI #[Spc.eq (.pointer (some ⟨w.heap.size, 0, none⟩)), Spc.eq (v), ⟨fun x u => OwnK u (w.heap.size + 2) x l, fun _ _ _ h hb => own_touch h hb (fun q hq e => by have := (h.lt q hq).1; have e : q = w.heap.size + 1 := e; omega)⟩, Spc.eq (.pointer (some ⟨w.heap.size, 1, none⟩)), Spc.eq (kv), ⟨fun x u => OwnI u (w.heap.size + 2) x ks, fun _ _ _ h hb => own_touch h hb (fun q hq e => by have := (h.lt q hq).1; have e : q = w.heap.size + 1 := e; omega)⟩, ⟨fun x u => ∃ a b, x = .agg #[a, b] ∧ OwnK u (w.heap.size + 2) a l ∧ OwnI u (w.heap.size + 2) b ks, fun _ _ _ h hb => by obtain ⟨a, b, h1, h2, h3⟩ := h; exact ⟨a, b, h1, own_touch h2 hb (fun q hq e => by have := (h2.lt q hq).1; have e : q = w.heap.size + 1 := e; omega), own_touch h3 hb (fun q hq e => by have := (h3.lt q hq).1; have e : q = w.heap.size + 1 := e; omega)⟩⟩, Spc.any]) [3, 4, 5, 6, 7, 8, 9] (fun ts u => ∃ xa xb, Blk u (w.heap.size + 1) 25 [xa, xb] ∧ OwnK u (w.heap.size + 2) xa l ∧ OwnI u (w.heap.size + 2) xb ks ∧ Below w.heap.size w u) (by kernel_rfl) (by kernel_rfl) (by kernel_rfl) kjI_later ⟨fun _ => HY.out.later (Below.refl _ _).drew, fun h => (by cases h)⟩ ?_ ?_ ?_
  · intro QQ fd jo o a w1 ho hfd hdd hI hb hs hold hdep
    have hjo : jo < 8 := (Array.getElem?_eq_some_iff.1 ho).1
    skip
    have hsz : w.heap.size + 2 ≤ w1.heap.size := by have := hb.size; have h2 := HSZ.out; have h3 : wr.heap.size ≤ w1.heap.size := this; omega
    have hbw : Below w.heap.size w w1 := HB.out.drew.trans (hb.below (show w.heap.size ≤ wr.heap.size by have := HSZ.out; omega) (fun q hq => by have hq : q = w.heap.size + 1 := hq; omega))
    have k0 : w1.cell? ⟨w.heap.size, 0, none⟩ = some v := (hb.cell (p := ⟨w.heap.size, 0, none⟩) (cell_lt x0) (by show ¬ w.heap.size = w.heap.size + 1; omega)).trans x0
    have k1 : w1.cell? ⟨w.heap.size, 1, none⟩ = some kv := (hb.cell (p := ⟨w.heap.size, 1, none⟩) (cell_lt x1) (by show ¬ w.heap.size = w.heap.size + 1; omega)).trans x1
    clear x0 x1
    have e1 : a.eval (.tmp 1) = .pointer (some ⟨w.heap.size, 0, none⟩) := by
      show a.tmps.getD 1 undef = _
      rw [Array.getD_eq_getD_getElem?, hold 1 (by decide +kernel)]; rfl
    have e2 : a.eval (.tmp 2) = .pointer (some ⟨w.heap.size + 1, 0, none⟩) := by
      show a.tmps.getD 2 undef = _
      rw [Array.getD_eq_getD_getElem?, hold 2 (by decide +kernel)]; rfl
    have ec : ∀ v, a.eval (.const v) = v := fun _ => rfl
    clear hold hs
    rcases (show jo = 0 ∨ jo = 1 ∨ jo = 2 ∨ jo = 3 ∨ jo = 4 ∨ jo = 5 ∨ jo = 6 ∨ jo = 7 by omega) with rfl | rfl | rfl | rfl | rfl | rfl | rfl | rfl
    · have ho2 := ho; simp only [List.getElem?_toArray, List.getElem?_cons_succ, List.getElem?_cons_zero, Option.some.injEq] at ho2; subst ho2
      refine growI_val (I := (fun d u => (d 7 = false → Blk u (w.heap.size + 1) 25 [nilS, nilS]) ∧ (d 7 = true → ∃ xa xb, Blk u (w.heap.size + 1) 25 [xa, xb] ∧ OwnK u (w.heap.size + 2) xa l ∧ OwnI u (w.heap.size + 2) xb ks))) (X := (fun _ _ _ => True)) (d := fd) (a := a) (w := w1) (.pointer (some ⟨w.heap.size, 0, none⟩)) w1 ho rfl ?_ ((fun u => Touch.refl _ _) w1) ⟨fun h => (hI.1 (by simpa [upd] using h)).later (Below.refl _ _), fun h => (hI.2 (by simpa [upd] using h)).elim fun xa h => h.elim fun xb h => ⟨xa, xb, h.1.later (Below.refl _ _), Gn.Own.later h.2.1 (Below.refl _ _), Gn.Own.later h.2.2 (Below.refl _ _)⟩⟩ trivial rfl
      unfold execOp
      simp only [List.map_toArray, List.map_cons, List.map_nil, e1, ec]
      first | rfl | (go_simp; done) | (go_simp; rfl) | (go_simp; omega)
    · have ho2 := ho; simp only [List.getElem?_toArray, List.getElem?_cons_succ, List.getElem?_cons_zero, Option.some.injEq] at ho2; subst ho2
      have d0 : a.eval (.tmp 3) = .pointer (some ⟨w.heap.size, 0, none⟩) := hdep ⟨0, .data⟩ (by simp) rfl
      refine growI_val (I := (fun d u => (d 7 = false → Blk u (w.heap.size + 1) 25 [nilS, nilS]) ∧ (d 7 = true → ∃ xa xb, Blk u (w.heap.size + 1) 25 [xa, xb] ∧ OwnK u (w.heap.size + 2) xa l ∧ OwnI u (w.heap.size + 2) xb ks))) (X := (fun _ _ _ => True)) (d := fd) (a := a) (w := w1) (v) w1 ho rfl ?_ ((fun u => Touch.refl _ _) w1) ⟨fun h => (hI.1 (by simpa [upd] using h)).later (Below.refl _ _), fun h => (hI.2 (by simpa [upd] using h)).elim fun xa h => h.elim fun xb h => ⟨xa, xb, h.1.later (Below.refl _ _), Gn.Own.later h.2.1 (Below.refl _ _), Gn.Own.later h.2.2 (Below.refl _ _)⟩⟩ trivial rfl
      unfold execOp
      simp only [List.map_toArray, List.map_cons, List.map_nil, d0, ec]
      first | rfl | (go_simp; done) | (go_simp; rfl) | (go_simp; omega)
    · have ho2 := ho; simp only [List.getElem?_toArray, List.getElem?_cons_succ, List.getElem?_cons_zero, Option.some.injEq] at ho2; subst ho2
      have d0 : a.eval (.tmp 4) = v := hdep ⟨1, .data⟩ (by simp) rfl
      refine growI_call (I := (fun d u => (d 7 = false → Blk u (w.heap.size + 1) 25 [nilS, nilS]) ∧ (d 7 = true → ∃ xa xb, Blk u (w.heap.size + 1) 25 [xa, xb] ∧ OwnK u (w.heap.size + 2) xa l ∧ OwnI u (w.heap.size + 2) xb ks))) (X := (fun _ _ _ => True)) (d := fd) (a := a) (w := w1) 48 #[v] ho rfl ?_ ((HCK.out w1 (HV.out.later hbw)).mono ?_)
      · unfold execOp resolve
        simp only [List.map_toArray, List.map_cons, List.map_nil, d0, ec]
        rfl
      · rintro e c1 ⟨v1, rfl, ho1, hb2⟩
        exact ⟨_, rfl, (Gn.Own.lower ho1 hsz), (Touch.of_below hb2), ⟨fun h => (hI.1 (by simpa [upd] using h)).later hb2, fun h => (hI.2 (by simpa [upd] using h)).elim fun xa h => h.elim fun xb h => ⟨xa, xb, h.1.later hb2, Gn.Own.later h.2.1 hb2, Gn.Own.later h.2.2 hb2⟩⟩, trivial⟩
    · have ho2 := ho; simp only [List.getElem?_toArray, List.getElem?_cons_succ, List.getElem?_cons_zero, Option.some.injEq] at ho2; subst ho2
      refine growI_val (I := (fun d u => (d 7 = false → Blk u (w.heap.size + 1) 25 [nilS, nilS]) ∧ (d 7 = true → ∃ xa xb, Blk u (w.heap.size + 1) 25 [xa, xb] ∧ OwnK u (w.heap.size + 2) xa l ∧ OwnI u (w.heap.size + 2) xb ks))) (X := (fun _ _ _ => True)) (d := fd) (a := a) (w := w1) (.pointer (some ⟨w.heap.size, 1, none⟩)) w1 ho rfl ?_ ((fun u => Touch.refl _ _) w1) ⟨fun h => (hI.1 (by simpa [upd] using h)).later (Below.refl _ _), fun h => (hI.2 (by simpa [upd] using h)).elim fun xa h => h.elim fun xb h => ⟨xa, xb, h.1.later (Below.refl _ _), Gn.Own.later h.2.1 (Below.refl _ _), Gn.Own.later h.2.2 (Below.refl _ _)⟩⟩ trivial rfl
      unfold execOp
      simp only [List.map_toArray, List.map_cons, List.map_nil, e1, ec]
      first | rfl | (go_simp; done) | (go_simp; rfl) | (go_simp; omega)
    · have ho2 := ho; simp only [List.getElem?_toArray, List.getElem?_cons_succ, List.getElem?_cons_zero, Option.some.injEq] at ho2; subst ho2
      have d0 : a.eval (.tmp 6) = .pointer (some ⟨w.heap.size, 1, none⟩) := hdep ⟨3, .data⟩ (by simp) rfl
      refine growI_val (I := (fun d u => (d 7 = false → Blk u (w.heap.size + 1) 25 [nilS, nilS]) ∧ (d 7 = true → ∃ xa xb, Blk u (w.heap.size + 1) 25 [xa, xb] ∧ OwnK u (w.heap.size + 2) xa l ∧ OwnI u (w.heap.size + 2) xb ks))) (X := (fun _ _ _ => True)) (d := fd) (a := a) (w := w1) (kv) w1 ho rfl ?_ ((fun u => Touch.refl _ _) w1) ⟨fun h => (hI.1 (by simpa [upd] using h)).later (Below.refl _ _), fun h => (hI.2 (by simpa [upd] using h)).elim fun xa h => h.elim fun xb h => ⟨xa, xb, h.1.later (Below.refl _ _), Gn.Own.later h.2.1 (Below.refl _ _), Gn.Own.later h.2.2 (Below.refl _ _)⟩⟩ trivial rfl
      unfold execOp
      simp only [List.map_toArray, List.map_cons, List.map_nil, d0, ec]
      first | rfl | (go_simp; done) | (go_simp; rfl) | (go_simp; omega)
    · have ho2 := ho; simp only [List.getElem?_toArray, List.getElem?_cons_succ, List.getElem?_cons_zero, Option.some.injEq] at ho2; subst ho2
      have d0 : a.eval (.tmp 7) = kv := hdep ⟨4, .data⟩ (by simp) rfl
      refine growI_call (I := (fun d u => (d 7 = false → Blk u (w.heap.size + 1) 25 [nilS, nilS]) ∧ (d 7 = true → ∃ xa xb, Blk u (w.heap.size + 1) 25 [xa, xb] ∧ OwnK u (w.heap.size + 2) xa l ∧ OwnI u (w.heap.size + 2) xb ks))) (X := (fun _ _ _ => True)) (d := fd) (a := a) (w := w1) 49 #[kv] ho rfl ?_ ((HCI.out w1 (HKV.out.later hbw)).mono ?_)
      · unfold execOp resolve
        simp only [List.map_toArray, List.map_cons, List.map_nil, d0, ec]
        rfl
      · rintro e c1 ⟨v1, rfl, ho1, hb2⟩
        exact ⟨_, rfl, (Gn.Own.lower ho1 hsz), (Touch.of_below hb2), ⟨fun h => (hI.1 (by simpa [upd] using h)).later hb2, fun h => (hI.2 (by simpa [upd] using h)).elim fun xa h => h.elim fun xb h => ⟨xa, xb, h.1.later hb2, Gn.Own.later h.2.1 hb2, Gn.Own.later h.2.2 hb2⟩⟩, trivial⟩
    · have ho2 := ho; simp only [List.getElem?_toArray, List.getElem?_cons_succ, List.getElem?_cons_zero, Option.some.injEq] at ho2; subst ho2
      obtain ⟨a1, d0, f0⟩ : ∃ x, a.eval (.tmp 5) = x ∧ OwnK w1 (w.heap.size + 2) x l := ⟨_, rfl, hdep ⟨2, .data⟩ (by simp) rfl⟩
      obtain ⟨b1, d1, f1⟩ : ∃ x, a.eval (.tmp 8) = x ∧ OwnI w1 (w.heap.size + 2) x ks := ⟨_, rfl, hdep ⟨5, .data⟩ (by simp) rfl⟩
      obtain ⟨xa, xc, rfl, _⟩ := Gn.Rd.form (RdK.of f0)
      obtain ⟨ya, yc, rfl, _⟩ := Gn.Rd.form (RdI.of f1)
      refine growI_val (I := (fun d u => (d 7 = false → Blk u (w.heap.size + 1) 25 [nilS, nilS]) ∧ (d 7 = true → ∃ xa xb, Blk u (w.heap.size + 1) 25 [xa, xb] ∧ OwnK u (w.heap.size + 2) xa l ∧ OwnI u (w.heap.size + 2) xb ks))) (X := (fun _ _ _ => True)) (d := fd) (a := a) (w := w1) (.agg #[.slice xa l.length xc, .slice ya ks.length yc]) w1 ho rfl ?_ (Touch.refl _ _) ⟨fun h => (hI.1 (by simpa [upd] using h)).later (Below.refl _ _), fun h => (hI.2 (by simpa [upd] using h)).elim fun xa h => h.elim fun xb h => ⟨xa, xb, h.1.later (Below.refl _ _), Gn.Own.later h.2.1 (Below.refl _ _), Gn.Own.later h.2.2 (Below.refl _ _)⟩⟩ trivial ⟨_, _, rfl, f0, f1⟩
      unfold execOp
      first | (simp only [List.map_toArray, List.map_cons, List.map_nil, d0, d1, ec]; rfl) | (simp only [List.map_toArray, List.map_cons, List.map_nil, d0, d1, ec]; go_simp; done) | (generalize a.eval = ev at *; go_simp; done)
    · have ho2 := ho; simp only [List.getElem?_toArray, List.getElem?_cons_succ, List.getElem?_cons_zero, Option.some.injEq] at ho2; subst ho2
      obtain ⟨v1, d1, xa, xb, rfl, h1, h2⟩ : ∃ v1, a.eval (.tmp 9) = v1 ∧ ∃ a b, v1 = .agg #[a, b] ∧ OwnK w1 (w.heap.size + 2) a l ∧ OwnI w1 (w.heap.size + 2) b ks := ⟨_, rfl, hdep ⟨6, .data⟩ (by simp) rfl⟩
      have hs1 := hI.1 hfd
      have q0 := hs1.cell 0
      have q1 := hs1.cell 1
      have q2 := hs1.frozen 0
      have q3 := hs1.frozen 1
      simp only [List.getElem?_cons_succ, List.getElem?_cons_zero] at q0 q1
      have hp := Blk.put (Blk.put hs1 0 xa) 1 xb
      have o1 := own_far (own_far h1 (p := ⟨w.heap.size + 1, 0, none⟩) (by simp only; omega) xa) (p := ⟨w.heap.size + 1, 1, none⟩) (by simp only; omega) xb
      have o2 := own_far (own_far h2 (p := ⟨w.heap.size + 1, 0, none⟩) (by simp only; omega) xa) (p := ⟨w.heap.size + 1, 1, none⟩) (by simp only; omega) xb
      obtain ⟨ya, yc, rfl, _⟩ := Gn.Rd.form (RdK.of h1)
      obtain ⟨za, zc, rfl, _⟩ := Gn.Rd.form (RdI.of h2)
      refine growI_skip (I := (fun d u => (d 7 = false → Blk u (w.heap.size + 1) 25 [nilS, nilS]) ∧ (d 7 = true → ∃ xa xb, Blk u (w.heap.size + 1) 25 [xa, xb] ∧ OwnK u (w.heap.size + 2) xa l ∧ OwnI u (w.heap.size + 2) xb ks))) (X := (fun _ _ _ => True)) (d := fd) (a := a) (w := w1) ((w1.setCell ⟨w.heap.size + 1, 0, none⟩ _).setCell ⟨w.heap.size + 1, 1, none⟩ _) ho rfl rfl ?_ (Touch.setCell (S := fun q => q = w.heap.size + 1) (p := ⟨w.heap.size + 1, 1, none⟩) (Touch.setCell (S := fun q => q = w.heap.size + 1) (p := ⟨w.heap.size + 1, 0, none⟩) (Touch.refl _ _) rfl _) rfl _) ⟨fun h => absurd h (by simp [upd]), fun _ => ⟨_, _, hp, o1, o2⟩⟩ trivial trivial
      unfold execOp
      simp only [e2, d1, ec]
      go_simp
  · intro a w1 hI hb hj
    obtain ⟨xa, xb, h1, h2, h3⟩ := hI.2 (by decide)
    have hbw : Below w.heap.size w w1 := HB.out.drew.trans (hb.below (show w.heap.size ≤ wr.heap.size by have := HSZ.out; omega) (fun q hq => by have hq : q = w.heap.size + 1 := hq; omega))
    exact ⟨xa, xb, h1, h2, h3, hbw⟩
  rintro ts w6 ⟨xa, xb, h1, h2, h3, hbw⟩
  simp only [fill, List.setIfInBounds_toArray, List.set_cons_succ, List.set_cons_zero]
  have H1 := Lib.hid h1
  have H2 := Lib.hid (Gn.Own.lower h2 (show w.heap.size ≤ w.heap.size + 2 by omega))
  have H3 := Lib.hid (Gn.Own.lower h3 (show w.heap.size ≤ w.heap.size + 2 by omega))
  have H4 := Lib.hid hbw
  clear h1 h2 h3 hbw x0 x1
  go_wp2_with fail
  exact bodyPost_ret (retSf rfl _ _ (w.heap.size + 1) xa xb rfl H1.out) rfl ⟨_, _, rfl, H2.out, H3.out, H4.out⟩
set_option maxHeartbeats 8000000 in
theorem rCopyS (v kv : Value) (l : List Co) (ks : List Int) (w : World) (h : RdK w w.heap.size v l) (hk : RdI w w.heap.size kv ks) (hl : l.length ≤ 1000000) (hkl : ks.length ≤ 1000000) :
    Calls Tryz.prog 13 #[.agg #[v, kv]] w fun e w' => FPost w l ks e w' := by
  obtain ⟨a, c, rfl, _⟩ := Gn.Rd.form h
  obtain ⟨ka, kc, rfl, _⟩ := Gn.Rd.form hk
  obtain ⟨v, hv⟩ : ∃ v, v = Value.slice a l.length c := ⟨_, rfl⟩
  obtain ⟨kv, hkv⟩ : ∃ v, v = Value.slice ka ks.length kc := ⟨_, rfl⟩
  rw [← hv] at h ⊢
  rw [← hkv] at hk ⊢
  have HV := Lib.hid h
  have HKV := Lib.hid hk
  have HCK := Lib.hid (fun w1 (g : RdK w1 w1.heap.size v l) => copyCols v l w1 g hl)
  have HCI := Lib.hid (fun w1 (g : RdI w1 w1.heap.size kv ks) => copyInts kv ks w1 g hkl)
  have b1 := box_new w (.cells #[v, kv] 25)
  have b2 := box_new (w.alloc (.cells #[v, kv] 25)) (.cells #[nilS, nilS] 25)
  have HB := Lib.hid (up b1 b2)
  have HX := Lib.hid ((Blk.new w 25 #[v, kv]).later b2)
  have HY := Lib.hid (Blk.new (w.alloc (.cells #[v, kv] 25)) 25 #[nilS, nilS])
  rw [show (w.alloc (.cells #[v, kv] 25)).heap.size = w.heap.size + 1 by simp] at HY
  have HSZ : Hid (((w.alloc (.cells #[v, kv] 25)).alloc (.cells #[nilS, nilS] 25)).heap.size = w.heap.size + 2) := Lib.hid (by simp)
  have x0 := HX.out.cell 0
  have x1 := HX.out.cell 1
  simp only [List.getElem?_cons_succ, List.getElem?_cons_zero] at x0 x1
  unfold nilS at HB HX HSZ x0 x1
  clear h hk b1 b2 hv hkv
  have HY' := HY
  unfold nilS at HY'
  clear HY
  go_enter Tryz.func13, Tryz.ntmps13
  go_upto_region 1 with fail
  have HY : Hid (Blk ((w.alloc (.cells #[v, kv] 25)).alloc (.cells #[.slice none 0 0, .slice none 0 0] 25)) (w.heap.size + 1) 25 [nilS, nilS]) := HY'
  clear HY'
  generalize (w.alloc (.cells #[v, kv] 25)).alloc (.cells #[.slice none 0 0, .slice none 0 0] 25) = wr at *
  refine region_growI_merge (fun u v => Touch (fun q => q = w.heap.size + 1) u v) (fun d u => (d 7 = false → Blk u (w.heap.size + 1) 25 [nilS, nilS]) ∧ (d 7 = true → ∃ xa xb, Blk u (w.heap.size + 1) 25 [xa, xb] ∧ OwnK u (w.heap.size + 2) xa l ∧ OwnI u (w.heap.size + 2) xb ks)) (fun _ _ _ => True) (fun u => Touch.refl _ _) (fun _ _ _ h k => h.trans k (fun _ h => .inl h)) (kjI #[Spc.eq (.pointer (some ⟨w.heap.size, 0, none⟩)), Spc.eq (v), ⟨fun x u => OwnK u (w.heap.size + 2) x l, fun _ _ _ h hb => own_touch h hb (fun q hq e => by have := (h.lt q hq).1; have e : q = w.heap.size + 1 := e; omega)⟩, Spc.eq (.pointer (some ⟨w.heap.size, 1, none⟩)), Spc.eq (kv), ⟨fun x u => OwnI u (w.heap.size + 2) x ks, fun _ _ _ h hb => own_touch h hb (fun q hq e => by have := (h.lt q hq).1; have e : q = w.heap.size + 1 := e; omega)⟩, ⟨fun x u => ∃ a b, x = .agg #[a, b] ∧ OwnK u (w.heap.size + 2) a l ∧ OwnI u (w.heap.size + 2) b ks, fun _ _ _ h hb => by obtain ⟨a, b, h1, h2, h3⟩ := h; exact ⟨a, b, h1, own_touch h2 hb (fun q hq e => by have := (h2.lt q hq).1; have e : q = w.heap.size + 1 := e; omega), own_touch h3 hb (fun q hq e => by have := (h3.lt q hq).1; have e : q = w.heap.size + 1 := e; omega)⟩⟩, Spc.any]) [3, 4, 5, 6, 7, 8, 9] (fun ts u => ∃ xa xb, Blk u (w.heap.size + 1) 25 [xa, xb] ∧ OwnK u (w.heap.size + 2) xa l ∧ OwnI u (w.heap.size + 2) xb ks ∧ Below w.heap.size w u) (by kernel_rfl) (by kernel_rfl) (by kernel_rfl) kjI_later ⟨fun _ => HY.out.later (Below.refl _ _).drew, fun h => (by cases h)⟩ ?_ ?_ ?_
  · intro QQ fd jo o a w1 ho hfd hdd hI hb hs hold hdep
    have hjo : jo < 8 := (Array.getElem?_eq_some_iff.1 ho).1
    skip
    have hsz : w.heap.size + 2 ≤ w1.heap.size := by have := hb.size; have h2 := HSZ.out; have h3 : wr.heap.size ≤ w1.heap.size := this; omega
    have hbw : Below w.heap.size w w1 := HB.out.drew.trans (hb.below (show w.heap.size ≤ wr.heap.size by have := HSZ.out; omega) (fun q hq => by have hq : q = w.heap.size + 1 := hq; omega))
    have k0 : w1.cell? ⟨w.heap.size, 0, none⟩ = some v := (hb.cell (p := ⟨w.heap.size, 0, none⟩) (cell_lt x0) (by show ¬ w.heap.size = w.heap.size + 1; omega)).trans x0
    have k1 : w1.cell? ⟨w.heap.size, 1, none⟩ = some kv := (hb.cell (p := ⟨w.heap.size, 1, none⟩) (cell_lt x1) (by show ¬ w.heap.size = w.heap.size + 1; omega)).trans x1
    clear x0 x1
    have e1 : a.eval (.tmp 1) = .pointer (some ⟨w.heap.size, 0, none⟩) := by
      show a.tmps.getD 1 undef = _
      rw [Array.getD_eq_getD_getElem?, hold 1 (by decide +kernel)]; rfl
    have e2 : a.eval (.tmp 2) = .pointer (some ⟨w.heap.size + 1, 0, none⟩) := by
      show a.tmps.getD 2 undef = _
      rw [Array.getD_eq_getD_getElem?, hold 2 (by decide +kernel)]; rfl
    have ec : ∀ v, a.eval (.const v) = v := fun _ => rfl
    clear hold hs
    rcases (show jo = 0 ∨ jo = 1 ∨ jo = 2 ∨ jo = 3 ∨ jo = 4 ∨ jo = 5 ∨ jo = 6 ∨ jo = 7 by omega) with rfl | rfl | rfl | rfl | rfl | rfl | rfl | rfl
    · have ho2 := ho; simp only [List.getElem?_toArray, List.getElem?_cons_succ, List.getElem?_cons_zero, Option.some.injEq] at ho2; subst ho2
      refine growI_val (I := (fun d u => (d 7 = false → Blk u (w.heap.size + 1) 25 [nilS, nilS]) ∧ (d 7 = true → ∃ xa xb, Blk u (w.heap.size + 1) 25 [xa, xb] ∧ OwnK u (w.heap.size + 2) xa l ∧ OwnI u (w.heap.size + 2) xb ks))) (X := (fun _ _ _ => True)) (d := fd) (a := a) (w := w1) (.pointer (some ⟨w.heap.size, 0, none⟩)) w1 ho rfl ?_ ((fun u => Touch.refl _ _) w1) ⟨fun h => (hI.1 (by simpa [upd] using h)).later (Below.refl _ _), fun h => (hI.2 (by simpa [upd] using h)).elim fun xa h => h.elim fun xb h => ⟨xa, xb, h.1.later (Below.refl _ _), Gn.Own.later h.2.1 (Below.refl _ _), Gn.Own.later h.2.2 (Below.refl _ _)⟩⟩ trivial rfl
      unfold execOp
      simp only [List.map_toArray, List.map_cons, List.map_nil, e1, ec]
      first | rfl | (go_simp; done) | (go_simp; rfl) | (go_simp; omega)
    · have ho2 := ho; simp only [List.getElem?_toArray, List.getElem?_cons_succ, List.getElem?_cons_zero, Option.some.injEq] at ho2; subst ho2
      have d0 : a.eval (.tmp 3) = .pointer (some ⟨w.heap.size, 0, none⟩) := hdep ⟨0, .data⟩ (by simp) rfl
      refine growI_val (I := (fun d u => (d 7 = false → Blk u (w.heap.size + 1) 25 [nilS, nilS]) ∧ (d 7 = true → ∃ xa xb, Blk u (w.heap.size + 1) 25 [xa, xb] ∧ OwnK u (w.heap.size + 2) xa l ∧ OwnI u (w.heap.size + 2) xb ks))) (X := (fun _ _ _ => True)) (d := fd) (a := a) (w := w1) (v) w1 ho rfl ?_ ((fun u => Touch.refl _ _) w1) ⟨fun h => (hI.1 (by simpa [upd] using h)).later (Below.refl _ _), fun h => (hI.2 (by simpa [upd] using h)).elim fun xa h => h.elim fun xb h => ⟨xa, xb, h.1.later (Below.refl _ _), Gn.Own.later h.2.1 (Below.refl _ _), Gn.Own.later h.2.2 (Below.refl _ _)⟩⟩ trivial rfl
      unfold execOp
      simp only [List.map_toArray, List.map_cons, List.map_nil, d0, ec]
      first | rfl | (go_simp; done) | (go_simp; rfl) | (go_simp; omega)
    · have ho2 := ho; simp only [List.getElem?_toArray, List.getElem?_cons_succ, List.getElem?_cons_zero, Option.some.injEq] at ho2; subst ho2
      have d0 : a.eval (.tmp 4) = v := hdep ⟨1, .data⟩ (by simp) rfl
      refine growI_call (I := (fun d u => (d 7 = false → Blk u (w.heap.size + 1) 25 [nilS, nilS]) ∧ (d 7 = true → ∃ xa xb, Blk u (w.heap.size + 1) 25 [xa, xb] ∧ OwnK u (w.heap.size + 2) xa l ∧ OwnI u (w.heap.size + 2) xb ks))) (X := (fun _ _ _ => True)) (d := fd) (a := a) (w := w1) 46 #[v] ho rfl ?_ ((HCK.out w1 (HV.out.later hbw)).mono ?_)
      · unfold execOp resolve
        simp only [List.map_toArray, List.map_cons, List.map_nil, d0, ec]
        rfl
      · rintro e c1 ⟨v1, rfl, ho1, hb2⟩
        exact ⟨_, rfl, (Gn.Own.lower ho1 hsz), (Touch.of_below hb2), ⟨fun h => (hI.1 (by simpa [upd] using h)).later hb2, fun h => (hI.2 (by simpa [upd] using h)).elim fun xa h => h.elim fun xb h => ⟨xa, xb, h.1.later hb2, Gn.Own.later h.2.1 hb2, Gn.Own.later h.2.2 hb2⟩⟩, trivial⟩
    · have ho2 := ho; simp only [List.getElem?_toArray, List.getElem?_cons_succ, List.getElem?_cons_zero, Option.some.injEq] at ho2; subst ho2
      refine growI_val (I := (fun d u => (d 7 = false → Blk u (w.heap.size + 1) 25 [nilS, nilS]) ∧ (d 7 = true → ∃ xa xb, Blk u (w.heap.size + 1) 25 [xa, xb] ∧ OwnK u (w.heap.size + 2) xa l ∧ OwnI u (w.heap.size + 2) xb ks))) (X := (fun _ _ _ => True)) (d := fd) (a := a) (w := w1) (.pointer (some ⟨w.heap.size, 1, none⟩)) w1 ho rfl ?_ ((fun u => Touch.refl _ _) w1) ⟨fun h => (hI.1 (by simpa [upd] using h)).later (Below.refl _ _), fun h => (hI.2 (by simpa [upd] using h)).elim fun xa h => h.elim fun xb h => ⟨xa, xb, h.1.later (Below.refl _ _), Gn.Own.later h.2.1 (Below.refl _ _), Gn.Own.later h.2.2 (Below.refl _ _)⟩⟩ trivial rfl
      unfold execOp
      simp only [List.map_toArray, List.map_cons, List.map_nil, e1, ec]
      first | rfl | (go_simp; done) | (go_simp; rfl) | (go_simp; omega)
    · have ho2 := ho; simp only [List.getElem?_toArray, List.getElem?_cons_succ, List.getElem?_cons_zero, Option.some.injEq] at ho2; subst ho2
      have d0 : a.eval (.tmp 6) = .pointer (some ⟨w.heap.size, 1, none⟩) := hdep ⟨3, .data⟩ (by simp) rfl
      refine growI_val (I := (fun d u => (d 7 = false → Blk u (w.heap.size + 1) 25 [nilS, nilS]) ∧ (d 7 = true → ∃ xa xb, Blk u (w.heap.size + 1) 25 [xa, xb] ∧ OwnK u (w.heap.size + 2) xa l ∧ OwnI u (w.heap.size + 2) xb ks))) (X := (fun _ _ _ => True)) (d := fd) (a := a) (w := w1) (kv) w1 ho rfl ?_ ((fun u => Touch.refl _ _) w1) ⟨fun h => (hI.1 (by simpa [upd] using h)).later (Below.refl _ _), fun h => (hI.2 (by simpa [upd] using h)).elim fun xa h => h.elim fun xb h => ⟨xa, xb, h.1.later (Below.refl _ _), Gn.Own.later h.2.1 (Below.refl _ _), Gn.Own.later h.2.2 (Below.refl _ _)⟩⟩ trivial rfl
      unfold execOp
      simp only [List.map_toArray, List.map_cons, List.map_nil, d0, ec]
      first | rfl | (go_simp; done) | (go_simp; rfl) | (go_simp; omega)
    · have ho2 := ho; simp only [List.getElem?_toArray, List.getElem?_cons_succ, List.getElem?_cons_zero, Option.some.injEq] at ho2; subst ho2
      have d0 : a.eval (.tmp 7) = kv := hdep ⟨4, .data⟩ (by simp) rfl
      refine growI_call (I := (fun d u => (d 7 = false → Blk u (w.heap.size + 1) 25 [nilS, nilS]) ∧ (d 7 = true → ∃ xa xb, Blk u (w.heap.size + 1) 25 [xa, xb] ∧ OwnK u (w.heap.size + 2) xa l ∧ OwnI u (w.heap.size + 2) xb ks))) (X := (fun _ _ _ => True)) (d := fd) (a := a) (w := w1) 47 #[kv] ho rfl ?_ ((HCI.out w1 (HKV.out.later hbw)).mono ?_)
      · unfold execOp resolve
        simp only [List.map_toArray, List.map_cons, List.map_nil, d0, ec]
        rfl
      · rintro e c1 ⟨v1, rfl, ho1, hb2⟩
        exact ⟨_, rfl, (Gn.Own.lower ho1 hsz), (Touch.of_below hb2), ⟨fun h => (hI.1 (by simpa [upd] using h)).later hb2, fun h => (hI.2 (by simpa [upd] using h)).elim fun xa h => h.elim fun xb h => ⟨xa, xb, h.1.later hb2, Gn.Own.later h.2.1 hb2, Gn.Own.later h.2.2 hb2⟩⟩, trivial⟩
    · have ho2 := ho; simp only [List.getElem?_toArray, List.getElem?_cons_succ, List.getElem?_cons_zero, Option.some.injEq] at ho2; subst ho2
      obtain ⟨a1, d0, f0⟩ : ∃ x, a.eval (.tmp 5) = x ∧ OwnK w1 (w.heap.size + 2) x l := ⟨_, rfl, hdep ⟨2, .data⟩ (by simp) rfl⟩
      obtain ⟨b1, d1, f1⟩ : ∃ x, a.eval (.tmp 8) = x ∧ OwnI w1 (w.heap.size + 2) x ks := ⟨_, rfl, hdep ⟨5, .data⟩ (by simp) rfl⟩
      obtain ⟨xa, xc, rfl, _⟩ := Gn.Rd.form (RdK.of f0)
      obtain ⟨ya, yc, rfl, _⟩ := Gn.Rd.form (RdI.of f1)
      refine growI_val (I := (fun d u => (d 7 = false → Blk u (w.heap.size + 1) 25 [nilS, nilS]) ∧ (d 7 = true → ∃ xa xb, Blk u (w.heap.size + 1) 25 [xa, xb] ∧ OwnK u (w.heap.size + 2) xa l ∧ OwnI u (w.heap.size + 2) xb ks))) (X := (fun _ _ _ => True)) (d := fd) (a := a) (w := w1) (.agg #[.slice xa l.length xc, .slice ya ks.length yc]) w1 ho rfl ?_ (Touch.refl _ _) ⟨fun h => (hI.1 (by simpa [upd] using h)).later (Below.refl _ _), fun h => (hI.2 (by simpa [upd] using h)).elim fun xa h => h.elim fun xb h => ⟨xa, xb, h.1.later (Below.refl _ _), Gn.Own.later h.2.1 (Below.refl _ _), Gn.Own.later h.2.2 (Below.refl _ _)⟩⟩ trivial ⟨_, _, rfl, f0, f1⟩
      unfold execOp
      first | (simp only [List.map_toArray, List.map_cons, List.map_nil, d0, d1, ec]; rfl) | (simp only [List.map_toArray, List.map_cons, List.map_nil, d0, d1, ec]; go_simp; done) | (generalize a.eval = ev at *; go_simp; done)
    · have ho2 := ho; simp only [List.getElem?_toArray, List.getElem?_cons_succ, List.getElem?_cons_zero, Option.some.injEq] at ho2; subst ho2
      obtain ⟨v1, d1, xa, xb, rfl, h1, h2⟩ : ∃ v1, a.eval (.tmp 9) = v1 ∧ ∃ a b, v1 = .agg #[a, b] ∧ OwnK w1 (w.heap.size + 2) a l ∧ OwnI w1 (w.heap.size + 2) b ks := ⟨_, rfl, hdep ⟨6, .data⟩ (by simp) rfl⟩
      have hs1 := hI.1 hfd
      have q0 := hs1.cell 0
      have q1 := hs1.cell 1
      have q2 := hs1.frozen 0
      have q3 := hs1.frozen 1
      simp only [List.getElem?_cons_succ, List.getElem?_cons_zero] at q0 q1
      have hp := Blk.put (Blk.put hs1 0 xa) 1 xb
      have o1 := own_far (own_far h1 (p := ⟨w.heap.size + 1, 0, none⟩) (by simp only; omega) xa) (p := ⟨w.heap.size + 1, 1, none⟩) (by simp only; omega) xb
      have o2 := own_far (own_far h2 (p := ⟨w.heap.size + 1, 0, none⟩) (by simp only; omega) xa) (p := ⟨w.heap.size + 1, 1, none⟩) (by simp only; omega) xb
      obtain ⟨ya, yc, rfl, _⟩ := Gn.Rd.form (RdK.of h1)
      obtain ⟨za, zc, rfl, _⟩ := Gn.Rd.form (RdI.of h2)
      refine growI_skip (I := (fun d u => (d 7 = false → Blk u (w.heap.size + 1) 25 [nilS, nilS]) ∧ (d 7 = true → ∃ xa xb, Blk u (w.heap.size + 1) 25 [xa, xb] ∧ OwnK u (w.heap.size + 2) xa l ∧ OwnI u (w.heap.size + 2) xb ks))) (X := (fun _ _ _ => True)) (d := fd) (a := a) (w := w1) ((w1.setCell ⟨w.heap.size + 1, 0, none⟩ _).setCell ⟨w.heap.size + 1, 1, none⟩ _) ho rfl rfl ?_ (Touch.setCell (S := fun q => q = w.heap.size + 1) (p := ⟨w.heap.size + 1, 1, none⟩) (Touch.setCell (S := fun q => q = w.heap.size + 1) (p := ⟨w.heap.size + 1, 0, none⟩) (Touch.refl _ _) rfl _) rfl _) ⟨fun h => absurd h (by simp [upd]), fun _ => ⟨_, _, hp, o1, o2⟩⟩ trivial trivial
      unfold execOp
      simp only [e2, d1, ec]
      go_simp
  · intro a w1 hI hb hj
    obtain ⟨xa, xb, h1, h2, h3⟩ := hI.2 (by decide)
    have hbw : Below w.heap.size w w1 := HB.out.drew.trans (hb.below (show w.heap.size ≤ wr.heap.size by have := HSZ.out; omega) (fun q hq => by have hq : q = w.heap.size + 1 := hq; omega))
    exact ⟨xa, xb, h1, h2, h3, hbw⟩
  rintro ts w6 ⟨xa, xb, h1, h2, h3, hbw⟩
  simp only [fill, List.setIfInBounds_toArray, List.set_cons_succ, List.set_cons_zero]
  have H1 := Lib.hid h1
  have H2 := Lib.hid (Gn.Own.lower h2 (show w.heap.size ≤ w.heap.size + 2 by omega))
  have H3 := Lib.hid (Gn.Own.lower h3 (show w.heap.size ≤ w.heap.size + 2 by omega))
  have H4 := Lib.hid hbw
  clear h1 h2 h3 hbw x0 x1
  go_wp2_with fail
  exact bodyPost_ret (retSf rfl _ _ (w.heap.size + 1) xa xb rfl H1.out) rfl ⟨_, _, rfl, H2.out, H3.out, H4.out⟩
end Go.Proofs.YtanjdjiigfdnmaaGreatDoor

/- What the law's few leaves of a schema that came in keeps the bounds of Check. -/
namespace Go.Proofs.YtanjdjiigfdnmaaGreatDoor
open Go.RowKit
set_option linter.unusedVariables false
set_option maxRecDepth 100000

theorem few_len (l : List Co) : (lFew11C l).length ≤ 40 := by unfold lFew11C; rw [List.length_map, List.length_take]; omega
theorem few_ok {l : List Co} (h : ∀ c ∈ l, KIn c) : ∀ c ∈ lFew11C l, KOk c := by
  intro c hc
  unfold lFew11C at hc
  obtain ⟨d, hd, rfl⟩ := List.mem_map.1 hc
  have hi := h d (List.mem_of_mem_take hd)
  have h1 := cutN_size d.nm 40
  have h2 := cutN_size d.d.s 1100
  have e1 : ((40 : Nat) : Int) = 40 := rfl
  have e2 : ((1100 : Nat) : Int) = 1100 := rfl
  rw [e1] at h1
  rw [e2] at h2
  exact ⟨hi.id, hi.k, by show (cutN d.nm 40).size ≤ 1000000; omega, hi.n, by show (cutN d.d.s 1100).size ≤ 1000000; omega⟩
theorem few_nm {l : List Co} : ∀ c ∈ lFew11C l, c.nm.size ≤ 40 := by
  intro c hc
  unfold lFew11C at hc
  obtain ⟨d, hd, rfl⟩ := List.mem_map.1 hc
  have h1 := cutN_size d.nm 40
  have e1 : ((40 : Nat) : Int) = 40 := rfl
  rw [e1] at h1
  exact h1
theorem few_in {l : List Co} (h : ∀ c ∈ l, KIn c) : ∀ c ∈ l, c.nm.size ≤ maxLen ∧ c.d.s.size ≤ maxLen := fun c hc => ⟨(h c hc).nm, (h c hc).s⟩
theorem few_keys {ks : List Int} (h : ∀ q ∈ ks, Cl.I64 q) : ∀ q ∈ ks.take 12, Cl.I64 q := fun q hq => h q (List.mem_of_mem_take hq)
end Go.Proofs.YtanjdjiigfdnmaaGreatDoor

/- A schema in a variable (split off ScBackW); texts that are the same. -/
namespace Go.Proofs.YtanjdjiigfdnmaaGreatDoor
open Go.RowKit
set_option linter.unusedVariables false
set_option linter.unusedSimpArgs false

/-- A made schema in a variable. -/
structure SV (w : World) (g : Nat) (cv kv : Value) (cs : List Co) (ks : List Int) : Prop where
  x : Blk w g 25 [cv, kv]
  c : RdK w w.heap.size cv cs
  k : RdI w w.heap.size kv ks
theorem SV.later {w w' : World} {g : Nat} {cv kv : Value} {cs : List Co} {ks : List Int} (h : SV w g cv kv cs ks) (hb : Below w.heap.size w w') : SV w' g cv kv cs ks := ⟨h.x.later hb, h.c.later hb, h.k.later hb⟩
theorem SV.new {w : World} {B : Nat} {cv kv : Value} {cs : List Co} {ks : List Int} (ho : OwnK w B cv cs) (hi : OwnI w B kv ks) : SV (w.alloc (.cells #[cv, kv] 25)) w.heap.size cv kv cs ks :=
  ⟨Blk.new w 25 #[cv, kv], (RdK.of ho).later (box_new _ _), (RdI.of hi).later (box_new _ _)⟩
theorem SV.lie {w : World} {g : Nat} {cv kv : Value} {cs : List Co} {ks : List Int} (h : SV w g cv kv cs ks) : w.cell? ⟨g, 0, none⟩ = some cv ∧ w.cell? ⟨g, 1, none⟩ = some kv := ⟨h.x.cell 0, h.x.cell 1⟩
theorem eq_bl (x y : ByteArray) : (x.toList == y.toList) = decide (bl x = bl y) := by
  by_cases h : bl x = bl y
  · have := bl_inj h
    subst this; simp
  · have h2 : x ≠ y := fun e => h (by rw [e])
    have h3 : x.toList ≠ y.toList := fun e => h2 (by
      have h4 : x.data.toList = y.data.toList := by rw [← ByteArray.toList_eq, ← ByteArray.toList_eq]; exact e
      cases x; cases y
      simp at h4
      rw [h4])
    simp [h, h3]
end Go.Proofs.YtanjdjiigfdnmaaGreatDoor
