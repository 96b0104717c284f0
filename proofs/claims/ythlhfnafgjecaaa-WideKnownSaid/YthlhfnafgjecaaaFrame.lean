/- What the rows' frames share: how wide numbers, pairs of numbers, three wide numbers and slices of pairs that came in are read. -/
import Derived.Test.YthlhfnafgjecaaaRows
import Derived.Test.YthlhfnafgjecaaaPairs
import Derived.ProofKit
import Derived.OpenShut
import Derived.ShutString
import Derived.ChangeOld
import Derived.Deep.Slices
import Derived.Deep.Fields
namespace Go.Proofs.Ythlhfnafgjecaaa
open Go.ChangeShapes Go.WideShapes Go.ChangeAt Go.RowKit Go.Deep
set_option linter.unusedVariables false

theorem own : ownKnob Try.prog.godebug = none := by kernel_rfl
theorem laidOut : laidOutB Try.prog = true := by kernel_rfl

theorem add_plain (b off k : Nat) : (⟨b, off, none⟩ : Addr).add k = ⟨b, off + k, none⟩ := by unfold Addr.add; split <;> simp_all
theorem block_lt {W : World} {a : Addr} {v : Value} (h : W.cell? a = some v) : a.block < W.heap.size := by
  rcases Nat.lt_or_ge a.block W.heap.size with hlt | hge
  · exact hlt
  · simp [World.cell?, Array.getElem?_eq_none hge] at h
theorem okWide_array {P : Program} {w : World} {r : Reach} {base n : Nat} {t e : TypeId} {v : Value} (ht : P.underlying t = some (.array n e)) (h : Value.okWide P w r base t v) : ∃ cs, v = .agg cs ∧ cs.size = P.cellsOf t := by
  simp only [Value.okWide, ht] at h
  obtain ⟨cs, h1, h2, _⟩ := h
  exact ⟨cs, h1, h2⟩
/-- One field of a struct of one-cell fields. -/
theorem open_field {H : Type} {enc : TypeId × Value → H} {P : Program} {W : World} {fuel : Nat} {t : TypeId} {fs : Array Field} {cs : List Value} {x : DataW H × List MemPlace} (he : P.underlying t = some (.struct fs)) (hone : oneCellFields P fs = true)
    (h : DataW.trod enc P W 0 (fun _ => true) true fuel t cs = some x) (j : Nat) (f : Field) (hj : fs[j]? = some f) (hl : j < cs.length) : ∃ n v y, cs[j]? = some v ∧ DataW.trod enc P W 0 (fun _ => true) true n f.type [v] = some y := by
  obtain ⟨xs, n, _, _, _, hlen, hf⟩ := DataW.trod_struct he h
  obtain ⟨ho, hk⟩ := hone_of hone j f hj
  have hjx : j < xs.length := by rw [hlen]; exact (Array.getElem?_eq_some_iff.1 hj).1
  have h1 := hf j f hj
  rw [ho, hk, List.drop_eq_getElem_cons hl, List.take_succ_cons, List.take_zero, List.getElem?_eq_getElem hjx] at h1
  exact ⟨n, _, _, List.getElem?_eq_getElem hl, h1⟩
/-- One element of an array of one-cell elements. -/
theorem open_elem {H : Type} {enc : TypeId × Value → H} {P : Program} {W : World} {fuel n : Nat} {t e : TypeId} {cs : List Value} {x : DataW H × List MemPlace} (he : P.underlying t = some (.array n e)) (hone : P.cellsOf e = 1)
    (h : DataW.trod enc P W 0 (fun _ => true) true fuel t cs = some x) (j : Nat) (hj : j < n) (hl : j < cs.length) : ∃ m v y, cs[j]? = some v ∧ DataW.trod enc P W 0 (fun _ => true) true m e [v] = some y := by
  obtain ⟨xs, m, _, _, _, hlen, hf⟩ := DataW.trod_array he h
  have hjx : j < xs.length := by rw [hlen]; exact hj
  have h1 := hf j hj
  rw [hone, Nat.mul_one, List.drop_eq_getElem_cons hl, List.take_succ_cons, List.take_zero, List.getElem?_eq_getElem hjx] at h1
  exact ⟨m, _, _, List.getElem?_eq_getElem hl, h1⟩

/-- Three cells that are a wide number's. -/
theorem wide_cells {H : Type} {enc : TypeId × Value → H} {W : World} {fuel : Nat} {cs : List Value} {x : DataW H × List MemPlace} (hl : cs.length = 3)
    (h : DataW.trod enc Try.prog W 0 (fun _ => true) true fuel 25 cs = some x) : ∃ z, Wd.Sg z ∧ cs = [.int .u64 (Wd.lo z), .int .u64 (Wd.mi z), .int .u64 (Wd.hi z)] := by
  obtain ⟨n0, v0, y0, e0, t0⟩ := open_field Try.underlying25 (by kernel_rfl) h 0 _ rfl (by omega)
  obtain ⟨n1, v1, y1, e1, t1⟩ := open_field Try.underlying25 (by kernel_rfl) h 1 _ rfl (by omega)
  obtain ⟨n2, v2, y2, e2, t2⟩ := open_field Try.underlying25 (by kernel_rfl) h 2 _ rfl (by omega)
  obtain ⟨k0, c0, _, b0⟩ := DataW.trod_int Try.underlying23 t0
  obtain ⟨k1, c1, _, b1⟩ := DataW.trod_int Try.underlying23 t1
  obtain ⟨k2, c2, _, b2⟩ := DataW.trod_int Try.underlying23 t2
  obtain rfl := (List.cons.inj c0).1
  obtain rfl := (List.cons.inj c1).1
  obtain rfl := (List.cons.inj c2).1
  have w0 : Wd.Wo k0 := by have := bounds_u64 b0; unfold Wd.Wo; omega
  have w1 : Wd.Wo k1 := by have := bounds_u64 b1; unfold Wd.Wo; omega
  have w2 : Wd.Wo k2 := by have := bounds_u64 b2; unfold Wd.Wo; omega
  refine ⟨Wd.num k0 k1 k2, Wd.num_sg _ _ _ w0 w1 w2, ?_⟩
  rw [Wd.num_lo _ _ _ w0 w1 w2, Wd.num_mi _ _ _ w0 w1 w2, Wd.num_hi _ _ _ w0 w1 w2]
  match cs, hl with
  | [a, b, c], _ =>
    simp at e0 e1 e2
    rw [e0, e1, e2]
theorem wide_size : Try.prog.cellsOf 25 = 3 := by kernel_rfl
theorem pair_size : Try.prog.cellsOf 28 = 2 := by kernel_rfl
theorem int64_size : Try.prog.cellsOf 2 = 1 := by kernel_rfl
theorem open_wide {H : Type} {enc : TypeId × Value → H} {W : World} {base : Nat} {v : Value} {d : DataW H} {p : List MemPlace}
    (hv : Value.okWide Try.prog W .any base 25 v) (h : DataW.Trod enc Try.prog W 0 (fun _ => true) true 25 v d p) : ∃ z, Wd.Sg z ∧ v = wv z := by
  obtain ⟨cs, rfl, hsz⟩ := okWide_struct Try.underlying25 hv
  obtain ⟨fuel, hf⟩ := h
  rw [wide_size] at hsz
  obtain ⟨l⟩ := cs
  obtain ⟨z, hz, e⟩ := wide_cells (cs := l) (by simpa using hsz) hf
  exact ⟨z, hz, by rw [e]; rfl⟩
/-- Two cells that are a pair's. -/
theorem pair_cells {H : Type} {enc : TypeId × Value → H} {W : World} {fuel : Nat} {cs : List Value} {x : DataW H × List MemPlace} (hl : cs.length = 2)
    (h : DataW.trod enc Try.prog W 0 (fun _ => true) true fuel 28 cs = some x) : ∃ p : Int × Int, Pok p ∧ cs = [.int .i64 p.1, .int .i64 p.2] := by
  obtain ⟨n0, v0, y0, e0, t0⟩ := open_elem Try.underlying28 int64_size h 0 (by omega) (by omega)
  obtain ⟨n1, v1, y1, e1, t1⟩ := open_elem Try.underlying28 int64_size h 1 (by omega) (by omega)
  obtain ⟨k0, c0, _, b0⟩ := DataW.trod_int Try.underlying2 t0
  obtain ⟨k1, c1, _, b1⟩ := DataW.trod_int Try.underlying2 t1
  obtain rfl := (List.cons.inj c0).1
  obtain rfl := (List.cons.inj c1).1
  refine ⟨⟨k0, k1⟩, ⟨bounds_i64 b0, bounds_i64 b1⟩, ?_⟩
  match cs, hl with
  | [a, b], _ =>
    simp at e0 e1
    rw [e0, e1]
theorem open_pair {H : Type} {enc : TypeId × Value → H} {W : World} {base : Nat} {v : Value} {d : DataW H} {p : List MemPlace}
    (hv : Value.okWide Try.prog W .any base 28 v) (h : DataW.Trod enc Try.prog W 0 (fun _ => true) true 28 v d p) : ∃ q : Int × Int, Pok q ∧ v = .agg #[.int .i64 q.1, .int .i64 q.2] := by
  obtain ⟨cs, rfl, hsz⟩ := okWide_array Try.underlying28 hv
  obtain ⟨fuel, hf⟩ := h
  rw [pair_size] at hsz
  obtain ⟨l⟩ := cs
  obtain ⟨z, hz, e⟩ := pair_cells (cs := l) (by simpa using hsz) hf
  exact ⟨z, hz, by rw [e]⟩
theorem pick_list {α : Type} [Inhabited α] (n : Nat) (Q : Nat → α → Prop) (h : ∀ i, i < n → ∃ p, Q i p) : ∃ l : List α, l.length = n ∧ ∀ i p, l[i]? = some p → Q i p := by
  induction n with
  | zero => exact ⟨[], rfl, fun i p hp => by simp at hp⟩
  | succ n ih =>
    obtain ⟨l, hl, hq⟩ := ih fun i hi => h i (by omega)
    obtain ⟨p, hp⟩ := h n (by omega)
    refine ⟨l ++ [p], by simp [hl], fun i q hq2 => ?_⟩
    rcases Nat.lt_or_ge i l.length with hi | hi
    · rw [List.getElem?_append_left hi] at hq2
      exact hq i q hq2
    · rw [List.getElem?_append_right hi] at hq2
      have hi2 : i - l.length = 0 := by
        rcases Nat.eq_zero_or_pos (i - l.length) with h0 | h0
        · exact h0
        · rw [List.getElem?_eq_none (by simp; omega)] at hq2; cases hq2
      rw [hi2] at hq2
      simp at hq2
      subst hq2
      rw [show i = n by omega]
      exact hp
set_option maxRecDepth 100000 in
/-- A slice of pairs that came in reads as a list. -/
theorem open_pairs {H : Type} {enc : TypeId × Value → H} {W : World} {base : Nat} {v : Value} {d : DataW H} {p : List MemPlace}
    (hv : Value.okWide Try.prog W .any base 30 v) (h : DataW.Trod enc Try.prog W 0 (fun _ => true) true 30 v d p) : ∃ l, RdP W W.heap.size v l := by
  obtain ⟨a, len, cap, rfl⟩ := okWide_slice Try.underlying30 hv
  obtain ⟨fuel, hf⟩ := h
  rcases open_slice Try.underlying30 hf with ⟨hcs, _⟩ | ⟨x, l, c, m, n, D, Pl, hcs, hb, hl, hm, hmm, _, hi⟩
  · simp [Value.cells] at hcs
    obtain ⟨rfl, rfl, rfl⟩ := hcs
    exact ⟨[], none, 0, rfl, by simp, by simp, by simp, by simp, by simp⟩
  · simp [Value.cells] at hcs
    obtain ⟨rfl, rfl, rfl⟩ := hcs
    rw [if_pos rfl] at hmm
    subst hmm
    obtain ⟨ps, hlen, hps⟩ := pick_list len (fun i (p : Int × Int) => Pok p ∧ W.cell? (x.add (i * 2)) = some (.int .i64 p.1) ∧ W.cell? ((x.add (i * 2)).add 1) = some (.int .i64 p.2)) (fun i hi' => by
      obtain ⟨cs, hc, ht⟩ := hi i (by omega)
      rw [pair_size] at hc
      obtain ⟨_, hcl, hat⟩ := World.cells?_some hc
      obtain ⟨q, hq, e⟩ := pair_cells hcl ht
      subst e
      have a0 := hat 0 (by omega)
      have a1 := hat 1 (by omega)
      refine ⟨q, hq, ?_, a1⟩
      rw [show (x.add (i * 2)).add 0 = x.add (i * 2) by simp [Addr.add]] at a0
      exact a0)
    refine ⟨ps, some x, m, by rw [hlen], by omega, hm, by simp, fun p hp => ?_, fun hp => ?_⟩
    · obtain ⟨i, hi', rfl⟩ := List.getElem_of_mem hp
      exact (hps i _ (List.getElem?_eq_getElem hi')).1
    · obtain ⟨b, off, spot⟩ := x
      have hc := (hps 0 _ (List.getElem?_eq_getElem hp)).2.1
      have hs : spot = none := by simpa [Addr.add] using World.cell?_spot hc
      subst hs
      refine ⟨b, off, rfl, by simpa [Addr.add] using block_lt hc, fun i p hip => ?_⟩
      have := (hps i p hip).2
      rw [add_plain, add_plain] at this
      exact this
/-- Three wide numbers. -/
theorem open_three {H : Type} {enc : TypeId × Value → H} {W : World} {base : Nat} {v : Value} {d : DataW H} {p : List MemPlace}
    (hv : Value.okWide Try.prog W .any base 34 v) (h : DataW.Trod enc Try.prog W 0 (fun _ => true) true 34 v d p) : ∃ x y z, (Wd.Sg x ∧ Wd.Sg y ∧ Wd.Sg z) ∧
      v = .agg #[.int .u64 (Wd.lo x), .int .u64 (Wd.mi x), .int .u64 (Wd.hi x), .int .u64 (Wd.lo y), .int .u64 (Wd.mi y), .int .u64 (Wd.hi y), .int .u64 (Wd.lo z), .int .u64 (Wd.mi z), .int .u64 (Wd.hi z)] := by
  obtain ⟨cs, rfl, hsz⟩ := okWide_array Try.underlying34 hv
  obtain ⟨fuel, hf⟩ := h
  rw [show Try.prog.cellsOf 34 = 9 by kernel_rfl] at hsz
  obtain ⟨l⟩ := cs
  match l, hsz with
  | [a0, a1, a2, b0, b1, b2, c0, c1, c2], _ =>
    obtain ⟨xs, m, _, _, _, hlen, hg⟩ := DataW.trod_array Try.underlying34 hf
    rw [wide_size] at hg
    have g0 := hg 0 (by omega)
    have g1 := hg 1 (by omega)
    have g2 := hg 2 (by omega)
    rw [List.getElem?_eq_getElem (by omega)] at g0 g1 g2
    obtain ⟨x, hx, ex⟩ := wide_cells (by rfl) g0
    obtain ⟨y, hy, ey⟩ := wide_cells (by rfl) g1
    obtain ⟨z, hz, ez⟩ := wide_cells (by rfl) g2
    refine ⟨x, y, z, ⟨hx, hy, hz⟩, ?_⟩
    simp [Value.cells] at ex ey ez
    simp [ex, ey, ez]
end Go.Proofs.Ythlhfnafgjecaaa
