/- How arguments that came in are read: nodes, texts, seeds. -/
import Derived.Test.YtgmdjofnkbaflaaDoorFb
import Derived.Test.YtgmdjofnkbaflaaDoorShall
import Derived.Test.YtgmdjofnkbaflaaDoorEq
namespace Go.Proofs.YtgmdjofnkbaflaaDoor
open Go.ChangeShapes Go.WideShapes Go.ChangeAt Go.RowKit Go.Deep
set_option linter.unusedVariables false

theorem block_lt {W : World} {a : Addr} {v : Value} (h : W.cell? a = some v) : a.block < W.heap.size := by
  rcases Nat.lt_or_ge a.block W.heap.size with hlt | hge
  · exact hlt
  · simp [World.cell?, Array.getElem?_eq_none hge] at h
theorem add_flat (b off k : Nat) : (⟨b, off, none⟩ : Addr).add k = ⟨b, off + k, none⟩ := by unfold Addr.add; split <;> simp_all
/-- One field of a struct of one-cell fields. -/
theorem open_field {H : Type} {enc : TypeId × Value → H} {P : Program} {W : World} {fuel : Nat} {t : TypeId} {fs : Array Field} {cs : List Value} {x : DataW H × List MemPlace} (he : P.underlying t = some (.struct fs)) (hone : oneCellFields P fs = true)
    (h : DataW.trod enc P W 0 (fun _ => true) true fuel t cs = some x) (j : Nat) (f : Field) (hj : fs[j]? = some f) (hl : j < cs.length) : ∃ n v y, cs[j]? = some v ∧ DataW.trod enc P W 0 (fun _ => true) true n f.type [v] = some y := by
  obtain ⟨xs, n, _, _, _, hlen, hf⟩ := DataW.trod_struct he h
  obtain ⟨ho, hk⟩ := hone_of hone j f hj
  have hjx : j < xs.length := by rw [hlen]; exact (Array.getElem?_eq_some_iff.1 hj).1
  have h1 := hf j f hj
  rw [ho, hk, List.drop_eq_getElem_cons hl, List.take_succ_cons, List.take_zero, List.getElem?_eq_getElem hjx] at h1
  exact ⟨n, _, _, List.getElem?_eq_getElem hl, h1⟩
theorem pick_list {α : Type} [Inhabited α] (n : Nat) (Q : Nat → α → Prop) (h : ∀ i, i < n → ∃ p, Q i p) : ∃ l : List α, l.length = n ∧ ∀ i p, l[i]? = some p → Q i p := by
  induction n with
  | zero => exact ⟨[], rfl, fun i p hp => by simp at hp⟩
  | succ n ih =>
    obtain ⟨l, hl, hq⟩ := ih fun i hi => h i (by omega)
    obtain ⟨p, hp⟩ := h n (by omega)
    refine ⟨l ++ [p], by simp [hl], fun i q hq2 => ?_⟩
    rcases Nat.lt_or_ge i l.length with hi | hi
    · rw [List.getElem?_append_left hi] at hq2
      exact hq i q hq2
    · rw [List.getElem?_append_right hi] at hq2
      have hi2 : i - l.length = 0 := by
        rcases Nat.eq_zero_or_pos (i - l.length) with h0 | h0
        · exact h0
        · rw [List.getElem?_eq_none (by simp; omega)] at hq2; cases hq2
      rw [hi2] at hq2
      simp at hq2
      subst hq2
      rw [show i = n by omega]
      exact hp
instance : Inhabited Nd := ⟨⟨0, ⟨#[]⟩, 0, ⟨#[]⟩, 0⟩⟩
theorem node_cells : Tryd.prog.cellsOf 59 = 5 := by kernel_rfl
/-- Nodes that came in. -/
def NodesIn (W : World) (v : Value) (l : List Nd) : Prop := RdN W W.heap.size v l ∧ ∀ x ∈ l, Nok x

set_option maxRecDepth 100000 in
/-- A slice of nodes that came in reads as a list. -/
theorem open_nodes {H : Type} {enc : TypeId × Value → H} {W : World} {base : Nat} {v : Value} {d : DataW H} {p : List MemPlace}
    (hv : Value.okWide Tryd.prog W .any base 24 v) (h : DataW.Trod enc Tryd.prog W 0 (fun _ => true) true 24 v d p) : ∃ l, NodesIn W v l := by
  obtain ⟨a, len, cap, rfl⟩ := okWide_slice Tryd.underlying24 hv
  obtain ⟨fuel, hf⟩ := h
  rcases open_slice Tryd.underlying24 hf with ⟨hcs, _⟩ | ⟨x, l, c, m, n, D, Pl, hcs, hb, hl, hm, hmm, _, hi⟩
  · simp [Value.cells] at hcs
    obtain ⟨rfl, rfl, rfl⟩ := hcs
    exact ⟨[], Gn.Rd.nil _ _, by simp⟩
  · simp [Value.cells] at hcs
    obtain ⟨rfl, rfl, rfl⟩ := hcs
    rw [if_pos rfl] at hmm
    subst hmm
    obtain ⟨ps, hlen, hps⟩ := pick_list len (fun i (p : Nd) => Nok p ∧ W.cell? (x.add (i * 5)) = some (.int .i64 p.kind) ∧ W.cell? ((x.add (i * 5)).add 1) = some (.string p.key) ∧ W.cell? ((x.add (i * 5)).add 2) = some (.int .i64 p.n) ∧ W.cell? ((x.add (i * 5)).add 3) = some (.string p.s) ∧ W.cell? ((x.add (i * 5)).add 4) = some (.int .i64 p.size)) (fun i hi' => by
      obtain ⟨cs, hc, ht⟩ := hi i (by omega)
      rw [node_cells] at hc
      obtain ⟨_, hcl, hat⟩ := World.cells?_some hc
      obtain ⟨n0, v0, y0, e0, t0⟩ := open_field Tryd.underlying59 (by kernel_rfl) ht 0 _ rfl (by omega)
      obtain ⟨n1, v1, y1, e1, t1⟩ := open_field Tryd.underlying59 (by kernel_rfl) ht 1 _ rfl (by omega)
      obtain ⟨n2, v2, y2, e2, t2⟩ := open_field Tryd.underlying59 (by kernel_rfl) ht 2 _ rfl (by omega)
      obtain ⟨n3, v3, y3, e3, t3⟩ := open_field Tryd.underlying59 (by kernel_rfl) ht 3 _ rfl (by omega)
      obtain ⟨n4, v4, y4, e4, t4⟩ := open_field Tryd.underlying59 (by kernel_rfl) ht 4 _ rfl (by omega)
      obtain ⟨k0, c0, _, b0⟩ := DataW.trod_int Tryd.underlying3 t0
      obtain ⟨k1, c1, _, b1⟩ := DataW.trod_string Tryd.underlying9 t1
      obtain ⟨k2, c2, _, b2⟩ := DataW.trod_int Tryd.underlying2 t2
      obtain ⟨k3, c3, _, b3⟩ := DataW.trod_string Tryd.underlying9 t3
      obtain ⟨k4, c4, _, b4⟩ := DataW.trod_int Tryd.underlying3 t4
      obtain rfl := (List.cons.inj c0).1
      obtain rfl := (List.cons.inj c1).1
      obtain rfl := (List.cons.inj c2).1
      obtain rfl := (List.cons.inj c3).1
      obtain rfl := (List.cons.inj c4).1
      have a0 := hat 0 (by omega)
      have a1 := hat 1 (by omega)
      have a2 := hat 2 (by omega)
      have a3 := hat 3 (by omega)
      have a4 := hat 4 (by omega)
      rw [e0] at a0
      rw [e1] at a1
      rw [e2] at a2
      rw [e3] at a3
      rw [e4] at a4
      refine ⟨⟨k0, k1, k2, k3, k4⟩, ⟨bounds_i64 b0, b1, bounds_i64 b2, b3, bounds_i64 b4⟩, ?_, a1, a2, a3, a4⟩
      rw [show (x.add (i * 5)).add 0 = x.add (i * 5) by simp [Addr.add]] at a0
      exact a0)
    refine ⟨ps, ⟨some x, m, by rw [hlen], by omega, hm, by simp, fun hp => ?_⟩, fun p hp => ?_⟩
    · obtain ⟨b, off, spot⟩ := x
      have hc := (hps 0 _ (List.getElem?_eq_getElem hp)).2.1
      have hs : spot = none := by simpa [Addr.add] using World.cell?_spot hc
      subst hs
      refine ⟨b, off, rfl, by simpa [Addr.add] using block_lt hc, fun i p j u hip hj => ?_⟩
      have := (hps i p hip).2
      rw [add_flat, add_flat, add_flat, add_flat, add_flat] at this
      obtain ⟨z0, z1, z2, z3, z4⟩ := this
      have hj5 : j < 5 := by have := (List.getElem?_eq_some_iff.1 hj).1; simpa [ndc] using this
      rcases (show j = 0 ∨ j = 1 ∨ j = 2 ∨ j = 3 ∨ j = 4 by omega) with rfl | rfl | rfl | rfl | rfl <;> (simp [ndc] at hj; subst hj; assumption)
    · obtain ⟨i, hi', rfl⟩ := List.getElem_of_mem hp
      exact (hps i _ (List.getElem?_eq_getElem hi')).1
theorem nums_of {H : Type} {enc : TypeId × Value → H} {W : World} {fuel : Nat} {v : Value} {x : DataW H × List MemPlace} (hf : DataW.trod enc Tryd.prog W 0 (fun _ => true) true fuel 41 [v] = some x) :
    ∃ l, RdI W W.heap.size v l ∧ ∀ y ∈ l, -9223372036854775808 ≤ y ∧ y ≤ 9223372036854775807 := by
  rcases open_ints Tryd.underlying41 Tryd.underlying3 (by kernel_rfl) hf with ⟨hcs, _⟩ | ⟨x, len, cap, zs, hcs, _, hl, hm, hz, _, hcell, hwz⟩
  · obtain rfl := (List.cons.inj hcs).1
    exact ⟨[], Gn.Rd.nil _ _, by simp⟩
  · obtain rfl := (List.cons.inj hcs).1
    have hz' : zs.length = cap := by simpa using hz
    refine ⟨zs.take len, ⟨some x, cap, by simp; omega, by simp; omega, hm, by simp, fun hp => ?_⟩, fun q hq => bounds_i64 (hwz q (List.mem_of_mem_take hq))⟩
    simp at hp
    obtain ⟨b, off, spot⟩ := x
    have hc := hcell 0 (by omega)
    have hs : spot = none := by simpa [Addr.add] using World.cell?_spot hc
    subst hs
    refine ⟨b, off, rfl, by simpa [Addr.add] using block_lt hc, fun i y j u hi hj => ?_⟩
    have hil := (List.getElem?_eq_some_iff.1 hi).1
    have hil' : i < len := by simp at hil; omega
    have hj0 : j = 0 := by have := (List.getElem?_eq_some_iff.1 hj).1; simp [inc] at this; exact this
    subst hj0
    have := hcell i (by omega)
    rw [add_flat] at this
    rw [List.getElem?_take_of_lt hil'] at hi
    rw [List.getD_eq_getElem?_getD, hi] at this
    have hu : u = .int .i64 y := by simpa [inc] using hj.symm
    subst hu
    simpa using this
/-- A seed that came in. -/
def SeedIn (W : World) (v : Value) (ns : List Int) : Prop := RdI W W.heap.size v ns ∧ ∀ y ∈ ns, -9223372036854775808 ≤ y ∧ y ≤ 9223372036854775807
set_option maxRecDepth 100000 in
theorem open_seed {H : Type} {enc : TypeId × Value → H} {W : World} {base : Nat} {v : Value} {d : DataW H} {p : List MemPlace}
    (hv : Value.okWide Tryd.prog W .any base 43 v) (h : DataW.Trod enc Tryd.prog W 0 (fun _ => true) true 43 v d p) : ∃ sv ns, v = .agg #[sv] ∧ SeedIn W sv ns := by
  obtain ⟨cs, rfl, hsz⟩ := okWide_struct Tryd.underlying43 hv
  obtain ⟨fuel, hf⟩ := h
  have h1 : Tryd.prog.cellsOf 43 = 1 := by kernel_rfl
  rw [h1] at hsz
  obtain ⟨l⟩ := cs
  have hl : l.length = 1 := by simpa using hsz
  obtain ⟨n0, v0, y0, e0, t0⟩ := open_field Tryd.underlying43 (by kernel_rfl) hf 0 _ rfl (by simp [Value.cells]; omega)
  obtain ⟨ns, hn⟩ := nums_of t0
  match l, hl with
  | [a], _ =>
    have : v0 = a := by simpa [Value.cells] using e0.symm
    subst this
    exact ⟨v0, ns, rfl, hn⟩
/-- Seeds that came in. -/
structure SeedsIn (W : World) (v : Value) (ss : List Sl) (nss : List (List Int)) : Prop where
  rd : Gn.Rd slv 1 W W.heap.size v ss
  len : ss.length = nss.length
  each : ∀ (i : Nat) (s : Sl) (ns : List Int), ss[i]? = some s → nss[i]? = some ns → SeedIn W s.val ns
instance : Inhabited (Sl × List Int) := ⟨(⟨none, 0, 0⟩, [])⟩
set_option maxRecDepth 100000 in
theorem open_seeds {H : Type} {enc : TypeId × Value → H} {W : World} {base : Nat} {v : Value} {d : DataW H} {p : List MemPlace}
    (hv : Value.okWide Tryd.prog W .any base 39 v) (h : DataW.Trod enc Tryd.prog W 0 (fun _ => true) true 39 v d p) : ∃ ss nss, SeedsIn W v ss nss := by
  obtain ⟨a, len, cap, rfl⟩ := okWide_slice Tryd.underlying39 hv
  obtain ⟨fuel, hf⟩ := h
  rcases open_slice1 Tryd.underlying39 (by kernel_rfl) hf with ⟨hcs, _⟩ | ⟨x, l, c, m, n, V, D, Pl, hcs, hb, hl, hm, hmm, _, hi⟩
  · simp [Value.cells] at hcs
    obtain ⟨rfl, rfl, rfl⟩ := hcs
    exact ⟨[], [], Gn.Rd.nil _ _, rfl, fun i s ns h => by simp at h⟩
  · simp [Value.cells] at hcs
    obtain ⟨rfl, rfl, rfl⟩ := hcs
    rw [if_pos rfl] at hmm
    subst hmm
    obtain ⟨ps, hlen, hps⟩ := pick_list len (fun i (p : Sl × List Int) => SeedIn W p.1.val p.2 ∧ W.cell? (x.add i) = some (.slice p.1.a p.1.n p.1.c)) (fun i hi' => by
      obtain ⟨hc, ht⟩ := hi i (by omega)
      obtain ⟨n0, v0, y0, e0, t0⟩ := open_field Tryd.underlying43 (by kernel_rfl) ht 0 _ rfl (by simp)
      have : v0 = V i := by simpa using e0.symm
      subst this
      obtain ⟨ns, hn⟩ := nums_of t0
      obtain ⟨a, c, e, _⟩ := Gn.Rd.form hn.1
      exact ⟨(⟨a, ns.length, c⟩, ns), ⟨by unfold Sl.val; rw [← e]; exact hn.1, hn.2⟩, by rw [← e]; exact hc⟩)
    refine ⟨ps.map (·.1), ps.map (·.2), ⟨some x, m, by simp [hlen], by simp; omega, hm, by simp, fun hp => ?_⟩, by simp, fun i s ns h1 h2 => ?_⟩
    · simp at hp
      obtain ⟨b, off, spot⟩ := x
      have hc := (hps 0 _ (List.getElem?_eq_getElem hp)).2
      have hs : spot = none := by simpa [Addr.add] using World.cell?_spot hc
      subst hs
      refine ⟨b, off, rfl, by simpa [Addr.add] using block_lt hc, fun i s j u hi2 hj => ?_⟩
      rw [List.getElem?_map] at hi2
      obtain ⟨p, hp2, rfl⟩ := Option.map_eq_some_iff.1 hi2
      have := (hps i p hp2).2
      rw [add_flat] at this
      have hj0 : j = 0 := by have := (List.getElem?_eq_some_iff.1 hj).1; simp [slv] at this; exact this
      subst hj0
      have hu : u = .slice p.1.a p.1.n p.1.c := by simpa [slv] using hj.symm
      subst hu
      simpa using this
    · rw [List.getElem?_map] at h1 h2
      obtain ⟨p, hp1, rfl⟩ := Option.map_eq_some_iff.1 h1
      rw [hp1] at h2
      obtain rfl : p.2 = ns := by simpa using h2
      exact (hps i p hp1).1
/-- Texts that came in. -/
def TextsIn (W : World) (v : Value) (l : List ByteArray) : Prop := RdT W W.heap.size v l ∧ ∀ y ∈ l, y.size ≤ maxLen
set_option maxRecDepth 100000 in
theorem open_texts {H : Type} {enc : TypeId × Value → H} {W : World} {base : Nat} {v : Value} {d : DataW H} {p : List MemPlace}
    (hv : Value.okWide Tryd.prog W .any base 22 v) (h : DataW.Trod enc Tryd.prog W 0 (fun _ => true) true 22 v d p) : ∃ l, TextsIn W v l := by
  obtain ⟨a, len, cap, rfl⟩ := okWide_slice Tryd.underlying22 hv
  obtain ⟨fuel, hf⟩ := h
  rcases open_slice1 Tryd.underlying22 (by kernel_rfl) hf with ⟨hcs, _⟩ | ⟨x, l, c, m, n, V, D, Pl, hcs, hb, hl, hm, hmm, _, hi⟩
  · simp [Value.cells] at hcs
    obtain ⟨rfl, rfl, rfl⟩ := hcs
    exact ⟨[], Gn.Rd.nil _ _, by simp⟩
  · simp [Value.cells] at hcs
    obtain ⟨rfl, rfl, rfl⟩ := hcs
    rw [if_pos rfl] at hmm
    subst hmm
    obtain ⟨ps, hlen, hps⟩ := pick_list len (fun i (y : ByteArray) => y.size ≤ maxLen ∧ W.cell? (x.add i) = some (.string y)) (fun i hi' => by
      obtain ⟨hc, ht⟩ := hi i (by omega)
      obtain ⟨s, e, _, b⟩ := DataW.trod_string Tryd.underlying9 ht
      exact ⟨s, b, by rw [hc]; exact congrArg some (List.cons.inj e).1⟩)
    refine ⟨ps, ⟨some x, m, by rw [hlen], by omega, hm, by simp, fun hp => ?_⟩, fun y hy => ?_⟩
    · obtain ⟨b, off, spot⟩ := x
      have hc := (hps 0 _ (List.getElem?_eq_getElem hp)).2
      have hs : spot = none := by simpa [Addr.add] using World.cell?_spot hc
      subst hs
      refine ⟨b, off, rfl, by simpa [Addr.add] using block_lt hc, fun i y j u hi2 hj => ?_⟩
      have := (hps i y hi2).2
      rw [add_flat] at this
      have hj0 : j = 0 := by have := (List.getElem?_eq_some_iff.1 hj).1; simp [txc] at this; exact this
      subst hj0
      have hu : u = .string y := by simpa [txc] using hj.symm
      subst hu
      simpa using this
    · obtain ⟨i, hi', rfl⟩ := List.getElem_of_mem hy
      exact (hps i _ (List.getElem?_eq_getElem hi')).1
end Go.Proofs.YtgmdjofnkbaflaaDoor
