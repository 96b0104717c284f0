/- How a seed of the laws of layer 11 that came in is read. -/
import Derived.Test.YtjmphlboickhdaaGreatDoorClFr
import Derived.Test.YtjmphlboickhdaaGreatDoorScc
namespace Go.Proofs.YtjmphlboickhdaaGreatDoor
open Go.ChangeShapes Go.WideShapes Go.ChangeAt Go.RowKit Go.Deep
set_option linter.unusedVariables false
set_option maxRecDepth 100000

instance : Inhabited S5 := ⟨⟨0, 0, 0, 0, 0⟩⟩
theorem pick_list {α : Type} [Inhabited α] (n : Nat) (Q : Nat → α → Prop) (h : ∀ i, i < n → ∃ p, Q i p) : ∃ l : List α, l.length = n ∧ ∀ i p, l[i]? = some p → Q i p := by
  induction n with
  | zero => exact ⟨[], rfl, fun i p hp => by simp at hp⟩
  | succ n ih =>
    obtain ⟨l, hl, hq⟩ := ih fun i hi => h i (by omega)
    obtain ⟨p, hp⟩ := h n (by omega)
    refine ⟨l ++ [p], by simp [hl], fun i q hq2 => ?_⟩
    rcases Nat.lt_or_ge i l.length with hi | hi
    · rw [List.getElem?_append_left hi] at hq2
      exact hq i q hq2
    · rw [List.getElem?_append_right hi] at hq2
      have hi2 : i - l.length = 0 := by
        rcases Nat.eq_zero_or_pos (i - l.length) with h0 | h0
        · exact h0
        · rw [List.getElem?_eq_none (by simp; omega)] at hq2; cases hq2
      rw [hi2] at hq2
      simp at hq2
      subst hq2
      rw [show i = n by omega]
      exact hp
theorem add_flat (b off k : Nat) : (⟨b, off, none⟩ : Addr).add k = ⟨b, off + k, none⟩ := by unfold Addr.add; split <;> simp_all
theorem blk_lt {w : World} {a : Addr} {v : Value} (h : w.cell? a = some v) : a.block < w.heap.size := block_lt_of_cell h
/-- A part of a struct, of however many cells. -/
theorem open_part {H : Type} {enc : TypeId × Value → H} {P : Program} {W : World} {fuel : Nat} {t : TypeId} {fs : Array Field} {cs : List Value} {x : DataW H × List MemPlace} (he : P.underlying t = some (.struct fs))
    (h : DataW.trod enc P W 0 (fun _ => true) true fuel t cs = some x) (i : Nat) (f : Field) (hf : fs[i]? = some f) (off k : Nat) (T : TypeId) (ho : f.offset = off) (hT : f.type = T) (hk : P.cellsOf T = k) : ∃ n y, DataW.trod enc P W 0 (fun _ => true) true n T ((cs.drop off).take k) = some y := by
  subst ho hT hk
  obtain ⟨xs, n, _, _, _, hlen, hh⟩ := DataW.trod_struct he h
  have hix : i < xs.length := by rw [hlen]; exact (Array.getElem?_eq_some_iff.1 hf).1
  exact ⟨n, xs[i], (hh i f hf).trans (List.getElem?_eq_getElem hix)⟩
theorem five_cells : Tryz.prog.cellsOf 87 = 5 := by kernel_rfl
theorem five_of {H : Type} {enc : TypeId × Value → H} {W : World} {fuel : Nat} {cs : List Value} {x : DataW H × List MemPlace} (hf : DataW.trod enc Tryz.prog W 0 (fun _ => true) true fuel 87 cs = some x) (hlen : cs.length = 5) : ∃ c : S5, cs = s5c c ∧ S5.In c := by
  obtain ⟨xs, m, _, _, hl, hxl, hh⟩ := DataW.trod_array Tryz.underlying87 hf
  have h0 := hh 0 (by decide)
  have h1 := hh 1 (by decide)
  have h2 := hh 2 (by decide)
  have h3 := hh 3 (by decide)
  have h4 := hh 4 (by decide)
  rw [show Tryz.prog.cellsOf 3 = 1 from by kernel_rfl, List.getElem?_eq_getElem (by omega)] at h0 h1 h2 h3 h4
  match cs, hlen with
  | [a, b, c, d, e], _ =>
    simp only [List.drop_succ_cons, List.drop_zero, List.take_succ_cons, List.take_zero, Nat.zero_mul, Nat.one_mul, Nat.reduceMul] at h0 h1 h2 h3 h4
    obtain ⟨k0, c0, _, b0⟩ := DataW.trod_int Tryz.underlying3 h0
    obtain ⟨k1, c1, _, b1⟩ := DataW.trod_int Tryz.underlying3 h1
    obtain ⟨k2, c2, _, b2⟩ := DataW.trod_int Tryz.underlying3 h2
    obtain ⟨k3, c3, _, b3⟩ := DataW.trod_int Tryz.underlying3 h3
    obtain ⟨k4, c4, _, b4⟩ := DataW.trod_int Tryz.underlying3 h4
    obtain rfl := (List.cons.inj c0).1
    obtain rfl := (List.cons.inj c1).1
    obtain rfl := (List.cons.inj c2).1
    obtain rfl := (List.cons.inj c3).1
    obtain rfl := (List.cons.inj c4).1
    exact ⟨⟨k0, k1, k2, k3, k4⟩, rfl, ⟨bounds_i64 b0, bounds_i64 b1, bounds_i64 b2, bounds_i64 b3, bounds_i64 b4⟩⟩
theorem fives_of {H : Type} {enc : TypeId × Value → H} {W : World} {fuel : Nat} {v : Value} {x : DataW H × List MemPlace} (hf : DataW.trod enc Tryz.prog W 0 (fun _ => true) true fuel 47 [v] = some x) : ∃ l, RdA W W.heap.size v l ∧ ∀ p ∈ l, S5.In p := by
  rcases open_slice Tryz.underlying47 hf with ⟨hcs, _⟩ | ⟨x, len, cap, m, n, D, Pl, hcs, hb, hl, hm, hmm, _, hi⟩
  · obtain rfl := (List.cons.inj hcs).1
    exact ⟨[], Gn.Rd.nil _ _, by simp⟩
  · obtain rfl := (List.cons.inj hcs).1
    rw [if_pos rfl] at hmm
    subst hmm
    obtain ⟨ps, hlen, hps⟩ := pick_list (α := S5) len (fun i p => S5.In p ∧ ∀ j, j < 5 → W.cell? ((x.add (i * 5)).add j) = (s5c p)[j]?) (fun i hi' => by
      obtain ⟨cs, hc, ht⟩ := hi i (by omega)
      rw [five_cells] at hc
      obtain ⟨_, hcl, hat⟩ := World.cells?_some hc
      obtain ⟨c, rfl, h1⟩ := five_of ht hcl
      exact ⟨c, h1, hat⟩)
    refine ⟨ps, ⟨some x, _, by rw [hlen], by omega, hm, by simp, fun hp => ?_⟩, fun p hp => ?_⟩
    · obtain ⟨b, off, spot⟩ := x
      have h0 : W.cell? (((⟨b, off, spot⟩ : Addr).add (0 * 5)).add 0) = some (.int .i64 (ps[0]'hp).a) := (hps 0 _ (List.getElem?_eq_getElem hp)).2 0 (by omega)
      have hs : spot = none := by simpa [Addr.add] using World.cell?_spot h0
      subst hs
      refine ⟨b, off, rfl, by simpa [Addr.add] using blk_lt h0, fun i p j u hip hj => ?_⟩
      have hj3 : j < 5 := by have := (List.getElem?_eq_some_iff.1 hj).1; simpa [s5c] using this
      have := (hps i p hip).2 j hj3
      rw [add_flat, add_flat, hj] at this
      exact this
    · obtain ⟨i, hi', rfl⟩ := List.getElem_of_mem hp
      exact (hps i _ (List.getElem?_eq_getElem hi')).1
theorem open_seed {H : Type} {enc : TypeId × Value → H} {W : World} {base : Nat} {v : Value} {d : DataW H} {p : List MemPlace}
    (hv : Value.okWide Tryz.prog W .any base 49 v) (h : DataW.Trod enc Tryz.prog W 0 (fun _ => true) true 49 v d p) : ∃ sv l K, v = .agg #[sv, .int .i64 K] ∧ SeedIn W sv l K := by
  have hv2 : ∃ cs, v = .agg cs := by
    simp only [Value.okWide, Tryz.underlying49] at hv
    obtain ⟨cs, h1, _⟩ := hv
    exact ⟨cs, h1⟩
  obtain ⟨⟨cs⟩, rfl⟩ := hv2
  obtain ⟨fuel, hf⟩ := h
  have hf : DataW.trod enc Tryz.prog W 0 (fun _ => true) true fuel 49 cs = some (d, p) := hf
  obtain ⟨n0, y0, t0⟩ := open_part Tryz.underlying49 hf 0 _ rfl 0 1 47 rfl rfl (by kernel_rfl)
  obtain ⟨n1, y1, t1⟩ := open_part Tryz.underlying49 hf 1 _ rfl 1 1 3 rfl rfl (by kernel_rfl)
  obtain ⟨xs, n, hs, _, hz, _, _⟩ := DataW.trod_struct Tryz.underlying49 hf
  have hl2 : cs.length = 2 := by first | (simpa using hz) | (rw [hz]; kernel_rfl) | (have := hz; simp at this; omega)
  match cs, hl2 with
  | [a, b], _ =>
    simp only [List.drop_succ_cons, List.drop_zero, List.take_succ_cons, List.take_zero] at t0 t1
    obtain ⟨k1, c1, _, b1⟩ := DataW.trod_int Tryz.underlying3 t1
    obtain rfl := (List.cons.inj c1).1
    obtain ⟨l, h1, h2⟩ := fives_of t0
    exact ⟨a, l, k1, rfl, ⟨h1, h2, bounds_i64 b1⟩⟩
end Go.Proofs.YtjmphlboickhdaaGreatDoor
