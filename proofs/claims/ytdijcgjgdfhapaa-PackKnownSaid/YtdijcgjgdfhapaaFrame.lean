/- What the rows' frames share: how a slice of bytes, of pieces or of asks that came in is read. -/
import Derived.Test.YtdijcgjgdfhapaaRows
import Derived.Test.YtdijcgjgdfhapaaArgs
import Derived.ProofKit
import Derived.OpenShut
import Derived.ShutString
import Derived.ChangeOld
import Derived.Deep.Slices
import Derived.Deep.Fields
namespace Go.Proofs.Ytdijcgjgdfhapaa
open Go.ChangeShapes Go.WideShapes Go.ChangeAt Go.RowKit Go.Deep
set_option linter.unusedVariables false

theorem own : ownKnob Try.prog.godebug = none := by kernel_rfl
theorem laidOut : laidOutB Try.prog = true := by kernel_rfl

theorem block_lt {W : World} {a : Addr} {v : Value} (h : W.cell? a = some v) : a.block < W.heap.size := by
  rcases Nat.lt_or_ge a.block W.heap.size with hlt | hge
  · exact hlt
  · simp [World.cell?, Array.getElem?_eq_none hge] at h

set_option maxRecDepth 100000 in
/-- A slice of bytes that came in reads as a list. -/
theorem open_bytes {H : Type} {enc : TypeId × Value → H} {W : World} {base : Nat} {v : Value} {d : DataW H} {p : List MemPlace}
    (hv : Value.okWide Try.prog W .any base 32 v) (h : DataW.Trod enc Try.prog W 0 (fun _ => true) true 32 v d p) : ∃ l, Rd W W.heap.size v l := by
  obtain ⟨a, len, cap, rfl⟩ := okWide_slice Try.underlying32 hv
  obtain ⟨fuel, hf⟩ := h
  rcases open_ints Try.underlying32 Try.underlying5 (by kernel_rfl) hf with ⟨hcs, _⟩ | ⟨x, l, c, zs, hcs, _, hl, hm, hz, _, hcell, hwz⟩
  · simp [Value.cells] at hcs
    obtain ⟨rfl, rfl, rfl⟩ := hcs
    exact ⟨[], Rd.nil _ _⟩
  · simp [Value.cells] at hcs
    obtain ⟨rfl, rfl, rfl⟩ := hcs
    have hz' : zs.length = cap := by simpa using hz
    refine ⟨(zs.take len).map Int.toNat, some x, cap, by simp; omega, by simp; omega, hm, by simp, ?_, fun hp => ?_⟩
    · intro q hq
      obtain ⟨z, hzm, rfl⟩ := List.mem_map.1 hq
      have := bounds_u8 (hwz z (List.mem_of_mem_take hzm))
      omega
    · simp at hp
      obtain ⟨b, off, spot⟩ := x
      have hc := hcell 0 (by omega)
      have hs : spot = none := by simpa [Addr.add] using World.cell?_spot hc
      subst hs
      refine ⟨b, off, rfl, by simpa [Addr.add] using block_lt hc, fun k hk => ?_⟩
      simp at hk
      have hk' : k < zs.length := by omega
      have := hcell k (by omega)
      rw [add_plain] at this
      rw [this]
      have hb := bounds_u8 (hwz zs[k] (List.getElem_mem _))
      simp [List.getElem?_eq_getElem hk', show k < len by omega]
      omega

/-- One field of a struct of one-cell fields. -/
theorem open_field {H : Type} {enc : TypeId × Value → H} {P : Program} {W : World} {fuel : Nat} {t : TypeId} {fs : Array Field} {cs : List Value} {x : DataW H × List MemPlace} (he : P.underlying t = some (.struct fs)) (hone : oneCellFields P fs = true)
    (h : DataW.trod enc P W 0 (fun _ => true) true fuel t cs = some x) (j : Nat) (f : Field) (hj : fs[j]? = some f) (hl : j < cs.length) : ∃ n v y, cs[j]? = some v ∧ DataW.trod enc P W 0 (fun _ => true) true n f.type [v] = some y := by
  obtain ⟨xs, n, _, _, _, hlen, hf⟩ := DataW.trod_struct he h
  obtain ⟨ho, hk⟩ := hone_of hone j f hj
  have hjx : j < xs.length := by rw [hlen]; exact (Array.getElem?_eq_some_iff.1 hj).1
  have h1 := hf j f hj
  rw [ho, hk, List.drop_eq_getElem_cons hl, List.take_succ_cons, List.take_zero, List.getElem?_eq_getElem hjx] at h1
  exact ⟨n, _, _, List.getElem?_eq_getElem hl, h1⟩
theorem bounds_str {s : ByteArray} (h : s.size ≤ maxLen) : s.size ≤ 9223372036854775807 := by unfold maxLen at h; omega
theorem pick_list {α : Type} [Inhabited α] (n : Nat) (Q : Nat → α → Prop) (h : ∀ i, i < n → ∃ p, Q i p) : ∃ l : List α, l.length = n ∧ ∀ i p, l[i]? = some p → Q i p := by
  induction n with
  | zero => exact ⟨[], rfl, fun i p hp => by simp at hp⟩
  | succ n ih =>
    obtain ⟨l, hl, hq⟩ := ih fun i hi => h i (by omega)
    obtain ⟨p, hp⟩ := h n (by omega)
    refine ⟨l ++ [p], by simp [hl], fun i q hq2 => ?_⟩
    rcases Nat.lt_or_ge i l.length with hi | hi
    · rw [List.getElem?_append_left hi] at hq2
      exact hq i q hq2
    · rw [List.getElem?_append_right hi] at hq2
      have hi2 : i - l.length = 0 := by
        rcases Nat.eq_zero_or_pos (i - l.length) with h0 | h0
        · exact h0
        · rw [List.getElem?_eq_none (by simp; omega)] at hq2; cases hq2
      rw [hi2] at hq2
      simp at hq2
      subst hq2
      rw [show i = n by omega]
      exact hp
instance : Inhabited Pc := ⟨⟨0, 0, ByteArray.empty⟩⟩
instance : Inhabited Ak := ⟨⟨0, 0⟩⟩
theorem piece_cells : Try.prog.cellsOf 30 = 3 := by kernel_rfl
theorem ask_cells : Try.prog.cellsOf 52 = 2 := by kernel_rfl

set_option maxRecDepth 100000 in
/-- A slice of pieces that came in reads as a list. -/
theorem open_pieces {H : Type} {enc : TypeId × Value → H} {W : World} {base : Nat} {v : Value} {d : DataW H} {p : List MemPlace}
    (hv : Value.okWide Try.prog W .any base 22 v) (h : DataW.Trod enc Try.prog W 0 (fun _ => true) true 22 v d p) : ∃ l, RdPc W W.heap.size v l := by
  obtain ⟨a, len, cap, rfl⟩ := okWide_slice Try.underlying22 hv
  obtain ⟨fuel, hf⟩ := h
  rcases open_slice Try.underlying22 hf with ⟨hcs, _⟩ | ⟨x, l, c, m, n, D, Pl, hcs, hb, hl, hm, hmm, _, hi⟩
  · simp [Value.cells] at hcs
    obtain ⟨rfl, rfl, rfl⟩ := hcs
    exact ⟨[], none, 0, rfl, by simp, by simp, by simp, by simp⟩
  · simp [Value.cells] at hcs
    obtain ⟨rfl, rfl, rfl⟩ := hcs
    rw [if_pos rfl] at hmm
    subst hmm
    obtain ⟨ps, hlen, hps⟩ := pick_list len (fun i (p : Pc) => p.ok ∧ W.cell? (x.add (i * 3)) = some (.int .i64 p.k) ∧ W.cell? ((x.add (i * 3)).add 1) = some (.int .u64 p.n) ∧ W.cell? ((x.add (i * 3)).add 2) = some (.string p.s)) (fun i hi' => by
      obtain ⟨cs, hc, ht⟩ := hi i (by omega)
      rw [piece_cells] at hc
      obtain ⟨_, hcl, hat⟩ := World.cells?_some hc
      obtain ⟨n0, v0, y0, e0, t0⟩ := open_field Try.underlying30 (by kernel_rfl) ht 0 _ rfl (by omega)
      obtain ⟨n1, v1, y1, e1, t1⟩ := open_field Try.underlying30 (by kernel_rfl) ht 1 _ rfl (by omega)
      obtain ⟨n2, v2, y2, e2, t2⟩ := open_field Try.underlying30 (by kernel_rfl) ht 2 _ rfl (by omega)
      obtain ⟨k0, c0, _, b0⟩ := DataW.trod_int Try.underlying3 t0
      obtain ⟨k1, c1, _, b1⟩ := DataW.trod_int Try.underlying28 t1
      obtain ⟨k2, c2, _, b2⟩ := DataW.trod_string Try.underlying9 t2
      obtain rfl := (List.cons.inj c0).1
      obtain rfl := (List.cons.inj c1).1
      obtain rfl := (List.cons.inj c2).1
      have a0 := hat 0 (by omega)
      have a1 := hat 1 (by omega)
      have a2 := hat 2 (by omega)
      rw [e0] at a0
      rw [e1] at a1
      rw [e2] at a2
      refine ⟨⟨k0, k1, k2⟩, ⟨bounds_i64 b0, bounds_u64 b1, bounds_str b2⟩, ?_, a1, a2⟩
      rw [show (x.add (i * 3)).add 0 = x.add (i * 3) by simp [Addr.add]] at a0
      exact a0)
    refine ⟨ps, some x, m, by rw [hlen], by omega, hm, fun p hp => ?_, fun hp => ?_⟩
    · obtain ⟨i, hi', rfl⟩ := List.getElem_of_mem hp
      exact (hps i _ (List.getElem?_eq_getElem hi')).1
    · obtain ⟨b, off, spot⟩ := x
      have hc := (hps 0 _ (List.getElem?_eq_getElem hp)).2.1
      have hs : spot = none := by simpa [Addr.add] using World.cell?_spot hc
      subst hs
      refine ⟨b, off, rfl, by simpa [Addr.add] using block_lt hc, fun i p hip => ?_⟩
      have := (hps i p hip).2
      rw [add_plain, add_plain, add_plain] at this
      exact this
set_option maxRecDepth 100000 in
/-- A slice of asks that came in reads as a list. -/
theorem open_asks {H : Type} {enc : TypeId × Value → H} {W : World} {base : Nat} {v : Value} {d : DataW H} {p : List MemPlace}
    (hv : Value.okWide Try.prog W .any base 43 v) (h : DataW.Trod enc Try.prog W 0 (fun _ => true) true 43 v d p) : ∃ l, RdAk W W.heap.size v l := by
  obtain ⟨a, len, cap, rfl⟩ := okWide_slice Try.underlying43 hv
  obtain ⟨fuel, hf⟩ := h
  rcases open_slice Try.underlying43 hf with ⟨hcs, _⟩ | ⟨x, l, c, m, n, D, Pl, hcs, hb, hl, hm, hmm, _, hi⟩
  · simp [Value.cells] at hcs
    obtain ⟨rfl, rfl, rfl⟩ := hcs
    exact ⟨[], none, 0, rfl, by simp, by simp, by simp, by simp⟩
  · simp [Value.cells] at hcs
    obtain ⟨rfl, rfl, rfl⟩ := hcs
    rw [if_pos rfl] at hmm
    subst hmm
    obtain ⟨ps, hlen, hps⟩ := pick_list len (fun i (p : Ak) => p.ok ∧ W.cell? (x.add (i * 2)) = some (.int .i64 p.k) ∧ W.cell? ((x.add (i * 2)).add 1) = some (.int .i64 p.n)) (fun i hi' => by
      obtain ⟨cs, hc, ht⟩ := hi i (by omega)
      rw [ask_cells] at hc
      obtain ⟨_, hcl, hat⟩ := World.cells?_some hc
      obtain ⟨n0, v0, y0, e0, t0⟩ := open_field Try.underlying52 (by kernel_rfl) ht 0 _ rfl (by omega)
      obtain ⟨n1, v1, y1, e1, t1⟩ := open_field Try.underlying52 (by kernel_rfl) ht 1 _ rfl (by omega)
      obtain ⟨k0, c0, _, b0⟩ := DataW.trod_int Try.underlying3 t0
      obtain ⟨k1, c1, _, b1⟩ := DataW.trod_int Try.underlying3 t1
      obtain rfl := (List.cons.inj c0).1
      obtain rfl := (List.cons.inj c1).1
      have a0 := hat 0 (by omega)
      have a1 := hat 1 (by omega)
      rw [e0] at a0
      rw [e1] at a1
      refine ⟨⟨k0, k1⟩, ⟨bounds_i64 b0, bounds_i64 b1⟩, ?_, a1⟩
      rw [show (x.add (i * 2)).add 0 = x.add (i * 2) by simp [Addr.add]] at a0
      exact a0)
    refine ⟨ps, some x, m, by rw [hlen], by omega, hm, fun p hp => ?_, fun hp => ?_⟩
    · obtain ⟨i, hi', rfl⟩ := List.getElem_of_mem hp
      exact (hps i _ (List.getElem?_eq_getElem hi')).1
    · obtain ⟨b, off, spot⟩ := x
      have hc := (hps 0 _ (List.getElem?_eq_getElem hp)).2.1
      have hs : spot = none := by simpa [Addr.add] using World.cell?_spot hc
      subst hs
      refine ⟨b, off, rfl, by simpa [Addr.add] using block_lt hc, fun i p hip => ?_⟩
      have := (hps i p hip).2
      rw [add_plain, add_plain] at this
      exact this
end Go.Proofs.Ytdijcgjgdfhapaa
