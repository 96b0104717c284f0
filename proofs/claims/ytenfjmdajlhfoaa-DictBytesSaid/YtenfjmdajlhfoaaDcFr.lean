/- What the rows' frames share: how slices of bytes, of texts and of numbers that came in are read. -/
import Derived.Test.YtenfjmdajlhfoaaRows
import Derived.Test.YtenfjmdajlhfoaaDcLd
import Derived.Deep.Grids
import Derived.Deep.Slices
import Derived.Deep.Fields
import Derived.ProofKit
import Derived.OpenShut
import Derived.ShutString
import Derived.ChangeOld
namespace Go.Proofs.Ytenfjmdajlhfoaa
open Go.ChangeShapes Go.WideShapes Go.ChangeAt Go.RowKit Go.Deep
set_option linter.unusedVariables false

theorem own : ownKnob Try.prog.godebug = none := by kernel_rfl
theorem laidOut : laidOutB Try.prog = true := by kernel_rfl

theorem block_lt {W : World} {a : Addr} {v : Value} (h : W.cell? a = some v) : a.block < W.heap.size := by
  rcases Nat.lt_or_ge a.block W.heap.size with hlt | hge
  · exact hlt
  · simp [World.cell?, Array.getElem?_eq_none hge] at h

/-- A slice of bytes that came in reads as a list. -/
theorem open_bytes {H : Type} {enc : TypeId × Value → H} {W : World} {base : Nat} {v : Value} {d : DataW H} {p : List MemPlace}
    (hv : Value.okWide Try.prog W .any base 23 v) (h : DataW.Trod enc Try.prog W 0 (fun _ => true) true 23 v d p) : ∃ l, Rd W W.heap.size v l := by
  obtain ⟨a, len, cap, rfl⟩ := okWide_slice Try.underlying23 hv
  obtain ⟨fuel, hf⟩ := h
  rcases open_ints Try.underlying23 Try.underlying5 (by kernel_rfl) hf with ⟨hcs, _⟩ | ⟨x, l, c, zs, hcs, _, hl, hm, hz, _, hcell, hwz⟩
  · simp [Value.cells] at hcs
    obtain ⟨rfl, rfl, rfl⟩ := hcs
    exact ⟨[], Rd.nil _ _⟩
  · simp [Value.cells] at hcs
    obtain ⟨rfl, rfl, rfl⟩ := hcs
    have hz' : zs.length = cap := by simpa using hz
    refine ⟨(zs.take len).map Int.toNat, some x, cap, by simp; omega, by simp; omega, hm, by simp, ?_, fun hp => ?_⟩
    · intro q hq
      obtain ⟨z, hzm, rfl⟩ := List.mem_map.1 hq
      have := bounds_u8 (hwz z (List.mem_of_mem_take hzm))
      omega
    · simp at hp
      obtain ⟨b, off, spot⟩ := x
      have hc := hcell 0 (by omega)
      have hs : spot = none := by simpa [Addr.add] using World.cell?_spot hc
      subst hs
      refine ⟨b, off, rfl, by simpa [Addr.add] using block_lt hc, fun k hk => ?_⟩
      simp at hk
      have hk' : k < zs.length := by omega
      have := hcell k (by omega)
      rw [add_plain] at this
      rw [this]
      have hb := bounds_u8 (hwz zs[k] (List.getElem_mem _))
      simp [List.getElem?_eq_getElem hk', show k < len by omega]
      omega
theorem add_flat (b off k : Nat) : (⟨b, off, none⟩ : Addr).add k = ⟨b, off + k, none⟩ := by unfold Addr.add; split <;> simp_all
instance : Inhabited ByteArray := ⟨⟨#[]⟩⟩
theorem pick_list {α : Type} [Inhabited α] (n : Nat) (Q : Nat → α → Prop) (h : ∀ i, i < n → ∃ p, Q i p) : ∃ l : List α, l.length = n ∧ ∀ i p, l[i]? = some p → Q i p := by
  induction n with
  | zero => exact ⟨[], rfl, fun i p hp => by simp at hp⟩
  | succ n ih =>
    obtain ⟨l, hl, hq⟩ := ih fun i hi => h i (by omega)
    obtain ⟨p, hp⟩ := h n (by omega)
    refine ⟨l ++ [p], by simp [hl], fun i q hq2 => ?_⟩
    rcases Nat.lt_or_ge i l.length with hi | hi
    · rw [List.getElem?_append_left hi] at hq2
      exact hq i q hq2
    · rw [List.getElem?_append_right hi] at hq2
      have hi2 : i - l.length = 0 := by
        rcases Nat.eq_zero_or_pos (i - l.length) with h0 | h0
        · exact h0
        · rw [List.getElem?_eq_none (by simp; omega)] at hq2; cases hq2
      rw [hi2] at hq2
      simp at hq2
      subst hq2
      rw [show i = n by omega]
      exact hp
theorem open_texts {H : Type} {enc : TypeId × Value → H} {W : World} {base : Nat} {v : Value} {d : DataW H} {p : List MemPlace}
    (hv : Value.okWide Try.prog W .any base 22 v) (h : DataW.Trod enc Try.prog W 0 (fun _ => true) true 22 v d p) : ∃ l, TextsIn W v l := by
  obtain ⟨a, len, cap, rfl⟩ := okWide_slice Try.underlying22 hv
  obtain ⟨fuel, hf⟩ := h
  rcases open_slice1 Try.underlying22 (by kernel_rfl) hf with ⟨hcs, _⟩ | ⟨x, l, c, m, n, V, D, Pl, hcs, hb, hl, hm, hmm, _, hi⟩
  · simp [Value.cells] at hcs
    obtain ⟨rfl, rfl, rfl⟩ := hcs
    exact ⟨[], Gn.Rd.nil _ _, by simp⟩
  · simp [Value.cells] at hcs
    obtain ⟨rfl, rfl, rfl⟩ := hcs
    rw [if_pos rfl] at hmm
    subst hmm
    obtain ⟨ps, hlen, hps⟩ := pick_list len (fun i (y : ByteArray) => y.size ≤ maxLen ∧ W.cell? (x.add i) = some (.string y)) (fun i hi' => by
      obtain ⟨hc, ht⟩ := hi i (by omega)
      obtain ⟨s, e, _, b⟩ := DataW.trod_string Try.underlying9 ht
      exact ⟨s, b, by rw [hc]; exact congrArg some (List.cons.inj e).1⟩)
    refine ⟨ps, ⟨some x, m, by rw [hlen], by omega, hm, by simp, fun hp => ?_⟩, fun y hy => ?_⟩
    · obtain ⟨b, off, spot⟩ := x
      have hc := (hps 0 _ (List.getElem?_eq_getElem hp)).2
      have hs : spot = none := by simpa [Addr.add] using World.cell?_spot hc
      subst hs
      refine ⟨b, off, rfl, by simpa [Addr.add] using block_lt hc, fun i y j u hi2 hj => ?_⟩
      have := (hps i y hi2).2
      rw [add_flat] at this
      have hj0 : j = 0 := by have := (List.getElem?_eq_some_iff.1 hj).1; simp [txc] at this; exact this
      subst hj0
      have hu : u = .string y := by simpa [txc] using hj.symm
      subst hu
      simpa using this
    · obtain ⟨i, hi', rfl⟩ := List.getElem_of_mem hy
      exact (hps i _ (List.getElem?_eq_getElem hi')).1
theorem open_numbers {H : Type} {enc : TypeId × Value → H} {W : World} {base : Nat} {v : Value} {d : DataW H} {p : List MemPlace}
    (hv : Value.okWide Try.prog W .any base 26 v) (h : DataW.Trod enc Try.prog W 0 (fun _ => true) true 26 v d p) : ∃ l, IntsIn W v l := by
  obtain ⟨a, len, cap, rfl⟩ := okWide_slice Try.underlying26 hv
  obtain ⟨fuel, hf⟩ := h
  rcases open_ints Try.underlying26 Try.underlying3 (by kernel_rfl) hf with ⟨hcs, _⟩ | ⟨x, len, cap, zs, hcs, _, hl, hm, hz, _, hcell, hwz⟩
  · obtain hcs : (Value.slice a len cap) = .slice none 0 0 := by simpa [Value.cells] using hcs
    rw [hcs]
    exact ⟨[], ⟨Gn.Rd.nil _ _, by simp⟩⟩
  · obtain hcs : (Value.slice a _ _) = .slice (some x) len cap := by simpa [Value.cells] using hcs
    rw [hcs]
    have hz' : zs.length = cap := by simpa using hz
    refine ⟨zs.take len, ⟨⟨some x, cap, by simp; omega, by simp; omega, hm, by simp, fun hp => ?_⟩, fun q hq => bounds_i64 (hwz q (List.mem_of_mem_take hq))⟩⟩
    simp at hp
    obtain ⟨b, off, spot⟩ := x
    have hc := hcell 0 (by omega)
    have hs : spot = none := by simpa [Addr.add] using World.cell?_spot hc
    subst hs
    refine ⟨b, off, rfl, by simpa [Addr.add] using block_lt hc, fun i y j u hi hj => ?_⟩
    have hil := (List.getElem?_eq_some_iff.1 hi).1
    have hil' : i < len := by simp at hil; omega
    have hj0 : j = 0 := by have := (List.getElem?_eq_some_iff.1 hj).1; simp [inc] at this; exact this
    subst hj0
    have := hcell i (by omega)
    rw [add_flat] at this
    rw [List.getElem?_take_of_lt hil'] at hi
    rw [List.getD_eq_getElem?_getD, hi] at this
    have hu : u = .int .i64 y := by simpa [inc] using hj.symm
    subst hu
    simpa using this
end Go.Proofs.Ytenfjmdajlhfoaa
