/- strings.Builder as this program calls it: WriteByte, WriteRune, WriteString, each by a contract over a builder that a call has made. -/
import Derived.Test.YtanjdjiigfdnmaaGreatDoorMap
import Derived.Lib.AppendStr
namespace Go.Proofs.YtanjdjiigfdnmaaGreatDoor
open Go.RowKit
set_option linter.unusedVariables false

/-- A builder at block b (from block B on) that holds these bytes. -/
def Bld (B b : Nat) (l : List Nat) (w : World) : Prop := Lib.IsBuilder 120 5 B b (vals l) w ∧ ∀ x ∈ l, x < 256
/-- What a writing call leaves. -/
def Wrote (B b : Nat) (l : List Nat) (w w' : World) : Prop := Bld B b l w' ∧ Below B w w' ∧ Lib.OthersKept 5 (some b) w w'

theorem row_kept {w w' : World} {B : Nat} {e : TypeId} {v : Value} {n : Nat} {xs : List Value} (h : w.ownsRow B e 1 v n xs) (hk : ∀ (k : Nat) c t f, w.heap[k]? = some (Obj.cells c t f) → w'.heap[k]? = some (Obj.cells c t f)) : w'.ownsRow B e 1 v n xs := by
  obtain ⟨h0, h1⟩ := h
  refine ⟨h0, ?_⟩
  rcases h1 with h1 | ⟨g, cap, cur, rfl, hg, hh, r⟩
  · exact .inl h1
  · exact .inr ⟨g, cap, cur, rfl, hg, hk _ _ _ _ hh, r⟩
theorem Bld.kept {w w' : World} {B b : Nat} {l : List Nat} (h : Bld B b l w) (hk : ∀ (k : Nat) c t f, w.heap[k]? = some (Obj.cells c t f) → w'.heap[k]? = some (Obj.cells c t f)) : Bld B b l w' := by
  obtain ⟨h, hb⟩ := h
  refine ⟨?_, hb⟩
  rcases h with ⟨h1, v, h2, h3, h4⟩ | ⟨h1, v, h2, h3, h4⟩
  · exact .inl ⟨h1, v, hk _ _ _ _ h2, row_kept h3 hk, h4⟩
  · exact .inr ⟨h1, v, hk _ _ _ _ h2, row_kept h3 hk, h4⟩
theorem Bld.later {w w' : World} {B b : Nat} {l : List Nat} (h : Bld B b l w) (hb : Below w.heap.size w w') : Bld B b l w' :=
  h.kept fun k c t f hk => (hb.block k (Array.getElem?_eq_some_iff.1 hk).1).trans hk
theorem Bld.iterAt {w : World} {B b : Nat} {l : List Nat} (h : Bld B b l w) {k : Nat} {s : ByteArray} {pos : Nat} (hit : w.heap[k]? = some (.stringIter s pos)) (q : Nat) : Bld B b l (w.iterAt k s q) :=
  h.kept fun j c t f hj => (Lib.iterAt_other w k j s q (fun e => by subst e; rw [hit] at hj; cases hj)).trans hj
theorem Bld.fresh (w : World) : Bld w.heap.size w.heap.size [] (w.alloc (.cells #[.pointer none, .slice none 0 0] 120)) := ⟨Lib.fresh_isBuilder _ _ w, by simp⟩
theorem Bld.lt {w : World} {B b : Nat} {l : List Nat} (h : Bld B b l w) : b < w.heap.size := by
  rcases h.1 with h | h
  · exact h.lt
  · exact h.lt
theorem Bld.ge {w : World} {B b : Nat} {l : List Nat} (h : Bld B b l w) : B ≤ b := by
  rcases h.1 with h | h
  · exact h.1
  · exact h.1

theorem b_size : (Tryz.prog.info? 120).map (·.size) = some 2 := by kernel_rfl
theorem b_lies : liesAt Tryz.prog Tryz.prog.depth 120 (2 / Tryz.prog.cellsOf 120) 0 120 1 = true := by kernel_rfl
set_option maxHeartbeats 1000000 in
set_option maxRecDepth 100000 in
theorem copyCheck (B b : Nat) (bs : List Value) (w : World) (h : Lib.IsBuilder 120 5 B b bs w) :
    Calls Tryz.prog 127 #[.pointer (some ⟨b, 0, none⟩)] w fun e w' => e = .returned (.tuple #[]) ∧ Lib.BuilderAt 120 5 B b (.pointer (some ⟨b, 0, none⟩)) bs w' ∧ Below B w w' ∧ Lib.OthersKept 5 (some b) w w' := by
  obtain ⟨j, hj, hjs⟩ := Option.map_eq_some_iff.1 b_size
  rcases h with h | h
  · have h0 := h.cell0
    have hsh := h.shape
    have hfz := h.frozen0
    have HH := Lib.hid h
    clear h
    go_enter Tryz.func127, Tryz.ntmps127
    go_wp2
    rw [Lib.run_to_unsafe w ⟨b, 0, none⟩ Tryz.underlying117 Tryz.underlying169 hj (by rw [hjs]; decide) hsh (Nat.zero_lt_succ 1)]
    simp only [Result.andThen]
    rw [Oper.upon_value]
    go_wp2
    rw [run_callFunc_extern Tryz.func152 (by kernel_rfl) (by kernel_rfl) (by kernel_rfl) (e := Extern.AbiNoEscape.same) (by kernel_rfl)]
    rw [Lib.run_noEscape]
    simp only [Result.andThen]
    rw [Oper.upon_value]
    go_wp2
    rw [Lib.run_from_unsafe w ⟨b, 0, none⟩ Tryz.underlying169 Tryz.underlying117 hj hsh b_lies]
    simp only [Result.andThen]
    rw [Oper.upon_value]
    go_wp2
    go_end0
    exact ⟨rfl, HH.out.used _, (Below.refl B w).setCell (p := ⟨b, 0, none⟩) HH.out.1 _, (Lib.OthersKept.refl _ _ w).setCell ⟨b, 0, none⟩ rfl _⟩
  · have h0 := h.cell0
    have HH := Lib.hid h
    clear h
    go_enter Tryz.func127, Tryz.ntmps127
    go_wp2
    rw [Lib.run_neq_ptr_same w _ Tryz.underlying117 hj]
    go_wp2
    go_end0
    exact ⟨rfl, HH.out, Below.refl B _, Lib.OthersKept.refl _ _ _⟩

/-- A builder in use, taken apart. -/
theorem used_parts {B b : Nat} {bs : List Value} {w : World} (h : Lib.BuilderAt 120 5 B b (.pointer (some ⟨b, 0, none⟩)) bs w) :
    ∃ a c, w.heap[b]? = some (.cells #[.pointer (some ⟨b, 0, none⟩), .slice a bs.length c] 120 (0, 0)) ∧ w.ownsRow B 5 1 (.slice a bs.length c) bs.length bs ∧
      (Value.slice a bs.length c).ownBlock ≠ some b ∧ B ≤ b ∧ b < w.heap.size := by
  have hlt := h.lt
  obtain ⟨hB, v, hbk, hown, hne⟩ := h
  rcases id hown.2 with ⟨hv, h0⟩ | ⟨g, cap, cur, hv, _⟩
  · have e : v = Value.slice none bs.length 0 := by rw [h0, hv]
    rw [e] at hbk hown
    exact ⟨none, 0, hbk, hown, by simp [Value.ownBlock], hB, hlt⟩
  · exact ⟨_, _, by rw [← hv]; exact hbk, by rw [← hv]; exact hown, by rw [← hv]; exact hne, hB, hlt⟩
theorem row_kind {w : World} {B : Nat} {e : TypeId} {v : Value} {n : Nat} {xs : List Value} (h : w.ownsRow B e 1 v n xs) : ∀ g, v.ownBlock = some g → ∃ c fz, w.heap[g]? = some (.cells c e fz) := by
  intro g hg
  rcases h.2 with ⟨rfl, _⟩ | ⟨g', cap, cur, rfl, _, hgg, _⟩
  · simp [Value.ownBlock] at hg
  · simp [Value.ownBlock] at hg
    subst hg
    exact ⟨cur, _, hgg⟩
theorem row_shape {w : World} {B : Nat} {e : TypeId} {v : Value} {n : Nat} {xs : List Value} (h : w.ownsRow B e 1 v n xs) : ∃ a c, v = .slice a n c := by
  rcases h.2 with ⟨hv, h0⟩ | ⟨g, cap, cur, hv, _⟩
  · exact ⟨none, 0, by rw [hv, h0]⟩
  · exact ⟨_, _, hv⟩
theorem cell_heap {w : World} {b : Nat} {c : Array Value} {t : TypeId} {f : Nat × Nat} (h : w.heap[b]? = some (.cells c t f)) (k : Nat) : w.cell? ⟨b, k, none⟩ = c[k]? := by
  have := cell_of_row w b k c t f h
  rw [this]
set_option maxHeartbeats 2000000 in
set_option maxRecDepth 100000 in
theorem writeByte (B b : Nat) (l : List Nat) (c : Nat) (w : World) (h : Bld B b l w) (hc : c < 256) (hlen : l.length ≤ 1000000000) (hBw : B ≤ w.heap.size) :
    Calls Tryz.prog 149 #[.pointer (some ⟨b, 0, none⟩), .int .u8 (c : Nat)] w fun e w' => e = .returned .nilIface ∧ Wrote B b (l ++ [c]) w w' := by
  obtain ⟨h, hby⟩ := h
  obtain ⟨i0, hi, hz0, hz1, hz2⟩ := byte_parts
  have HBY := Lib.hid hby
  have HH := Lib.hid h
  clear hby h
  go_enter Tryz.func149, Tryz.ntmps149
  go_wp2_with (go_at_call 127; refine (copyCheck B b _ _ HH.out).mono ?_)
  rintro e w1 ⟨rfl, h1, hb1, hk1⟩
  obtain ⟨a1, cp1, hbk, hown, hne, hB, hlt⟩ := used_parts h1
  have HLV := Lib.hid (vals_length l)
  have c0 := cell_heap hbk 0
  have c1 := cell_heap hbk 1
  simp at c0 c1
  have HK := Lib.hid hbk
  have HN := Lib.hid hne
  have HO := Lib.hid hown
  clear hbk hne h1 hown
  go_wp2_with (at_builtin; refine wpList_append_own _ rfl _ _ 118 rfl B 5 i0 (.int .u8 0) 1 1 Tryz.underlying118 hi hz0 hz1 hz2 rfl (by decide) _ _ _ rfl (HO.out.alloc _) ⟨w1.heap.size, 0, none⟩ 1 1 [.int .u8 (c : Nat)] rfl rfl ?c1 ?c2 ?c3 ?c4 ?c5 ?_)
  case c1 =>
    intro j u hj
    match j, hj with
    | 0, hj => simp at hj; subst hj; simp [Addr.add]
  case c2 => intro u hu; simp at hu; subst hu; rfl
  case c3 => rw [HLV.out]; unfold maxLen; simp; omega
  case c4 => rw [HLV.out]; simp; omega
  case c5 => have := hb1.size; simp; omega
  intro v' w2 hown' hgrow _
  have hb2 : w2.heap[b]? = some (.cells #[.pointer (some ⟨b, 0, none⟩), .slice a1 (vals l).length cp1] 120 (0, 0)) := by
    rw [hgrow.block b (by simp; omega) (fun e => HN.out e.symm), Lib.alloc_old w1 _ b hlt]
    exact HK.out
  have d0 := cell_heap hb2 0
  have d1 := cell_heap hb2 1
  simp at d0 d1
  have f1 : w2.frozen? ⟨b, 1, none⟩ = false := by simp [World.frozen?, hb2]
  obtain ⟨a2, cp2, rfl⟩ := row_shape hown'
  have HB2 := Lib.hid hb2
  have HO2 := Lib.hid hown'
  clear hb2 hown'
  go_wp2
  go_ret
  refine ⟨rfl, ⟨.inr (Lib.BuilderAt.put (T := 120) (e := 5) (bs' := vals (l ++ [c])) hB HB2.out ?_ (by decide)), fun x hx => ?_⟩, ?_, ?_⟩
  · have := HO2.out
    rw [vals_append]
    simpa [vals] using this
  · rcases List.mem_append.1 hx with hx | hx
    · exact HBY.out x hx
    · simp at hx; omega
  · exact ((hb1.alloc (by have := hb1.size; omega) _).grown hgrow (by have := hb1.size; simp; omega) (fun k hk => (HO.out.lt k hk).1)).setCell (p := ⟨b, 1, none⟩) hB _
  · refine ((hk1.alloc _).grown hgrow fun g hg => ?_).setCell ⟨b, 1, none⟩ rfl _
    obtain ⟨cc, fz, hcc⟩ := row_kind HO.out g hg
    exact ⟨cc, fz, (Lib.alloc_old w1 _ g (Array.getElem?_eq_some_iff.1 hcc).1).trans hcc⟩

theorem cells_enc (r : Nat) (h : Utf.isr r) : Lib.runeCells (r : Int) = vals (Utf.enc r) := by
  unfold Utf.isr at h
  unfold Lib.runeCells vals Utf.enc
  by_cases h1 : r < 128
  · rw [Lib.encodeRuneZ_one (by omega) (by omega), if_pos h1]; simp
  · by_cases h2 : r < 2048
    · rw [Lib.encodeRuneZ_two (by omega) (by omega), if_neg h1, if_pos h2]; simp
    · by_cases h3 : r < 65536
      · rw [Lib.encodeRuneZ_three (by omega), if_neg h1, if_neg h2, if_pos h3]; simp
      · rw [Lib.encodeRuneZ_four (by omega) (by omega), if_neg h1, if_neg h2, if_neg h3]; simp
set_option maxHeartbeats 2000000 in
set_option maxRecDepth 100000 in
theorem writeRune (B b : Nat) (l : List Nat) (r : Nat) (w : World) (h : Bld B b l w) (hr : Utf.isr r) (hlen : l.length ≤ 1000000000) (hBw : B ≤ w.heap.size) :
    Calls Tryz.prog 172 #[.pointer (some ⟨b, 0, none⟩), .int .i32 (r : Nat)] w fun e w' => (∃ n, e = .returned (.tuple #[.int .i64 n, .nilIface])) ∧ Wrote B b (l ++ Utf.enc r) w w' := by
  obtain ⟨h, hby⟩ := h
  have HBY := Lib.hid hby
  have HH := Lib.hid h
  have HE := Lib.hid (cells_enc r hr)
  have HEB := Lib.hid (Utf.enc_byte r hr)
  have HLV := Lib.hid (vals_length l)
  have hr2 : r ≤ 1114111 := by unfold Utf.isr at hr; omega
  have hl4 := Utf.enc_len r
  clear hby h hr
  go_enter Tryz.func172, Tryz.ntmps172
  go_wp2_with (go_at_call 127; refine (copyCheck B b _ _ HH.out).mono ?_)
  rintro e w1 ⟨rfl, h1, hb1, hk1⟩
  obtain ⟨a1, cp1, hbk, hown, hne, hB, hlt⟩ := used_parts h1
  have c0 := cell_heap hbk 0
  have c1 := cell_heap hbk 1
  simp at c0 c1
  have HK := Lib.hid hbk
  have HN := Lib.hid hne
  have HO := Lib.hid hown
  clear hbk hne h1 hown
  go_wp2_with (go_at_call 189; refine (Tryz.utf8_AppendRune_plain B _ _ _ (r : Int) (by omega) (by omega) _ HO.out (by rw [HLV.out]; omega) (by have := hb1.size; omega)).mono ?_)
  rintro e w2 ⟨v', rfl, hown', o, hgrow⟩
  rw [HE.out, vals_length] at hown'
  have hb2 : w2.heap[b]? = some (.cells #[.pointer (some ⟨b, 0, none⟩), .slice a1 (vals l).length cp1] 120 (0, 0)) := by
    rw [hgrow.block b (by simp; omega) (fun e => HN.out e.symm), Lib.alloc_old w1 _ b hlt]
    exact HK.out
  have d0 := cell_heap hb2 0
  have d1 := cell_heap hb2 1
  simp at d0 d1
  have f1 : w2.frozen? ⟨b, 1, none⟩ = false := by simp [World.frozen?, hb2]
  obtain ⟨a2, cp2, rfl⟩ := row_shape hown'
  have HB2 := Lib.hid hb2
  have HO2 := Lib.hid hown'
  clear hb2 hown'
  go_wp2
  go_ret2
  refine ⟨⟨_, rfl⟩, ⟨.inr (Lib.BuilderAt.put (T := 120) (e := 5) (bs' := vals (l ++ Utf.enc r)) hB HB2.out ?_ (by decide)), fun x hx => ?_⟩, ?_, ?_⟩
  · have := HO2.out
    simpa [vals_append, vals_length] using this
  · rcases List.mem_append.1 hx with hx | hx
    · exact HBY.out x hx
    · exact HEB.out x hx
  · exact ((hb1.alloc (by have := hb1.size; omega) _).grown hgrow (by have := hb1.size; simp; omega) (fun k hk => (HO.out.lt k hk).1)).setCell (p := ⟨b, 1, none⟩) hB _
  · refine ((hk1.alloc _).grown hgrow fun g hg => ?_).setCell ⟨b, 1, none⟩ rfl _
    obtain ⟨cc, fz, hcc⟩ := row_kind HO.out g hg
    exact ⟨cc, fz, (Lib.alloc_old w1 _ g (Array.getElem?_eq_some_iff.1 hcc).1).trans hcc⟩

theorem strCells_bl (s : ByteArray) : Lib.strCells s = vals (bl s) := by simp [Lib.strCells, vals, bl]
set_option maxHeartbeats 2000000 in
set_option maxRecDepth 100000 in
theorem writeString (B b : Nat) (l : List Nat) (s : ByteArray) (w : World) (h : Bld B b l w) (hs : s.size ≤ 100) (hlen : l.length ≤ 1000000000) (hBw : B ≤ w.heap.size) :
    Calls Tryz.prog 92 #[.pointer (some ⟨b, 0, none⟩), .string s] w fun e w' => (∃ n, e = .returned (.tuple #[.int .i64 n, .nilIface])) ∧ Wrote B b (l ++ bl s) w w' := by
  obtain ⟨h, hby⟩ := h
  obtain ⟨i0, hi, hz0, hz1, hz2⟩ := byte_parts
  have HBY := Lib.hid hby
  have HH := Lib.hid h
  have HLV := Lib.hid (vals_length l)
  clear hby h
  go_enter Tryz.func92, Tryz.ntmps92
  go_wp2_with (go_at_call 127; refine (copyCheck B b _ _ HH.out).mono ?_)
  rintro e w1 ⟨rfl, h1, hb1, hk1⟩
  obtain ⟨a1, cp1, hbk, hown, hne, hB, hlt⟩ := used_parts h1
  have c0 := cell_heap hbk 0
  have c1 := cell_heap hbk 1
  simp at c0 c1
  have HK := Lib.hid hbk
  have HN := Lib.hid hne
  have HO := Lib.hid hown
  clear hbk hne h1 hown
  go_wp2_with (at_builtin; refine Lib.wpList_append_own_string _ rfl _ _ 118 9 rfl B 5 i0 Tryz.underlying118 Tryz.underlying9 hi hz0 hz1 hz2 _ _ _ rfl HO.out s rfl (by rw [HLV.out]; simp only [maxLen]; omega) (by rw [HLV.out]; omega) (by have := hb1.size; omega) ?_)
  intro v' w2 hown' hgrow _
  have hb2 : w2.heap[b]? = some (.cells #[.pointer (some ⟨b, 0, none⟩), .slice a1 (vals l).length cp1] 120 (0, 0)) := by
    rw [hgrow.block b hlt (fun e => HN.out e.symm)]
    exact HK.out
  have d0 := cell_heap hb2 0
  have d1 := cell_heap hb2 1
  simp at d0 d1
  have f1 : w2.frozen? ⟨b, 1, none⟩ = false := by simp [World.frozen?, hb2]
  obtain ⟨a2, cp2, rfl⟩ := row_shape hown'
  have HB2 := Lib.hid hb2
  have HO2 := Lib.hid hown'
  clear hb2 hown'
  go_wp2
  go_ret2
  refine ⟨⟨_, rfl⟩, ⟨.inr (Lib.BuilderAt.put (T := 120) (e := 5) (bs' := vals (l ++ bl s)) hB HB2.out ?_ (by decide)), fun x hx => ?_⟩, ?_, ?_⟩
  · have := HO2.out
    rw [vals_append, List.length_append, vals_length (bl s), bl_length, ← strCells_bl]
    exact this
  · rcases List.mem_append.1 hx with hx | hx
    · exact HBY.out x hx
    · exact bl_byte s x hx
  · exact (hb1.grown hgrow (by have := hb1.size; omega) (fun k hk => (HO.out.lt k hk).1)).setCell (p := ⟨b, 1, none⟩) hB _
  · exact (hk1.grown hgrow fun g hg => row_kind HO.out g hg).setCell ⟨b, 1, none⟩ rfl _

theorem vals_bytes (l : List Nat) (h : ∀ x ∈ l, x < 256) : vals l = Lib.byteCells (l.map UInt8.ofNat) := by
  unfold vals Lib.byteCells
  rw [List.map_map]
  refine List.map_congr_left fun x hx => ?_
  have := h x hx
  simp; omega
theorem str_bytes (l : List Nat) : (⟨(l.map UInt8.ofNat).toArray⟩ : ByteArray) = str l := by
  refine ByteArray.ext (Array.toList_inj.1 ?_)
  simp [str, strOfNums_data, List.map_map]
theorem bString (B b : Nat) (l : List Nat) (w : World) (h : Bld B b l w) (hBw : B ≤ w.heap.size) :
    Calls Tryz.prog 93 #[.pointer (some ⟨b, 0, none⟩)] w fun e w' => e = .returned (.string (str l)) ∧ Below B w w' := by
  obtain ⟨h, hb⟩ := h
  rw [vals_bytes l hb] at h
  have := Tryz.Builder_String_any B b _ w h hBw
  rwa [str_bytes] at this
end Go.Proofs.YtanjdjiigfdnmaaGreatDoor
