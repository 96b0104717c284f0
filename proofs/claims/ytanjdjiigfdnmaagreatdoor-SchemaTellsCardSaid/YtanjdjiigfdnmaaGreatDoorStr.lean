/- Words for strings: a string's bytes as a list of numbers, and what the walk's own spellings say of that list. -/
import Derived.Test.YtanjdjiigfdnmaaGreatDoorPlain
import Derived.Test.YtanjdjiigfdnmaaGreatDoorShelf
import Derived.Test.YtanjdjiigfdnmaaGreatDoorMem
import Derived.WalkKit
import Derived.WalkSpells
import Derived.WalkLawsBesides
import Derived.Lib.Hide
import Derived.IntWalk
import Derived.Laws.BytesArg
import Derived.Laws.Strings3
namespace Go.Proofs.YtanjdjiigfdnmaaGreatDoor
open Go.RowKit
set_option linter.unusedVariables false

/-- A string's bytes. -/
def bl (s : ByteArray) : List Nat := s.data.toList.map UInt8.toNat
theorem bl_length (s : ByteArray) : (bl s).length = s.size := by simp [bl]
theorem bl_byte (s : ByteArray) : ∀ x ∈ bl s, x < 256 := by
  intro x hx
  obtain ⟨b, _, rfl⟩ := List.mem_map.1 hx
  exact b.toNat_lt
theorem str_bl (s : ByteArray) : str (bl s) = s := by
  refine ByteArray.ext (Array.toList_inj.1 ?_)
  simp only [str, strOfNums_data, bl, List.map_map]
  conv => rhs; rw [← List.map_id s.data.toList]
  refine List.map_congr_left fun b _ => ?_
  simp
theorem bl_str (l : List Nat) (h : ∀ x ∈ l, x < 256) : bl (str l) = l := by
  simp only [str, strOfNums_data, bl, List.map_map]
  conv => rhs; rw [← List.map_id l]
  refine List.map_congr_left fun x hx => ?_
  have := h x hx
  simp; omega
theorem bl_inj {s t : ByteArray} (h : bl s = bl t) : s = t := by rw [← str_bl s, ← str_bl t, h]
theorem bl_extract (s : ByteArray) (a b : Nat) : bl (s.extract a b) = ((bl s).drop a).take (b - a) := by
  unfold bl
  rw [Lib.extract_data, List.map_take, List.map_drop]
theorem bl_from (s : ByteArray) (a : Nat) : bl (s.extract a s.size) = (bl s).drop a := by
  rw [bl_extract, List.take_of_length_le (by rw [List.length_drop, bl_length]; exact Nat.le_refl _)]
theorem bl_to (s : ByteArray) (b : Nat) : bl (s.extract 0 b) = (bl s).take b := by
  rw [bl_extract]; simp
theorem bl_at (s : ByteArray) (k : Nat) (h : k < s.size) : (s[k]'h).toNat = (bl s).getD k 0 := by
  unfold bl
  have h2 : k < s.data.toList.length := by simpa using h
  rw [List.getD_eq_getElem?_getD, List.getElem?_map, List.getElem?_eq_getElem h2]
  rfl
theorem bl_append (s t : ByteArray) : bl (s ++ t) = bl s ++ bl t := by
  unfold bl
  rw [ByteArray.data_append]
  simp
theorem bl_eq (s t : ByteArray) : (s.toList == t.toList) = decide (bl s = bl t) := by
  rw [Lib.toList_data, Lib.toList_data, Bool.eq_iff_iff]
  simp only [beq_iff_eq, decide_eq_true_eq]
  refine ⟨fun h => by unfold bl; rw [h], fun h => by rw [bl_inj h]⟩
theorem bl_empty (s : ByteArray) : s.toList.isEmpty = decide (bl s = []) := by
  rw [Lib.toList_data, Bool.eq_iff_iff]
  simp [bl]
theorem bl_nil {s : ByteArray} : bl s = [] ↔ s.size = 0 := by
  rw [← bl_length]; exact ⟨fun h => by rw [h]; rfl, fun h => List.eq_nil_of_length_eq_zero h⟩
theorem str_append (a b : List Nat) : str (a ++ b) = str a ++ str b := by
  refine ByteArray.ext (Array.toList_inj.1 ?_)
  rw [ByteArray.data_append]
  simp [str, strOfNums_data]
theorem str_size (l : List Nat) : (str l).size = l.length := by rw [Lib.size_eq, str, strOfNums_data]; simp
/-- Go's decoder, in these words. -/
theorem dec_go (s : ByteArray) : Lib.decodeGo s = if s.size = 0 then (65533, 0) else Utf.dec (bl s) := by
  unfold Lib.decodeGo Utf.dec
  by_cases h : s.size = 0
  · rw [if_pos h, if_pos h]
  · rw [if_neg h, if_neg h, Lib.decode_at]
    have g : ∀ k, (s.get! k).toNat = (bl s).getD k 0 := by
      intro k
      rcases Nat.lt_or_ge k s.size with hk | hk
      · rw [Utf8W.get!_of_lt s k hk, bl_at]
      · rw [List.getD_eq_getElem?_getD, List.getElem?_eq_none (by rw [bl_length]; exact hk)]
        have : s.get! k = default := by
          cases s with
          | mk d => exact getElem!_neg d k (by have h2 : d.size ≤ k := hk; omega)
        rw [this]; rfl
    rw [g, g, g, g, bl_length]; simp
/-- The model's decoder at a place. -/
theorem dec_from (s : ByteArray) (k : Nat) (h : k < s.size) : Utf8.decode s k = Utf.dec ((bl s).drop k) := by
  unfold Utf.dec
  rw [Lib.decode_at]
  have g : ∀ k, (s.get! k).toNat = (bl s).getD k 0 := by
    intro k
    rcases Nat.lt_or_ge k s.size with hk | hk
    · rw [Utf8W.get!_of_lt s k hk, bl_at]
    · rw [List.getD_eq_getElem?_getD, List.getElem?_eq_none (by rw [bl_length]; exact hk)]
      have : s.get! k = default := by
        cases s with
        | mk d => exact getElem!_neg d k (by have h2 : d.size ≤ k := hk; omega)
      rw [this]; rfl
  rw [g, g, g, g, List.length_drop, bl_length]
  simp [List.getD_eq_getElem?_getD, List.getElem?_drop]

/-- The tables of unicode/utf8 lie in their places. -/
def Tab (w : World) : Prop := Lib.Utf8Tabs 1 2 w
theorem Tab.size {w : World} (h : Tab w) : 1 < w.heap.size ∧ 2 < w.heap.size := by
  have h0 := h.1 0 (by omega)
  have h1 := (h.2 0 (by omega)).1
  constructor
  · rcases Nat.lt_or_ge 1 w.heap.size with hlt | hge
    · exact hlt
    · simp [World.cell?, Array.getElem?_eq_none hge] at h0
  · rcases Nat.lt_or_ge 2 w.heap.size with hlt | hge
    · exact hlt
    · simp [World.cell?, Array.getElem?_eq_none hge] at h1
/-- Above the tables. -/
def TabAt (B : Nat) : Prop := 1 < B ∧ 2 < B
theorem Tab.below {w w' : World} {B : Nat} (h : Tab w) (hB : TabAt B) (hb : Below B w w') : Tab w' :=
  ⟨fun c hc => (hb.cell (p := ⟨1, c, none⟩) hB.1).trans (h.1 c hc),
   fun i hi => ⟨(hb.cell (p := ⟨2, 2 * i, none⟩) hB.2).trans (h.2 i hi).1, (hb.cell (p := ⟨2, 2 * i + 1, none⟩) hB.2).trans (h.2 i hi).2⟩⟩
theorem Tab.later {w w' : World} (h : Tab w) (hb : Below w.heap.size w w') : Tab w' := h.below h.size hb
end Go.Proofs.YtanjdjiigfdnmaaGreatDoor
