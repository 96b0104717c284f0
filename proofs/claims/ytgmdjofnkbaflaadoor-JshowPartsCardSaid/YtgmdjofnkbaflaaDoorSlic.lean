/- Rows of slices and of texts that a call owns, beside what the slices read as: told apart by the types of their blocks. -/
import Derived.Test.YtgmdjofnkbaflaaDoorShall
import Derived.Test.YtgmdjofnkbaflaaDoorMake
namespace Go.Proofs.YtgmdjofnkbaflaaDoor
open Go.RowKit
set_option linter.unusedVariables false
set_option maxRecDepth 100000

def OwnS (w : World) (base : Nat) (v : Value) (ss : List Sl) : Prop := Gn.Own slv 1 24 w base v ss
def OwnT (w : World) (base : Nat) (v : Value) (l : List ByteArray) : Prop := Gn.Own txc 1 9 w base v l
theorem own_apart {α β : Type} {enc : α → List Value} {enc' : β → List Value} {k k' : Nat} {T T' : TypeId} {w : World} {B B' : Nat} {v v' : Value} {l : List α} {l' : List β} (h : Gn.Own enc k T w B v l) (h' : Gn.Own enc' k' T' w B' v' l') (hT : T ≠ T') :
    v.ownBlock = none ∨ v.ownBlock ≠ v'.ownBlock := by
  rcases h.2 with ⟨rfl, _⟩ | ⟨g, cap, cur, rfl, _, hh, _⟩
  · exact .inl rfl
  · refine .inr fun e => ?_
    rcases h'.2 with ⟨rfl, _⟩ | ⟨g', cap', cur', rfl, _, hh', _⟩
    · cases e
    · have e : g = g' := by simpa [Value.ownBlock] using e
      subst e
      rw [hh] at hh'
      injection hh' with hh'
      injection hh' with _ hh'
      exact hT hh'
/-- What slices hold, one by one: rows of nodes. -/
def EachO (w : World) (ss : List Sl) (ls : List (List Nd)) : Prop := ss.length = ls.length ∧ ∀ (i : Nat) (s : Sl) (l : List Nd), ss[i]? = some s → ls[i]? = some l → OwnN w 0 s.val l ∧ (∀ x ∈ l, Nok x)
theorem EachO.nil (w : World) : EachO w [] [] := ⟨rfl, fun i s l h => by simp at h⟩
theorem EachO.later {w w' : World} {ss : List Sl} {ls : List (List Nd)} (h : EachO w ss ls) (hb : Below w.heap.size w w') : EachO w' ss ls :=
  ⟨h.1, fun i s l h1 h2 => ⟨Gn.Own.later (h.2 i s l h1 h2).1 hb, (h.2 i s l h1 h2).2⟩⟩
theorem EachO.kept {α : Type} {enc : α → List Value} {k : Nat} {T : TypeId} {w w' : World} {B : Nat} {v : Value} {l : List α} {ss : List Sl} {ls : List (List Nd)} (h : EachO w ss ls) (ho : Gn.Own enc k T w B v l) (hT : 59 ≠ T) (hg : w.grownBy w' v.ownBlock) : EachO w' ss ls :=
  ⟨h.1, fun i s l h1 h2 => ⟨Gn.Own.kept (h.2 i s l h1 h2).1 hg (own_apart (h.2 i s l h1 h2).1 ho hT), (h.2 i s l h1 h2).2⟩⟩
theorem EachO.snoc {w : World} {ss : List Sl} {ls : List (List Nd)} {s : Sl} {l : List Nd} (h : EachO w ss ls) (hs : OwnN w 0 s.val l) (hok : ∀ x ∈ l, Nok x) : EachO w (ss ++ [s]) (ls ++ [l]) := by
  refine ⟨by simp [h.1], fun i s' l' h1 h2 => ?_⟩
  rcases Nat.lt_or_ge i ss.length with hi | hi
  · rw [List.getElem?_append_left hi] at h1
    rw [List.getElem?_append_left (by rw [← h.1]; exact hi)] at h2
    exact h.2 i s' l' h1 h2
  · rw [List.getElem?_append_right hi] at h1
    rw [List.getElem?_append_right (by rw [← h.1]; exact hi), ← h.1] at h2
    have h0 : i - ss.length = 0 := by
      rcases Nat.eq_zero_or_pos (i - ss.length) with h0 | h0
      · exact h0
      · rw [List.getElem?_eq_none (by simp; omega)] at h1; cases h1
    rw [h0] at h1 h2
    simp at h1 h2
    subst h1 h2
    exact ⟨hs, hok⟩
theorem EachO.rdS {w : World} {ss : List Sl} {ls : List (List Nd)} {base : Nat} {v : Value} (h : EachO w ss ls) (ho : OwnS w base v ss) : RdS w w.heap.size v ss ls :=
  ⟨Gn.Own.rd slL ho, h.1, fun i s l h1 h2 => ⟨Gn.Own.rd ndL (h.2 i s l h1 h2).1, (h.2 i s l h1 h2).2⟩⟩
theorem node_ne_sl : (59 : TypeId) ≠ 24 := by decide
theorem node_ne_tx : (59 : TypeId) ≠ 9 := by decide
theorem sl_ne_tx : (24 : TypeId) ≠ 9 := by decide
theorem tx_ne_sl : (9 : TypeId) ≠ 24 := by decide
theorem own_low {w : World} {B : Nat} {v : Value} {l : List Nd} (h : OwnN w B v l) : OwnN w 0 v l := Gn.Own.lower h (Nat.zero_le _)
/-- A slice that was laid for itself alone, a text. -/
theorem rdSl_one (w : World) (a : Option Addr) (n c : Nat) : Gn.Rd slv 1 (w.alloc (.cells #[.slice a n c] 24)) (w.alloc (.cells #[.slice a n c] 24)).heap.size (.slice (some ⟨w.heap.size, 0, none⟩) 1 1) [(⟨a, n, c⟩ : Sl)] := rd_one 24 slL w (⟨a, n, c⟩ : Sl) #[.slice a n c] rfl
theorem rdTx_one (w : World) (y : ByteArray) : Gn.Rd txc 1 (w.alloc (.cells #[.string y] 9)) (w.alloc (.cells #[.string y] 9)).heap.size (.slice (some ⟨w.heap.size, 0, none⟩) 1 1) [y] := rd_one 9 txL w y #[.string y] rfl
end Go.Proofs.YtgmdjofnkbaflaaDoor
