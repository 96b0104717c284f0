/- Texts of values with commas between them: plainly. -/
import Derived.Test.YtgmdjofnkbaflaaDoorRok
import Derived.Test.YtgmdjofnkbaflaaDoorZk
namespace Go.Proofs.YtgmdjofnkbaflaaDoor
open Go.RowKit
set_option linter.unusedVariables false
set_option maxRecDepth 100000

/-- Letters, one by one. -/
def let6 (j : Nat) : ByteArray := (⟨#[97, 98, 99, 100, 101, 102]⟩ : ByteArray).extract j (j + 1)
def lets (n : Nat) : List ByteArray := (List.range n).map let6
theorem let6_run (j : Nat) (h : j ≤ 5) (w : World) : (Instr.slice 9 (.string ⟨#[97, 98, 99, 100, 101, 102]⟩) (some (.int .i64 (j : Nat))) (some (.int .i64 ((j : Nat) + 1))) none).run Tryd.prog w = .ok (.string (let6 j)) w := by
  rcases (show j = 0 ∨ j = 1 ∨ j = 2 ∨ j = 3 ∨ j = 4 ∨ j = 5 by omega) with rfl | rfl | rfl | rfl | rfl | rfl <;> rfl
theorem lets_succ (n : Nat) : lets (n + 1) = lets n ++ [let6 n] := by unfold lets; rw [List.range_succ, List.map_append]; rfl
theorem lets_len (n : Nat) : (lets n).length = n := by simp [lets]
theorem lets_ok : ∀ n, n ≤ 6 → Tp.ko 7 (lets n) ∧ ∀ y ∈ lets n, y.size ≤ 100 := by
  intro n hn
  rcases (show n = 0 ∨ n = 1 ∨ n = 2 ∨ n = 3 ∨ n = 4 ∨ n = 5 ∨ n = 6 by omega) with rfl | rfl | rfl | rfl | rfl | rfl | rfl <;>
    (refine ⟨?_, by decide⟩; unfold Tp.ko; rw [if_pos rfl]; refine ⟨?_, by decide⟩; intro y hy; simp only [lets, List.range, List.range.loop, List.map, List.mem_cons, List.not_mem_nil, or_false] at hy)
  · rcases hy with rfl; kernel_rfl
  · rcases hy with rfl | rfl <;> kernel_rfl
  · rcases hy with rfl | rfl | rfl <;> kernel_rfl
  · rcases hy with rfl | rfl | rfl | rfl <;> kernel_rfl
  · rcases hy with rfl | rfl | rfl | rfl | rfl <;> kernel_rfl
  · rcases hy with rfl | rfl | rfl | rfl | rfl | rfl <;> kernel_rfl
theorem let6_size (j : Nat) (h : j ≤ 5) : (let6 j).size = 1 := by
  rcases (show j = 0 ∨ j = 1 ∨ j = 2 ∨ j = 3 ∨ j = 4 ∨ j = 5 by omega) with rfl | rfl | rfl | rfl | rfl | rfl <;> rfl
theorem let6_bl (j : Nat) (h : j ≤ 5) : bl (let6 j) = [97 + j] := by
  rcases (show j = 0 ∨ j = 1 ∨ j = 2 ∨ j = 3 ∨ j = 4 ∨ j = 5 by omega) with rfl | rfl | rfl | rfl | rfl | rfl <;> rfl
theorem let6_lit (j : Nat) (h : j ≤ 5) : Jr.Lit [34, 97 + j, 34] [97 + j] := by
  have := Jr.lit_tidy [97 + j] (fun r hr => by rw [List.mem_singleton.1 hr]; unfold Utf.isr; omega)
  rcases (show j = 0 ∨ j = 1 ∨ j = 2 ∨ j = 3 ∨ j = 4 ∨ j = 5 by omega) with rfl | rfl | rfl | rfl | rfl | rfl <;> exact this
theorem let6_keyed (j : Nat) (h : j ≤ 5) {b : List Nat} (hb : ∀ c ∈ b, Jr.blank c = true) : Jr.Keyed 7 ([34, 97 + j, 34] ++ ([] ++ 58 :: b)) (let6 j) :=
  ⟨.inr ⟨rfl, _, _, [], b, let6_lit j h, rfl, by rw [← let6_bl j h, str_bl], by simp, hb⟩⟩
theorem lets_not (q : Nat) (h : q ≤ 5) : let6 q ∉ lets q := by
  have := (lets_ok (q + 1) (by omega)).1
  rw [lets_succ, Tp.ko_snoc] at this
  have h2 := this.2
  unfold Tp.k1 at h2
  rw [if_pos rfl] at h2
  exact h2.2
theorem mkl_snoc : ∀ (ys : List ByteArray) (Fs : List Fo) (y : ByteArray) (F : Fo), ys.length = Fs.length → (∀ F ∈ Fs, Jr.One F) → Jr.One F → mkC (ys ++ [y]) (Fs ++ [F]) = Tp.app (mkC ys Fs) (Jr.withKey y F)
  | [], [], y, F, _, _, hF => by obtain ⟨k, n, s, c, rfl⟩ := hF; rfl
  | z :: ys, G :: Fs, y, F, hl, hR, hF => by
    obtain ⟨k1, n1, s1, c1, rfl⟩ := hR G (List.mem_cons_self ..)
    show Tp.Fo.node k1 z n1 s1 c1 (mkC (ys ++ [y]) (Fs ++ [F])) = _
    rw [mkl_snoc ys Fs y F (by simpa using hl) (fun G hG => hR G (List.mem_cons_of_mem _ hG)) hF]
    rfl
  | [], _ :: _, _, _, h, _, _ => by simp at h
  | _ :: _, [], _, _, h, _, _ => by simp at h
theorem mkl_nil : ∀ (ys : List ByteArray) (Fs : List Fo), ys.length = Fs.length → (∀ F ∈ Fs, Jr.One F) → (mkC ys Fs = .nil ↔ Fs = [])
  | [], [], _, _ => by simp [mkC]
  | z :: ys, F :: Fs, hl, hR => by
    obtain ⟨k1, n1, s1, c1, rfl⟩ := hR F (List.mem_cons_self ..)
    simp [mkC]
  | [], _ :: _, h, _ => by simp at h
  | _ :: _, [], h, _ => by simp at h
/-- Texts of values so far, with commas: in a list, in an object. -/
structure Tx (l o : List Nat) (Fs : List Fo) : Prop where
  all : ∀ F ∈ Fs, ROk F 100
  none : Fs = [] → l = [91]
  list : ∃ P, l = 91 :: P ∧ Jr.Parts 6 P (mkC (List.replicate Fs.length ⟨#[]⟩) Fs)
  obj : ∃ P, o = 123 :: P ∧ Jr.Parts 7 P (mkC (lets Fs.length) Fs)
theorem tx_nil : Tx [91] [123] [] := ⟨by simp, fun _ => rfl, ⟨[], rfl, Jr.parts_nil 6 (by simp)⟩, ⟨[], rfl, Jr.parts_nil 7 (by simp)⟩⟩
theorem tx_snoc {l o s : List Nat} {Fs : List Fo} {F : Fo} (h : Tx l o Fs) (hq : Fs.length ≤ 5) (hF : ROk F 100) (hs : ∀ x ∈ s, x < 256) (hr : Jr.Reads s (.ok F)) :
    Tx (l ++ ((if Fs.length = 0 then [] else [44]) ++ s)) (o ++ ((if Fs.length = 0 then [] else [44]) ++ ([34, 97 + Fs.length, 34, 58] ++ s))) (Fs ++ [F]) := by
  obtain ⟨b1, p, b2, h1, h2, rfl, hV⟩ := Jr.reads_inv hs hr
  obtain ⟨P, e1, hP⟩ := h.list
  obtain ⟨Q, e2, hQ⟩ := h.obj
  have hone : ∀ G ∈ Fs, Jr.One G := fun G hG => (h.all G hG).one
  have hall : ∀ G ∈ Fs ++ [F], ROk G 100 := fun G hG => by
    rcases List.mem_append.1 hG with hG | hG
    · exact h.all G hG
    · rw [List.mem_singleton.1 hG]; exact hF
  have hkeys : Tp.keys (mkC (lets Fs.length) Fs) = lets Fs.length := (mk_is (lets Fs.length) Fs (lets_len _) hone).keys
  have n6 := mkl_nil (List.replicate Fs.length ⟨#[]⟩) Fs (by simp) hone
  have n7 := mkl_nil (lets Fs.length) Fs (lets_len _) hone
  refine ⟨hall, fun e => by simp at e, ?_, ?_⟩
  · rw [List.length_append, List.length_singleton, List.replicate_succ', mkl_snoc _ Fs ⟨#[]⟩ F (by simp) hone hF.one]
    by_cases h0 : Fs.length = 0
    · obtain rfl := List.eq_nil_of_length_eq_zero h0
      have := Jr.parts_snoc (k := 6) (p0 := b1) (c0 := []) (q := []) (y := ⟨#[]⟩) (Jr.parts_nil 6 h1) (.inl ⟨rfl, rfl⟩) ⟨.inl ⟨by decide, rfl, rfl⟩⟩ hV h2 (fun e => by cases e)
      refine ⟨b1 ++ (p ++ b2), ?_, by simpa [mkC] using this⟩
      rw [h.none rfl]
      simp
    · have := Jr.parts_snoc (k := 6) (c0 := 44 :: b1) (q := []) (y := ⟨#[]⟩) hP (.inr ⟨fun e => h0 (by rw [n6.1 e]; rfl), b1, h1, rfl⟩) ⟨.inl ⟨by decide, rfl, rfl⟩⟩ hV h2 (fun e => by cases e)
      refine ⟨_, ?_, this⟩
      rw [if_neg h0, e1]
      simp
  · rw [List.length_append, List.length_singleton, lets_succ, mkl_snoc _ Fs (let6 Fs.length) F (lets_len _) hone hF.one]
    have := Jr.parts_snoc (k := 7) (c0 := if Fs.length = 0 then [] else [44]) hQ (by
      by_cases h0 : Fs.length = 0
      · rw [if_pos h0]
        exact .inl ⟨n7.2 (List.eq_nil_of_length_eq_zero h0), rfl⟩
      · rw [if_neg h0]
        exact .inr ⟨fun e => h0 (by rw [n7.1 e]; rfl), [], by simp, rfl⟩) (let6_keyed Fs.length hq h1) hV h2 (fun _ => by rw [hkeys]; exact lets_not _ hq)
    refine ⟨_, ?_, this⟩
    rw [e2]
    simp
end Go.Proofs.YtgmdjofnkbaflaaDoor
