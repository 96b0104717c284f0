/- The chapter's example, plainly. -/
import Derived.Test.YteklcfimafplbaaDoorJoinP
import Derived.Test.YteklcfimafplbaaDoorOrd
namespace Go.Proofs.YteklcfimafplbaaDoor
open Go.RowKit
set_option linter.unusedVariables false
set_option maxRecDepth 100000

def ky (x : UInt8) : ByteArray := ⟨#[x]⟩
def exC : Fo := .node 6 ⟨#[98]⟩ 0 ⟨#[]⟩ (.node 4 ⟨#[]⟩ 1 ⟨#[]⟩ .nil (.node 1 ⟨#[]⟩ 0 ⟨#[]⟩ .nil .nil)) (.node 3 ⟨#[97]⟩ 0 ⟨#[]⟩ .nil .nil)
def exF : Fo := .node 7 ⟨#[]⟩ 0 ⟨#[]⟩ exC .nil
def exL : List Nd := [⟨7, ⟨#[]⟩, 0, ⟨#[]⟩, 5⟩, ⟨6, ⟨#[98]⟩, 0, ⟨#[]⟩, 3⟩, ⟨4, ⟨#[]⟩, 1, ⟨#[]⟩, 1⟩, ⟨1, ⟨#[]⟩, 0, ⟨#[]⟩, 1⟩, ⟨3, ⟨#[97]⟩, 0, ⟨#[]⟩, 1⟩]
def exT : List Nd := [⟨7, ⟨#[]⟩, 0, ⟨#[]⟩, 5⟩, ⟨6, ⟨#[98]⟩, 0, ⟨#[]⟩, 3⟩, ⟨4, ⟨#[]⟩, 1, ⟨#[]⟩, 1⟩, ⟨1, ⟨#[]⟩, 0, ⟨#[]⟩, 1⟩, ⟨3, ⟨#[98]⟩, 0, ⟨#[]⟩, 1⟩]
def exP : List Nd := [⟨6, ⟨#[]⟩, 0, ⟨#[]⟩, 3⟩, ⟨4, ⟨#[]⟩, 1, ⟨#[]⟩, 1⟩, ⟨1, ⟨#[]⟩, 0, ⟨#[]⟩, 1⟩]
def exS : List Nd := [⟨7, ⟨#[]⟩, 0, ⟨#[]⟩, 5⟩, ⟨3, ⟨#[97]⟩, 0, ⟨#[]⟩, 1⟩, ⟨6, ⟨#[98]⟩, 0, ⟨#[]⟩, 3⟩, ⟨4, ⟨#[]⟩, 1, ⟨#[]⟩, 1⟩, ⟨1, ⟨#[]⟩, 0, ⟨#[]⟩, 1⟩]
theorem ex_ok : ∀ x ∈ exL, Nok x := by
  intro x hx
  simp only [exL, List.mem_cons, List.not_mem_nil, or_false] at hx
  rcases hx with rfl | rfl | rfl | rfl | rfl <;> (unfold Nok maxLen; refine ⟨⟨?_, ?_⟩, ?_, ⟨?_, ?_⟩, ?_, ⟨?_, ?_⟩⟩ <;> first | decide | simp)
theorem ext_ok : ∀ x ∈ exT, Nok x := by
  intro x hx
  simp only [exT, List.mem_cons, List.not_mem_nil, or_false] at hx
  rcases hx with rfl | rfl | rfl | rfl | rfl <;> (unfold Nok maxLen; refine ⟨⟨?_, ?_⟩, ?_, ⟨?_, ?_⟩, ?_, ⟨?_, ?_⟩⟩ <;> first | decide | simp)
theorem vld_a : Utf.vld (bl ⟨#[97]⟩) = true := by kernel_rfl
theorem vld_b : Utf.vld (bl ⟨#[98]⟩) = true := by kernel_rfl
theorem ab_ne : (⟨#[98]⟩ : ByteArray) ≠ ⟨#[97]⟩ := by decide
theorem ex_flat : Tp.flat exF = exL := rfl
theorem ex_good : Tp.good exF := by
  simp [exF, exC, Tp.good, Tp.hf, Tp.ko, Tp.keys, vld_a, vld_b]
  rfl
theorem ex_may : May exL exF := ⟨by decide, ⟨⟨7, ⟨#[]⟩, 0, ⟨#[]⟩, exC, rfl, rfl⟩, ex_good, ex_flat⟩, by decide⟩
theorem ex_chk : chk exL = 0 ∧ dpt exL = 3 := may_chk ex_may
theorem ex_cut : chk (exL.take 4) = 60 := by
  refine (chk_eq (d := 0) (.inr (.inl ⟨by decide, ?_, rfl, rfl⟩))).1
  rintro F ⟨⟨k, y, n, s, c, rfl, _⟩, _, hf⟩
  rw [Tp.flat_node] at hf
  have h1 := congrArg List.length hf
  have h2 := congrArg (fun l => l.head?.map Tp.Nd.size) hf
  simp [exL] at h1 h2
  have : (Tp.flat c).length = Tp.sz c := rfl
  omega
theorem nil_chk : chk [] = 60 := by
  refine (chk_eq (d := 0) (.inr (.inl ⟨by decide, ?_, rfl, rfl⟩))).1
  rintro F ⟨⟨k, y, n, s, c, rfl, _⟩, _, hf⟩
  rw [Tp.flat_node] at hf
  cases hf
theorem ext_chk : chk exT = 60 := by
  refine (chk_eq (d := 0) (.inr (.inl ⟨by decide, ?_, rfl, rfl⟩))).1
  rintro F ⟨_, hg, hf⟩
  have e : F = .node 7 ⟨#[]⟩ 0 ⟨#[]⟩ (.node 6 ⟨#[98]⟩ 0 ⟨#[]⟩ (.node 4 ⟨#[]⟩ 1 ⟨#[]⟩ .nil (.node 1 ⟨#[]⟩ 0 ⟨#[]⟩ .nil .nil)) (.node 3 ⟨#[98]⟩ 0 ⟨#[]⟩ .nil .nil)) .nil := Tp.flat_inj (hf.trans rfl)
  subst e
  simp [Tp.good, Tp.hf, Tp.ko, Tp.keys] at hg
theorem ex_kids : KidsIs exL [1, 4] := .inl ⟨7, ⟨#[]⟩, 0, ⟨#[]⟩, exC, ex_may, rfl⟩
theorem ex_part : PartIs exL 1 exP := .inl ⟨1, 6, ⟨#[98]⟩, 0, ⟨#[]⟩, .node 4 ⟨#[]⟩ 1 ⟨#[]⟩ .nil (.node 1 ⟨#[]⟩ 0 ⟨#[]⟩ .nil .nil), rfl, ex_chk.1, by decide, ⟨[⟨3, ⟨#[97]⟩, 0, ⟨#[]⟩, 1⟩], rfl⟩, rfl⟩
theorem ex_get : GetIs exL ⟨#[97]⟩ [nd1 3 0 ⟨#[]⟩] true :=
  .inl ⟨⟨#[]⟩, 0, ⟨#[]⟩, exC, .node 6 ⟨#[98]⟩ 0 ⟨#[]⟩ (.node 4 ⟨#[]⟩ 1 ⟨#[]⟩ .nil (.node 1 ⟨#[]⟩ 0 ⟨#[]⟩ .nil .nil)) .nil, 3, 0, ⟨#[]⟩, .nil, .nil, ex_may, rfl, by simp [Tp.keys], rfl, rfl⟩
theorem ex_none : GetIs exL ⟨#[99]⟩ [] false := .inr ⟨rfl, rfl, .inr ⟨7, ⟨#[]⟩, 0, ⟨#[]⟩, exC, ex_may, .inr (by simp [Tp.keys, exC])⟩⟩
theorem leaf_may (k n : Int) (s : ByteArray) (h : Tp.hf k n s) : May [nd1 k n s] (.node k ⟨#[]⟩ n s .nil .nil) :=
  ⟨by simp, ⟨⟨k, ⟨#[]⟩, n, s, .nil, rfl, rfl⟩, ⟨h, fun _ => rfl, Tp.ko_nil k, trivial, trivial⟩, rfl⟩, by simp [Tp.dep]⟩
theorem leaf_chk (k n : Int) (s : ByteArray) (h : Tp.hf k n s) : chk [nd1 k n s] = 0 ∧ dpt [nd1 k n s] = 1 := may_chk (leaf_may k n s h)
theorem null_hf : Tp.hf 1 0 ⟨#[]⟩ := .inl ⟨.inl rfl, rfl, rfl⟩
theorem bool_hf (b : Bool) : Tp.hf (if b = true then 3 else 2) 0 ⟨#[]⟩ := by cases b <;> exact .inl ⟨by simp, rfl, rfl⟩
theorem num_hf (n : Int) : Tp.hf 4 n ⟨#[]⟩ := .inr (.inl ⟨rfl, rfl⟩)
theorem part_may : May exP (.node 6 ⟨#[]⟩ 0 ⟨#[]⟩ (.node 4 ⟨#[]⟩ 1 ⟨#[]⟩ .nil (.node 1 ⟨#[]⟩ 0 ⟨#[]⟩ .nil .nil)) .nil) :=
  ⟨by decide, ⟨⟨6, ⟨#[]⟩, 0, ⟨#[]⟩, _, rfl, rfl⟩, by simp [Tp.good, Tp.hf, Tp.ko, Tp.keys]; rfl, rfl⟩, by decide⟩
theorem part_chk : chk exP = 0 ∧ dpt exP = 2 := may_chk part_may
theorem ex_twice : JoinIs 7 [⟨#[97]⟩, ⟨#[97]⟩] [[nd1 1 0 ⟨#[]⟩], [nd1 1 0 ⟨#[]⟩]] [] 71 := by
  have h : jerr 7 [⟨#[97]⟩, ⟨#[97]⟩] [[nd1 1 0 ⟨#[]⟩], [nd1 1 0 ⟨#[]⟩]] 2 = 71 := by
    simp [jerr, ke, okey, vld_a, (leaf_chk 1 0 ⟨#[]⟩ null_hf).1]
  exact ⟨.inl ⟨by rw [show ([[nd1 1 0 ⟨#[]⟩], [nd1 1 0 ⟨#[]⟩]] : List (List Nd)).length = 2 from rfl, h]; decide, h.symm, rfl⟩⟩
theorem ex_list : JoinIs 6 [⟨#[]⟩, ⟨#[]⟩] [[nd1 4 1 ⟨#[]⟩], [nd1 1 0 ⟨#[]⟩]] exP 0 := by
  have h : jerr 6 [⟨#[]⟩, ⟨#[]⟩] [[nd1 4 1 ⟨#[]⟩], [nd1 1 0 ⟨#[]⟩]] 2 = 0 := by
    simp [jerr, ke, lkey, (leaf_chk 1 0 ⟨#[]⟩ null_hf).1, (leaf_chk 4 1 ⟨#[]⟩ (num_hf 1)).1]
    exact fun h => absurd rfl h
  have h2 : jdp [[nd1 4 1 ⟨#[]⟩], [nd1 1 0 ⟨#[]⟩]] 2 = 2 := by
    simp [jdp, (leaf_chk 1 0 ⟨#[]⟩ null_hf).2, (leaf_chk 4 1 ⟨#[]⟩ (num_hf 1)).2]
  exact ⟨.inr ⟨h, .inr (.inr ⟨by decide, by show jdp _ 2 ≤ 64; rw [h2]; decide, rfl, rfl⟩)⟩⟩
theorem ex_obj : JoinIs 7 [⟨#[98]⟩, ⟨#[97]⟩] [exP, [nd1 3 0 ⟨#[]⟩]] exL 0 := by
  have ht := leaf_chk 3 0 ⟨#[]⟩ (bool_hf true)
  have h : jerr 7 [⟨#[98]⟩, ⟨#[97]⟩] [exP, [nd1 3 0 ⟨#[]⟩]] 2 = 0 := by
    simp [jerr, ke, okey, vld_a, vld_b, part_chk.1, ht.1]
  have h2 : jdp [exP, [nd1 3 0 ⟨#[]⟩]] 2 = 3 := by
    simp [jdp, part_chk.2, ht.2]
  exact ⟨.inr ⟨h, .inr (.inr ⟨by decide, by show jdp _ 2 ≤ 64; rw [h2]; decide, rfl, rfl⟩)⟩⟩
theorem ex_sort : (∃ F, May exL F ∧ exS = Tp.flat (Tp.sT F)) ∨ (chk exL ≠ 0 ∧ exS = []) := .inl ⟨exF, ex_may, by kernel_rfl⟩
theorem str_no : strL ⟨#[255]⟩ = [] := by unfold strL; rw [if_neg (by rw [show Utf.vld (bl ⟨#[255]⟩) = false by kernel_rfl]; simp)]
theorem str_yes : strL ⟨#[120]⟩ = [nd1 5 0 ⟨#[120]⟩] := by unfold strL; rw [if_pos (by kernel_rfl)]
end Go.Proofs.YteklcfimafplbaaDoor
