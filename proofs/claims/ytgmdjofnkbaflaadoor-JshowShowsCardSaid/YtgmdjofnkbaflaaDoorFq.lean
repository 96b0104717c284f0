/- What is so of every node is so of every node when sorted. -/
import Derived.Test.YtgmdjofnkbaflaaDoorShall
namespace Go.Proofs.YtgmdjofnkbaflaaDoor.Tp
open Go.RowKit
set_option linter.unusedVariables false

/-- What every node is. -/
def fq (P : Nd → Prop) : Fo → Prop
  | .nil => True
  | .node k y n s c r => P ⟨k, y, n, s, 1 + (sz c : Nat)⟩ ∧ fq P c ∧ fq P r
theorem fq_iff {P : Nd → Prop} : ∀ F, fq P F ↔ ∀ x ∈ flat F, P x
  | .nil => by simp [fq]
  | .node k y n s c r => by
    rw [fq, flat_node, fq_iff c, fq_iff r]
    constructor
    · rintro ⟨h1, h2, h3⟩ x hx
      rcases List.mem_cons.1 hx with rfl | hx
      · exact h1
      · rcases List.mem_append.1 hx with hx | hx
        · exact h2 x hx
        · exact h3 x hx
    · exact fun h => ⟨h _ (List.mem_cons_self ..), fun x hx => h x (List.mem_cons_of_mem _ (List.mem_append_left _ hx)), fun x hx => h x (List.mem_cons_of_mem _ (List.mem_append_right _ hx))⟩
theorem fq_app {P : Nd → Prop} : ∀ F G, fq P (app F G) ↔ fq P F ∧ fq P G
  | .nil, _ => by simp [app, fq]
  | .node k y n s c r, G => by simp only [app, fq]; rw [fq_app r G]; simp [and_assoc]
theorem fq_cat {P : Nd → Prop} : ∀ ts, fq P (cat ts) ↔ ∀ T ∈ ts, fq P T
  | [] => by simp [cat, fq]
  | T :: ts => by rw [cat, fq_app, fq_cat ts]; simp
theorem fq_srt {P : Nd → Prop} {F : Fo} (h : fq P F) : fq P (cat (srtL (trs F))) := by
  rw [fq_cat]
  have h2 : fq P (cat (trs F)) := by rw [cat_trs]; exact h
  rw [fq_cat] at h2
  exact fun T hT => h2 T ((srtL_perm _).mem_iff.1 hT)
theorem fq_sT {P : Nd → Prop} : ∀ F, fq P F → fq P (sT F)
  | .nil, _ => trivial
  | .node k y n s c r, ⟨g1, g2, g3⟩ => by
    rw [sT]
    have e : sz (if k = 7 then cat (srtL (trs (sT c))) else sT c) = sz c := by
      split
      · rw [cat_srt_sz, sT_sz]
      · rw [sT_sz]
    refine ⟨by rw [e]; exact g1, ?_, fq_sT r g3⟩
    split
    · exact fq_srt (fq_sT c g2)
    · exact fq_sT c g2
theorem sT_all {P : Nd → Prop} {F : Fo} (h : ∀ x ∈ flat F, P x) : ∀ x ∈ flat (sT F), P x := (fq_iff _).1 (fq_sT F ((fq_iff F).2 h))
end Go.Proofs.YtgmdjofnkbaflaaDoor.Tp
