/- What is sorted is a drawn value still; texts of sorted values are equal just if the values are. -/
import Derived.Test.YtgmdjofnkbaflaaGreatDoorIdem
import Derived.Test.YtgmdjofnkbaflaaGreatDoorDfact
namespace Go.Proofs.YtgmdjofnkbaflaaGreatDoor.Tp
open Go.RowKit
set_option linter.unusedVariables false

/-- What every node is. -/
def fq (P : Nd → Prop) : Fo → Prop
  | .nil => True
  | .node k y n s c r => P ⟨k, y, n, s, 1 + (sz c : Nat)⟩ ∧ fq P c ∧ fq P r
theorem fq_iff {P : Nd → Prop} : ∀ F, fq P F ↔ ∀ x ∈ flat F, P x
  | .nil => by simp [fq]
  | .node k y n s c r => by
    rw [fq, flat_node, fq_iff c, fq_iff r]
    constructor
    · rintro ⟨h1, h2, h3⟩ x hx
      rcases List.mem_cons.1 hx with rfl | hx
      · exact h1
      · rcases List.mem_append.1 hx with hx | hx
        · exact h2 x hx
        · exact h3 x hx
    · exact fun h => ⟨h _ (List.mem_cons_self ..), fun x hx => h x (List.mem_cons_of_mem _ (List.mem_append_left _ hx)), fun x hx => h x (List.mem_cons_of_mem _ (List.mem_append_right _ hx))⟩
theorem fq_app {P : Nd → Prop} : ∀ F G, fq P (app F G) ↔ fq P F ∧ fq P G
  | .nil, _ => by simp [app, fq]
  | .node k y n s c r, G => by simp only [app, fq]; rw [fq_app r G]; simp [and_assoc]
theorem fq_cat {P : Nd → Prop} : ∀ ts, fq P (cat ts) ↔ ∀ T ∈ ts, fq P T
  | [] => by simp [cat, fq]
  | T :: ts => by rw [cat, fq_app, fq_cat ts]; simp
theorem fq_srt {P : Nd → Prop} {F : Fo} (h : fq P F) : fq P (cat (srtL (trs F))) := by
  rw [fq_cat]
  have h2 : fq P (cat (trs F)) := by rw [cat_trs]; exact h
  rw [fq_cat] at h2
  exact fun T hT => h2 T ((srtL_perm _).mem_iff.1 hT)
theorem fq_sT {P : Nd → Prop} : ∀ F, fq P F → fq P (sT F)
  | .nil, _ => trivial
  | .node k y n s c r, ⟨g1, g2, g3⟩ => by
    rw [sT]
    have e : sz (if k = 7 then cat (srtL (trs (sT c))) else sT c) = sz c := by
      split
      · rw [cat_srt_sz, sT_sz]
      · rw [sT_sz]
    refine ⟨by rw [e]; exact g1, ?_, fq_sT r g3⟩
    split
    · exact fq_srt (fq_sT c g2)
    · exact fq_sT c g2
theorem sT_all {P : Nd → Prop} {F : Fo} (h : ∀ x ∈ flat F, P x) : ∀ x ∈ flat (sT F), P x := (fq_iff _).1 (fq_sT F ((fq_iff F).2 h))
end Go.Proofs.YtgmdjofnkbaflaaGreatDoor.Tp
namespace Go.Proofs.YtgmdjofnkbaflaaGreatDoor.S8
open Go.RowKit
set_option linter.unusedVariables false
theorem DOk.sorted {F : Fo} (h : DOk F) : DOk (Tp.sT F) := by
  obtain ⟨k, n, s, c, rfl⟩ := h.root
  exact ⟨⟨k, n, s, _, by rw [Tp.sT]; rfl⟩, Tp.sT_good _ h.good, by rw [Tp.sT_sz]; exact h.sz, by rw [Tp.sT_dep]; exact h.dep, Tp.sT_all h.ok, Tp.sT_all (P := fun x => x.key.size ≤ 10 ∧ x.s.size ≤ 10 ∧ (-9223372036854775808 ≤ x.n ∧ x.n ≤ 9223372036854775807)) h.small⟩
theorem DOk.inj {F G : Fo} (h : DOk F) (k : DOk G) (e : Jr.shv F = Jr.shv G) : F = G := by
  have h1 := h.sz
  have h2 := h.dep
  have h3 := h.short
  have k1 := k.sz
  have k2 := k.dep
  exact Jr.shv_inj h.root h.good h.nfit (by omega) (by omega) (by omega) k.root k.good k.nfit (by omega) (by omega) e
theorem DOk.idem {F : Fo} (h : DOk F) : Tp.sT (Tp.sT F) = Tp.sT F := Tp.sT_idem F h.good
theorem DOk.some {F : Fo} (h : DOk F) : Tp.flat F ≠ [] := by
  obtain ⟨k, n, s, c, rfl⟩ := h.root
  rw [Tp.flat_node]
  simp
/-- Are two values, sorted, the same? -/
noncomputable def sm (F G : Fo) : Bool := @decide (Tp.sT F = Tp.sT G) (Classical.propDecidable _)
theorem sm_iff (F G : Fo) : sm F G = true ↔ Tp.sT F = Tp.sT G := by unfold sm; simp
theorem sm_text {F G : Fo} (h : DOk F) (k : DOk G) : ((str (Jr.shv (Tp.sT F))).toList == (str (Jr.shv (Tp.sT G))).toList) = sm F G := by
  rw [bl_eq, bl_str _ h.sorted.byte, bl_str _ k.sorted.byte]
  by_cases e : Tp.sT F = Tp.sT G
  · rw [(sm_iff F G).2 e]; simp [e]
  · have h1 : sm F G = false := by
      cases hq : sm F G with
      | false => rfl
      | true => exact absurd ((sm_iff F G).1 hq) e
    rw [h1]
    simp only [decide_eq_false_iff_not]
    exact fun e2 => e (h.sorted.inj k.sorted e2)
theorem sm_same {F G : Fo} (h : DOk F) (k : DOk G) : sm F G = true ↔ (Tp.flat (Tp.sT F) ≠ [] ∧ Tp.flat (Tp.sT F) = Tp.flat (Tp.sT G)) :=
  ⟨fun e => ⟨h.sorted.some, by rw [(sm_iff F G).1 e]⟩, fun e => (sm_iff F G).2 (Tp.flat_inj e.2)⟩
end Go.Proofs.YtgmdjofnkbaflaaGreatDoor.S8
