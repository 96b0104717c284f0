/- What is sorted is sorted as it is, plainly. -/
import Derived.Test.YtgmdjofnkbaflaaGreatDoorZs
namespace Go.Proofs.YtgmdjofnkbaflaaGreatDoor.Tp
open Go.RowKit
set_option linter.unusedVariables false

theorem trs_sT : ∀ F, trs (sT F) = (trs F).map sT
  | .nil => rfl
  | .node k y n s c r => by
    rw [sT]
    simp only [trs, List.map_cons]
    rw [trs_sT r, sT]
    rfl
theorem sT_cat : ∀ ts : List Fo, sT (cat ts) = cat (ts.map sT)
  | [] => rfl
  | T :: ts => by
    show sT (app T (cat ts)) = app (sT T) (cat (ts.map sT))
    rw [sT_app, sT_cat ts]
theorem map_fix {l : List Fo} (h : l.map sT = l) : ∀ T ∈ l, sT T = T := by
  intro T hT
  obtain ⟨i, hi, e⟩ := List.getElem_of_mem hT
  have h2 := congrArg (fun l => l[i]?) h
  simp only [List.getElem?_map, List.getElem?_eq_getElem hi, Option.map_some] at h2
  rw [e] at h2
  injection h2
theorem sT_idem : ∀ F, good F → sT (sT F) = sT F
  | .nil, _ => rfl
  | .node k y n s c r, hg => by
    obtain ⟨_, _, hko, hgc, hgr⟩ := hg
    have ihc := sT_idem c hgc
    have ihr := sT_idem r hgr
    rw [sT, sT, ihr]
    congr 1
    by_cases hk : k = 7
    · rw [if_pos hk, if_pos hk]
      have hnd : ((trs (sT c)).map kyo).Nodup := by
        rw [← keys_trs, sT_keys]
        unfold ko at hko
        rw [if_pos hk] at hko
        exact hko.2
      have hfix : ∀ T ∈ srtL (trs (sT c)), sT T = T := by
        intro T hT
        refine map_fix ?_ T ((srtL_perm _).mem_iff.1 hT)
        rw [← trs_sT, ihc]
      have hmap : (srtL (trs (sT c))).map sT = srtL (trs (sT c)) := by
        rw [List.map_congr_left hfix]
        simp
      rw [sT_cat, hmap, trs_cat _ (srt_single (sT c))]
      congr 1
      have hn2 : ((srtL (trs (sT c))).map kyo).Nodup := (((srtL_perm (trs (sT c))).map kyo).nodup_iff).2 hnd
      exact (srtL_eq hn2 (List.Perm.refl _) (srtL_rise _ hnd)).symm
    · rw [if_neg hk, if_neg hk]
      exact ihc
/-- The members of what is sorted stand by rising keys. -/
theorem sT_rise (c : Fo) (h : ko 7 (keys c)) : Rise (trs (cat (srtL (trs (sT c))))) := by
  rw [trs_cat _ (srt_single (sT c))]
  refine srtL_rise _ ?_
  rw [← keys_trs, sT_keys]
  unfold ko at h
  rw [if_pos rfl] at h
  exact h.2
end Go.Proofs.YtgmdjofnkbaflaaGreatDoor.Tp
