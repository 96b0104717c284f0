/- What is known of a drawn value's text. -/
import Derived.Test.YtgmdjofnkbaflaaDoorSval8
namespace Go.Proofs.YtgmdjofnkbaflaaDoor
open Go.RowKit
set_option linter.unusedVariables false
set_option maxRecDepth 100000

namespace S8
theorem DOk.nfit {F : Fo} (h : DOk F) : Jr.NFit F := fun x hx => (h.small x hx).2.2
theorem DOk.tok {F : Fo} (h : DOk F) : TOk (Tp.flat F) := fun x hx => by have := h.small x hx; exact ⟨by omega, by omega⟩
theorem DOk.short {F : Fo} (h : DOk F) : (Jr.shv F).length ≤ 43344 := by
  have h1 := h.sz
  have h2 := h.small
  obtain ⟨k, n, s, c, e⟩ := h.root
  rw [e] at h1 h2 ⊢
  have := Jr.shv_le h2
  omega
theorem DOk.sh {F : Fo} (h : DOk F) : ShIs (Tp.flat F) (Jr.shv F) 0 := sh_ok h.may (by have := h.short; omega)
theorem DOk.ne {F : Fo} (h : DOk F) : Jr.shv F ≠ [] := by
  obtain ⟨k, n, s, c, e⟩ := h.root
  rw [e]
  exact one_pos
theorem DOk.byte {F : Fo} (h : DOk F) : ∀ x ∈ Jr.shv F, x < 256 := sh_byte h.sh h.ok
theorem DOk.reads {F : Fo} (h : DOk F) : Jr.Reads (bl (str (Jr.shv F))) (.ok F) := by
  rw [bl_str _ h.byte]
  have h1 := h.short
  have h2 := h.sz
  have h3 := h.dep
  exact Jr.reads_shv h.root h.good h.nfit (by omega) (by omega) (by omega)
end S8
end Go.Proofs.YtgmdjofnkbaflaaDoor
