/- What a short text is read as. -/
import Derived.Test.YtgmdjofnkbaflaaDoorMayp
import Derived.Test.YtgmdjofnkbaflaaDoorTxtLe
import Derived.Test.YtgmdjofnkbaflaaDoorZs
import Derived.Test.YtgmdjofnkbaflaaDoorLay
namespace Go.Proofs.YtgmdjofnkbaflaaDoor
open Go.RowKit
set_option linter.unusedVariables false
set_option maxRecDepth 100000

theorem reads_ne8 {l : List Nat} {a : Nat} {n : Int} (hl : l.length ≤ 1000000) (hb : ∀ x ∈ l, x < 256) (h : Jr.Reads l (.err a n)) : n ≠ 0 := by
  unfold Jr.Reads at h
  rw [if_neg (by omega)] at h
  obtain ⟨u, h1, h2⟩ := h
  obtain ⟨k1, k2⟩ := steps_inv hl (init_inv l hb) (Jr.Ok.plain (by simp [Jr.init]) (by simp [Jr.init])) h1
  have := step_ok (skip_inv k1).byte
  unfold Jr.step at h2
  rwa [h2] at this
theorem reads_len {l : List Nat} {F : Fo} (hl : l.length ≤ 1000000) (hb : ∀ x ∈ l, x < 256) (h : Jr.Reads l (.ok F)) : (Jr.shp 6 true F).length ≤ l.length := by
  have h' := h
  unfold Jr.Reads at h
  rw [if_neg (by omega)] at h
  refine Jr.reads_short hb (fun u hu => ?_) h
  obtain ⟨k1, _⟩ := steps_inv hl (init_inv l hb) (Jr.Ok.plain (by simp [Jr.init]) (by simp [Jr.init])) hu
  have := k1.at_
  have := Jr.nb_le u.s
  omega
/-- What a text of 1000 bytes at most is read as. -/
structure ROk (F : Fo) (m : Nat) : Prop where
  one : Jr.One F
  good : Tp.good F
  nfit : Jr.NFit F
  sz : Tp.sz F ≤ m
  dep : Tp.dep F ≤ 64
  len : (Jr.shv F).length ≤ m
  ok : ∀ x ∈ Tp.flat F, Nok x
  tok : TOk (Tp.flat F)
  may : May (Tp.flat F) F
theorem rok_of {l : List Nat} {F : Fo} (hl : l.length ≤ 1000) (hb : ∀ x ∈ l, x < 256) (h : Jr.Reads l (.ok F)) : ROk F l.length := by
  obtain ⟨k1, k2, k3⟩ := reads_res (by omega) hb h
  have hsh := reads_len (by omega) hb h
  obtain ⟨m1, m2⟩ := whole_may k1 k2 k3
  obtain ⟨⟨k, y, n, s, c, e, hy⟩, g, d⟩ := k1
  obtain rfl := Jr.sz0 hy
  have hfl : Jr.shp 6 true F = Jr.shv F := by rw [e]; exact Jr.shp_shv
  rw [hfl] at hsh
  have hg := Jr.shp_ge F 6 true g
  rw [hfl] at hg
  refine ⟨⟨k, n, s, c, e⟩, g, fun x hx => (k2 x hx).2.1, by omega, d, hsh, m2, fun x hx => ?_, ⟨k3, ⟨⟨k, ⟨#[]⟩, n, s, c, e, rfl⟩, g, rfl⟩, d⟩⟩
  subst e
  have := Jr.txt_val g x hx
  exact ⟨by omega, by omega⟩
theorem ROk.sh {F : Fo} {m : Nat} (h : ROk F m) (hm : m ≤ 1000) : ShIs (Tp.flat F) (Jr.shv F) 0 := sh_ok h.may (by have := h.len; omega)
theorem ROk.byte {F : Fo} {m : Nat} (h : ROk F m) (hm : m ≤ 1000) : ∀ x ∈ Jr.shv F, x < 256 := sh_byte (h.sh hm) h.ok
theorem ROk.reads {F : Fo} {m : Nat} (h : ROk F m) (hm : m ≤ 1000) : Jr.Reads (bl (str (Jr.shv F))) (.ok F) := by
  rw [bl_str _ (h.byte hm)]
  have h1 := h.sz
  have h2 := h.len
  exact Jr.reads_shv h.one h.good h.nfit (by omega) h.dep (by omega)
end Go.Proofs.YtgmdjofnkbaflaaDoor
