/- works: the chapter's examples. -/
import Derived.Test.YteklcfimafplbaaDoorListP
import Derived.Test.YteklcfimafplbaaDoorExP
import Derived.Test.YteklcfimafplbaaDoorSame
import Derived.Test.YteklcfimafplbaaDoorGet2
import Derived.BigRegion
import Derived.Deep.RegionHeld3
namespace Go.Proofs.YteklcfimafplbaaDoor
open Go.RowKit
set_option linter.unusedVariables false
set_option maxRecDepth 100000

theorem form_n {w : World} {B : Nat} {v : Value} {l : List Nd} (h : RdN w B v l) (n : Nat) (hn : l.length = n) : ∃ a c, v = .slice a n c := by
  subst hn
  obtain ⟨a, c, e, _⟩ := Gn.Rd.form h
  exact ⟨a, c, e⟩
theorem exampleC (w : World) : Calls Tryd.prog 21 #[] w fun e w' => MkPost w exL e w' := by
  go_enter Tryd.func21, Tryd.ntmps21
  go_wp2_with fail
  go_ret
  exact ⟨_, rfl, Gn.Own.lit ndL w _ exL _ 5 5 rfl rfl rfl (by decide) (Nat.le_refl _), up_new w _⟩
theorem nok1 (k n : Int) (s : ByteArray) (hk : 1 ≤ k ∧ k ≤ 7) (hn : -9223372036854775808 ≤ n ∧ n ≤ 9223372036854775807) (hs : s.size ≤ maxLen) : ∀ x ∈ [nd1 k n s], Nok x := by
  intro x hx
  obtain rfl := List.mem_singleton.1 hx
  exact ⟨by simp [nd1]; omega, Nat.zero_le _, hn, hs, by simp [nd1]⟩
theorem exp_ok : ∀ x ∈ exP, Nok x := by
  intro x hx
  simp only [exP, List.mem_cons, List.not_mem_nil, or_false] at hx
  rcases hx with rfl | rfl | rfl <;> (unfold Nok maxLen; refine ⟨⟨?_, ?_⟩, ?_, ⟨?_, ?_⟩, ?_, ⟨?_, ?_⟩⟩ <;> first | decide | simp)
/-- Texts that were laid; parts that were laid. -/
theorem rdT_lit (w : World) (ys : List ByteArray) (cs : Array Value) (n : Nat) (hcs : cs = (Gn.cells txc ys).toArray) (hn : n = ys.length) (hm : ys.length ≤ maxLen) : RdT (w.alloc (.cells cs 9)) (w.alloc (.cells cs 9)).heap.size (.slice (some ⟨w.heap.size, 0, none⟩) n n) ys :=
  Gn.Own.rd txL (Gn.Own.lit (T := 9) txL w w.heap.size ys cs n n hcs hn rfl hm (Nat.le_refl _))
theorem rdS_lit (w : World) (ss : List Sl) (ls : List (List Nd)) (cs : Array Value) (n : Nat) (hcs : cs = (Gn.cells slv ss).toArray) (hn : n = ss.length) (hm : ss.length ≤ maxLen) (hl : ss.length = ls.length) (he : ∀ (i : Nat) (s : Sl) (l : List Nd), ss[i]? = some s → ls[i]? = some l → RdN w w.heap.size s.val l ∧ (∀ x ∈ l, Nok x)) :
    RdS (w.alloc (.cells cs 25)) (w.alloc (.cells cs 25)).heap.size (.slice (some ⟨w.heap.size, 0, none⟩) n n) ss ls :=
  ⟨Gn.Own.rd slL (Gn.Own.lit (T := 25) slL w w.heap.size ss cs n n hcs hn rfl hm (Nat.le_refl _)), hl, fun i s l h1 h2 => ⟨Gn.Rd.later (he i s l h1 h2).1 (up_new w _), (he i s l h1 h2).2⟩⟩
theorem each2 {w : World} {s1 s2 : Sl} {l1 l2 : List Nd} (h1 : RdN w w.heap.size s1.val l1) (k1 : ∀ x ∈ l1, Nok x) (h2 : RdN w w.heap.size s2.val l2) (k2 : ∀ x ∈ l2, Nok x) :
    ∀ (i : Nat) (s : Sl) (l : List Nd), [s1, s2][i]? = some s → [l1, l2][i]? = some l → RdN w w.heap.size s.val l ∧ (∀ x ∈ l, Nok x)
  | 0, s, l, a, b => by simp at a b; subst a b; exact ⟨h1, k1⟩
  | 1, s, l, a, b => by simp at a b; subst a b; exact ⟨h2, k2⟩
  | i + 2, s, l, a, b => by simp at a

theorem ex_cells {W w' : World} {g1 c : Nat} (h : RdN W W.heap.size (.slice (some ⟨g1, 0, none⟩) 5 c) exL) (hb : Below W.heap.size W w') : w'.cell? ⟨g1, 0, none⟩ = some (.int .i64 7) ∧ w'.cell? ⟨g1, 1, none⟩ = some (.string ⟨#[]⟩) ∧ w'.cell? ⟨g1, 2, none⟩ = some (.int .i64 0) ∧ w'.cell? ⟨g1, 3, none⟩ = some (.string ⟨#[]⟩) ∧ w'.cell? ⟨g1, 4, none⟩ = some (.int .i64 5) ∧ w'.cell? ⟨g1, 20, none⟩ = some (.int .i64 3) ∧ w'.cell? ⟨g1, 21, none⟩ = some (.string ⟨#[97]⟩) ∧ w'.cell? ⟨g1, 22, none⟩ = some (.int .i64 0) ∧ w'.cell? ⟨g1, 23, none⟩ = some (.string ⟨#[]⟩) ∧ w'.cell? ⟨g1, 24, none⟩ = some (.int .i64 1) ∧ w'.cell? ⟨g1, 5, none⟩ = some (.int .i64 6) ∧ w'.cell? ⟨g1, 6, none⟩ = some (.string ⟨#[98]⟩) ∧ w'.cell? ⟨g1, 7, none⟩ = some (.int .i64 0) ∧ w'.cell? ⟨g1, 8, none⟩ = some (.string ⟨#[]⟩) ∧ w'.cell? ⟨g1, 9, none⟩ = some (.int .i64 3) ∧ w'.cell? ⟨g1, 10, none⟩ = some (.int .i64 4) ∧ w'.cell? ⟨g1, 11, none⟩ = some (.string ⟨#[]⟩) ∧ w'.cell? ⟨g1, 12, none⟩ = some (.int .i64 1) ∧ w'.cell? ⟨g1, 13, none⟩ = some (.string ⟨#[]⟩) ∧ w'.cell? ⟨g1, 14, none⟩ = some (.int .i64 1) ∧ w'.cell? ⟨g1, 15, none⟩ = some (.int .i64 1) ∧ w'.cell? ⟨g1, 16, none⟩ = some (.string ⟨#[]⟩) ∧ w'.cell? ⟨g1, 17, none⟩ = some (.int .i64 0) ∧ w'.cell? ⟨g1, 18, none⟩ = some (.string ⟨#[]⟩) ∧ w'.cell? ⟨g1, 19, none⟩ = some (.int .i64 1) := by
  have go : ∀ (i : Nat) (x : Nd), exL[i]? = some x → (w'.cell? ⟨g1, i * 5, none⟩ = some (.int .i64 x.kind) ∧ w'.cell? ⟨g1, i * 5 + 1, none⟩ = some (.string x.key) ∧ w'.cell? ⟨g1, i * 5 + 2, none⟩ = some (.int .i64 x.n) ∧ w'.cell? ⟨g1, i * 5 + 3, none⟩ = some (.string x.s) ∧ w'.cell? ⟨g1, i * 5 + 4, none⟩ = some (.int .i64 x.size)) := by
    intro i x hx
    obtain ⟨b', o', e', y0, y1, y2, y3, y4⟩ := rdN_cells h hb hx
    obtain ⟨rfl, rfl⟩ : g1 = b' ∧ 0 = o' := by injection e' with e'; injection e' with e1 e2; exact ⟨e1, e2⟩
    simp only [Nat.zero_add] at y0 y1 y2 y3 y4
    exact ⟨y0, y1, y2, y3, y4⟩
  obtain ⟨a0, a1, a2, a3, a4⟩ := go 0 _ rfl
  obtain ⟨b0, b1, b2, b3, b4⟩ := go 4 _ rfl
  obtain ⟨c0, c1, c2, c3, c4⟩ := go 1 _ rfl
  obtain ⟨d0, d1, d2, d3, d4⟩ := go 2 _ rfl
  obtain ⟨e0, e1, e2, e3, e4⟩ := go 3 _ rfl
  exact ⟨a0, a1, a2, a3, a4, b0, b1, b2, b3, b4, c0, c1, c2, c3, c4, d0, d1, d2, d3, d4, e0, e1, e2, e3, e4⟩
theorem eqS (w : World) (za : Option Addr) (zc : Nat) (h : RdN w w.heap.size (.slice za 5 zc) exS) :
    Calls Tryd.prog 14 #[.slice za 5 zc, .slice (some ⟨w.heap.size, 0, none⟩) 5 5] (w.alloc (.cells #[.int .i64 7, .string ⟨#[]⟩, .int .i64 0, .string ⟨#[]⟩, .int .i64 5, .int .i64 3, .string ⟨#[97]⟩, .int .i64 0, .string ⟨#[]⟩, .int .i64 1, .int .i64 6, .string ⟨#[98]⟩, .int .i64 0, .string ⟨#[]⟩, .int .i64 3, .int .i64 4, .string ⟨#[]⟩, .int .i64 1, .string ⟨#[]⟩, .int .i64 1, .int .i64 1, .string ⟨#[]⟩, .int .i64 0, .string ⟨#[]⟩, .int .i64 1] 36)) fun e w' => e = .returned (.bool true) ∧ Below w.heap.size w w' := by
  have hj : RdN (w.alloc (.cells #[.int .i64 7, .string ⟨#[]⟩, .int .i64 0, .string ⟨#[]⟩, .int .i64 5, .int .i64 3, .string ⟨#[97]⟩, .int .i64 0, .string ⟨#[]⟩, .int .i64 1, .int .i64 6, .string ⟨#[98]⟩, .int .i64 0, .string ⟨#[]⟩, .int .i64 3, .int .i64 4, .string ⟨#[]⟩, .int .i64 1, .string ⟨#[]⟩, .int .i64 1, .int .i64 1, .string ⟨#[]⟩, .int .i64 0, .string ⟨#[]⟩, .int .i64 1] 36)) (w.alloc (.cells #[.int .i64 7, .string ⟨#[]⟩, .int .i64 0, .string ⟨#[]⟩, .int .i64 5, .int .i64 3, .string ⟨#[97]⟩, .int .i64 0, .string ⟨#[]⟩, .int .i64 1, .int .i64 6, .string ⟨#[98]⟩, .int .i64 0, .string ⟨#[]⟩, .int .i64 3, .int .i64 4, .string ⟨#[]⟩, .int .i64 1, .string ⟨#[]⟩, .int .i64 1, .int .i64 1, .string ⟨#[]⟩, .int .i64 0, .string ⟨#[]⟩, .int .i64 1] 36)).heap.size (.slice (some ⟨w.heap.size, 0, none⟩) 5 5) exS :=
    Gn.Own.rd ndL (Gn.Own.lit (T := 36) ndL w w.heap.size exS #[.int .i64 7, .string ⟨#[]⟩, .int .i64 0, .string ⟨#[]⟩, .int .i64 5, .int .i64 3, .string ⟨#[97]⟩, .int .i64 0, .string ⟨#[]⟩, .int .i64 1, .int .i64 6, .string ⟨#[98]⟩, .int .i64 0, .string ⟨#[]⟩, .int .i64 3, .int .i64 4, .string ⟨#[]⟩, .int .i64 1, .string ⟨#[]⟩, .int .i64 1, .int .i64 1, .string ⟨#[]⟩, .int .i64 0, .string ⟨#[]⟩, .int .i64 1] 5 5 rfl rfl rfl (by decide) (Nat.le_refl _))
  exact (lawEq _ _ exS exS _ (Gn.Rd.later h (up_new w _)) hj (by decide) true ⟨fun _ => rfl, fun _ => rfl⟩).mono fun e w' ⟨h1, h2⟩ => ⟨h1, up (up_new w _) h2⟩
theorem eqT (w w' : World) (hb : Below (w.alloc (.cells #[.int .i64 7, .string ⟨#[]⟩, .int .i64 0, .string ⟨#[]⟩, .int .i64 5, .int .i64 3, .string ⟨#[97]⟩, .int .i64 0, .string ⟨#[]⟩, .int .i64 1, .int .i64 6, .string ⟨#[98]⟩, .int .i64 0, .string ⟨#[]⟩, .int .i64 3, .int .i64 4, .string ⟨#[]⟩, .int .i64 1, .string ⟨#[]⟩, .int .i64 1, .int .i64 1, .string ⟨#[]⟩, .int .i64 0, .string ⟨#[]⟩, .int .i64 1] 36)).heap.size (w.alloc (.cells #[.int .i64 7, .string ⟨#[]⟩, .int .i64 0, .string ⟨#[]⟩, .int .i64 5, .int .i64 3, .string ⟨#[97]⟩, .int .i64 0, .string ⟨#[]⟩, .int .i64 1, .int .i64 6, .string ⟨#[98]⟩, .int .i64 0, .string ⟨#[]⟩, .int .i64 3, .int .i64 4, .string ⟨#[]⟩, .int .i64 1, .string ⟨#[]⟩, .int .i64 1, .int .i64 1, .string ⟨#[]⟩, .int .i64 0, .string ⟨#[]⟩, .int .i64 1] 36)) w') (za : Option Addr) (zc : Nat) (h : RdN w' w'.heap.size (.slice za 5 zc) exS) :
    Calls Tryd.prog 14 #[.slice za 5 zc, .slice (some ⟨w.heap.size, 0, none⟩) 5 5] w' fun e w'' => e = .returned (.bool true) ∧ Below w'.heap.size w' w'' := by
  have hj : RdN (w.alloc (.cells #[.int .i64 7, .string ⟨#[]⟩, .int .i64 0, .string ⟨#[]⟩, .int .i64 5, .int .i64 3, .string ⟨#[97]⟩, .int .i64 0, .string ⟨#[]⟩, .int .i64 1, .int .i64 6, .string ⟨#[98]⟩, .int .i64 0, .string ⟨#[]⟩, .int .i64 3, .int .i64 4, .string ⟨#[]⟩, .int .i64 1, .string ⟨#[]⟩, .int .i64 1, .int .i64 1, .string ⟨#[]⟩, .int .i64 0, .string ⟨#[]⟩, .int .i64 1] 36)) (w.alloc (.cells #[.int .i64 7, .string ⟨#[]⟩, .int .i64 0, .string ⟨#[]⟩, .int .i64 5, .int .i64 3, .string ⟨#[97]⟩, .int .i64 0, .string ⟨#[]⟩, .int .i64 1, .int .i64 6, .string ⟨#[98]⟩, .int .i64 0, .string ⟨#[]⟩, .int .i64 3, .int .i64 4, .string ⟨#[]⟩, .int .i64 1, .string ⟨#[]⟩, .int .i64 1, .int .i64 1, .string ⟨#[]⟩, .int .i64 0, .string ⟨#[]⟩, .int .i64 1] 36)).heap.size (.slice (some ⟨w.heap.size, 0, none⟩) 5 5) exS :=
    Gn.Own.rd ndL (Gn.Own.lit (T := 36) ndL w w.heap.size exS #[.int .i64 7, .string ⟨#[]⟩, .int .i64 0, .string ⟨#[]⟩, .int .i64 5, .int .i64 3, .string ⟨#[97]⟩, .int .i64 0, .string ⟨#[]⟩, .int .i64 1, .int .i64 6, .string ⟨#[98]⟩, .int .i64 0, .string ⟨#[]⟩, .int .i64 3, .int .i64 4, .string ⟨#[]⟩, .int .i64 1, .string ⟨#[]⟩, .int .i64 1, .int .i64 1, .string ⟨#[]⟩, .int .i64 0, .string ⟨#[]⟩, .int .i64 1] 5 5 rfl rfl rfl (by decide) (Nat.le_refl _))
  exact lawEq _ _ exS exS _ h (Gn.Rd.later hj hb) (by decide) true ⟨fun _ => rfl, fun _ => rfl⟩
theorem eqP (w : World) (v1 v2 : Value) (l : List Nd) (h1 : RdN w w.heap.size v1 l) (h2 : RdN w w.heap.size v2 l) (hl : l.length ≤ 1000000) : Calls Tryd.prog 14 #[v1, v2] w fun e w' => e = .returned (.bool true) ∧ Below w.heap.size w w' :=
  lawEq _ _ l l w h1 h2 hl true ⟨fun _ => rfl, fun _ => rfl⟩
theorem str1 (w : World) (T : Tab w) : Calls Tryd.prog 46 #[.string ⟨#[255]⟩] w fun e w' => MkPost w [] e w' := by
  have := mkStr ⟨#[255]⟩ w T (by decide)
  rwa [str_no] at this
theorem str2 (w : World) (T : Tab w) : Calls Tryd.prog 46 #[.string ⟨#[120]⟩] w fun e w' => MkPost w [nd1 5 0 ⟨#[120]⟩] e w' := by
  have := mkStr ⟨#[120]⟩ w T (by decide)
  rwa [str_yes] at this

set_option maxHeartbeats 100000000 in
theorem works (w : World) (T : Tab w) : Calls Tryd.prog 17 #[] w fun e w' => e = .returned (.bool true) ∧ Below w.heap.size w w' := by
  have HT := Lib.hid T
  have HEX := Lib.hid (fun w => exampleC w)
  clear T
  go_enter Tryd.func17, Tryd.ntmps17
  go_wp2_with fail
  ((with_reducible refine (HEX.out _).mono ?_); rintro e w1 ⟨t, rfl, ho1, b1⟩)
  obtain ⟨ta, tc, rfl⟩ := form_n (Gn.Own.rd ndL ho1) 5 rfl
  obtain ⟨g1, rfl⟩ := own_addr ho1 (by decide)
  have Ht := Lib.hid (Gn.Own.rd ndL ho1)
  have HB := Lib.hid b1
  replace HT := Lib.hid (HT.out.later b1)
  clear ho1 b1
  go_wp2_with fail
  ((with_reducible refine (HEX.out _).mono ?_); rintro e w2 ⟨u, rfl, ho2, b2⟩)
  obtain ⟨ua, uc, rfl⟩ := form_n (Gn.Own.rd ndL ho2) 5 rfl
  obtain ⟨g2, rfl⟩ := own_addr ho2 (by decide)
  have hfz := own_melt ho2 rfl
  have cu : w2.cell? ⟨g2, 21, none⟩ = some (.string ⟨#[97]⟩) := by
    obtain ⟨b', o', e', y0, y1, y2, y3, y4⟩ := rdN_cells (Gn.Own.rd ndL ho2) (Below.refl _ _) (i := 4) rfl
    obtain ⟨rfl, rfl⟩ : g2 = b' ∧ 0 = o' := by injection e' with e'; injection e' with e1 e2; exact ⟨e1, e2⟩
    exact y1
  have HP := Lib.hid (own_put (i := 4) (m := 1) (u := .string ⟨#[98]⟩) (x' := ⟨3, ⟨#[98]⟩, 0, ⟨#[]⟩, 1⟩) ho2 rfl rfl rfl (by omega))
  have HBP := Lib.hid (b2.setCell (p := ⟨g2, 21, none⟩) (ho2.lt g2 rfl).1 (.string ⟨#[98]⟩))
  clear ho2 b2
  go_wp2_with fail
  clear hfz cu
  obtain ⟨w3, hw3⟩ : ∃ w3, w3 = w2.setCell ⟨g2, 21, none⟩ (.string ⟨#[98]⟩) := ⟨_, rfl⟩
  rw [← hw3] at HBP ⊢
  have Hu : Hid (RdN w3 w3.heap.size (.slice (some ⟨g2, 0, none⟩) 5 uc) exT) := Lib.hid (by rw [hw3]; exact Gn.Own.rd ndL HP.out)
  clear HP hw3
  replace HB := Lib.hid (up HB.out HBP.out)
  replace HT := Lib.hid (HT.out.later HBP.out)
  replace Ht := Lib.hid (Gn.Rd.later Ht.out HBP.out)
  clear HBP
  obtain ⟨p0, p1, p2, p3, p4⟩ : (w3.cell? ⟨g1, 10, none⟩ = some (.int .i64 4) ∧ w3.cell? ⟨g1, 11, none⟩ = some (.string ⟨#[]⟩) ∧ w3.cell? ⟨g1, 12, none⟩ = some (.int .i64 1) ∧ w3.cell? ⟨g1, 13, none⟩ = some (.string ⟨#[]⟩) ∧ w3.cell? ⟨g1, 14, none⟩ = some (.int .i64 1)) := by
    obtain ⟨b', o', e', y0, y1, y2, y3, y4⟩ := rdN_cells Ht.out (Below.refl _ _) (i := 2) rfl
    obtain ⟨rfl, rfl⟩ : g1 = b' ∧ 0 = o' := by injection e' with e'; injection e' with e1 e2; exact ⟨e1, e2⟩
    exact ⟨y0, y1, y2, y3, y4⟩
  obtain ⟨q0, q1, q2, q3, q4⟩ : (w3.cell? ⟨g1, 15, none⟩ = some (.int .i64 1) ∧ w3.cell? ⟨g1, 16, none⟩ = some (.string ⟨#[]⟩) ∧ w3.cell? ⟨g1, 17, none⟩ = some (.int .i64 0) ∧ w3.cell? ⟨g1, 18, none⟩ = some (.string ⟨#[]⟩) ∧ w3.cell? ⟨g1, 19, none⟩ = some (.int .i64 1)) := by
    obtain ⟨b', o', e', y0, y1, y2, y3, y4⟩ := rdN_cells Ht.out (Below.refl _ _) (i := 3) rfl
    obtain ⟨rfl, rfl⟩ : g1 = b' ∧ 0 = o' := by injection e' with e'; injection e' with e1 e2; exact ⟨e1, e2⟩
    exact ⟨y0, y1, y2, y3, y4⟩
  go_region
  obtain ⟨w4, hw4⟩ : ∃ w4, w4 = (w3.alloc (.cells #[.int .i64 6, .string ⟨#[]⟩, .int .i64 0, .string ⟨#[]⟩, .int .i64 3, .int .i64 4, .string ⟨#[]⟩, .int .i64 1, .string ⟨#[]⟩, .int .i64 1, .int .i64 1, .string ⟨#[]⟩, .int .i64 0, .string ⟨#[]⟩, .int .i64 1] 36)).drew := ⟨_, rfl⟩
  rw [← hw4]
  have Hp : Hid (RdN w4 w4.heap.size (.slice (some ⟨w3.heap.size, 0, none⟩) 3 3) exP) := Lib.hid (by rw [hw4]; exact Gn.Own.rd ndL (Gn.Own.lit (T := 36) ndL w3 w3.heap.size exP _ 3 3 rfl rfl rfl (by decide) (Nat.le_refl _)))
  have b4 : Below w3.heap.size w3 w4 := by rw [hw4]; exact (up_new w3 _).drew
  clear p0 p1 p2 p3 p4 q0 q1 q2 q3 q4 hw4
  replace HB := Lib.hid (up HB.out b4)
  replace HT := Lib.hid (HT.out.later b4)
  replace Ht := Lib.hid (Gn.Rd.later Ht.out b4)
  replace Hu := Lib.hid (Gn.Rd.later Hu.out b4)
  clear b4
  obtain ⟨gp, hgp⟩ : ∃ g, g = w3.heap.size := ⟨_, rfl⟩
  rw [← hgp] at Hp ⊢
  clear hgp
  have C := Lib.hid (get _ exL ⟨#[97]⟩ w4 Ht.out ex_ok HT.out _ true ex_get)
  go_wp2_with fail
  ((with_reducible refine (C.out).mono ?_); rintro e w5 ⟨v, rfl, ho, b⟩)
  clear C
  replace HB := Lib.hid (up HB.out b)
  replace HT := Lib.hid (HT.out.later b)
  replace Ht := Lib.hid (Gn.Rd.later Ht.out b)
  replace Hu := Lib.hid (Gn.Rd.later Hu.out b)
  replace Hp := Lib.hid (Gn.Rd.later Hp.out b)
  have Ha := Lib.hid (Gn.Own.rd ndL ho)
  obtain ⟨aa, ac, rfl⟩ := form_n Ha.out 1 rfl
  clear ho
  clear b
  have C := Lib.hid (get _ exL ⟨#[99]⟩ w5 Ht.out ex_ok HT.out _ false ex_none)
  go_wp2_with fail
  ((with_reducible refine (C.out).mono ?_); rintro e w6 ⟨vc, rfl, _, b⟩)
  clear C
  replace HB := Lib.hid (up HB.out b)
  replace HT := Lib.hid (HT.out.later b)
  replace Ht := Lib.hid (Gn.Rd.later Ht.out b)
  replace Hu := Lib.hid (Gn.Rd.later Hu.out b)
  replace Hp := Lib.hid (Gn.Rd.later Hp.out b)
  replace Ha := Lib.hid (Gn.Rd.later Ha.out b)
  clear b
  have C := Lib.hid (mkNull w6)
  go_wp2_with fail
  ((with_reducible refine (C.out).mono ?_); rintro e w7 ⟨v, rfl, ho, b⟩)
  clear C
  replace HB := Lib.hid (up HB.out b)
  replace HT := Lib.hid (HT.out.later b)
  replace Ht := Lib.hid (Gn.Rd.later Ht.out b)
  replace Hu := Lib.hid (Gn.Rd.later Hu.out b)
  replace Hp := Lib.hid (Gn.Rd.later Hp.out b)
  replace Ha := Lib.hid (Gn.Rd.later Ha.out b)
  have Hn := Lib.hid (Gn.Own.rd ndL ho)
  obtain ⟨na, nc, rfl⟩ := form_n Hn.out 1 rfl
  clear ho
  clear b
  have HU1 : Hid (Below w7.heap.size w7 (w7.alloc (.cells #[.string ⟨#[97]⟩, .string ⟨#[97]⟩] 9))) := Lib.hid (up_new w7 _)
  have HU2 : Hid (Below (w7.alloc (.cells #[.string ⟨#[97]⟩, .string ⟨#[97]⟩] 9)).heap.size (w7.alloc (.cells #[.string ⟨#[97]⟩, .string ⟨#[97]⟩] 9)) ((w7.alloc (.cells #[.string ⟨#[97]⟩, .string ⟨#[97]⟩] 9)).alloc (.cells #[.slice na 1 nc, .slice na 1 nc] 25))) := Lib.hid (up_new _ _)
  have HK := Lib.hid (Gn.Rd.later (rdT_lit w7 [⟨#[97]⟩, ⟨#[97]⟩] #[.string ⟨#[97]⟩, .string ⟨#[97]⟩] 2 rfl rfl (by decide)) HU2.out)
  have HS := Lib.hid (rdS_lit (w7.alloc (.cells #[.string ⟨#[97]⟩, .string ⟨#[97]⟩] 9)) [⟨na, 1, nc⟩, ⟨na, 1, nc⟩] [[nd1 1 0 ⟨#[]⟩], [nd1 1 0 ⟨#[]⟩]] #[.slice na 1 nc, .slice na 1 nc] 2 rfl rfl (by simp [maxLen]) rfl (each2 (Gn.Rd.later Hn.out HU1.out) (nok1 1 0 ⟨#[]⟩ (by decide) (by decide) (by decide)) (Gn.Rd.later Hn.out HU1.out) (nok1 1 0 ⟨#[]⟩ (by decide) (by decide) (by decide))))
  have HTX := Lib.hid ((HT.out.later HU1.out).later HU2.out)
  have C := Lib.hid (mkObj _ _ [⟨#[97]⟩, ⟨#[97]⟩] [⟨na, 1, nc⟩, ⟨na, 1, nc⟩] [[nd1 1 0 ⟨#[]⟩], [nd1 1 0 ⟨#[]⟩]] _ HK.out HS.out (by decide) (by decide) HTX.out [] 71 (.inr ⟨rfl, ex_twice⟩))
  simp only [World.size_alloc] at C
  go_wp2_with fail
  ((with_reducible refine (C.out).mono ?_); rintro e w8 ⟨v9, rfl, _, b⟩)
  clear C
  replace b := up (up HU1.out HU2.out) b
  replace HB := Lib.hid (up HB.out b)
  replace HT := Lib.hid (HT.out.later b)
  replace Ht := Lib.hid (Gn.Rd.later Ht.out b)
  replace Hu := Lib.hid (Gn.Rd.later Hu.out b)
  replace Hp := Lib.hid (Gn.Rd.later Hp.out b)
  replace Ha := Lib.hid (Gn.Rd.later Ha.out b)
  replace Hn := Lib.hid (Gn.Rd.later Hn.out b)
  clear HU1 HU2 HK HS HTX
  clear b
  have HU1 : Hid (Below w8.heap.size w8 (w8.alloc (.cells #[.string ⟨#[97]⟩] 9))) := Lib.hid (up_new w8 _)
  have HK := Lib.hid (rdT_lit w8 [⟨#[97]⟩] #[.string ⟨#[97]⟩] 1 rfl rfl (by decide))
  have HTX := Lib.hid (HT.out.later HU1.out)
  have C := Lib.hid (mkObj _ (.slice none 0 0) [⟨#[97]⟩] [] [] _ HK.out ⟨Gn.Rd.nil _ _, rfl, fun i s l h => by simp at h⟩ (by decide) (by decide) HTX.out [] 2 (.inl ⟨by decide, rfl, rfl⟩))
  go_wp2_with fail
  ((with_reducible refine (C.out).mono ?_); rintro e w9 ⟨v11, rfl, _, b⟩)
  clear C
  replace b := up HU1.out b
  replace HB := Lib.hid (up HB.out b)
  replace HT := Lib.hid (HT.out.later b)
  replace Ht := Lib.hid (Gn.Rd.later Ht.out b)
  replace Hu := Lib.hid (Gn.Rd.later Hu.out b)
  replace Hp := Lib.hid (Gn.Rd.later Hp.out b)
  replace Ha := Lib.hid (Gn.Rd.later Ha.out b)
  replace Hn := Lib.hid (Gn.Rd.later Hn.out b)
  clear HU1 HK HTX
  clear b
  have C := Lib.hid (mkNum 1 w9)
  go_wp2_with fail
  ((with_reducible refine (C.out).mono ?_); rintro e w10 ⟨v, rfl, ho, b⟩)
  clear C
  replace HB := Lib.hid (up HB.out b)
  replace HT := Lib.hid (HT.out.later b)
  replace Ht := Lib.hid (Gn.Rd.later Ht.out b)
  replace Hu := Lib.hid (Gn.Rd.later Hu.out b)
  replace Hp := Lib.hid (Gn.Rd.later Hp.out b)
  replace Ha := Lib.hid (Gn.Rd.later Ha.out b)
  replace Hn := Lib.hid (Gn.Rd.later Hn.out b)
  have Hm := Lib.hid (Gn.Own.rd ndL ho)
  obtain ⟨ma, mc, rfl⟩ := form_n Hm.out 1 rfl
  clear ho
  clear b
  have HU1 : Hid (Below w10.heap.size w10 (w10.alloc (.cells #[.slice ma 1 mc, .slice na 1 nc] 25))) := Lib.hid (up_new w10 _)
  have HS := Lib.hid (rdS_lit w10 [⟨ma, 1, mc⟩, ⟨na, 1, nc⟩] [[nd1 4 1 ⟨#[]⟩], [nd1 1 0 ⟨#[]⟩]] #[.slice ma 1 mc, .slice na 1 nc] 2 rfl rfl (by simp [maxLen]) rfl (each2 Hm.out (nok1 4 1 ⟨#[]⟩ (by decide) (by decide) (by decide)) Hn.out (nok1 1 0 ⟨#[]⟩ (by decide) (by decide) (by decide))))
  have HTX := Lib.hid (HT.out.later HU1.out)
  have C := Lib.hid (mkList _ [⟨ma, 1, mc⟩, ⟨na, 1, nc⟩] [[nd1 4 1 ⟨#[]⟩], [nd1 1 0 ⟨#[]⟩]] _ HS.out (by decide) HTX.out exP 0 ex_list)
  go_wp2_with fail
  ((with_reducible refine (C.out).mono ?_); rintro e w11 ⟨v, rfl, ho, b⟩)
  clear C
  replace b := up HU1.out b
  replace HB := Lib.hid (up HB.out b)
  replace HT := Lib.hid (HT.out.later b)
  replace Ht := Lib.hid (Gn.Rd.later Ht.out b)
  replace Hu := Lib.hid (Gn.Rd.later Hu.out b)
  replace Hp := Lib.hid (Gn.Rd.later Hp.out b)
  replace Ha := Lib.hid (Gn.Rd.later Ha.out b)
  replace Hn := Lib.hid (Gn.Rd.later Hn.out b)
  replace Hm := Lib.hid (Gn.Rd.later Hm.out b)
  clear HU1 HS HTX
  have Hl := Lib.hid (Gn.Own.rd ndL ho)
  obtain ⟨la, lc, rfl⟩ := form_n Hl.out 3 rfl
  clear ho
  clear b
  have HU1 : Hid (Below w11.heap.size w11 (w11.alloc (.cells #[.string ⟨#[98]⟩, .string ⟨#[97]⟩] 9))) := Lib.hid (up_new w11 _)
  have HK := Lib.hid (rdT_lit w11 [⟨#[98]⟩, ⟨#[97]⟩] #[.string ⟨#[98]⟩, .string ⟨#[97]⟩] 2 rfl rfl (by decide))
  have C := Lib.hid (mkBool true (w11.alloc (.cells #[.string ⟨#[98]⟩, .string ⟨#[97]⟩] 9)))
  go_wp2_with fail
  ((with_reducible refine (C.out).mono ?_); rintro e w12 ⟨v, rfl, ho, b⟩)
  replace HK := Lib.hid (Gn.Rd.later HK.out b)
  replace b := up HU1.out b
  replace HB := Lib.hid (up HB.out b)
  replace HT := Lib.hid (HT.out.later b)
  replace Ht := Lib.hid (Gn.Rd.later Ht.out b)
  replace Hu := Lib.hid (Gn.Rd.later Hu.out b)
  replace Hp := Lib.hid (Gn.Rd.later Hp.out b)
  replace Ha := Lib.hid (Gn.Rd.later Ha.out b)
  replace Hn := Lib.hid (Gn.Rd.later Hn.out b)
  replace Hm := Lib.hid (Gn.Rd.later Hm.out b)
  replace Hl := Lib.hid (Gn.Rd.later Hl.out b)
  have Hb := Lib.hid (Gn.Own.rd ndL ho)
  obtain ⟨ba, bc, rfl⟩ := form_n Hb.out 1 rfl
  clear ho
  clear b C HU1
  have HU1 : Hid (Below w12.heap.size w12 (w12.alloc (.cells #[.slice la 3 lc, .slice ba 1 bc] 25))) := Lib.hid (up_new w12 _)
  have HS := Lib.hid (rdS_lit w12 [⟨la, 3, lc⟩, ⟨ba, 1, bc⟩] [exP, [nd1 3 0 ⟨#[]⟩]] #[.slice la 3 lc, .slice ba 1 bc] 2 rfl rfl (by simp [maxLen]) rfl (each2 Hl.out exp_ok Hb.out (nok1 3 0 ⟨#[]⟩ (by decide) (by decide) (by decide))))
  have HTX := Lib.hid (HT.out.later HU1.out)
  have HKX := Lib.hid (Gn.Rd.later HK.out HU1.out)
  have C := Lib.hid (mkObj _ _ [⟨#[98]⟩, ⟨#[97]⟩] [⟨la, 3, lc⟩, ⟨ba, 1, bc⟩] [exP, [nd1 3 0 ⟨#[]⟩]] _ HKX.out HS.out (by decide) (by decide) HTX.out exL 0 (.inr ⟨rfl, ex_obj⟩))
  go_wp2_with fail
  ((with_reducible refine (C.out).mono ?_); rintro e w13 ⟨v, rfl, ho, b⟩)
  clear C
  replace b := up HU1.out b
  replace HB := Lib.hid (up HB.out b)
  replace HT := Lib.hid (HT.out.later b)
  replace Ht := Lib.hid (Gn.Rd.later Ht.out b)
  replace Hu := Lib.hid (Gn.Rd.later Hu.out b)
  replace Hp := Lib.hid (Gn.Rd.later Hp.out b)
  replace Ha := Lib.hid (Gn.Rd.later Ha.out b)
  replace Hn := Lib.hid (Gn.Rd.later Hn.out b)
  replace Hm := Lib.hid (Gn.Rd.later Hm.out b)
  replace Hl := Lib.hid (Gn.Rd.later Hl.out b)
  replace Hb := Lib.hid (Gn.Rd.later Hb.out b)
  clear HU1 HS HTX HK HKX
  have Ho := Lib.hid (Gn.Own.rd ndL ho)
  obtain ⟨oa, oc, rfl⟩ := form_n Ho.out 5 rfl
  clear ho
  clear b
  have C := Lib.hid (check _ exL w13 Ht.out ex_ok HT.out 0 ex_chk.1)
  go_wp2_with fail
  ((with_reducible refine (C.out).mono ?_); rintro e w14 ⟨rfl, b⟩)
  clear C
  replace HB := Lib.hid (up HB.out b)
  replace HT := Lib.hid (HT.out.later b)
  replace Ht := Lib.hid (Gn.Rd.later Ht.out b)
  replace Hu := Lib.hid (Gn.Rd.later Hu.out b)
  replace Hp := Lib.hid (Gn.Rd.later Hp.out b)
  replace Ha := Lib.hid (Gn.Rd.later Ha.out b)
  replace Hl := Lib.hid (Gn.Rd.later Hl.out b)
  replace Ho := Lib.hid (Gn.Rd.later Ho.out b)
  clear b
  obtain ⟨s4, hs4, hr4⟩ := Gn.cut_to ndY w14 w14.heap.size (some ⟨g1, 0, none⟩) exL 5 tc 4 Ht.out rfl (by decide)
  replace hs4 : ∀ w', (Instr.slice 25 (.slice (some ⟨g1, 0, none⟩) 5 tc) none (some (.int .i64 4)) none).run Tryd.prog w' = .ok s4 w' := hs4
  have C := Lib.hid (check _ (exL.take 4) w14 hr4 (fun x hx => ex_ok x (List.mem_of_mem_take hx)) HT.out 60 ex_cut)
  go_wp2_with fail
  ((with_reducible refine (C.out).mono ?_); rintro e w15 ⟨rfl, b⟩)
  clear C
  replace HB := Lib.hid (up HB.out b)
  replace HT := Lib.hid (HT.out.later b)
  replace Ht := Lib.hid (Gn.Rd.later Ht.out b)
  replace Hu := Lib.hid (Gn.Rd.later Hu.out b)
  replace Hp := Lib.hid (Gn.Rd.later Hp.out b)
  replace Ha := Lib.hid (Gn.Rd.later Ha.out b)
  replace Hl := Lib.hid (Gn.Rd.later Hl.out b)
  replace Ho := Lib.hid (Gn.Rd.later Ho.out b)
  clear hr4 hs4
  clear b
  have C := Lib.hid (check (.slice none 0 0) [] w15 (Gn.Rd.nil _ _) (by simp) HT.out 60 nil_chk)
  go_wp2_with fail
  ((with_reducible refine (C.out).mono ?_); rintro e w16 ⟨rfl, b⟩)
  clear C
  replace HB := Lib.hid (up HB.out b)
  replace HT := Lib.hid (HT.out.later b)
  replace Ht := Lib.hid (Gn.Rd.later Ht.out b)
  replace Hu := Lib.hid (Gn.Rd.later Hu.out b)
  replace Hp := Lib.hid (Gn.Rd.later Hp.out b)
  replace Ha := Lib.hid (Gn.Rd.later Ha.out b)
  replace Hl := Lib.hid (Gn.Rd.later Hl.out b)
  replace Ho := Lib.hid (Gn.Rd.later Ho.out b)
  clear b
  have C := Lib.hid (check _ exT w16 Hu.out ext_ok HT.out 60 ext_chk)
  go_wp2_with fail
  ((with_reducible refine (C.out).mono ?_); rintro e w17 ⟨rfl, b⟩)
  clear C
  replace HB := Lib.hid (up HB.out b)
  replace HT := Lib.hid (HT.out.later b)
  replace Ht := Lib.hid (Gn.Rd.later Ht.out b)
  replace Hu := Lib.hid (Gn.Rd.later Hu.out b)
  replace Hp := Lib.hid (Gn.Rd.later Hp.out b)
  replace Ha := Lib.hid (Gn.Rd.later Ha.out b)
  replace Hl := Lib.hid (Gn.Rd.later Hl.out b)
  replace Ho := Lib.hid (Gn.Rd.later Ho.out b)
  clear b
  have C := Lib.hid (kids _ exL w17 Ht.out ex_ok HT.out [1, 4] ex_kids)
  go_wp2_with fail
  ((with_reducible refine (C.out).mono ?_); rintro e w18 ⟨vk, rfl, hok, b⟩)
  clear C
  replace HB := Lib.hid (up HB.out b)
  replace HT := Lib.hid (HT.out.later b)
  replace Ht := Lib.hid (Gn.Rd.later Ht.out b)
  replace Hp := Lib.hid (Gn.Rd.later Hp.out b)
  replace Ha := Lib.hid (Gn.Rd.later Ha.out b)
  replace Hl := Lib.hid (Gn.Rd.later Hl.out b)
  replace Ho := Lib.hid (Gn.Rd.later Ho.out b)
  have HU1 : Hid (Below w18.heap.size w18 (w18.alloc (.cells #[.int .i64 1, .int .i64 4] 3))) := Lib.hid (up_new w18 _)
  have HI := Lib.hid (Gn.Rd.later (Gn.Own.rd inL hok) HU1.out)
  have HJ : Hid (RdI (w18.alloc (.cells #[.int .i64 1, .int .i64 4] 3)) (w18.alloc (.cells #[.int .i64 1, .int .i64 4] 3)).heap.size (.slice (some ⟨w18.heap.size, 0, none⟩) 2 2) [1, 4]) := Lib.hid (Gn.Own.rd inL (Gn.Own.lit (T := 3) inL w18 w18.heap.size [1, 4] #[.int .i64 1, .int .i64 4] 2 2 rfl rfl rfl (by decide) (Nat.le_refl _)))
  clear hok b
  have C := Lib.hid (eqInts _ _ [1, 4] [1, 4] (w18.alloc (.cells #[.int .i64 1, .int .i64 4] 3)) HI.out HJ.out (by decide) true (by simp))
  go_wp2_with fail
  ((with_reducible refine (C.out).mono ?_); rintro e w19 ⟨rfl, b⟩)
  clear C
  replace b := up HU1.out b
  replace HB := Lib.hid (up HB.out b)
  replace HT := Lib.hid (HT.out.later b)
  replace Ht := Lib.hid (Gn.Rd.later Ht.out b)
  replace Hp := Lib.hid (Gn.Rd.later Hp.out b)
  replace Ha := Lib.hid (Gn.Rd.later Ha.out b)
  replace Hl := Lib.hid (Gn.Rd.later Hl.out b)
  replace Ho := Lib.hid (Gn.Rd.later Ho.out b)
  clear HU1 HI HJ
  clear b
  have C := Lib.hid (deepOf _ exL w19 Ht.out ex_ok HT.out 3 ex_chk.2)
  go_wp2_with fail
  ((with_reducible refine (C.out).mono ?_); rintro e w20 ⟨rfl, b⟩)
  clear C
  replace HB := Lib.hid (up HB.out b)
  replace HT := Lib.hid (HT.out.later b)
  replace Ht := Lib.hid (Gn.Rd.later Ht.out b)
  replace Hp := Lib.hid (Gn.Rd.later Hp.out b)
  replace Ha := Lib.hid (Gn.Rd.later Ha.out b)
  replace Hl := Lib.hid (Gn.Rd.later Hl.out b)
  replace Ho := Lib.hid (Gn.Rd.later Ho.out b)
  clear b
  go_wp2_with fail
  have SK := Lib.hid (fun (w' : World) (hb : Below w20.heap.size w20 w') => And.intro hb (ex_cells Ht.out hb))
  have CPART := Lib.hid (fun (wb : World) (hb : Below w20.heap.size w20 wb) => part _ exL wb (Gn.Rd.later Ht.out hb) ex_ok (HT.out.later hb) 1 (by decide) exP ex_part)
  simp only [List.append_eq, List.cons_append, List.nil_append]
  go_region_held3 (fun w' => Below w20.heap.size w20 w' ∧ (w'.cell? ⟨g1, 0, none⟩ = some (.int .i64 7) ∧ w'.cell? ⟨g1, 1, none⟩ = some (.string ⟨#[]⟩) ∧ w'.cell? ⟨g1, 2, none⟩ = some (.int .i64 0) ∧ w'.cell? ⟨g1, 3, none⟩ = some (.string ⟨#[]⟩) ∧ w'.cell? ⟨g1, 4, none⟩ = some (.int .i64 5) ∧ w'.cell? ⟨g1, 20, none⟩ = some (.int .i64 3) ∧ w'.cell? ⟨g1, 21, none⟩ = some (.string ⟨#[97]⟩) ∧ w'.cell? ⟨g1, 22, none⟩ = some (.int .i64 0) ∧ w'.cell? ⟨g1, 23, none⟩ = some (.string ⟨#[]⟩) ∧ w'.cell? ⟨g1, 24, none⟩ = some (.int .i64 1) ∧ w'.cell? ⟨g1, 5, none⟩ = some (.int .i64 6) ∧ w'.cell? ⟨g1, 6, none⟩ = some (.string ⟨#[98]⟩) ∧ w'.cell? ⟨g1, 7, none⟩ = some (.int .i64 0) ∧ w'.cell? ⟨g1, 8, none⟩ = some (.string ⟨#[]⟩) ∧ w'.cell? ⟨g1, 9, none⟩ = some (.int .i64 3) ∧ w'.cell? ⟨g1, 10, none⟩ = some (.int .i64 4) ∧ w'.cell? ⟨g1, 11, none⟩ = some (.string ⟨#[]⟩) ∧ w'.cell? ⟨g1, 12, none⟩ = some (.int .i64 1) ∧ w'.cell? ⟨g1, 13, none⟩ = some (.string ⟨#[]⟩) ∧ w'.cell? ⟨g1, 14, none⟩ = some (.int .i64 1) ∧ w'.cell? ⟨g1, 15, none⟩ = some (.int .i64 1) ∧ w'.cell? ⟨g1, 16, none⟩ = some (.string ⟨#[]⟩) ∧ w'.cell? ⟨g1, 17, none⟩ = some (.int .i64 0) ∧ w'.cell? ⟨g1, 18, none⟩ = some (.string ⟨#[]⟩) ∧ w'.cell? ⟨g1, 19, none⟩ = some (.int .i64 1)))
    (first | exact SK.out _ (Below.refl _ _).drew | exact SK.out _ (Below.refl _ _) | exact SK.out _ (up HA5.out (up_new _ _)) | exact SK.out _ (up HA4.out (up_new _ _)) | exact SK.out _ HA1.out | exact SK.out _ HA1.out.drew | exact SK.out _ HA2.out | exact SK.out _ HA2.out.drew | exact SK.out _ HA3.out | exact SK.out _ HA3.out.drew | exact SK.out _ HA4.out | exact SK.out _ HA4.out.drew | exact SK.out _ HA5.out | exact SK.out _ HA5.out.drew | exact SK.out _ HA6.out | exact SK.out _ HA6.out.drew | exact SK.out _ HA7.out | exact SK.out _ HA7.out.drew | exact SK.out _ HA8.out | exact SK.out _ HA8.out.drew | exact SK.out _ HA9.out | exact SK.out _ HA9.out.drew | exact SK.out _ HA10.out | exact SK.out _ HA10.out.drew)
    ((first
      | (go_at_call 46; (with_reducible refine (CS2.out).mono ?_); rintro e a10 ⟨v, rfl, ho, b⟩; have HA10 := Lib.hid (up HA9.out b); obtain ⟨s2a, s2c, rfl⟩ := form_n (Gn.Own.rd ndL ho) 1 rfl; clear ho; clear b)
      | (go_at_call 46; (with_reducible refine (CS1.out).mono ?_); rintro e a9 ⟨v, rfl, ho, b⟩; have HA9 := Lib.hid (up HA8.out b); obtain ⟨s1a, s1c, rfl⟩ := form_n (Gn.Own.rd ndL ho) 0 rfl; clear ho; have CS2 := Lib.hid (str2 a9 (HT.out.later HA9.out)); clear b)
      | (go_at_call 14; (with_reducible refine (CE5.out).mono ?_); rintro e a8 ⟨rfl, b⟩; have HA8 := Lib.hid (up HA7.out b); have CS1 := Lib.hid (str1 a8 (HT.out.later HA8.out)); clear b)
      | (go_at_call 14; (with_reducible refine (CE4.out).mono ?_); rintro e a7 ⟨rfl, b⟩; have HA7 := Lib.hid (up HA6.out b); have CE5 := Lib.hid (eqP a7 _ _ exL (Gn.Rd.later Ho.out HA7.out) (Gn.Rd.later Ht.out HA7.out) (by decide)); clear b)
      | (go_at_call 14; (with_reducible refine (CE3.out).mono ?_); rintro e a6 ⟨rfl, b⟩; have HA6 := Lib.hid (up HA5.out b); have CE4 := Lib.hid (eqP a6 _ _ exP (Gn.Rd.later Hl.out HA6.out) (Gn.Rd.later Hp.out HA6.out) (by decide)); clear b)
      | (go_at_call 10; (first | ((with_reducible refine (CS.out a4 (Below.refl _ _)).mono ?_); rintro e a5 ⟨v, rfl, ho, b⟩; have HA5 := Lib.hid (up HA4.out b); have Hz := Lib.hid (Gn.Own.rd ndL ho); obtain ⟨za, zc, rfl⟩ := form_n Hz.out 5 rfl; have CE3 := Lib.hid (eqS a5 za zc Hz.out); clear ho; clear b) | ((with_reducible refine (CS.out (a4.alloc (.cells #[.int .i64 7, .string ⟨#[]⟩, .int .i64 0, .string ⟨#[]⟩, .int .i64 5, .int .i64 3, .string ⟨#[97]⟩, .int .i64 0, .string ⟨#[]⟩, .int .i64 1, .int .i64 6, .string ⟨#[98]⟩, .int .i64 0, .string ⟨#[]⟩, .int .i64 3, .int .i64 4, .string ⟨#[]⟩, .int .i64 1, .string ⟨#[]⟩, .int .i64 1, .int .i64 1, .string ⟨#[]⟩, .int .i64 0, .string ⟨#[]⟩, .int .i64 1] 36)) (up_new _ _)).mono ?_); rintro e a5 ⟨v, rfl, ho, b⟩; have HA5 := Lib.hid (up HA4.out (up (up_new _ _) b)); have Hz := Lib.hid (Gn.Own.rd ndL ho); obtain ⟨za, zc, rfl⟩ := form_n Hz.out 5 rfl; have CE3 := Lib.hid (eqT a4 a5 b za zc Hz.out); clear ho; clear b)))
      | (go_at_call 14; (with_reducible refine (CE2.out).mono ?_); rintro e a4 ⟨rfl, b⟩; have HA4 := Lib.hid (up HA3.out b); have CS := Lib.hid (fun (wb : World) (hb : Below a4.heap.size a4 wb) => sorted _ exL wb (Gn.Rd.later Ht.out (up HA4.out hb)) ex_ok (HT.out.later (up HA4.out hb)) exS ex_sort); clear b)
      | (go_at_call 44; (with_reducible refine (CB.out).mono ?_); rintro e a3 ⟨v, rfl, ho, b⟩; have HA3 := Lib.hid (up HA2.out b); have Hy := Lib.hid (Gn.Own.rd ndL ho); obtain ⟨ya, yc, rfl⟩ := form_n Hy.out 1 rfl; have CE2 := Lib.hid (eqP a3 _ _ [nd1 3 0 ⟨#[]⟩] (Gn.Rd.later Ha.out HA3.out) Hy.out (by decide)); clear ho; clear b)
      | (go_at_call 14; (with_reducible refine (CE1.out).mono ?_); rintro e a2 ⟨rfl, b⟩; have HA2 := Lib.hid (up HA1.out b); have CB := Lib.hid (mkBool true a2); clear b)
      | (go_at_call 15; (with_reducible refine (CPART.out _ (by first | exact Below.refl _ _ | exact (Below.refl _ _).drew)).mono ?_); rintro e a1 ⟨v, rfl, ho, b⟩; have HA1 := Lib.hid ((by first | exact b | exact (Below.refl _ _).drew.trans b : Below w20.heap.size w20 a1)); have Hx := Lib.hid (Gn.Own.rd ndL ho); obtain ⟨xa, xc, rfl⟩ := form_n Hx.out 3 rfl; have CE1 := Lib.hid (eqP a1 _ _ exP Hx.out (Gn.Rd.later Hp.out HA1.out) (by decide)); clear ho; clear b)))
  all_goals
    go_wp2_with fail
    go_ret
    exact ⟨rfl, up HB.out HA10.out⟩
end Go.Proofs.YteklcfimafplbaaDoor
