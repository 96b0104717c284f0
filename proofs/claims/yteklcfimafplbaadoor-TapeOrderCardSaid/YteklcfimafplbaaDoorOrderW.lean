/- TapeOrder: the walk. In whatever order an object's members are, it says the same. -/
import Derived.Test.YteklcfimafplbaaDoorDrawn
import Derived.Test.YteklcfimafplbaaDoorWorks
import Derived.Test.YteklcfimafplbaaDoorFrameS
import Derived.Deep.RegionHeld3
namespace Go.Proofs.YteklcfimafplbaaDoor.Tp
open Go.RowKit
set_option linter.unusedVariables false

theorem trs_sT : ∀ F, trs (sT F) = (trs F).map sT
  | .nil => rfl
  | .node k y n s c r => by
    rw [sT]
    simp only [trs, List.map_cons]
    rw [trs_sT r, sT]
    rfl
/-- A tree under a name. -/
def nmd (y : ByteArray) : Fo → Fo
  | .nil => .nil
  | .node k _ n s c _ => .node k y n s c .nil
/-- Members in another order, sorted. -/
theorem srt_order {F G : Fo} (hn : (keys F).Nodup) (hp : (trs G).Perm (trs F)) : srtL (trs (sT G)) = srtL (trs (sT F)) := by
  have hpf : ((trs (sT F)).map kyo).Nodup := by rw [← keys_trs, sT_keys]; exact hn
  have hpp : (trs (sT G)).Perm (trs (sT F)) := by rw [trs_sT, trs_sT]; exact hp.map sT
  have hpg : ((trs (sT G)).map kyo).Nodup := ((hpp.map kyo).nodup_iff).2 hpf
  exact srtL_eq hpf ((srtL_perm _).trans hpp) (srtL_rise _ hpg)
end Go.Proofs.YteklcfimafplbaaDoor.Tp
namespace Go.Proofs.YteklcfimafplbaaDoor
open Go.RowKit
set_option linter.unusedVariables false
set_option maxRecDepth 100000

theorem trs_mk : ∀ (ys : List ByteArray) (Fs : List Fo), ys.length = Fs.length → (∀ F ∈ Fs, Root F) → Tp.trs (mkC ys Fs) = List.zipWith Tp.nmd ys Fs
  | [], [], _, _ => rfl
  | y :: ys, F :: Fs, h, hR => by
    obtain ⟨k, n, s, c, rfl⟩ := hR F (List.mem_cons_self ..)
    show Tp.Fo.node k y n s c .nil :: Tp.trs (mkC ys Fs) = _
    rw [trs_mk ys Fs (by simpa using h) (fun G hG => hR G (List.mem_cons_of_mem _ hG))]
    rfl
  | [], _ :: _, h, _ => by simp at h
  | _ :: _, [], h, _ => by simp at h
/-- Turned: the first j go behind. -/
def rot {α : Type} (j : Nat) (l : List α) : List α := l.drop j ++ l.take j
theorem rot_len {α : Type} (j : Nat) (l : List α) : (rot j l).length = l.length := by simp [rot]; omega
theorem rot_perm {α : Type} (j : Nat) (l : List α) : (rot j l).Perm l := by
  have h := List.perm_append_comm (l₁ := l.drop j) (l₂ := l.take j)
  rwa [List.take_append_drop] at h
theorem rot_at {α : Type} (j i n : Nat) (l : List α) (hl : l.length = n) (hj : j < n) (hi : i < n) : (rot j l)[i]? = l[(i + j) % n]? := by
  unfold rot
  by_cases h : i < n - j
  · rw [List.getElem?_append_left (by simp; omega), List.getElem?_drop, Nat.mod_eq_of_lt (by omega)]
    rw [Nat.add_comm]
  · rw [List.getElem?_append_right (by simp; omega), List.length_drop, hl, List.getElem?_take_of_lt (by omega)]
    rw [show i + j = n + (i - (n - j)) by omega, Nat.add_mod_left, Nat.mod_eq_of_lt (by omega)]
theorem rot_zip {α β γ : Type} (f : α → β → γ) (j : Nat) (a : List α) (b : List β) (h : a.length = b.length) : List.zipWith f (rot j a) (rot j b) = rot j (List.zipWith f a b) := by
  unfold rot
  rw [List.zipWith_append (by simp [h]), List.drop_zipWith, List.take_zipWith]
theorem rot_mem {α : Type} {j : Nat} {l : List α} {x : α} (h : x ∈ rot j l) : x ∈ l := (rot_perm j l).mem_iff.1 h
theorem rot_map {α β : Type} (f : α → β) (j : Nat) (l : List α) : (rot j l).map f = rot j (l.map f) := by simp [rot]
/-- What stands in an object. -/
structure Fit (F : Fo) : Prop where
  root : Root F
  good : Tp.good F
  sz : Tp.sz F ≤ 302
  dep : Tp.dep F ≤ 8
  ok : ∀ x ∈ Tp.flat F, Nok x
theorem DOk.fit {F : Fo} (h : DOk F) : Fit F := ⟨h.root, h.good, by have := h.sz; omega, by have := h.dep; omega, h.ok⟩
theorem sum_bound : ∀ (Fs : List Fo) (d : Nat), (∀ F ∈ Fs, Tp.sz F ≤ d) → (Fs.map Tp.sz).sum ≤ Fs.length * d
  | [], d, _ => by simp
  | F :: Fs, d, h => by
    have h1 := h F (List.mem_cons_self ..)
    have h2 := sum_bound Fs d (fun G hG => h G (List.mem_cons_of_mem _ hG))
    simp only [List.map_cons, List.sum_cons, List.length_cons, Nat.add_mul]
    omega
theorem sum_set : ∀ (l : List Nat) (m a b : Nat), l[m]? = some a → (l.set m b).sum + a = l.sum + b
  | [], m, a, b, h => by simp at h
  | x :: l, 0, a, b, h => by
    simp only [List.getElem?_cons_zero, Option.some.injEq] at h
    subst h
    simp only [List.set_cons_zero, List.sum_cons]
    omega
  | x :: l, m + 1, a, b, h => by
    have := sum_set l m a b (by simpa using h)
    simp only [List.set_cons_succ, List.sum_cons]
    omega
def catF0 (C : Fo) : Fo := .node 7 ⟨#[]⟩ 0 ⟨#[]⟩ C .nil
/-- An object of few values. -/
def catF (ys : List ByteArray) (Fs : List Fo) : Fo := .node 7 ⟨#[]⟩ 0 ⟨#[]⟩ (mkC ys Fs) .nil
structure Cat (ys : List ByteArray) (Fs : List Fo) : Prop where
  len : ys.length = Fs.length
  few : Fs.length ≤ 6
  all : ∀ F ∈ Fs, Fit F
  ko : Tp.ko 7 ys
  ks : ∀ y ∈ ys, y.size ≤ 100
namespace Cat
variable {ys zs : List ByteArray} {Fs Gs : List Fo}
theorem roots (h : Cat ys Fs) : ∀ F ∈ Fs, Root F := fun F hF => (h.all F hF).root
theorem mki (h : Cat ys Fs) : MkIs ys Fs (mkC ys Fs) := mk_is ys Fs h.len h.roots
theorem dep (h : Cat ys Fs) : Tp.dep (mkC ys Fs) ≤ 8 := (h.mki.dep 8).2 (fun F hF => (h.all F hF).dep)
theorem sz (h : Cat ys Fs) : Tp.sz (mkC ys Fs) ≤ 1812 := by
  have h1 := sum_bound Fs 302 (fun F hF => (h.all F hF).sz)
  have h2 := h.few
  rw [h.mki.sz]
  have : Fs.length * 302 ≤ 6 * 302 := Nat.mul_le_mul_right 302 h2
  omega
theorem good (h : Cat ys Fs) : Tp.good (catF ys Fs) :=
  ⟨.inr (.inr (.inr ⟨.inr rfl, rfl, rfl⟩)), fun hk => by omega, by rw [h.mki.keys]; exact h.ko, h.mki.good (fun F hF => (h.all F hF).good), trivial⟩
theorem size (h : Cat ys Fs) : Tp.sz (catF ys Fs) = 1 + (Fs.map Tp.sz).sum := by
  unfold catF
  rw [Tp.sz_node, Tp.sz_nil, h.mki.sz, Nat.add_zero]
theorem may (h : Cat ys Fs) : May (Tp.flat (catF ys Fs)) (catF ys Fs) := by
  have h1 := h.sz
  have h2 := h.dep
  refine ⟨?_, ⟨⟨7, ⟨#[]⟩, 0, ⟨#[]⟩, _, rfl, rfl⟩, h.good, rfl⟩, ?_⟩
  · rw [flat_sz]; unfold catF; rw [Tp.sz_node, Tp.sz_nil]; omega
  · show max (1 + Tp.dep (mkC ys Fs)) 0 ≤ 64
    omega
theorem join (h : Cat ys Fs) : JoinIs 7 ys (Fs.map Tp.flat) (Tp.flat (catF ys Fs)) 0 := by
  have h1 := h.sz
  have h2 := h.dep
  have := join_is (.inr rfl) (h.mki.good (fun F hF => (h.all F hF).good)) (by rw [h.mki.keys]; exact h.ko) (by omega) (by omega) (r := Tp.flat (catF ys Fs)) (x := 0) (.inl ⟨by omega, by omega, rfl, rfl⟩)
  rw [h.mki.keys, h.mki.cks] at this
  exact this
theorem ok (h : Cat ys Fs) : ∀ x ∈ Tp.flat (catF ys Fs), Nok x := by
  intro x hx
  have hs := h.sz
  unfold catF at hx
  rw [Tp.flat_node] at hx
  rcases List.mem_cons.1 hx with rfl | hx
  · exact ⟨by simp only; omega, Nat.zero_le _, by simp only; omega, Nat.zero_le _, by simp only; omega⟩
  · rw [Tp.flat_nil, List.append_nil] at hx
    exact mk_ok ys Fs (fun y hy => by have := h.ks y hy; unfold maxLen; omega) (fun F hF => (h.all F hF).ok) x hx
theorem sortIs (h : Cat ys Fs) : SortIs (Tp.flat (catF ys Fs)) (Tp.flat (Tp.sT (catF ys Fs))) := .inl ⟨_, h.may, rfl⟩
theorem rotd (h : Cat ys Fs) (j : Nat) : Cat (rot j ys) (rot j Fs) := by
  refine ⟨by rw [rot_len, rot_len]; exact h.len, by rw [rot_len]; exact h.few, fun F hF => h.all F (rot_mem hF), ?_, fun y hy => h.ks y (rot_mem hy)⟩
  have := h.ko
  unfold Tp.ko at this ⊢
  rw [if_pos rfl] at this ⊢
  exact ⟨fun y hy => this.1 y (rot_mem hy), ((rot_perm j ys).nodup_iff).2 this.2⟩
/-- Turned, it is sorted the same. -/
theorem turn (h : Cat ys Fs) (j : Nat) : Tp.sT (catF (rot j ys) (rot j Fs)) = Tp.sT (catF ys Fs) := by
  have hg := h.rotd j
  have hnd : (Tp.keys (mkC ys Fs)).Nodup := by
    rw [h.mki.keys]
    have := h.ko
    unfold Tp.ko at this
    rw [if_pos rfl] at this
    exact this.2
  have hp : (Tp.trs (mkC (rot j ys) (rot j Fs))).Perm (Tp.trs (mkC ys Fs)) := by
    rw [trs_mk _ _ hg.len hg.roots, trs_mk _ _ h.len h.roots, rot_zip _ _ _ _ h.len]
    exact rot_perm _ _
  have e := Tp.srt_order hnd hp
  have u : ∀ C : Fo, Tp.sT (catF0 C) = catF0 (Tp.cat (Tp.srtL (Tp.trs (Tp.sT C)))) := fun C => by
    unfold catF0
    rw [Tp.sT, if_pos rfl]
    rfl
  show Tp.sT (catF0 _) = Tp.sT (catF0 _)
  rw [u, u, e]
/-- One value is another one. -/
theorem other (h : Cat ys Fs) {m : Nat} {G : Fo} (hG : Fit G) : Cat ys (Fs.set m G) :=
  ⟨by rw [List.length_set]; exact h.len, by rw [List.length_set]; exact h.few, fun F hF => by
    rcases List.mem_or_eq_of_mem_set hF with hF | rfl
    · exact h.all F hF
    · exact hG, h.ko, h.ks⟩
theorem unlike (h : Cat ys Fs) {m : Nat} {F G : Fo} (hF : Fs[m]? = some F) (hG : Fit G) (hz : Tp.sz G = Tp.sz F + 1) : Tp.flat (Tp.sT (catF ys Fs)) ≠ Tp.flat (Tp.sT (catF ys (Fs.set m G))) := by
  intro e
  have e2 := congrArg List.length e
  rw [flat_sz, flat_sz, Tp.sT_sz, Tp.sT_sz, h.size, (h.other hG).size, List.map_set] at e2
  have := sum_set (Fs.map Tp.sz) m (Tp.sz F) (Tp.sz G) (by rw [List.getElem?_map, hF]; rfl)
  omega
theorem some (h : Cat ys Fs) : Tp.flat (Tp.sT (catF ys Fs)) ≠ [] := by
  intro e
  have e2 := congrArg List.length e
  rw [flat_sz, Tp.sT_sz, h.size] at e2
  simp at e2
end Cat
/-- A list around a value. -/
def wrapF (F : Fo) : Fo := .node 6 ⟨#[]⟩ 0 ⟨#[]⟩ (mkC [⟨#[]⟩] [F]) .nil
theorem wrap_fit {F : Fo} (h : DOk F) : Fit (wrapF F) ∧ Tp.sz (wrapF F) = Tp.sz F + 1 ∧ ListIs [Tp.flat F] (Tp.flat (wrapF F)) 0 := by
  have hm := mk_is [⟨#[]⟩] [F] rfl (by intro G hG; rw [List.mem_singleton.1 hG]; exact h.root)
  have hg := hm.good (by intro G hG; rw [List.mem_singleton.1 hG]; exact h.good)
  have hs : Tp.sz (mkC [⟨#[]⟩] [F]) = Tp.sz F := by rw [hm.sz]; simp
  have hd : Tp.dep (mkC [⟨#[]⟩] [F]) ≤ 7 := (hm.dep _).2 (by intro G hG; rw [List.mem_singleton.1 hG]; exact h.dep)
  have hk : Tp.ko 6 (Tp.keys (mkC [⟨#[]⟩] [F])) := by rw [hm.keys]; unfold Tp.ko; rw [if_neg (by omega)]; intro z hz; rw [List.mem_singleton.1 hz]; rfl
  have h3 := h.sz
  have hz : Tp.sz (wrapF F) = Tp.sz F + 1 := by unfold wrapF; rw [Tp.sz_node, Tp.sz_nil, hs]; omega
  refine ⟨⟨⟨6, 0, ⟨#[]⟩, _, rfl⟩, ⟨.inr (.inr (.inr ⟨.inl rfl, rfl, rfl⟩)), fun hk5 => by omega, hk, hg, trivial⟩, by omega, ?_, ?_⟩, hz, ?_⟩
  · show max (1 + Tp.dep (mkC [⟨#[]⟩] [F])) 0 ≤ 8
    omega
  · intro x hx
    unfold wrapF at hx
    rw [Tp.flat_node] at hx
    rcases List.mem_cons.1 hx with rfl | hx
    · exact ⟨by simp only; omega, Nat.zero_le _, by simp only; omega, Nat.zero_le _, by simp only; omega⟩
    · rw [Tp.flat_nil, List.append_nil] at hx
      exact mk_ok _ _ (by intro y hy; rw [List.mem_singleton.1 hy]; exact Nat.zero_le _) (by intro G hG; rw [List.mem_singleton.1 hG]; exact h.ok) x hx
  · have := join_is (.inl rfl) hg hk (by omega) (by omega) (r := Tp.flat (wrapF F)) (x := 0) (.inl ⟨by omega, by omega, rfl, rfl⟩)
    rw [hm.keys, hm.cks] at this
    exact this
/-- Letters, one by one. -/
def let6 (j : Nat) : ByteArray := (⟨#[99, 97, 102, 101, 98, 100]⟩ : ByteArray).extract j (j + 1)
def lets (n : Nat) : List ByteArray := (List.range n).map let6
theorem let6_run (j : Nat) (h : j ≤ 5) (w : World) : (Instr.slice 9 (.string ⟨#[99, 97, 102, 101, 98, 100]⟩) (some (.int .i64 (j : Nat))) (some (.int .i64 ((j : Nat) + 1))) none).run Tryd.prog w = .ok (.string (let6 j)) w := by
  rcases (show j = 0 ∨ j = 1 ∨ j = 2 ∨ j = 3 ∨ j = 4 ∨ j = 5 by omega) with rfl | rfl | rfl | rfl | rfl | rfl <;> rfl
theorem lets_succ (n : Nat) : lets (n + 1) = lets n ++ [let6 n] := by unfold lets; rw [List.range_succ, List.map_append]; rfl
theorem lets_len (n : Nat) : (lets n).length = n := by simp [lets]
theorem lets_at {n i : Nat} (h : i < n) : (lets n)[i]? = some (let6 i) := by simp [lets, h]
theorem lets_ok : ∀ n, n ≤ 6 → Tp.ko 7 (lets n) ∧ ∀ y ∈ lets n, y.size ≤ 100 := by
  intro n hn
  rcases (show n = 0 ∨ n = 1 ∨ n = 2 ∨ n = 3 ∨ n = 4 ∨ n = 5 ∨ n = 6 by omega) with rfl | rfl | rfl | rfl | rfl | rfl | rfl <;>
    (refine ⟨?_, by decide⟩; unfold Tp.ko; rw [if_pos rfl]; refine ⟨?_, by decide⟩; intro y hy; simp only [lets, List.range, List.range.loop, List.map, List.mem_cons, List.not_mem_nil, or_false] at hy)
  · rcases hy with rfl; kernel_rfl
  · rcases hy with rfl | rfl <;> kernel_rfl
  · rcases hy with rfl | rfl | rfl <;> kernel_rfl
  · rcases hy with rfl | rfl | rfl | rfl <;> kernel_rfl
  · rcases hy with rfl | rfl | rfl | rfl | rfl <;> kernel_rfl
  · rcases hy with rfl | rfl | rfl | rfl | rfl | rfl <;> kernel_rfl
theorem catL {Fs : List Fo} (hq : Fs.length ≤ 6) (ha : ∀ F ∈ Fs, DOk F) : Cat (lets Fs.length) Fs :=
  ⟨lets_len _, hq, fun F hF => (ha F hF).fit, (lets_ok _ hq).1, (lets_ok _ hq).2⟩
/-- Two rows of one type that do not share a block. -/
def Dj (a b : Value) : Prop := ∀ g, a.ownBlock = some g → b.ownBlock ≠ some g
theorem Dj.kept {a b : Value} (h : Dj a b) : b.ownBlock = none ∨ b.ownBlock ≠ a.ownBlock := by
  cases hb : b.ownBlock with
  | none => exact .inl rfl
  | some g => exact .inr (fun e => h g e.symm hb)
theorem Dj.symm {a b : Value} (h : Dj a b) : Dj b a := fun g hg ha => h g ha hg
theorem Dj.grow {α : Type} {enc : α → List Value} {k : Nat} {T : TypeId} {w : World} {B : Nat} {a a' b : Value} {l : List α} (h : Dj a b) (hb : Gn.Own enc k T w B b l) (hl : a'.ownBlock = a.ownBlock ∨ a'.ownBlock = some w.heap.size) : Dj a' b := by
  intro g hg hb2
  rcases hl with e | e
  · exact h g (e ▸ hg) hb2
  · rw [e] at hg
    injection hg with hg
    have := (hb.lt g hb2).2
    omega
/-- Values that were drawn, and what holds them. -/
structure AL (W wx : World) (B : Nat) (pv kv : Value) (ss : List Sl) (Fs : List Fo) (q : Nat) : Prop where
  row : OwnS wx B pv ss
  each : EachO wx ss (Fs.map Tp.flat)
  keys : OwnT wx B kv (lets q)
  all : ∀ F ∈ Fs, DOk F
  len : Fs.length = q
  below : Below W.heap.size W wx
/-- Turned values, their keys, and the values with another one. -/
structure TL (W wx : World) (B : Nat) (tv mv ov : Value) (ts os : List Sl) (Ts Os : List Fo) (ms : List ByteArray) (i : Nat) : Prop where
  r1 : OwnS wx B tv ts
  e1 : EachO wx ts ((Ts.take i).map Tp.flat)
  r2 : OwnS wx B ov os
  e2 : EachO wx os ((Os.take i).map Tp.flat)
  dj : Dj tv ov
  keys : OwnT wx B mv (ms.take i)
  below : Below W.heap.size W wx
theorem TL.later {W w w' : World} {B : Nat} {tv mv ov : Value} {ts os : List Sl} {Ts Os : List Fo} {ms : List ByteArray} {i : Nat} (h : TL W w B tv mv ov ts os Ts Os ms i) (hb : Below w.heap.size w w') : TL W w' B tv mv ov ts os Ts Os ms i :=
  ⟨Gn.Own.later h.r1 hb, h.e1.later hb, Gn.Own.later h.r2 hb, h.e2.later hb, h.dj, Gn.Own.later h.keys hb, up h.below hb⟩

theorem sdY : Gn.Ty 39 24 (.agg #[.slice none 0 0]) 1 24 := ⟨Tryd.underlying39, by kernel_rfl, by kernel_rfl, rfl, by omega⟩
theorem SeedsIn.cut {W : World} {v u : Value} {ss : List Sl} {nss : List (List Int)} {m : Nat} (h : SeedsIn W v ss nss) (hu : Gn.Rd slv 1 W W.heap.size u (ss.take m)) : SeedsIn W u (ss.take m) (nss.take m) :=
  ⟨hu, by simp [h.len], fun i s ns h1 h2 => by
    rw [List.getElem?_take] at h1 h2
    split at h1
    · rename_i hi
      rw [if_pos hi] at h2
      exact h.each i s ns h1 h2
    · cases h1⟩
theorem Rd_val {α : Type} {enc : α → List Value} {k : Nat} {w : World} {B : Nat} {v : Value} {l : List α} (h : Gn.Rd enc k w B v l) (n : Nat) (hn : l.length = n) : ∃ a c, v = .slice a n c := by
  subst hn
  obtain ⟨a, c, e, _⟩ := Gn.Rd.form h
  exact ⟨a, c, e⟩
theorem rdS_one {w : World} {a : Option Addr} {n c : Nat} {l : List Nd} (h : OwnN w 0 (.slice a n c) l) (hok : ∀ x ∈ l, Nok x) : RdS (w.alloc (.cells #[.slice a n c] 25)) (w.alloc (.cells #[.slice a n c] 25)).heap.size (.slice (some ⟨w.heap.size, 0, none⟩) 1 1) [⟨a, n, c⟩] [l] :=
  ⟨rdSl_one w a n c, rfl, fun i s l' h1 h2 => by
    have h0 : i = 0 := by
      rcases Nat.eq_zero_or_pos i with h0 | h0
      · exact h0
      · rw [List.getElem?_eq_none (by simp; omega)] at h1; cases h1
    subst h0
    simp at h1 h2
    subst h1 h2
    exact ⟨Gn.Own.rd ndL (Gn.Own.later h (up_new w _)), hok⟩⟩
theorem rot_take_succ {α : Type} {l : List α} {J i K : Nat} {x : α} (hJ : J < l.length) (hi : i < l.length) (hK : K = (i + J) % l.length) (hx : l[K]? = some x) : (rot J l).take (i + 1) = (rot J l).take i ++ [x] := by
  have h1 : (rot J l)[i]? = some x := by rw [rot_at J i l.length l rfl hJ hi, ← hK]; exact hx
  rw [List.take_add_one, h1]
  rfl
/-- The i-th of the other values. -/
theorem set_take_succ {Fs : List Fo} {A i : Nat} {F G : Fo} (hF : Fs[i]? = some F) : ((Fs.set A G).take (i + 1)).map Tp.flat = ((Fs.set A G).take i).map Tp.flat ++ [Tp.flat (if i = A then G else F)] := by
  have h1 : (Fs.set A G)[i]? = some (if i = A then G else F) := by
    have hl := (List.getElem?_eq_some_iff.1 hF).1
    by_cases e : i = A
    · subst e; rw [if_pos rfl, List.getElem?_set_self hl]
    · rw [if_neg e, List.getElem?_set_ne (fun h => e h.symm), hF]
  rw [List.take_add_one, h1]
  simp
theorem bringN (x : Int) (n : Nat) (hn : 0 < n) : ∃ j : Nat, x % (n : Int) = (j : Nat) ∧ j < n := by
  have h1 := Int.emod_nonneg x (b := (n : Int)) (by omega)
  have h2 := Int.emod_lt_of_pos x (b := (n : Int)) (by omega)
  exact ⟨(x % (n : Int)).toNat, by omega, by omega⟩

set_option maxHeartbeats 40000000 in
theorem tapeOrder (v : Value) (ss0 : List Sl) (nss : List (List Int)) (by_ at_ : Int) (W : World) (hS : SeedsIn W v ss0 nss) (hb1 : -9223372036854775808 ≤ by_) (hb2 : by_ ≤ 9223372036854775807) (ha1 : -9223372036854775808 ≤ at_) (ha2 : at_ ≤ 9223372036854775807) (T : Tab W) :
    Calls Tryd.prog 4 #[v, .int .i64 by_, .int .i64 at_] W fun e w' => e = .returned (.bool true) ∧ Below W.heap.size W w' := by
  obtain ⟨va, vc, rfl, _⟩ := Gn.Rd.form hS.rd
  have hl0 := hS.rd.len'
  obtain ⟨N, hN⟩ : ∃ N, ss0.length = N := ⟨_, rfl⟩
  obtain ⟨u, hu, hur⟩ := Gn.cut_to sdY W W.heap.size va ss0 N vc (min N 6) (by rw [← hN]; exact hS.rd) hN (by omega)
  have em : ((min N 6 : Nat) : Int) = min (N : Int) 6 := by omega
  rw [em] at hu
  obtain ⟨L, hL⟩ : ∃ L, (ss0.take (min N 6)).length = L := ⟨_, rfl⟩
  have hL6 : L ≤ 6 := by rw [← hL, List.length_take]; omega
  obtain ⟨ua, uc, rfl⟩ := Rd_val hur L hL
  have HS := Lib.hid (hS.cut hur)
  have HL := Lib.hid hL
  have HT := Lib.hid T
  rw [hN] at hl0 ⊢
  clear hS T hL hur em hN
  generalize ss0.take (min N 6) = sq at *
  generalize nss.take (min N 6) = nq at *
  go_enter Tryd.func4, Tryd.ntmps4
  go_wp2_with fail
  have HST : Hid (AL W W W.heap.size (.slice none 0 0) (.slice none 0 0) [] [] 0) := Lib.hid ⟨Gn.Own.nil _ _, EachO.nil _, Gn.Own.nil _ _, by simp, rfl, Below.refl _ _⟩
  go_loopw [7, 10, 12] (fun pv kv i wx => ∃ (q : Nat) (ss : List Sl) (Fs : List Fo), i = .int .i64 (q : Nat) ∧ q ≤ L ∧ Hid (AL W wx W.heap.size pv kv ss Fs q)) (fun _ _ i _ => 6 - (intOf i).toNat)
  case atStart => exact ⟨0, [], [], by rfl, by omega, HST⟩
  case round =>
    obtain ⟨q, ss, Fs, rfl, hqL, HA⟩ := hrel
    have HQS : Hid (ss.length = q) := Lib.hid (by have h1 := HA.out.each.1; rw [List.length_map, HA.out.len] at h1; exact h1)
    by_cases hlt : q < L
    · have hlt1 : (q : Int) < L := by omega
      obtain ⟨s, hs⟩ : ∃ s, sq[q]? = some s := ⟨_, List.getElem?_eq_getElem (by have := HL.out; omega)⟩
      obtain ⟨ns, hn⟩ : ∃ ns, nq[q]? = some ns := ⟨_, List.getElem?_eq_getElem (by have := HL.out; have := HS.out.len; omega)⟩
      have hsd := HS.out.each q s ns hs hn
      obtain ⟨sb, so, rfl, _, hc⟩ := Gn.Rd.at HS.out.rd HA.out.below (by have := HL.out; omega : q < sq.length)
      have hs2 := (List.getElem?_eq_some_iff.1 hs).2
      have c0 : wr.cell? ⟨sb, so + q, none⟩ = some (.slice s.a s.n s.c) := by
        have := hc 0 (.slice s.a s.n s.c) (by rw [hs2]; rfl)
        simpa using this
      obtain ⟨sa, sn, sc⟩ := s
      have CD := Lib.hid (drawnC (.slice sa sn sc) ns wr (Gn.Rd.later hsd.1 HA.out.below) hsd.2 (HT.out.later HA.out.below))
      simp only at c0
      clear hs hn hsd hc hs2
      go_wp2_with fail
      ((with_reducible refine (CD.out).mono ?_); rintro e w3 ⟨v, F, rfl, ho, hd, b⟩)
      obtain ⟨n, hn⟩ : ∃ n, (Tp.flat F).length = n := ⟨_, rfl⟩
      obtain ⟨xa, xc, rfl⟩ := form_n (Gn.Own.rd ndL ho) n hn
      have HD := Lib.hid hd
      have bu := up_new w3 (.cells #[.slice xa n xc] 25)
      have HS4 := Lib.hid (Gn.Own.later HA.out.row (up b bu))
      have HE4 := Lib.hid (((HA.out.each.later b).snoc (s := ⟨xa, n, xc⟩) (own_low ho) hd.ok).later bu)
      have HK4 := Lib.hid (Gn.Own.later HA.out.keys (up b bu))
      have HB4 := Lib.hid (up HA.out.below (up b bu))
      have HR4 := Lib.hid (rdSl_one w3 xa n xc)
      obtain ⟨lt, hltr⟩ : ∃ t, let6 q = t := ⟨_, rfl⟩
      have hrun := let6_run q (by omega)
      rw [hltr] at hrun
      have HLT := Lib.hid hltr
      clear b ho hd hn bu CD hltr
      go_wp2_with (at_builtin
                   first
                   | (refine Gn.wpList_app slL slY rfl (.tmp 45) (.tmp 47) rfl W.heap.size _ ss rfl HS4.out _ [(⟨xa, n, xc⟩ : Sl)] rfl HR4.out (by rw [HQS.out]; simp; omega) HB4.out.size ?_
                      intro v5 w5 ho5 hg5 hl5 hn5
                      have bu := up_new w5 (.cells #[.string lt] 9)
                      have h5 := Gn.below_of_own HS4.out hg5 HB4.out.size
                      have HS5 := Lib.hid (Gn.Own.later ho5 bu)
                      have HE5 := Lib.hid ((EachO.kept HE4.out HS4.out node_ne_sl hg5).later bu)
                      have HK5 := Lib.hid (Gn.Own.later (Gn.Own.kept HK4.out hg5 (own_apart HK4.out HS4.out tx_ne_sl)) bu)
                      have HB5 := Lib.hid ((HB4.out.trans h5).trans (bu.mono (HB4.out.trans h5).size))
                      have HR5 := Lib.hid (rdTx_one w5 lt)
                      clear ho5 hg5 hl5 hn5 bu h5)
                   | (refine Gn.wpList_app txL txY rfl (.tmp 49) (.tmp 54) rfl W.heap.size _ (lets q) rfl HK5.out _ [lt] rfl HR5.out (by rw [lets_len]; simp; omega) HB5.out.size ?_
                      intro v7 w7 ho7 hg7 hl7 hn7
                      have h7 := Gn.below_of_own HK5.out hg7 HB5.out.size
                      have HK7 := Lib.hid ho7
                      have HS7 := Lib.hid (Gn.Own.kept HS5.out hg7 (own_apart HS5.out HK5.out sl_ne_tx))
                      have HE7 := Lib.hid (EachO.kept HE5.out HK5.out node_ne_tx hg7)
                      have HB7 := Lib.hid (HB5.out.trans h7)
                      clear ho7 hg7 hl7 hn7 h7))
      have HAN : Hid (AL W w7 W.heap.size v5 v7 (ss ++ [(⟨xa, n, xc⟩ : Sl)]) (Fs ++ [F]) (q + 1)) := Lib.hid ⟨HS7.out, by rw [List.map_append]; exact HE7.out, by rw [lets_succ, HLT.out]; exact HK7.out, fun G hG => by
          rcases List.mem_append.1 hG with hG | hG
          · exact HA.out.all G hG
          · rw [List.mem_singleton.1 hG]; exact HD.out, by rw [List.length_append, HA.out.len]; rfl, HB7.out⟩
      clear HA HS7 HE7 HK7 HB7
      go_roundw
      case rel => exact ⟨q + 1, _, _, by go_num, by omega, HAN⟩
      case measure => simp [intOf]; omega
    · obtain rfl : q = L := by omega
      have hlt1 : ¬ (q : Int) < q := by omega
      obtain ⟨pa, pc, rfl⟩ := Rd_val (Gn.Own.rd slL HA.out.row) q HQS.out
      obtain ⟨ka, kc, rfl⟩ := Rd_val (Gn.Own.rd txL HA.out.keys) q (lets_len q)
      obtain ⟨w2, hw2⟩ : ∃ w2, w2 = wr := ⟨_, rfl⟩
      rw [← hw2] at HA ⊢
      clear hw2
      have JX : ∃ J : Nat, 0 < q → by_ % (q : Int) = (J : Nat) ∧ J < q := by
        by_cases h : 0 < q
        · obtain ⟨j, h1, h2⟩ := bringN by_ q h; exact ⟨j, fun _ => ⟨h1, h2⟩⟩
        · exact ⟨0, fun h' => absurd h' h⟩
      have AX : ∃ J : Nat, 0 < q → at_ % (q : Int) = (J : Nat) ∧ J < q := by
        by_cases h : 0 < q
        · obtain ⟨j, h1, h2⟩ := bringN at_ q h; exact ⟨j, fun _ => ⟨h1, h2⟩⟩
        · exact ⟨0, fun h' => absurd h' h⟩
      obtain ⟨J, hJ⟩ := JX
      obtain ⟨A, hA⟩ := AX
      obtain ⟨G, hGd⟩ : ∃ G, G = wrapF (Fs.getD A .nil) := ⟨_, rfl⟩
      have HG : Hid (∀ F, Fs[A]? = some F → Fit G ∧ Tp.sz G = Tp.sz F + 1 ∧ ListIs [Tp.flat F] (Tp.flat G) 0) := Lib.hid (fun F hF => by
        have e : Fs.getD A .nil = F := by rw [List.getD_eq_getElem?_getD, hF]; rfl
        rw [hGd, e]
        exact wrap_fit (HA.out.all F (List.mem_of_getElem? hF)))
      have HFL : Hid (Fs.length = q) := Lib.hid HA.out.len
      have HRS := Lib.hid (HA.out.each.rdS HA.out.row)
      have HRK : Hid (RdT w2 w2.heap.size _ (lets q)) := Lib.hid (Gn.Own.rd txL HA.out.keys)
      have HTW := Lib.hid (HT.out.later HA.out.below)
      have HCT := Lib.hid (show Cat (lets q) Fs by have := catL (Fs := Fs) (by rw [HFL.out]; exact hL6) HA.out.all; rw [HFL.out] at this; exact this)
      have HTL : Hid (TL w2 w2 w2.heap.size (.slice none 0 0) (.slice none 0 0) (.slice none 0 0) [] [] (rot J Fs) (Fs.set A G) (rot J (lets q)) 0) := Lib.hid ⟨Gn.Own.nil _ _, EachO.nil _, Gn.Own.nil _ _, EachO.nil _, fun g hg => by simp [Value.ownBlock] at hg, Gn.Own.nil _ _, Below.refl _ _⟩
      have HJ := Lib.hid hJ
      have HAA := Lib.hid hA
      have CB := Lib.hid (fun (x : Int) (w : World) (h0 : -9223372036854775808 ≤ x) (h1 : x ≤ 9223372036854775807) (h2 : 0 < q) => bring x (q : Int) w h0 h1 (by omega) (by omega))
      clear hJ hA hGd HST hlt
      go_wp2_with fail
      go_loopw [8, 9, 11, 15] (fun tv ov mv i wx => ∃ (z : Nat) (ts os : List Sl), i = .int .i64 (z : Nat) ∧ z ≤ q ∧ Hid (TL w2 wx w2.heap.size tv mv ov ts os (rot J Fs) (Fs.set A G) (rot J (lets q)) z)) (fun _ _ _ i _ => q - (intOf i).toNat)
      case atStart => exact ⟨0, [], [], by rfl, by omega, HTL⟩
      case round =>
        obtain ⟨z, ts, os, rfl, hz, HL2⟩ := hrel
        have HZL : Hid (ts.length = z ∧ os.length = z) := Lib.hid (by
          have a := HL2.out.e1.1
          have b := HL2.out.e2.1
          have c := HFL.out
          simp only [List.length_map, List.length_take, rot_len, List.length_set] at a b
          omega)
        by_cases hlt : z < q
        · have hlt1 : (z : Int) < q := by omega
          have hq0 : 0 < q := by omega
          have hq00 : ¬ (q : Int) = 0 := by omega
          have hq01 : ((q : Int) == 0) = false := by simp; omega
          obtain ⟨hJ1, hJ2⟩ := HJ.out hq0
          obtain ⟨hA1, hA2⟩ := HAA.out hq0
          obtain ⟨K, hK⟩ : ∃ K, K = (z + J) % q := ⟨_, rfl⟩
          have hKq : K < q := by rw [hK]; exact Nat.mod_lt _ hq0
          have hK1 : ((z : Int) + J) % (q : Int) = (K : Nat) := by rw [hK]; simp
          have hK2 : ((z : Int) + J).tmod (q : Int) = (K : Nat) := by rw [Int.tmod_eq_emod_of_nonneg (by omega)]; exact hK1
          obtain ⟨FK, hFK⟩ : ∃ F, Fs[K]? = some F := ⟨_, List.getElem?_eq_getElem (by rw [HFL.out]; exact hKq)⟩
          obtain ⟨FZ, hFZ⟩ : ∃ F, Fs[z]? = some F := ⟨_, List.getElem?_eq_getElem (by rw [HFL.out]; exact hlt)⟩
          obtain ⟨sK, hsK⟩ : ∃ s, ss[K]? = some s := ⟨_, List.getElem?_eq_getElem (by rw [HQS.out]; exact hKq)⟩
          obtain ⟨sZ, hsZ⟩ : ∃ s, ss[z]? = some s := ⟨_, List.getElem?_eq_getElem (by rw [HQS.out]; exact hlt)⟩
          obtain ⟨yK, hyK⟩ : ∃ y, (lets q)[K]? = some y := ⟨_, lets_at hKq⟩
          have CB1 := Lib.hid (fun w => CB.out by_ w hb1 hb2 hq0)
          have CB2 := Lib.hid (fun w => CB.out at_ w ha1 ha2 hq0)
          rw [hJ1] at CB1
          rw [hA1] at CB2
          obtain ⟨pb, po, rfl, c1⟩ := rdS_cell HRS.out HL2.out.below hsK
          obtain ⟨kb, ko, rfl, _⟩ := rdT_cell HRK.out HL2.out.below hyK
          obtain ⟨xa, xn, xc⟩ := sK
          obtain ⟨za, zn, zc⟩ := sZ
          have HKK : Hid (∀ wx, Below w2.heap.size w2 wx → wx.cell? ⟨kb, ko + K, none⟩ = some (.string yK)) := Lib.hid (fun wx hb => by
            obtain ⟨b1, o1, e, c⟩ := rdT_cell HRK.out hb hyK
            injection e with e; injection e with e1 e2; subst e1 e2; exact c)
          have HZZ : Hid (∀ wx, Below w2.heap.size w2 wx → wx.cell? ⟨pb, po + z, none⟩ = some (.slice za zn zc)) := Lib.hid (fun wx hb => by
            obtain ⟨b1, o1, e, c⟩ := rdS_cell HRS.out hb hsZ
            injection e with e; injection e with e1 e2; subst e1 e2; exact c)
          have HEK : Hid (OwnN w2 0 (.slice xa xn xc) (Tp.flat FK) ∧ ∀ x ∈ Tp.flat FK, Nok x) := Lib.hid (HA.out.each.2 K _ _ hsK (by rw [List.getElem?_map, hFK]; rfl))
          have HEZ : Hid (OwnN w2 0 (.slice za zn zc) (Tp.flat FZ) ∧ ∀ x ∈ Tp.flat FZ, Nok x) := Lib.hid (HA.out.each.2 z _ _ hsZ (by rw [List.getElem?_map, hFZ]; rfl))
          have HTS : Hid ((rot J Fs).take (z + 1) = (rot J Fs).take z ++ [FK]) := Lib.hid (rot_take_succ (by rw [HFL.out]; exact hJ2) (by rw [HFL.out]; exact hlt) (by rw [HFL.out]; exact hK) hFK)
          have HMS : Hid ((rot J (lets q)).take (z + 1) = (rot J (lets q)).take z ++ [yK]) := Lib.hid (rot_take_succ (by rw [lets_len]; exact hJ2) (by rw [lets_len]; exact hlt) (by rw [lets_len]; exact hK) hyK)
          have HOS := Lib.hid (set_take_succ (A := A) (G := G) hFZ)
          have HFZ := Lib.hid hFZ
          have HML : Hid (((rot J (lets q)).take z).length ≤ 6) := Lib.hid (by rw [List.length_take, rot_len, lets_len]; omega)
          have bu := up_new wr (.cells #[.slice xa xn xc] 25)
          have HT4 := Lib.hid (HL2.out.later bu)
          have HR4 := Lib.hid (rdSl_one wr xa xn xc)
          clear hsK hsZ hyK hFK hFZ hJ1 hA1 hK bu
          go_wp2_with fail
          ((with_reducible refine (CB1.out _).mono ?_); rintro e wb1 ⟨rfl, rfl⟩)
          go_wp2_with (at_builtin
                       first
                       | (refine Gn.wpList_app slL slY rfl (.tmp 71) (.tmp 76) rfl w2.heap.size _ ts rfl HT4.out.r1 _ [(⟨xa, xn, xc⟩ : Sl)] rfl HR4.out (by rw [HZL.out.1]; simp; omega) HT4.out.below.size ?_
                          intro v5 w5 ho5 hg5 hl5 hn5
                          have h5 := HT4.out.below.trans (Gn.below_of_own HT4.out.r1 hg5 HT4.out.below.size)
                          have c2 := HKK.out w5 h5
                          have bu := up_new w5 (.cells #[.string yK] 9)
                          have HS5 := Lib.hid (Gn.Own.later ho5 bu)
                          have HE5 := Lib.hid (((EachO.kept HT4.out.e1 HT4.out.r1 node_ne_sl hg5).snoc (s := ⟨xa, xn, xc⟩) (Gn.Own.later HEK.out.1 h5) HEK.out.2).later bu)
                          have HS6 := Lib.hid (Gn.Own.later (Gn.Own.kept HT4.out.r2 hg5 HT4.out.dj.kept) bu)
                          have HE6 := Lib.hid ((EachO.kept HT4.out.e2 HT4.out.r1 node_ne_sl hg5).later bu)
                          have HD6 := Lib.hid (HT4.out.dj.grow HT4.out.r2 hl5)
                          have HK6 := Lib.hid (Gn.Own.later (Gn.Own.kept HT4.out.keys hg5 (own_apart HT4.out.keys HT4.out.r1 tx_ne_sl)) bu)
                          have HB6 := Lib.hid (h5.trans (bu.mono h5.size))
                          have HR6 := Lib.hid (rdTx_one w5 yK)
                          clear ho5 hg5 hl5 hn5 bu h5)
                       | (refine Gn.wpList_app txL txY rfl (.tmp 78) (.tmp 83) rfl w2.heap.size _ _ rfl HK6.out _ [yK] rfl HR6.out (by have := HML.out; simp only [List.length_singleton]; omega) HB6.out.size ?_
                          intro v7 w7 ho7 hg7 hl7 hn7
                          have h7 := HB6.out.trans (Gn.below_of_own HK6.out hg7 HB6.out.size)
                          have c3 := HZZ.out w7 h7
                          have HK7 := Lib.hid ho7
                          have HS7 := Lib.hid (Gn.Own.kept HS5.out hg7 (own_apart HS5.out HK6.out sl_ne_tx))
                          have HE7 := Lib.hid (EachO.kept HE5.out HK6.out node_ne_tx hg7)
                          have HS8 := Lib.hid (Gn.Own.kept HS6.out hg7 (own_apart HS6.out HK6.out sl_ne_tx))
                          have HE8 := Lib.hid (EachO.kept HE6.out HK6.out node_ne_tx hg7)
                          have HB7 := Lib.hid h7
                          clear ho7 hg7 hl7 hn7 h7))
          by_cases hzA : z = A
          case' pos =>
            have hz1 : ((z : Int) == A) = true := by simp [hzA]
            obtain ⟨g1, g2, g3⟩ := HG.out FZ (by rw [← hzA]; exact HFZ.out)
            have CL := Lib.hid (fun w9 (h9 : Below w2.heap.size w2 w9) => mkList _ [⟨za, zn, zc⟩] [Tp.flat FZ] (w9.alloc (.cells #[.slice za zn zc] 25)) (rdS_one (Gn.Own.later HEZ.out.1 h9) HEZ.out.2) (by simp) (HTW.out.later (h9.trans ((up_new w9 _).mono h9.size))) (Tp.flat G) 0 g3)
            have HGO := Lib.hid (And.intro g1.ok (show Tp.flat (if z = A then G else FZ) = Tp.flat G by rw [if_pos hzA]))
            have CL7 := Lib.hid (CL.out w7 HB7.out)
            clear CL g1 g2 g3 hzA
            go_wp2_with fail
            ((with_reducible refine (CB2.out _).mono ?_); rintro e wb2 ⟨rfl, rfl⟩)
            go_wp2_with fail
            ((with_reducible refine (CL7.out).mono ?_); rintro e w8 ⟨x, rfl, ho, b⟩)
            have bl := up (up_new w7 (.cells #[.slice za zn zc] 25)) b
            obtain ⟨za, zn, zc, rfl⟩ : ∃ a n c, x = .slice a n c := by
              obtain ⟨a, c, e, _⟩ := Gn.Rd.form (Gn.Own.rd ndL ho)
              exact ⟨a, _, c, e⟩
            have HN8 := Lib.hid (show OwnN w8 0 (.slice za zn zc) (Tp.flat (if z = A then G else FZ)) by rw [HGO.out.2]; exact own_low ho)
            have HO8 := Lib.hid (show ∀ x ∈ Tp.flat (if z = A then G else FZ), Nok x by rw [HGO.out.2]; exact HGO.out.1)
            have HL8 := Lib.hid bl
            clear b ho bl CL7
          case' neg =>
            have hz1 : ((z : Int) == A) = false := by simp; omega
            have HGO := Lib.hid (show Tp.flat (if z = A then G else FZ) = Tp.flat FZ by rw [if_neg hzA])
            clear hzA
            go_wp2_with fail
            ((with_reducible refine (CB2.out _).mono ?_); rintro e wb2 ⟨rfl, rfl⟩)
            obtain ⟨w8, hw8⟩ : ∃ w8, w8 = w7 := ⟨_, rfl⟩
            have HN8 := Lib.hid (show OwnN w8 0 (.slice za zn zc) (Tp.flat (if z = A then G else FZ)) by rw [HGO.out, hw8]; exact Gn.Own.later HEZ.out.1 HB7.out)
            have HO8 := Lib.hid (show ∀ x ∈ Tp.flat (if z = A then G else FZ), Nok x by rw [HGO.out]; exact HEZ.out.2)
            have HL8 := Lib.hid (show Below w7.heap.size w7 w8 by rw [hw8]; exact Below.refl _ _)
            rw [← hw8]
            clear hw8
          all_goals
            have bu := up_new w8 (.cells #[.slice za zn zc] 25)
            have HX9 := Lib.hid (up HL8.out bu)
            have HS9 := Lib.hid (Gn.Own.later HS7.out HX9.out)
            have HE9 := Lib.hid ((HE7.out.later HL8.out).later bu)
            have HSA := Lib.hid (Gn.Own.later HS8.out HX9.out)
            have HEA := Lib.hid (((HE8.out.later HL8.out).snoc (s := ⟨za, zn, zc⟩) HN8.out HO8.out).later bu)
            have HK9 := Lib.hid (Gn.Own.later HK7.out HX9.out)
            have HB9 := Lib.hid (HB7.out.trans (HX9.out.mono HB7.out.size))
            have HR9 := Lib.hid (rdSl_one w8 za zn zc)
            clear bu
            go_wp2_with (at_builtin
                         refine Gn.wpList_app slL slY rfl (.tmp 101) (.tmp 103) rfl w2.heap.size _ os rfl HSA.out _ [(⟨za, zn, zc⟩ : Sl)] rfl HR9.out (by rw [HZL.out.2]; simp; omega) HB9.out.size ?_
                         intro v9 w9 ho9 hg9 hl9 hn9
                         have hbb := HB9.out.trans (Gn.below_of_own HSA.out hg9 HB9.out.size)
                         have HAN : Hid (TL w2 w9 w2.heap.size v5 v7 v9 (ts ++ [(⟨xa, xn, xc⟩ : Sl)]) (os ++ [(⟨za, zn, zc⟩ : Sl)]) (rot J Fs) (Fs.set A G) (rot J (lets q)) (z + 1)) := Lib.hid ⟨Gn.Own.kept HS9.out hg9 HD6.out.symm.kept, by
                            rw [HTS.out, List.map_append]
                            exact EachO.kept HE9.out HSA.out node_ne_sl hg9, ho9, by
                            rw [HOS.out]
                            exact EachO.kept HEA.out HSA.out node_ne_sl hg9, (HD6.out.symm.grow HS9.out hl9).symm, by
                            rw [HMS.out]
                            exact Gn.Own.kept HK9.out hg9 (own_apart HK9.out HSA.out tx_ne_sl), hbb⟩
                         clear ho9 hg9 hl9 hn9 hbb)
            go_roundw
            case rel => exact ⟨z + 1, _, _, by go_num, by omega, HAN⟩
            case measure => simp [intOf]; omega
        · obtain rfl : z = q := by omega
          have hlt1 : ¬ (z : Int) < z := by omega
          obtain ⟨ta, tc, rfl⟩ := Rd_val (Gn.Own.rd slL HL2.out.r1) z HZL.out.1
          obtain ⟨oa, oc, rfl⟩ := Rd_val (Gn.Own.rd slL HL2.out.r2) z HZL.out.2
          have htk : (rot J Fs).take z = rot J Fs := List.take_of_length_le (by rw [rot_len, HFL.out]; exact Nat.le_refl _)
          have hok : (Fs.set A G).take z = Fs.set A G := List.take_of_length_le (by rw [List.length_set, HFL.out]; exact Nat.le_refl _)
          have hmk : (rot J (lets z)).take z = rot J (lets z) := List.take_of_length_le (by rw [rot_len, lets_len]; exact Nat.le_refl _)
          obtain ⟨ma, mc, rfl⟩ := Rd_val (Gn.Own.rd txL HL2.out.keys) z (by rw [hmk, rot_len, lets_len])
          have HR1 : Hid (RdS wr wr.heap.size (.slice ta z tc) ts ((rot J Fs).map Tp.flat)) := Lib.hid (by have := HL2.out.e1.rdS HL2.out.r1; rw [htk] at this; exact this)
          have HR2 : Hid (RdS wr wr.heap.size (.slice oa z oc) os ((Fs.set A G).map Tp.flat)) := Lib.hid (by have := HL2.out.e2.rdS HL2.out.r2; rw [hok] at this; exact this)
          have HR3 : Hid (RdT wr wr.heap.size (.slice ma z mc) (rot J (lets z))) := Lib.hid (by have := Gn.Own.rd txL HL2.out.keys; rw [hmk] at this; exact this)
          have HR0 := Lib.hid ((HRS.out.below HL2.out.below (Nat.le_refl _)).more HL2.out.below.size)
          have HRK0 := Lib.hid (Gn.Rd.later HRK.out HL2.out.below)
          have HB0 := Lib.hid (up HA.out.below HL2.out.below)
          have HT0 := Lib.hid (HTW.out.later HL2.out.below)
          have HCR := Lib.hid (HCT.out.rotd J)
          have HTN := Lib.hid (HCT.out.turn J)
          have HCO : Hid (Cat (lets z) (Fs.set A G) ∧ (0 < z → Tp.flat (Tp.sT (catF (lets z) Fs)) ≠ Tp.flat (Tp.sT (catF (lets z) (Fs.set A G)))) ∧ (z = 0 → Fs.set A G = Fs)) := Lib.hid (by
            by_cases h : 0 < z
            · obtain ⟨FA, hFA⟩ : ∃ F, Fs[A]? = some F := ⟨_, List.getElem?_eq_getElem (by rw [HFL.out]; exact (HAA.out h).2)⟩
              obtain ⟨g1, g2, _⟩ := HG.out FA hFA
              exact ⟨HCT.out.other g1, fun _ => HCT.out.unlike hFA g1 g2, fun e => by omega⟩
            · have : Fs = [] := List.eq_nil_of_length_eq_zero (by rw [HFL.out]; omega)
              subst this
              exact ⟨HCT.out, fun e => absurd e h, fun _ => rfl⟩)
          obtain ⟨ra, hra⟩ : ∃ r, r = Tp.flat (catF (lets z) Fs) := ⟨_, rfl⟩
          obtain ⟨rb, hrb⟩ : ∃ r, r = Tp.flat (catF (rot J (lets z)) (rot J Fs)) := ⟨_, rfl⟩
          obtain ⟨rc, hrc⟩ : ∃ r, r = Tp.flat (catF (lets z) (Fs.set A G)) := ⟨_, rfl⟩
          obtain ⟨sa, hsa⟩ : ∃ r, r = Tp.flat (Tp.sT (catF (lets z) Fs)) := ⟨_, rfl⟩
          obtain ⟨sc, hsc⟩ : ∃ r, r = Tp.flat (Tp.sT (catF (lets z) (Fs.set A G))) := ⟨_, rfl⟩
          have Iab := Lib.hid (show SortIs ra sa ∧ SortIs rb sa ∧ SortIs rc sc by
            refine ⟨by rw [hra, hsa]; exact HCT.out.sortIs, ?_, by rw [hrc, hsc]; exact HCO.out.1.sortIs⟩
            rw [hrb, hsa, ← HTN.out]; exact HCR.out.sortIs)
          have Nab := Lib.hid (show (∀ x ∈ ra, Nok x) ∧ (∀ x ∈ rb, Nok x) ∧ (∀ x ∈ rc, Nok x) by rw [hra, hrb, hrc]; exact ⟨HCT.out.ok, HCR.out.ok, HCO.out.1.ok⟩)
          have Sab := Lib.hid (show sa ≠ [] ∧ (decide (z = 0) = true ↔ (sa ≠ [] ∧ sa = sc)) by
            have h1 : sa ≠ [] := by rw [hsa]; exact HCT.out.some
            refine ⟨h1, ?_⟩
            rw [decide_eq_true_eq]
            constructor
            · intro h; exact ⟨h1, by rw [hsa, hsc, HCO.out.2.2 h]⟩
            · rintro ⟨_, h⟩
              rcases Nat.eq_zero_or_pos z with h0 | h0
              · exact h0
              · exact absurd (by rw [← hsa, ← hsc]; exact h) (HCO.out.2.1 h0))
          have hys : ∀ y ∈ lets z, y.size ≤ maxLen := fun y hy => by have := HCT.out.ks y hy; unfold maxLen; omega
          have hyr : ∀ y ∈ rot J (lets z), y.size ≤ maxLen := fun y hy => by have := HCR.out.ks y hy; unfold maxLen; omega
          have fl : Fs.length ≤ 100000 := by rw [HFL.out]; omega
          have C1 := Lib.hid (mkObj _ _ (lets z) ss (Fs.map Tp.flat) wr HRK0.out HR0.out hys (by rw [List.length_map]; exact fl) HT0.out ra 0 (by rw [hra]; exact .inr ⟨by rw [List.length_map]; exact HCT.out.len, HCT.out.join⟩))
          have C2 := Lib.hid (fun wb (hb : Below wr.heap.size wr wb) => mkObj _ _ (rot J (lets z)) ts ((rot J Fs).map Tp.flat) wb (Gn.Rd.later HR3.out hb) ((HR1.out.below hb (Nat.le_refl _)).more hb.size) hyr (by rw [List.length_map, rot_len]; exact fl) (HT0.out.later hb) rb 0 (by rw [hrb]; exact .inr ⟨by rw [List.length_map]; exact HCR.out.len, HCR.out.join⟩))
          have C3 := Lib.hid (fun wb (hb : Below wr.heap.size wr wb) => mkObj _ _ (lets z) os ((Fs.set A G).map Tp.flat) wb (Gn.Rd.later HRK0.out hb) ((HR2.out.below hb (Nat.le_refl _)).more hb.size) hys (by rw [List.length_map, List.length_set]; exact fl) (HT0.out.later hb) rc 0 (by rw [hrc]; exact .inr ⟨by rw [List.length_map]; exact HCO.out.1.len, HCO.out.1.join⟩))
          obtain ⟨bb, hbb⟩ : ∃ b, decide (z = 0) = b := ⟨_, rfl⟩
          have qz : ((z : Int) == 0) = bb := by rw [← hbb]; by_cases h : z = 0 <;> simp [h]
          rw [hbb] at Sab
          have HZ0 := Lib.hid HT0.out
          clear htk hok hmk hra hrb hrc hsa hsc hys hyr fl hbb
          go_wp2_with fail
          ((with_reducible refine (C1.out).mono ?_); rintro e a1 ⟨av, rfl, ho, b⟩)
          have HX1 := Lib.hid b
          have HRA := Lib.hid (Gn.Own.rd ndL ho)
          clear b ho C1
          go_wp2_with fail
          ((with_reducible refine (C2.out _ HX1.out).mono ?_); rintro e a2 ⟨bv, rfl, ho, b⟩)
          have HX2 := Lib.hid (up HX1.out b)
          replace HRA := Lib.hid (Gn.Rd.later HRA.out b)
          have HRB := Lib.hid (Gn.Own.rd ndL ho)
          clear b ho C2
          go_wp2_with fail
          ((with_reducible refine (C3.out _ HX2.out).mono ?_); rintro e a3 ⟨cv, rfl, ho, b⟩)
          have HX3 := Lib.hid (up HX2.out b)
          replace HRA := Lib.hid (Gn.Rd.later HRA.out b)
          replace HRB := Lib.hid (Gn.Rd.later HRB.out b)
          have HRC := Lib.hid (Gn.Own.rd ndL ho)
          have S1 := Lib.hid (same av bv ra rb a3 HRA.out HRB.out Nab.out.1 Nab.out.2.1 (HZ0.out.later HX3.out) sa sa Iab.out.1 Iab.out.2.1 true ⟨fun _ => ⟨Sab.out.1, rfl⟩, fun _ => rfl⟩)
          clear b ho C3
          go_wp2_with fail
          ((with_reducible refine (S1.out).mono ?_); rintro e a4 ⟨rfl, b⟩)
          have HX4 := Lib.hid (up HX3.out b)
          have S2 := Lib.hid (same bv av rb ra a4 (Gn.Rd.later HRB.out b) (Gn.Rd.later HRA.out b) Nab.out.2.1 Nab.out.1 (HZ0.out.later HX4.out) sa sa Iab.out.2.1 Iab.out.1 true ⟨fun _ => ⟨Sab.out.1, rfl⟩, fun _ => rfl⟩)
          have HY4 := Lib.hid b
          clear b S1
          go_wp2_with fail
          ((with_reducible refine (S2.out).mono ?_); rintro e a5 ⟨rfl, b⟩)
          have HX5 := Lib.hid (up HX4.out b)
          have S3 := Lib.hid (same av cv ra rc a5 (Gn.Rd.later HRA.out (up HY4.out b)) (Gn.Rd.later HRC.out (up HY4.out b)) Nab.out.1 Nab.out.2.2 (HZ0.out.later HX5.out) sa sc Iab.out.1 Iab.out.2.2 bb Sab.out.2)
          clear b S2
          go_wp2_with fail
          ((with_reducible refine (S3.out).mono ?_); rintro e a6 ⟨rfl, b⟩)
          have HX6 := Lib.hid (up HX5.out b)
          have KW := Lib.hid (works a6 (HZ0.out.later HX6.out))
          clear b S3
          go_wp2_with fail
          ((with_reducible refine (KW.out).mono ?_); rintro e a7 ⟨rfl, b⟩)
          have HX7 := Lib.hid (up HB0.out (up HX6.out b))
          clear b
          go_wp2_with fail
          go_ret
          exact ⟨rfl, HX7.out⟩
end Go.Proofs.YteklcfimafplbaaDoor
