/- A seed of law 08: its numbers, its value, its tape. -/
import Derived.Test.YtgmdjofnkbaflaaDoorShall
import Derived.Test.YtgmdjofnkbaflaaDoorSlic
import Derived.Test.YtgmdjofnkbaflaaDoorEq
import Derived.Test.YtgmdjofnkbaflaaDoorNumW8
import Derived.Test.YtgmdjofnkbaflaaDoorJoinF
import Derived.Test.YtgmdjofnkbaflaaDoorListP
import Derived.Deep.RegionHeld3
namespace Go.Proofs.YtgmdjofnkbaflaaDoor.S8
open Go.RowKit
set_option linter.unusedVariables false
set_option maxRecDepth 100000

/-- A seed: a variable that holds numbers; these lie below B. -/
structure SV (w : World) (B g : Nat) (ns : List Int) : Prop where
  at_ : ∃ v, Blk w g 43 [v] ∧ RdI w B v ns
  lo : B ≤ g
  ok : ∀ x ∈ ns, -9223372036854775808 ≤ x ∧ x ≤ 9223372036854775807
theorem SV.lt {w : World} {B g : Nat} {ns : List Int} (h : SV w B g ns) : g < w.heap.size := by obtain ⟨v, hb, _⟩ := h.at_; exact hb.lt
theorem SV.later {w w' : World} {B g : Nat} {ns : List Int} (h : SV w B g ns) (hb : Below w.heap.size w w') : SV w' B g ns := by
  obtain ⟨v, h1, h2⟩ := h.at_
  exact ⟨⟨v, h1.later hb, Gn.Rd.below h2 hb (by have := h.lt; have := h.lo; omega)⟩, h.lo, h.ok⟩
/-- What touches a seed's variable alone leaves rows that are newer, or typed otherwise. -/
theorem own_touch {α : Type} {enc : α → List Value} {k : Nat} {T : TypeId} {S : Nat → Prop} {w w' : World} {base : Nat} {v : Value} {l : List α} (h : Gn.Own enc k T w base v l) (ht : Touch S w w') (hn : ∀ g, base ≤ g → ¬ S g) : Gn.Own enc k T w' base v l := by
  obtain ⟨h0, h1⟩ := h
  refine ⟨h0, ?_⟩
  rcases h1 with h1 | ⟨g, cap, cur, rfl, hg, hh, r⟩
  · exact .inl h1
  · have hlt : g < w.heap.size := by
      rcases Nat.lt_or_ge g w.heap.size with hlt | hge
      · exact hlt
      · rw [Array.getElem?_eq_none hge] at hh; cases hh
    exact .inr ⟨g, cap, cur, rfl, hg, (ht.block g hlt (hn g hg)).trans hh, r⟩
def NPost (w : World) (B g : Nat) (n : Int) (ns : List Int) (e : Ending) (w' : World) : Prop := ∃ k : Nat, e = .returned (.int .i64 (k : Nat)) ∧ (k : Int) < n ∧ Touch (fun i => i = g) w w' ∧ SV w' B g ns.tail

set_option maxHeartbeats 2000000 in
theorem snext (n : Int) (B g : Nat) (ns : List Int) (w : World) (hn : 1 ≤ n ∧ n ≤ 1125899906842624) (hV : SV w B g ns) :
    Calls Tryd.prog 75 #[.pointer (some ⟨g, 0, none⟩), .int .i64 n] w fun e w' => NPost w B g n ns e w' := by
  obtain ⟨v, hb, hr⟩ := hV.at_
  have HV := Lib.hid hV
  have HBK := Lib.hid hb
  have HR := Lib.hid hr
  have c0 := hb.cell 0
  simp only [List.getElem?_cons_zero] at c0
  have f0 := hb.frozen 0
  obtain ⟨va, vc, rfl, hvc, hvm, _⟩ := Gn.Rd.form hr
  cases ns with
  | nil =>
    clear hV hb hr
    go_enter Tryd.func75, Tryd.ntmps75
    go_wp2_with fail
    go_ret
    exact ⟨0, by rfl, by omega, Touch.refl _ _, HV.out⟩
  | cons x ns =>
    obtain ⟨b, off, rfl, x0⟩ := rdI_cell hr (show Below B w w from Below.refl _ _) (i := 0) rfl
    obtain ⟨L, hL⟩ : ∃ L, (x :: ns).length = L := ⟨_, rfl⟩
    have hL1 : (0 : Int) < (L : Nat) := by rw [← hL]; simp
    have hL0 : ((L : Int) == 0) = false := by simp; omega
    have hLm : (L : Int) ≤ 9223372036854775807 := by have := hr.len'; rw [hL] at this; omega
    have CB := Lib.hid (bring8 x n w (hV.ok x (List.mem_cons_self ..)).1 (hV.ok x (List.mem_cons_self ..)).2 (by omega) (by omega))
    obtain ⟨u, hu, hur⟩ := Gn.cut_from plY w B (some ⟨b, off, none⟩) (x :: ns) L vc 1 (by rw [← hL]; exact hr) hL (by simp)
    replace hu : ∀ w', (Instr.slice 41 (.slice (some ⟨b, off, none⟩) L vc) (some (.int .i64 1)) none none).run Tryd.prog w' = .ok u w' := hu
    obtain ⟨ua, uc, rfl, _⟩ := Gn.Rd.form hur
    obtain ⟨L2, hL2⟩ : ∃ L2, (List.drop 1 (x :: ns)).length = L2 := ⟨_, rfl⟩
    rw [hL2] at hu hur
    have HUR := Lib.hid hur
    have HMOD := Lib.hid (And.intro (Int.emod_nonneg x (show n ≠ 0 by omega)) (Int.emod_lt_of_pos x (show 0 < n by omega)))
    rw [hL] at HBK c0
    simp only [Nat.add_zero] at x0
    clear hV hb hr hur hL hL2
    go_enter Tryd.func75, Tryd.ntmps75
    go_wp2_with fail
    ((with_reducible refine (CB.out).mono ?_); rintro e w2 ⟨rfl, rfl⟩)
    go_wp2_with fail
    go_ret
    refine ⟨(x % n).toNat, ?_, ?_, Touch.setCell (S := fun i => i = g) (p := ⟨g, 0, none⟩) (Touch.refl _ _) rfl _, ⟨⟨_, HBK.out.put 0 _, ?_⟩, HV.out.lo, fun y hy => HV.out.ok y (List.mem_cons_of_mem _ hy)⟩⟩
    · exact congrArg (fun z => Ending.returned (Value.int IntKind.i64 z)) (Int.toNat_of_nonneg HMOD.out.1).symm
    · rw [Int.toNat_of_nonneg HMOD.out.1]; exact HMOD.out.2
    · exact Gn.Rd.below HUR.out ((Below.refl _ _).setCell (p := ⟨g, 0, none⟩) HV.out.lo _) (Nat.le_refl _)

def wordsL : List ByteArray := [⟨#[]⟩, ⟨#[97]⟩, ⟨#[98]⟩, ⟨#[97, 98]⟩, ⟨#[0]⟩, ⟨#[195, 164]⟩, ⟨#[34, 92]⟩, ⟨#[122]⟩, ⟨#[240, 159, 152, 128]⟩, ⟨#[10, 31, 47]⟩]
/-- What a seed's value is. -/
structure VOk (w w' : World) (B g : Nat) (ns : List Int) (D : Nat) (v : Value) (F : Fo) (ns' : List Int) : Prop where
  own : OwnN w' w.heap.size v (Tp.flat F)
  root : Root F
  good : Tp.good F
  sz : Tp.sz F + 2 * ns'.length ≤ 1 + 2 * ns.length
  dep : Tp.dep F ≤ 8 - D
  ok : ∀ x ∈ Tp.flat F, Nok x
  small : Jr.Small 10 10 F
  touch : Touch (fun i => i = g) w w'
  seed : SV w' B g ns'
def SPost (w : World) (B g : Nat) (ns : List Int) (D : Nat) (e : Ending) (w' : World) : Prop := ∃ v F ns', e = .returned v ∧ VOk w w' B g ns D v F ns'
def SClaimV (D : Nat) : Prop := ∀ (B g : Nat) (ns : List Int) (w : World), SV w B g ns → TabAt B → ns.length ≤ 150 → Tab w → Calls Tryd.prog 43 #[.pointer (some ⟨g, 0, none⟩), .int .i64 (D : Nat)] w fun e w' => SPost w B g ns D e w'
theorem SV.tab {w w' : World} {B g : Nat} {ns : List Int} (h : SV w B g ns) (T : Tab w) (hB : TabAt B) (ht : Touch (fun i => i = g) w w') : Tab w' :=
  T.below hB (ht.below (by have := h.lt; have := h.lo; omega) (fun i hi => by rw [hi]; exact h.lo))
theorem touch_trans {g : Nat} {a b c : World} (h : Touch (fun i => i = g) a b) (k : Touch (fun i => i = g) b c) : Touch (fun i => i = g) a c := h.trans k (fun i hi => .inl hi)
theorem touch_new {g : Nat} {a b : World} (h : Below a.heap.size a b) : Touch (fun i => i = g) a b := Touch.of_below h
theorem tail_len (ns : List Int) : ns.tail.length ≤ ns.length := by simp
theorem leaf_ok {w w' w1 : World} {B g D base : Nat} {ns ns' : List Int} {v : Value} {k n : Int} {s : ByteArray} (ho : OwnN w' base v [nd1 k n s]) (hb : w.heap.size ≤ base) (hf : Tp.hf k n s) (hD : D ≤ 7) (hn : -9223372036854775808 ≤ n ∧ n ≤ 9223372036854775807) (hs : s.size ≤ 10)
    (ht : Touch (fun i => i = g) w w') (hv : SV w' B g ns') (hl : ns'.length ≤ ns.length) : VOk w w' B g ns D v (.node k ⟨#[]⟩ n s .nil .nil) ns' := by
  refine ⟨Gn.Own.lower ho hb, ⟨k, n, s, .nil, rfl⟩, ⟨hf, fun _ => rfl, Tp.ko_nil k, trivial, trivial⟩, ?_, ?_, ?_, ?_, ht, hv⟩
  · rw [Tp.sz_node, Tp.sz_nil]; omega
  · simp only [Tp.dep]; omega
  · intro x hx
    have hk := Tp.hf_kind hf
    have : x = nd1 k n s := by
      have e : Tp.flat (.node k ⟨#[]⟩ n s .nil .nil) = [nd1 k n s] := rfl
      rw [e] at hx
      exact List.mem_singleton.1 hx
    subst this
    exact ⟨by simp [nd1]; omega, Nat.zero_le _, hn, by simp only [nd1]; unfold maxLen; omega, by simp [nd1]⟩
  · intro x hx
    have : x = nd1 k n s := by
      have e : Tp.flat (.node k ⟨#[]⟩ n s .nil .nil) = [nd1 k n s] := rfl
      rw [e] at hx
      exact List.mem_singleton.1 hx
    subst this
    exact ⟨Nat.zero_le _, hs, hn⟩
def numsL (x : Int) : List Int := [0, 10, -1, 9223372036854775807, -9223372036854775808, x]
def nums64 (x : Int) : List Value := [.int .i64 x]
theorem word_ok : ∀ s ∈ wordsL, Utf.vld (bl s) = true ∧ s.size ≤ 4 := by
  intro s hs
  simp only [wordsL, List.mem_cons, List.not_mem_nil, or_false] at hs
  rcases hs with rfl | rfl | rfl | rfl | rfl | rfl | rfl | rfl | rfl | rfl <;> exact ⟨by kernel_rfl, by decide⟩
theorem num_ok (z : Int) (hz : -562949953421312 ≤ z ∧ z ≤ 562949953421312) : ∀ x ∈ numsL z, -9223372036854775808 ≤ x ∧ x ≤ 9223372036854775807 := by
  intro x hx
  simp only [numsL, List.mem_cons, List.not_mem_nil, or_false] at hx
  omega


/-- A seed's list, under way. -/
structure LS (w wx : World) (B g gw D : Nat) (ns2 nx : List Int) (kv lv : Value) (ss : List Sl) (ys : List ByteArray) (Fs : List Fo) (j : Nat) : Prop where
  keys : OwnT wx (gw + 1) kv ys
  row : OwnS wx (gw + 1) lv ss
  wds : Blk wx gw 9 (wordsL.map Value.string)
  lo : w.heap.size ≤ gw
  each : EachO wx ss (Fs.map Tp.flat)
  root : ∀ F ∈ Fs, Root F
  good : ∀ F ∈ Fs, Tp.good F
  dep : ∀ F ∈ Fs, Tp.dep F ≤ 7 - D
  sz : (Fs.map Tp.sz).sum + 2 * nx.length ≤ Fs.length + 2 * ns2.length
  len : ys.length = Fs.length
  few : Fs.length + j ≤ 4
  kok : ∀ y ∈ ys, (Utf.vld (bl y) = true ∧ y.size ≤ 5) ∧ ∃ s i, bl y = bl s ++ [97 + i] ∧ j < i
  nod : ys.Nodup
  sml : ∀ F ∈ Fs, Jr.Small 10 10 F
  touch : Touch (fun i => i = g) w wx
  seed : SV wx B g nx
theorem seed_ne : (43 : TypeId) ≠ 59 ∧ (43 : TypeId) ≠ 24 ∧ (43 : TypeId) ≠ 9 := by decide
/-- A row stays when a seed's variable is written: it is of another type. -/
theorem own_seed {α : Type} {enc : α → List Value} {k : Nat} {T : TypeId} {w w' : World} {base B g : Nat} {v : Value} {l : List α} {ns : List Int} (h : Gn.Own enc k T w base v l) (hs : SV w B g ns) (hT : 43 ≠ T) (ht : Touch (fun i => i = g) w w') : Gn.Own enc k T w' base v l := by
  obtain ⟨h0, h1⟩ := h
  refine ⟨h0, ?_⟩
  rcases h1 with h1 | ⟨g', cap, cur, rfl, hg, hh, r⟩
  · exact .inl h1
  · have hlt : g' < w.heap.size := by
      rcases Nat.lt_or_ge g' w.heap.size with hlt | hge
      · exact hlt
      · rw [Array.getElem?_eq_none hge] at hh; cases hh
    refine .inr ⟨g', cap, cur, rfl, hg, (ht.block g' hlt (fun e => ?_)).trans hh, r⟩
    subst e
    obtain ⟨v, hb, _⟩ := hs.at_
    have hb' : w.heap[g']? = _ := hb
    rw [hh] at hb'
    injection hb' with hb'
    injection hb' with _ hb'
    exact hT hb'.symm
theorem each_seed {w w' : World} {B g : Nat} {ss : List Sl} {ls : List (List Nd)} {ns : List Int} (h : EachO w ss ls) (hs : SV w B g ns) (ht : Touch (fun i => i = g) w w') : EachO w' ss ls :=
  ⟨h.1, fun i s l h1 h2 => ⟨own_seed (h.2 i s l h1 h2).1 hs seed_ne.1 ht, (h.2 i s l h1 h2).2⟩⟩
theorem LS.start {w w2 : World} {B g gw D : Nat} {ns2 : List Int} {c0 : Nat} (hwd : Blk w2 gw 9 (wordsL.map Value.string)) (hlo : w.heap.size ≤ gw) (hc : c0 ≤ 4) (ht : Touch (fun i => i = g) w w2) (hs : SV w2 B g ns2) : LS w w2 B g gw D ns2 ns2 (.slice none 0 0) (.slice none 0 0) [] [] [] c0 :=
  ⟨Gn.Own.nil _ _, Gn.Own.nil _ _, hwd, hlo, EachO.nil _, by simp, by simp, by simp, by simp, rfl, by simp; omega, by simp, by simp, by simp, ht, hs⟩
theorem mk_ok : ∀ (ys : List ByteArray) (Fs : List Fo), (∀ y ∈ ys, y.size ≤ maxLen) → (∀ F ∈ Fs, ∀ x ∈ Tp.flat F, Nok x) → ∀ x ∈ Tp.flat (mkC ys Fs), Nok x
  | [], _, _, _, x, hx => by simp [mkC] at hx
  | _ :: _, [], _, _, x, hx => by simp [mkC] at hx
  | y :: ys, .nil :: Fs, _, _, x, hx => by simp [mkC] at hx
  | y :: ys, .node k y' n s c r :: Fs, h1, h2, x, hx => by
    rw [mkC, Tp.flat_node] at hx
    have h3 := h2 _ (List.mem_cons_self ..)
    rw [Tp.flat_node] at h3
    rcases List.mem_cons.1 hx with rfl | hx
    · have := h3 _ (List.mem_cons_self ..)
      exact ⟨this.1, h1 y (List.mem_cons_self ..), this.2.2⟩
    · rcases List.mem_append.1 hx with hx | hx
      · exact h3 x (List.mem_cons_of_mem _ (List.mem_append_left _ hx))
      · exact mk_ok ys Fs (fun z hz => h1 z (List.mem_cons_of_mem _ hz)) (fun F hF => h2 F (List.mem_cons_of_mem _ hF)) x hx
theorem mk_small : ∀ (ys : List ByteArray) (Fs : List Fo), (∀ y ∈ ys, y.size ≤ 10) → (∀ F ∈ Fs, Jr.Small 10 10 F) → Jr.Small 10 10 (mkC ys Fs)
  | [], _, _, _, x, hx => by simp [mkC] at hx
  | _ :: _, [], _, _, x, hx => by simp [mkC] at hx
  | y :: ys, .nil :: Fs, _, _, x, hx => by simp [mkC] at hx
  | y :: ys, .node k y' n s c r :: Fs, h1, h2, x, hx => by
    rw [mkC, Tp.flat_node] at hx
    have h3 := h2 _ (List.mem_cons_self ..)
    unfold Jr.Small at h3
    rw [Tp.flat_node] at h3
    rcases List.mem_cons.1 hx with rfl | hx
    · have := h3 _ (List.mem_cons_self ..)
      exact ⟨h1 y (List.mem_cons_self ..), this.2.1, this.2.2⟩
    · rcases List.mem_append.1 hx with hx | hx
      · exact h3 x (List.mem_cons_of_mem _ (List.mem_append_left _ hx))
      · exact mk_small ys Fs (fun z hz => h1 z (List.mem_cons_of_mem _ hz)) (fun F hF => h2 F (List.mem_cons_of_mem _ hF)) x hx
theorem each_all {w : World} {ss : List Sl} {Fs : List Fo} (h : EachO w ss (Fs.map Tp.flat)) : ∀ F ∈ Fs, ∀ x ∈ Tp.flat F, Nok x := by
  intro F hF
  obtain ⟨i, hi, e⟩ := List.getElem_of_mem hF
  have h1 : (Fs.map Tp.flat)[i]? = some (Tp.flat F) := by rw [List.getElem?_map, List.getElem?_eq_getElem hi, e]; rfl
  have hl : i < ss.length := by rw [h.1]; simpa using hi
  exact (h.2 i _ _ (List.getElem?_eq_getElem hl) h1).2
/-- The list, or the object, that comes of parts. -/
theorem put_ok {w wx : World} {B g gw D : Nat} {ns ns2 nx : List Int} {kv lv : Value} {ss : List Sl} {ys zs : List ByteArray} {Fs : List Fo} {K : Int} (hK : K = 6 ∨ K = 7) (h : LS w wx B g gw D ns2 nx kv lv ss ys Fs 0) (hz : zs.length = Fs.length) (hko : Tp.ko K zs) (hzs : ∀ z ∈ zs, z.size ≤ 5) (hns : ns2.length + 2 ≤ ns.length) (hlen : ns.length ≤ 150) (hD : 1 ≤ D ∧ D ≤ 6) :
    JoinIs K zs (Fs.map Tp.flat) (Tp.flat (.node K ⟨#[]⟩ 0 ⟨#[]⟩ (mkC zs Fs) .nil)) 0 ∧ (∀ base v wz, OwnN wz base v (Tp.flat (.node K ⟨#[]⟩ 0 ⟨#[]⟩ (mkC zs Fs) .nil)) → w.heap.size ≤ base → Touch (fun i => i = g) w wz → SV wz B g nx → VOk w wz B g ns D v (.node K ⟨#[]⟩ 0 ⟨#[]⟩ (mkC zs Fs) .nil) nx) := by
  have hm := mk_is zs Fs hz h.root
  have h1 := h.sz
  have h2 := h.few
  have hsz := hm.sz
  have hdp := (hm.dep (7 - D)).2 h.dep
  have hg := hm.good h.good
  have hok : Tp.ko K (Tp.keys (mkC zs Fs)) := by rw [hm.keys]; exact hko
  refine ⟨?_, fun base v wz ho hb ht hs => ⟨Gn.Own.lower ho hb, ⟨K, 0, ⟨#[]⟩, _, rfl⟩, ⟨.inr (.inr (.inr ⟨hK, rfl, rfl⟩)), fun hk5 => by omega, hok, hg, trivial⟩, ?_, ?_, ?_, ?_, ht, hs⟩⟩
  · have := join_is hK hg hok (by omega) (by omega) (r := Tp.flat (.node K ⟨#[]⟩ 0 ⟨#[]⟩ (mkC zs Fs) .nil)) (x := 0) (.inl ⟨by omega, by omega, rfl, rfl⟩)
    rw [hm.keys, hm.cks] at this
    exact this
  · rw [Tp.sz_node, Tp.sz_nil]; omega
  · simp only [Tp.dep]; omega
  · intro x hx
    rw [Tp.flat_node] at hx
    rcases List.mem_cons.1 hx with rfl | hx
    · exact ⟨by simp only; omega, Nat.zero_le _, by simp only; omega, Nat.zero_le _, by simp only; omega⟩
    · rw [Tp.flat_nil, List.append_nil] at hx
      exact mk_ok zs Fs (fun z hz => by have := hzs z hz; unfold maxLen; omega) (each_all h.each) x hx
  · intro x hx
    rw [Tp.flat_node] at hx
    rcases List.mem_cons.1 hx with rfl | hx
    · exact ⟨Nat.zero_le _, Nat.zero_le _, by simp only; omega⟩
    · rw [Tp.flat_nil, List.append_nil] at hx
      exact mk_small zs Fs (fun z hz => by have := hzs z hz; omega) h.sml x hx
def letter (j : Nat) : ByteArray := (⟨#[97, 98, 99, 100, 101]⟩ : ByteArray).extract j (j + 1)
theorem letter_ok (j : Nat) (h : j ≤ 4) : Utf.vld (bl (letter j)) = true ∧ (letter j).size = 1 := by
  rcases (show j = 0 ∨ j = 1 ∨ j = 2 ∨ j = 3 ∨ j = 4 by omega) with rfl | rfl | rfl | rfl | rfl <;> exact ⟨by kernel_rfl, by kernel_rfl⟩
theorem letter_bl (j : Nat) (h : j ≤ 4) : bl (letter j) = [97 + j] := by
  rcases (show j = 0 ∨ j = 1 ∨ j = 2 ∨ j = 3 ∨ j = 4 by omega) with rfl | rfl | rfl | rfl | rfl <;> rfl
theorem letter_run (j : Nat) (h : j ≤ 4) (w : World) : (Instr.slice 9 (.string ⟨#[97, 98, 99, 100, 101]⟩) (some (.int .i64 (j : Nat))) (some (.int .i64 ((j : Nat) + 1))) none).run Tryd.prog w = .ok (.string (letter j)) w := by
  rcases (show j = 0 ∨ j = 1 ∨ j = 2 ∨ j = 3 ∨ j = 4 by omega) with rfl | rfl | rfl | rfl | rfl <;> rfl
theorem touch_grown {w w' : World} {row : Option Nat} (hg : w.grownBy w' row) : Touch (fun i => row = some i) w w' := ⟨hg.os, hg.tape, hg.output, hg.size, fun k hk hn => hg.block k hk (fun e => hn e.symm)⟩
theorem touch_row {g : Nat} {w a b : World} {row : Option Nat} (h : Touch (fun i => i = g) w a) (hg : a.grownBy b row) (hr : ∀ i, row = some i → w.heap.size ≤ i) : Touch (fun i => i = g) w b := h.trans (touch_grown hg) (fun i hi => .inr (hr i hi))
theorem SV.row {w w' : World} {B g W0 : Nat} {ns : List Int} {row : Option Nat} (h : SV w B g ns) (hg : w.grownBy w' row) (hr : ∀ i, row = some i → W0 ≤ i) (hlt : g < W0) : SV w' B g ns := by
  obtain ⟨v, h1, h2⟩ := h.at_
  have ht := touch_grown hg
  have hlo := h.lo
  refine ⟨⟨v, h1.touch ht (fun e => by have := hr g e; omega), Gn.Rd.below h2 (ht.below (B := B) (by have := h.lt; omega) (fun i hi => by have := hr i hi; omega)) (Nat.le_refl _)⟩, h.lo, h.ok⟩
theorem SV.drew {w : World} {B g : Nat} {ns : List Int} (h : SV w B g ns) : SV w.drew B g ns := by
  obtain ⟨v, h1, h2⟩ := h.at_
  exact ⟨⟨v, h1, Gn.Rd.below h2 (Below.refl B w).drew (Nat.le_refl _)⟩, h.lo, h.ok⟩
theorem touch_undrew {g : Nat} {a b c : World} (h : Touch (fun i => i = g) a b) (k : Touch (fun i => i = g) b.drew c) : Touch (fun i => i = g) a c := touch_trans h (Touch.undrew k)

def wordAt (k : Nat) : ByteArray := wordsL.getD k ⟨#[]⟩
theorem words_mem (k : Nat) (h : k < 10) : wordAt k ∈ wordsL := by
  have h' : k < wordsL.length := by simpa [wordsL] using h
  rw [wordAt, List.getD, List.getElem?_eq_getElem h']
  exact List.getElem_mem h'
theorem _root_.Go.Proofs.YtgmdjofnkbaflaaDoor.Blk.words {w : World} {g : Nat} (h : Blk w g 9 (wordsL.map Value.string)) : ∀ k, k < 10 → w.cell? ⟨g, k, none⟩ = some (.string (wordAt k)) := by
  intro k hk
  have h' : k < wordsL.length := by simpa [wordsL] using hk
  rw [h.cell k, List.getElem?_map, wordAt, List.getD, List.getElem?_eq_getElem h']
  rfl
theorem no_over8 (a b : ByteArray) (h : a.size + b.size ≤ 100) : ¬ 9223372036854775807 < a.size + b.size := by omega
theorem LS.new {w wx : World} {B g gw D : Nat} {ns2 nx : List Int} {kv lv : Value} {ss : List Sl} {ys : List ByteArray} {Fs : List Fo} {j : Nat} {s : ByteArray} (h : LS w wx B g gw D ns2 nx kv lv ss ys Fs j) (hj : j ≤ 4) (hj0 : 0 < j) (hs : Utf.vld (bl s) = true ∧ s.size ≤ 4) :
    (∀ y ∈ ys ++ [s ++ letter j], (Utf.vld (bl y) = true ∧ y.size ≤ 5) ∧ ∃ s i, bl y = bl s ++ [97 + i] ∧ j - 1 < i) ∧ (ys ++ [s ++ letter j]).Nodup := by
  obtain ⟨l1, l2⟩ := letter_ok j hj
  have lb := letter_bl j hj
  constructor
  · intro y hy
    rcases List.mem_append.1 hy with hy | hy
    · obtain ⟨k1, s', i, k2, k3⟩ := h.kok y hy
      exact ⟨k1, s', i, k2, by omega⟩
    · rw [List.mem_singleton.1 hy]
      refine ⟨⟨?_, by rw [ByteArray.size_append, l2]; omega⟩, s, j, by rw [bl_append, lb], by omega⟩
      rw [bl_append]
      obtain ⟨rs, hrs, e⟩ := Utf.vld_runes _ (bl s) (Nat.le_refl _) (bl_byte s) hs.1
      rw [e, Utf.vld_encs rs _ hrs]
      exact l1
  · rw [List.nodup_append]
    refine ⟨h.nod, by simp, fun a ha b hb e => ?_⟩
    rw [List.mem_singleton.1 hb] at e
    obtain ⟨_, s', i, k2, k3⟩ := h.kok a ha
    rw [e, bl_append, lb] at k2
    have := (List.append_inj' k2 rfl).2
    simp at this
    omega

set_option maxHeartbeats 40000000 in
theorem sval_step (D : Nat) (hD : 1 ≤ D ∧ D ≤ 7) (IH : D ≤ 6 → SClaimV (D + 1)) : SClaimV D := by
  intro B g ns w hV hB hlen T
  have HV := Lib.hid hV
  have HIH := Lib.hid IH
  have CN := Lib.hid (snext 8 B g ns w (by omega) hV)
  have HTW := Lib.hid T
  clear hV T IH
  go_enter Tryd.func43, Tryd.ntmps43
  go_wp2_with fail
  ((with_reducible refine (CN.out).mono ?_); rintro e w1 ⟨k0, rfl, hk0, ht, hs⟩)
  obtain ⟨wv, hwv⟩ : ∃ wv, wv = w1.alloc (.cells #[.string ⟨#[]⟩, .string ⟨#[97]⟩, .string ⟨#[98]⟩, .string ⟨#[97, 98]⟩, .string ⟨#[0]⟩, .string ⟨#[195, 164]⟩, .string ⟨#[34, 92]⟩, .string ⟨#[122]⟩, .string ⟨#[240, 159, 152, 128]⟩, .string ⟨#[10, 31, 47]⟩] 9) := ⟨_, rfl⟩
  have bv : Below w1.heap.size w1 wv := by rw [hwv]; exact up_new w1 _
  have HWD : Hid (Blk wv w1.heap.size 9 (wordsL.map Value.string)) := Lib.hid (by rw [hwv]; exact Blk.new w1 _ _)
  have hlo := ht.size
  have hglt := hs.lt
  have hghi := HV.out.lt
  have HT1 := Lib.hid (touch_trans ht (touch_new bv))
  have HS1 := Lib.hid (hs.later bv)
  have HTB := Lib.hid (HV.out.tab HTW.out hB (touch_trans ht (touch_new bv)))
  obtain ⟨sv, hbk, hri⟩ := hs.at_
  obtain ⟨sa, sc, rfl, _⟩ := Gn.Rd.form hri
  have c0 := hbk.cell 0
  simp only [List.getElem?_cons_zero] at c0
  obtain ⟨M, hM⟩ : ∃ M, ns.tail.length = M := ⟨_, rfl⟩
  have HM := Lib.hid hM
  rw [hM] at c0
  clear ht hs hbk hri hM CN bv
  have hk08 : k0 = 0 ∨ k0 = 1 ∨ k0 = 2 ∨ k0 = 3 ∨ k0 = 4 ∨ k0 = 5 ∨ k0 = 6 ∨ k0 = 7 := by omega
  by_cases h6 : 6 < D
  · have h6' : (6 : Int) < (D : Nat) := by omega
    rcases hk08 with rfl | rfl | rfl | rfl | rfl | rfl | rfl | rfl
    · have C := Lib.hid (mkNull wv)
      go_wp2_with fail
      rw [← hwv]
      ((with_reducible refine (C.out).mono ?_); rintro e w2 ⟨v, rfl, ho, b⟩)
      have HF := Lib.hid (leaf_ok (w := w) (w1 := wv) (D := D) (ns := ns) ho HT1.out.size null_hf hD.2 (by omega) (by decide) (touch_trans HT1.out (touch_new b)) (HS1.out.later b) (tail_len ns))
      clear ho b C
      go_wp2_with fail
      go_ret
      exact ⟨_, _, _, rfl, HF.out⟩
    · have C := Lib.hid (snext 2 B g ns.tail wv (by omega) HS1.out)
      go_wp2_with fail
      rw [← hwv]
      ((with_reducible refine (C.out).mono ?_); rintro e w2 ⟨k2, rfl, _, ht, hs⟩)
      have HT2 := Lib.hid (touch_trans HT1.out ht)
      have HS2 := Lib.hid hs
      have C2 := Lib.hid (mkBool ((k2 : Int) == 1) w2)
      clear ht hs C
      go_wp2_with fail
      ((with_reducible refine (C2.out).mono ?_); rintro e w3 ⟨v, rfl, ho, b⟩)
      have HF := Lib.hid (leaf_ok (w := w) (w1 := wv) (D := D) (ns := ns) ho HT2.out.size (bool_hf _) hD.2 (by omega) (by decide) (touch_trans HT2.out (touch_new b)) (HS2.out.later b) (Nat.le_trans (tail_len _) (tail_len ns)))
      clear ho b C2
      go_wp2_with fail
      go_ret
      exact ⟨_, _, _, rfl, HF.out⟩
    · have CX := Lib.hid (snext 1125899906842624 B g ns.tail wv (by omega) HS1.out)
      go_wp2_with fail
      rw [← hwv]
      ((with_reducible refine (CX.out).mono ?_); rintro e wx ⟨kx, rfl, hkx, htx, hsx⟩)
      have HTX := Lib.hid (touch_trans HT1.out htx)
      have HSX := Lib.hid hsx
      clear htx hsx CX
      obtain ⟨z, hz⟩ : ∃ z : Int, (kx : Int) - 562949953421312 = z := ⟨_, rfl⟩
      have hzb : -562949953421312 ≤ z ∧ z ≤ 562949953421312 := by omega
      obtain ⟨wa, hwa⟩ : ∃ wa, wa = wx.alloc (.cells #[.int .i64 0, .int .i64 10, .int .i64 (-1), .int .i64 9223372036854775807, .int .i64 (-9223372036854775808), .int .i64 z] 2) := ⟨_, rfl⟩
      have HU : Hid (Below wx.heap.size wx wa) := Lib.hid (by rw [hwa]; exact up_new wx _)
      have HBK : Hid (Blk wa wx.heap.size 2 ((numsL z).map (fun x => .int .i64 x))) := Lib.hid (by rw [hwa]; exact Blk.new wx _ _)
      have C := Lib.hid (snext 6 B g ns.tail.tail wa (by omega) (HSX.out.later HU.out))
      have hg1 := HSX.out.lt
      have HZB := Lib.hid hzb
      rw [hwa] at C
      clear hzb
      go_wp2_with fail
      ((with_reducible refine (C.out).mono ?_); rintro e w2 ⟨k2, rfl, hk2, ht, hs⟩)
      rw [← hwa] at ht
      have HT2 := Lib.hid (touch_trans HTX.out (touch_trans (touch_new HU.out) ht))
      have HS2 := Lib.hid hs
      have HB2 := HBK.out.touch ht (by omega)
      have hk6 : k2 < 6 := by omega
      have hc := HB2.cell k2
      obtain ⟨x, hx⟩ : ∃ x, (numsL z)[k2]? = some x := ⟨_, List.getElem?_eq_getElem (by simpa [numsL] using hk6)⟩
      have HX := Lib.hid (num_ok z HZB.out x (List.mem_of_getElem? hx))
      rw [List.getElem?_map, hx] at hc
      simp only [Option.map_some] at hc
      have C2 := Lib.hid (mkNum x w2)
      clear ht hs HB2 hx hwa C hz
      go_wp2_with fail
      ((with_reducible refine (C2.out).mono ?_); rintro e w3 ⟨v, rfl, ho, b⟩)
      have HF := Lib.hid (leaf_ok (w := w) (w1 := wv) (D := D) (ns := ns) ho HT2.out.size (num_hf x) hD.2 HX.out (by decide) (touch_trans HT2.out (touch_new b)) (HS2.out.later b) (Nat.le_trans (tail_len _) (Nat.le_trans (tail_len _) (tail_len ns))))
      clear ho b C2
      go_wp2_with fail
      go_ret
      exact ⟨_, _, _, rfl, HF.out⟩
    · have CX := Lib.hid (snext 1125899906842624 B g ns.tail wv (by omega) HS1.out)
      go_wp2_with fail
      rw [← hwv]
      ((with_reducible refine (CX.out).mono ?_); rintro e wx ⟨kx, rfl, hkx, htx, hsx⟩)
      have HTX := Lib.hid (touch_trans HT1.out htx)
      have HSX := Lib.hid hsx
      clear htx hsx CX
      obtain ⟨z, hz⟩ : ∃ z : Int, (kx : Int) - 562949953421312 = z := ⟨_, rfl⟩
      have hzb : -562949953421312 ≤ z ∧ z ≤ 562949953421312 := by omega
      obtain ⟨wa, hwa⟩ : ∃ wa, wa = wx.alloc (.cells #[.int .i64 0, .int .i64 10, .int .i64 (-1), .int .i64 9223372036854775807, .int .i64 (-9223372036854775808), .int .i64 z] 2) := ⟨_, rfl⟩
      have HU : Hid (Below wx.heap.size wx wa) := Lib.hid (by rw [hwa]; exact up_new wx _)
      have HBK : Hid (Blk wa wx.heap.size 2 ((numsL z).map (fun x => .int .i64 x))) := Lib.hid (by rw [hwa]; exact Blk.new wx _ _)
      have C := Lib.hid (snext 6 B g ns.tail.tail wa (by omega) (HSX.out.later HU.out))
      have hg1 := HSX.out.lt
      have HZB := Lib.hid hzb
      rw [hwa] at C
      clear hzb
      go_wp2_with fail
      ((with_reducible refine (C.out).mono ?_); rintro e w2 ⟨k2, rfl, hk2, ht, hs⟩)
      rw [← hwa] at ht
      have HT2 := Lib.hid (touch_trans HTX.out (touch_trans (touch_new HU.out) ht))
      have HS2 := Lib.hid hs
      have HB2 := HBK.out.touch ht (by omega)
      have hk6 : k2 < 6 := by omega
      have hc := HB2.cell k2
      obtain ⟨x, hx⟩ : ∃ x, (numsL z)[k2]? = some x := ⟨_, List.getElem?_eq_getElem (by simpa [numsL] using hk6)⟩
      have HX := Lib.hid (num_ok z HZB.out x (List.mem_of_getElem? hx))
      rw [List.getElem?_map, hx] at hc
      simp only [Option.map_some] at hc
      have C2 := Lib.hid (mkNum x w2)
      clear ht hs HB2 hx hwa C hz
      go_wp2_with fail
      ((with_reducible refine (C2.out).mono ?_); rintro e w3 ⟨v, rfl, ho, b⟩)
      have HF := Lib.hid (leaf_ok (w := w) (w1 := wv) (D := D) (ns := ns) ho HT2.out.size (num_hf x) hD.2 HX.out (by decide) (touch_trans HT2.out (touch_new b)) (HS2.out.later b) (Nat.le_trans (tail_len _) (Nat.le_trans (tail_len _) (tail_len ns))))
      clear ho b C2
      go_wp2_with fail
      go_ret
      exact ⟨_, _, _, rfl, HF.out⟩
    · have C := Lib.hid (snext 10 B g ns.tail wv (by omega) HS1.out)
      go_wp2_with fail
      rw [← hwv]
      ((with_reducible refine (C.out).mono ?_); rintro e w2 ⟨k2, rfl, hk2, ht, hs⟩)
      have HT2 := Lib.hid (touch_trans HT1.out ht)
      have HS2 := Lib.hid hs
      have HB2 := HWD.out.touch ht (by omega)
      have hk10 : k2 < 10 := by omega
      have hc := HB2.cell k2
      obtain ⟨s, hx⟩ : ∃ s, wordsL[k2]? = some s := ⟨_, List.getElem?_eq_getElem (by simpa [wordsL] using hk10)⟩
      have HW := Lib.hid (word_ok s (List.mem_of_getElem? hx))
      rw [List.getElem?_map, hx] at hc
      simp only [Option.map_some] at hc
      have C2 : Hid (Calls Tryd.prog 42 #[.string s] w2 fun e w' => MkPost w2 [nd1 5 0 s] e w') := Lib.hid (by
        have h := mkStr s w2 (HS1.out.tab HTB.out hB ht) (by have := HW.out.2; unfold maxLen; omega)
        unfold strL at h
        rwa [if_pos HW.out.1] at h)
      clear ht hs C HB2 hx
      go_wp2_with fail
      ((with_reducible refine (C2.out).mono ?_); rintro e w3 ⟨v, rfl, ho, b⟩)
      have HF := Lib.hid (leaf_ok (w := w) (w1 := wv) (D := D) (ns := ns) ho HT2.out.size (.inr (.inr (.inl ⟨rfl, rfl, HW.out.1⟩))) hD.2 (by omega) (by have := HW.out.2; omega) (touch_trans HT2.out (touch_new b)) (HS2.out.later b) (Nat.le_trans (tail_len _) (tail_len ns)))
      clear ho b C2
      go_wp2_with fail
      go_ret
      exact ⟨_, _, _, rfl, HF.out⟩
    · have C := Lib.hid (mkNull wv)
      go_wp2_with fail
      rw [← hwv]
      ((with_reducible refine (C.out).mono ?_); rintro e w2 ⟨v, rfl, ho, b⟩)
      have HF := Lib.hid (leaf_ok (w := w) (w1 := wv) (D := D) (ns := ns) ho HT1.out.size null_hf hD.2 (by omega) (by decide) (touch_trans HT1.out (touch_new b)) (HS1.out.later b) (tail_len ns))
      clear ho b C
      go_wp2_with fail
      go_ret
      exact ⟨_, _, _, rfl, HF.out⟩
    · have C := Lib.hid (snext 2 B g ns.tail wv (by omega) HS1.out)
      go_wp2_with fail
      rw [← hwv]
      ((with_reducible refine (C.out).mono ?_); rintro e w2 ⟨k2, rfl, _, ht, hs⟩)
      have HT2 := Lib.hid (touch_trans HT1.out ht)
      have HS2 := Lib.hid hs
      have C2 := Lib.hid (mkBool ((k2 : Int) == 1) w2)
      clear ht hs C
      go_wp2_with fail
      ((with_reducible refine (C2.out).mono ?_); rintro e w3 ⟨v, rfl, ho, b⟩)
      have HF := Lib.hid (leaf_ok (w := w) (w1 := wv) (D := D) (ns := ns) ho HT2.out.size (bool_hf _) hD.2 (by omega) (by decide) (touch_trans HT2.out (touch_new b)) (HS2.out.later b) (Nat.le_trans (tail_len _) (tail_len ns)))
      clear ho b C2
      go_wp2_with fail
      go_ret
      exact ⟨_, _, _, rfl, HF.out⟩
    · have CX := Lib.hid (snext 1125899906842624 B g ns.tail wv (by omega) HS1.out)
      go_wp2_with fail
      rw [← hwv]
      ((with_reducible refine (CX.out).mono ?_); rintro e wx ⟨kx, rfl, hkx, htx, hsx⟩)
      have HTX := Lib.hid (touch_trans HT1.out htx)
      have HSX := Lib.hid hsx
      clear htx hsx CX
      obtain ⟨z, hz⟩ : ∃ z : Int, (kx : Int) - 562949953421312 = z := ⟨_, rfl⟩
      have hzb : -562949953421312 ≤ z ∧ z ≤ 562949953421312 := by omega
      obtain ⟨wa, hwa⟩ : ∃ wa, wa = wx.alloc (.cells #[.int .i64 0, .int .i64 10, .int .i64 (-1), .int .i64 9223372036854775807, .int .i64 (-9223372036854775808), .int .i64 z] 2) := ⟨_, rfl⟩
      have HU : Hid (Below wx.heap.size wx wa) := Lib.hid (by rw [hwa]; exact up_new wx _)
      have HBK : Hid (Blk wa wx.heap.size 2 ((numsL z).map (fun x => .int .i64 x))) := Lib.hid (by rw [hwa]; exact Blk.new wx _ _)
      have C := Lib.hid (snext 6 B g ns.tail.tail wa (by omega) (HSX.out.later HU.out))
      have hg1 := HSX.out.lt
      have HZB := Lib.hid hzb
      rw [hwa] at C
      clear hzb
      go_wp2_with fail
      ((with_reducible refine (C.out).mono ?_); rintro e w2 ⟨k2, rfl, hk2, ht, hs⟩)
      rw [← hwa] at ht
      have HT2 := Lib.hid (touch_trans HTX.out (touch_trans (touch_new HU.out) ht))
      have HS2 := Lib.hid hs
      have HB2 := HBK.out.touch ht (by omega)
      have hk6 : k2 < 6 := by omega
      have hc := HB2.cell k2
      obtain ⟨x, hx⟩ : ∃ x, (numsL z)[k2]? = some x := ⟨_, List.getElem?_eq_getElem (by simpa [numsL] using hk6)⟩
      have HX := Lib.hid (num_ok z HZB.out x (List.mem_of_getElem? hx))
      rw [List.getElem?_map, hx] at hc
      simp only [Option.map_some] at hc
      have C2 := Lib.hid (mkNum x w2)
      clear ht hs HB2 hx hwa C hz
      go_wp2_with fail
      ((with_reducible refine (C2.out).mono ?_); rintro e w3 ⟨v, rfl, ho, b⟩)
      have HF := Lib.hid (leaf_ok (w := w) (w1 := wv) (D := D) (ns := ns) ho HT2.out.size (num_hf x) hD.2 HX.out (by decide) (touch_trans HT2.out (touch_new b)) (HS2.out.later b) (Nat.le_trans (tail_len _) (Nat.le_trans (tail_len _) (tail_len ns))))
      clear ho b C2
      go_wp2_with fail
      go_ret
      exact ⟨_, _, _, rfl, HF.out⟩
  · by_cases h0 : M = 0
    · have h6' : ¬ (6 : Int) < (D : Nat) := by omega
      subst h0
      rcases hk08 with rfl | rfl | rfl | rfl | rfl | rfl | rfl | rfl
      · have C := Lib.hid (mkNull wv)
        go_wp2_with fail
        rw [← hwv]
        ((with_reducible refine (C.out).mono ?_); rintro e w2 ⟨v, rfl, ho, b⟩)
        have HF := Lib.hid (leaf_ok (w := w) (w1 := wv) (D := D) (ns := ns) ho HT1.out.size null_hf hD.2 (by omega) (by decide) (touch_trans HT1.out (touch_new b)) (HS1.out.later b) (tail_len ns))
        clear ho b C
        go_wp2_with fail
        go_ret
        exact ⟨_, _, _, rfl, HF.out⟩
      · have C := Lib.hid (snext 2 B g ns.tail wv (by omega) HS1.out)
        go_wp2_with fail
        rw [← hwv]
        ((with_reducible refine (C.out).mono ?_); rintro e w2 ⟨k2, rfl, _, ht, hs⟩)
        have HT2 := Lib.hid (touch_trans HT1.out ht)
        have HS2 := Lib.hid hs
        have C2 := Lib.hid (mkBool ((k2 : Int) == 1) w2)
        clear ht hs C
        go_wp2_with fail
        ((with_reducible refine (C2.out).mono ?_); rintro e w3 ⟨v, rfl, ho, b⟩)
        have HF := Lib.hid (leaf_ok (w := w) (w1 := wv) (D := D) (ns := ns) ho HT2.out.size (bool_hf _) hD.2 (by omega) (by decide) (touch_trans HT2.out (touch_new b)) (HS2.out.later b) (Nat.le_trans (tail_len _) (tail_len ns)))
        clear ho b C2
        go_wp2_with fail
        go_ret
        exact ⟨_, _, _, rfl, HF.out⟩
      · have CX := Lib.hid (snext 1125899906842624 B g ns.tail wv (by omega) HS1.out)
        go_wp2_with fail
        rw [← hwv]
        ((with_reducible refine (CX.out).mono ?_); rintro e wx ⟨kx, rfl, hkx, htx, hsx⟩)
        have HTX := Lib.hid (touch_trans HT1.out htx)
        have HSX := Lib.hid hsx
        clear htx hsx CX
        obtain ⟨z, hz⟩ : ∃ z : Int, (kx : Int) - 562949953421312 = z := ⟨_, rfl⟩
        have hzb : -562949953421312 ≤ z ∧ z ≤ 562949953421312 := by omega
        obtain ⟨wa, hwa⟩ : ∃ wa, wa = wx.alloc (.cells #[.int .i64 0, .int .i64 10, .int .i64 (-1), .int .i64 9223372036854775807, .int .i64 (-9223372036854775808), .int .i64 z] 2) := ⟨_, rfl⟩
        have HU : Hid (Below wx.heap.size wx wa) := Lib.hid (by rw [hwa]; exact up_new wx _)
        have HBK : Hid (Blk wa wx.heap.size 2 ((numsL z).map (fun x => .int .i64 x))) := Lib.hid (by rw [hwa]; exact Blk.new wx _ _)
        have C := Lib.hid (snext 6 B g ns.tail.tail wa (by omega) (HSX.out.later HU.out))
        have hg1 := HSX.out.lt
        have HZB := Lib.hid hzb
        rw [hwa] at C
        clear hzb
        go_wp2_with fail
        ((with_reducible refine (C.out).mono ?_); rintro e w2 ⟨k2, rfl, hk2, ht, hs⟩)
        rw [← hwa] at ht
        have HT2 := Lib.hid (touch_trans HTX.out (touch_trans (touch_new HU.out) ht))
        have HS2 := Lib.hid hs
        have HB2 := HBK.out.touch ht (by omega)
        have hk6 : k2 < 6 := by omega
        have hc := HB2.cell k2
        obtain ⟨x, hx⟩ : ∃ x, (numsL z)[k2]? = some x := ⟨_, List.getElem?_eq_getElem (by simpa [numsL] using hk6)⟩
        have HX := Lib.hid (num_ok z HZB.out x (List.mem_of_getElem? hx))
        rw [List.getElem?_map, hx] at hc
        simp only [Option.map_some] at hc
        have C2 := Lib.hid (mkNum x w2)
        clear ht hs HB2 hx hwa C hz
        go_wp2_with fail
        ((with_reducible refine (C2.out).mono ?_); rintro e w3 ⟨v, rfl, ho, b⟩)
        have HF := Lib.hid (leaf_ok (w := w) (w1 := wv) (D := D) (ns := ns) ho HT2.out.size (num_hf x) hD.2 HX.out (by decide) (touch_trans HT2.out (touch_new b)) (HS2.out.later b) (Nat.le_trans (tail_len _) (Nat.le_trans (tail_len _) (tail_len ns))))
        clear ho b C2
        go_wp2_with fail
        go_ret
        exact ⟨_, _, _, rfl, HF.out⟩
      · have CX := Lib.hid (snext 1125899906842624 B g ns.tail wv (by omega) HS1.out)
        go_wp2_with fail
        rw [← hwv]
        ((with_reducible refine (CX.out).mono ?_); rintro e wx ⟨kx, rfl, hkx, htx, hsx⟩)
        have HTX := Lib.hid (touch_trans HT1.out htx)
        have HSX := Lib.hid hsx
        clear htx hsx CX
        obtain ⟨z, hz⟩ : ∃ z : Int, (kx : Int) - 562949953421312 = z := ⟨_, rfl⟩
        have hzb : -562949953421312 ≤ z ∧ z ≤ 562949953421312 := by omega
        obtain ⟨wa, hwa⟩ : ∃ wa, wa = wx.alloc (.cells #[.int .i64 0, .int .i64 10, .int .i64 (-1), .int .i64 9223372036854775807, .int .i64 (-9223372036854775808), .int .i64 z] 2) := ⟨_, rfl⟩
        have HU : Hid (Below wx.heap.size wx wa) := Lib.hid (by rw [hwa]; exact up_new wx _)
        have HBK : Hid (Blk wa wx.heap.size 2 ((numsL z).map (fun x => .int .i64 x))) := Lib.hid (by rw [hwa]; exact Blk.new wx _ _)
        have C := Lib.hid (snext 6 B g ns.tail.tail wa (by omega) (HSX.out.later HU.out))
        have hg1 := HSX.out.lt
        have HZB := Lib.hid hzb
        rw [hwa] at C
        clear hzb
        go_wp2_with fail
        ((with_reducible refine (C.out).mono ?_); rintro e w2 ⟨k2, rfl, hk2, ht, hs⟩)
        rw [← hwa] at ht
        have HT2 := Lib.hid (touch_trans HTX.out (touch_trans (touch_new HU.out) ht))
        have HS2 := Lib.hid hs
        have HB2 := HBK.out.touch ht (by omega)
        have hk6 : k2 < 6 := by omega
        have hc := HB2.cell k2
        obtain ⟨x, hx⟩ : ∃ x, (numsL z)[k2]? = some x := ⟨_, List.getElem?_eq_getElem (by simpa [numsL] using hk6)⟩
        have HX := Lib.hid (num_ok z HZB.out x (List.mem_of_getElem? hx))
        rw [List.getElem?_map, hx] at hc
        simp only [Option.map_some] at hc
        have C2 := Lib.hid (mkNum x w2)
        clear ht hs HB2 hx hwa C hz
        go_wp2_with fail
        ((with_reducible refine (C2.out).mono ?_); rintro e w3 ⟨v, rfl, ho, b⟩)
        have HF := Lib.hid (leaf_ok (w := w) (w1 := wv) (D := D) (ns := ns) ho HT2.out.size (num_hf x) hD.2 HX.out (by decide) (touch_trans HT2.out (touch_new b)) (HS2.out.later b) (Nat.le_trans (tail_len _) (Nat.le_trans (tail_len _) (tail_len ns))))
        clear ho b C2
        go_wp2_with fail
        go_ret
        exact ⟨_, _, _, rfl, HF.out⟩
      · have C := Lib.hid (snext 10 B g ns.tail wv (by omega) HS1.out)
        go_wp2_with fail
        rw [← hwv]
        ((with_reducible refine (C.out).mono ?_); rintro e w2 ⟨k2, rfl, hk2, ht, hs⟩)
        have HT2 := Lib.hid (touch_trans HT1.out ht)
        have HS2 := Lib.hid hs
        have HB2 := HWD.out.touch ht (by omega)
        have hk10 : k2 < 10 := by omega
        have hc := HB2.cell k2
        obtain ⟨s, hx⟩ : ∃ s, wordsL[k2]? = some s := ⟨_, List.getElem?_eq_getElem (by simpa [wordsL] using hk10)⟩
        have HW := Lib.hid (word_ok s (List.mem_of_getElem? hx))
        rw [List.getElem?_map, hx] at hc
        simp only [Option.map_some] at hc
        have C2 : Hid (Calls Tryd.prog 42 #[.string s] w2 fun e w' => MkPost w2 [nd1 5 0 s] e w') := Lib.hid (by
          have h := mkStr s w2 (HS1.out.tab HTB.out hB ht) (by have := HW.out.2; unfold maxLen; omega)
          unfold strL at h
          rwa [if_pos HW.out.1] at h)
        clear ht hs C HB2 hx
        go_wp2_with fail
        ((with_reducible refine (C2.out).mono ?_); rintro e w3 ⟨v, rfl, ho, b⟩)
        have HF := Lib.hid (leaf_ok (w := w) (w1 := wv) (D := D) (ns := ns) ho HT2.out.size (.inr (.inr (.inl ⟨rfl, rfl, HW.out.1⟩))) hD.2 (by omega) (by have := HW.out.2; omega) (touch_trans HT2.out (touch_new b)) (HS2.out.later b) (Nat.le_trans (tail_len _) (tail_len ns)))
        clear ho b C2
        go_wp2_with fail
        go_ret
        exact ⟨_, _, _, rfl, HF.out⟩
      · have C := Lib.hid (mkNull wv)
        go_wp2_with fail
        rw [← hwv]
        ((with_reducible refine (C.out).mono ?_); rintro e w2 ⟨v, rfl, ho, b⟩)
        have HF := Lib.hid (leaf_ok (w := w) (w1 := wv) (D := D) (ns := ns) ho HT1.out.size null_hf hD.2 (by omega) (by decide) (touch_trans HT1.out (touch_new b)) (HS1.out.later b) (tail_len ns))
        clear ho b C
        go_wp2_with fail
        go_ret
        exact ⟨_, _, _, rfl, HF.out⟩
      · have C := Lib.hid (snext 2 B g ns.tail wv (by omega) HS1.out)
        go_wp2_with fail
        rw [← hwv]
        ((with_reducible refine (C.out).mono ?_); rintro e w2 ⟨k2, rfl, _, ht, hs⟩)
        have HT2 := Lib.hid (touch_trans HT1.out ht)
        have HS2 := Lib.hid hs
        have C2 := Lib.hid (mkBool ((k2 : Int) == 1) w2)
        clear ht hs C
        go_wp2_with fail
        ((with_reducible refine (C2.out).mono ?_); rintro e w3 ⟨v, rfl, ho, b⟩)
        have HF := Lib.hid (leaf_ok (w := w) (w1 := wv) (D := D) (ns := ns) ho HT2.out.size (bool_hf _) hD.2 (by omega) (by decide) (touch_trans HT2.out (touch_new b)) (HS2.out.later b) (Nat.le_trans (tail_len _) (tail_len ns)))
        clear ho b C2
        go_wp2_with fail
        go_ret
        exact ⟨_, _, _, rfl, HF.out⟩
      · have CX := Lib.hid (snext 1125899906842624 B g ns.tail wv (by omega) HS1.out)
        go_wp2_with fail
        rw [← hwv]
        ((with_reducible refine (CX.out).mono ?_); rintro e wx ⟨kx, rfl, hkx, htx, hsx⟩)
        have HTX := Lib.hid (touch_trans HT1.out htx)
        have HSX := Lib.hid hsx
        clear htx hsx CX
        obtain ⟨z, hz⟩ : ∃ z : Int, (kx : Int) - 562949953421312 = z := ⟨_, rfl⟩
        have hzb : -562949953421312 ≤ z ∧ z ≤ 562949953421312 := by omega
        obtain ⟨wa, hwa⟩ : ∃ wa, wa = wx.alloc (.cells #[.int .i64 0, .int .i64 10, .int .i64 (-1), .int .i64 9223372036854775807, .int .i64 (-9223372036854775808), .int .i64 z] 2) := ⟨_, rfl⟩
        have HU : Hid (Below wx.heap.size wx wa) := Lib.hid (by rw [hwa]; exact up_new wx _)
        have HBK : Hid (Blk wa wx.heap.size 2 ((numsL z).map (fun x => .int .i64 x))) := Lib.hid (by rw [hwa]; exact Blk.new wx _ _)
        have C := Lib.hid (snext 6 B g ns.tail.tail wa (by omega) (HSX.out.later HU.out))
        have hg1 := HSX.out.lt
        have HZB := Lib.hid hzb
        rw [hwa] at C
        clear hzb
        go_wp2_with fail
        ((with_reducible refine (C.out).mono ?_); rintro e w2 ⟨k2, rfl, hk2, ht, hs⟩)
        rw [← hwa] at ht
        have HT2 := Lib.hid (touch_trans HTX.out (touch_trans (touch_new HU.out) ht))
        have HS2 := Lib.hid hs
        have HB2 := HBK.out.touch ht (by omega)
        have hk6 : k2 < 6 := by omega
        have hc := HB2.cell k2
        obtain ⟨x, hx⟩ : ∃ x, (numsL z)[k2]? = some x := ⟨_, List.getElem?_eq_getElem (by simpa [numsL] using hk6)⟩
        have HX := Lib.hid (num_ok z HZB.out x (List.mem_of_getElem? hx))
        rw [List.getElem?_map, hx] at hc
        simp only [Option.map_some] at hc
        have C2 := Lib.hid (mkNum x w2)
        clear ht hs HB2 hx hwa C hz
        go_wp2_with fail
        ((with_reducible refine (C2.out).mono ?_); rintro e w3 ⟨v, rfl, ho, b⟩)
        have HF := Lib.hid (leaf_ok (w := w) (w1 := wv) (D := D) (ns := ns) ho HT2.out.size (num_hf x) hD.2 HX.out (by decide) (touch_trans HT2.out (touch_new b)) (HS2.out.later b) (Nat.le_trans (tail_len _) (Nat.le_trans (tail_len _) (tail_len ns))))
        clear ho b C2
        go_wp2_with fail
        go_ret
        exact ⟨_, _, _, rfl, HF.out⟩
    · have h6' : ¬ (6 : Int) < (D : Nat) := by omega
      have hM0 : ((M : Int) == 0) = false := by simp; omega
      have hM1 : 1 ≤ M := by omega
      have hD6 : D ≤ 6 := by omega
      rcases hk08 with rfl | rfl | rfl | rfl | rfl | rfl | rfl | rfl
      · have C := Lib.hid (mkNull wv)
        go_wp2_with fail
        rw [← hwv]
        ((with_reducible refine (C.out).mono ?_); rintro e w2 ⟨v, rfl, ho, b⟩)
        have HF := Lib.hid (leaf_ok (w := w) (w1 := wv) (D := D) (ns := ns) ho HT1.out.size null_hf hD.2 (by omega) (by decide) (touch_trans HT1.out (touch_new b)) (HS1.out.later b) (tail_len ns))
        clear ho b C
        go_wp2_with fail
        go_ret
        exact ⟨_, _, _, rfl, HF.out⟩
      · have C := Lib.hid (snext 2 B g ns.tail wv (by omega) HS1.out)
        go_wp2_with fail
        rw [← hwv]
        ((with_reducible refine (C.out).mono ?_); rintro e w2 ⟨k2, rfl, _, ht, hs⟩)
        have HT2 := Lib.hid (touch_trans HT1.out ht)
        have HS2 := Lib.hid hs
        have C2 := Lib.hid (mkBool ((k2 : Int) == 1) w2)
        clear ht hs C
        go_wp2_with fail
        ((with_reducible refine (C2.out).mono ?_); rintro e w3 ⟨v, rfl, ho, b⟩)
        have HF := Lib.hid (leaf_ok (w := w) (w1 := wv) (D := D) (ns := ns) ho HT2.out.size (bool_hf _) hD.2 (by omega) (by decide) (touch_trans HT2.out (touch_new b)) (HS2.out.later b) (Nat.le_trans (tail_len _) (tail_len ns)))
        clear ho b C2
        go_wp2_with fail
        go_ret
        exact ⟨_, _, _, rfl, HF.out⟩
      · have CX := Lib.hid (snext 1125899906842624 B g ns.tail wv (by omega) HS1.out)
        go_wp2_with fail
        rw [← hwv]
        ((with_reducible refine (CX.out).mono ?_); rintro e wx ⟨kx, rfl, hkx, htx, hsx⟩)
        have HTX := Lib.hid (touch_trans HT1.out htx)
        have HSX := Lib.hid hsx
        clear htx hsx CX
        obtain ⟨z, hz⟩ : ∃ z : Int, (kx : Int) - 562949953421312 = z := ⟨_, rfl⟩
        have hzb : -562949953421312 ≤ z ∧ z ≤ 562949953421312 := by omega
        obtain ⟨wa, hwa⟩ : ∃ wa, wa = wx.alloc (.cells #[.int .i64 0, .int .i64 10, .int .i64 (-1), .int .i64 9223372036854775807, .int .i64 (-9223372036854775808), .int .i64 z] 2) := ⟨_, rfl⟩
        have HU : Hid (Below wx.heap.size wx wa) := Lib.hid (by rw [hwa]; exact up_new wx _)
        have HBK : Hid (Blk wa wx.heap.size 2 ((numsL z).map (fun x => .int .i64 x))) := Lib.hid (by rw [hwa]; exact Blk.new wx _ _)
        have C := Lib.hid (snext 6 B g ns.tail.tail wa (by omega) (HSX.out.later HU.out))
        have hg1 := HSX.out.lt
        have HZB := Lib.hid hzb
        rw [hwa] at C
        clear hzb
        go_wp2_with fail
        ((with_reducible refine (C.out).mono ?_); rintro e w2 ⟨k2, rfl, hk2, ht, hs⟩)
        rw [← hwa] at ht
        have HT2 := Lib.hid (touch_trans HTX.out (touch_trans (touch_new HU.out) ht))
        have HS2 := Lib.hid hs
        have HB2 := HBK.out.touch ht (by omega)
        have hk6 : k2 < 6 := by omega
        have hc := HB2.cell k2
        obtain ⟨x, hx⟩ : ∃ x, (numsL z)[k2]? = some x := ⟨_, List.getElem?_eq_getElem (by simpa [numsL] using hk6)⟩
        have HX := Lib.hid (num_ok z HZB.out x (List.mem_of_getElem? hx))
        rw [List.getElem?_map, hx] at hc
        simp only [Option.map_some] at hc
        have C2 := Lib.hid (mkNum x w2)
        clear ht hs HB2 hx hwa C hz
        go_wp2_with fail
        ((with_reducible refine (C2.out).mono ?_); rintro e w3 ⟨v, rfl, ho, b⟩)
        have HF := Lib.hid (leaf_ok (w := w) (w1 := wv) (D := D) (ns := ns) ho HT2.out.size (num_hf x) hD.2 HX.out (by decide) (touch_trans HT2.out (touch_new b)) (HS2.out.later b) (Nat.le_trans (tail_len _) (Nat.le_trans (tail_len _) (tail_len ns))))
        clear ho b C2
        go_wp2_with fail
        go_ret
        exact ⟨_, _, _, rfl, HF.out⟩
      · have CX := Lib.hid (snext 1125899906842624 B g ns.tail wv (by omega) HS1.out)
        go_wp2_with fail
        rw [← hwv]
        ((with_reducible refine (CX.out).mono ?_); rintro e wx ⟨kx, rfl, hkx, htx, hsx⟩)
        have HTX := Lib.hid (touch_trans HT1.out htx)
        have HSX := Lib.hid hsx
        clear htx hsx CX
        obtain ⟨z, hz⟩ : ∃ z : Int, (kx : Int) - 562949953421312 = z := ⟨_, rfl⟩
        have hzb : -562949953421312 ≤ z ∧ z ≤ 562949953421312 := by omega
        obtain ⟨wa, hwa⟩ : ∃ wa, wa = wx.alloc (.cells #[.int .i64 0, .int .i64 10, .int .i64 (-1), .int .i64 9223372036854775807, .int .i64 (-9223372036854775808), .int .i64 z] 2) := ⟨_, rfl⟩
        have HU : Hid (Below wx.heap.size wx wa) := Lib.hid (by rw [hwa]; exact up_new wx _)
        have HBK : Hid (Blk wa wx.heap.size 2 ((numsL z).map (fun x => .int .i64 x))) := Lib.hid (by rw [hwa]; exact Blk.new wx _ _)
        have C := Lib.hid (snext 6 B g ns.tail.tail wa (by omega) (HSX.out.later HU.out))
        have hg1 := HSX.out.lt
        have HZB := Lib.hid hzb
        rw [hwa] at C
        clear hzb
        go_wp2_with fail
        ((with_reducible refine (C.out).mono ?_); rintro e w2 ⟨k2, rfl, hk2, ht, hs⟩)
        rw [← hwa] at ht
        have HT2 := Lib.hid (touch_trans HTX.out (touch_trans (touch_new HU.out) ht))
        have HS2 := Lib.hid hs
        have HB2 := HBK.out.touch ht (by omega)
        have hk6 : k2 < 6 := by omega
        have hc := HB2.cell k2
        obtain ⟨x, hx⟩ : ∃ x, (numsL z)[k2]? = some x := ⟨_, List.getElem?_eq_getElem (by simpa [numsL] using hk6)⟩
        have HX := Lib.hid (num_ok z HZB.out x (List.mem_of_getElem? hx))
        rw [List.getElem?_map, hx] at hc
        simp only [Option.map_some] at hc
        have C2 := Lib.hid (mkNum x w2)
        clear ht hs HB2 hx hwa C hz
        go_wp2_with fail
        ((with_reducible refine (C2.out).mono ?_); rintro e w3 ⟨v, rfl, ho, b⟩)
        have HF := Lib.hid (leaf_ok (w := w) (w1 := wv) (D := D) (ns := ns) ho HT2.out.size (num_hf x) hD.2 HX.out (by decide) (touch_trans HT2.out (touch_new b)) (HS2.out.later b) (Nat.le_trans (tail_len _) (Nat.le_trans (tail_len _) (tail_len ns))))
        clear ho b C2
        go_wp2_with fail
        go_ret
        exact ⟨_, _, _, rfl, HF.out⟩
      · have C := Lib.hid (snext 10 B g ns.tail wv (by omega) HS1.out)
        go_wp2_with fail
        rw [← hwv]
        ((with_reducible refine (C.out).mono ?_); rintro e w2 ⟨k2, rfl, hk2, ht, hs⟩)
        have HT2 := Lib.hid (touch_trans HT1.out ht)
        have HS2 := Lib.hid hs
        have HB2 := HWD.out.touch ht (by omega)
        have hk10 : k2 < 10 := by omega
        have hc := HB2.cell k2
        obtain ⟨s, hx⟩ : ∃ s, wordsL[k2]? = some s := ⟨_, List.getElem?_eq_getElem (by simpa [wordsL] using hk10)⟩
        have HW := Lib.hid (word_ok s (List.mem_of_getElem? hx))
        rw [List.getElem?_map, hx] at hc
        simp only [Option.map_some] at hc
        have C2 : Hid (Calls Tryd.prog 42 #[.string s] w2 fun e w' => MkPost w2 [nd1 5 0 s] e w') := Lib.hid (by
          have h := mkStr s w2 (HS1.out.tab HTB.out hB ht) (by have := HW.out.2; unfold maxLen; omega)
          unfold strL at h
          rwa [if_pos HW.out.1] at h)
        clear ht hs C HB2 hx
        go_wp2_with fail
        ((with_reducible refine (C2.out).mono ?_); rintro e w3 ⟨v, rfl, ho, b⟩)
        have HF := Lib.hid (leaf_ok (w := w) (w1 := wv) (D := D) (ns := ns) ho HT2.out.size (.inr (.inr (.inl ⟨rfl, rfl, HW.out.1⟩))) hD.2 (by omega) (by have := HW.out.2; omega) (touch_trans HT2.out (touch_new b)) (HS2.out.later b) (Nat.le_trans (tail_len _) (tail_len ns)))
        clear ho b C2
        go_wp2_with fail
        go_ret
        exact ⟨_, _, _, rfl, HF.out⟩
      · have C := Lib.hid (snext 5 B g ns.tail wv (by omega) HS1.out)
        have HNS : Hid (ns.tail.tail.length + 2 ≤ ns.length) := Lib.hid (by have := HM.out; have h1 := hM1; simp only [List.length_tail] at this ⊢; omega)
        go_wp2_with fail
        rw [← hwv]
        ((with_reducible refine (C.out).mono ?_); rintro e w2 ⟨c0, rfl, hc0, ht, hs⟩)
        have HST := Lib.hid (LS.start (w := w) (D := D) (c0 := c0) (HWD.out.touch ht (by omega)) hlo (by omega) (touch_trans HT1.out ht) hs)
        have hc4 : c0 ≤ 4 := by omega
        obtain ⟨ns2, hns2⟩ : ∃ n2, n2 = ns.tail.tail := ⟨_, rfl⟩
        rw [← hns2] at HST HNS
        clear ht hs C hns2 HT1 HS1 HWD
        go_wp2_with fail
        go_loopw [7, 8, 9] (fun kv lv i wx => ∃ (j : Nat) (ss : List Sl) (ys : List ByteArray) (Fs : List Fo) (nx : List Int), i = .int .i64 (j : Nat) ∧ j ≤ 4 ∧ Hid (LS w wx B g w1.heap.size D ns2 nx kv lv ss ys Fs j)) (fun _ _ i _ => (intOf i).toNat)
        case atStart => exact ⟨c0, [], [], [], ns2, by rfl, hc4, HST⟩
        case round =>
          obtain ⟨j, ss, ys, Fs, nx, rfl, hj, HL⟩ := hrel
          have HTW2 := Lib.hid (HV.out.tab HTW.out hB HL.out.touch)
          by_cases hj0 : 0 < j
          · have hj1 : (0 : Int) < (j : Nat) := by omega
            have hnx : nx.length ≤ 150 := by have := HL.out.sz; have := HL.out.few; have := HNS.out; omega
            have CI := Lib.hid (HIH.out hD6 B g nx wr HL.out.seed hB hnx HTW2.out)
            have wD : ((D + 1 : Nat) : Int) = ((D : Nat) : Int) + 1 := by omega
            rw [wD] at CI
            clear wD
            go_wp2_with fail
            ((with_reducible refine (CI.out).mono ?_); rintro e w3 ⟨v, F, nx', rfl, hok⟩)
            have HO := Lib.hid hok
            obtain ⟨Z, hZ⟩ : ∃ Z, (Tp.flat F).length = Z := ⟨_, rfl⟩
            obtain ⟨va, vc, rfl⟩ : ∃ a c, v = .slice a Z c := by
              obtain ⟨a, c, e', _⟩ := Gn.Rd.form (Gn.Own.rd ndL hok.own)
              exact ⟨a, c, by rw [← hZ]; exact e'⟩
            have hgw : g < w.heap.size := HV.out.lt
            have bu := up_new w3 (.cells #[.slice va Z vc] 24)
            have HS4 := Lib.hid (Gn.Own.later (own_seed HL.out.row HL.out.seed seed_ne.2.1 hok.touch) bu)
            have HD4 := Lib.hid ((HL.out.wds.touch hok.touch (by omega)).later bu)
            have HE4 := Lib.hid (((each_seed HL.out.each HL.out.seed hok.touch).snoc (s := ⟨va, Z, vc⟩) (own_low hok.own) hok.ok).later bu)
            have HK4 := Lib.hid (Gn.Own.later (own_seed HL.out.keys HL.out.seed seed_ne.2.2 hok.touch) bu)
            have HT4 := Lib.hid (touch_trans (touch_trans HL.out.touch hok.touch) (touch_new bu))
            have HV4 := Lib.hid (hok.seed.later bu)
            have HR4 := Lib.hid (rdSl_one w3 va Z vc)
            have HSL : Hid (ss.length ≤ 4) := Lib.hid (by have h1 := HL.out.each.1; have := HL.out.few; simp only [List.length_map] at h1; omega)
            have HYL : Hid (ys.length ≤ 4) := Lib.hid (by have h1 := HL.out.len; have := HL.out.few; omega)
            obtain ⟨lt, hltr⟩ : ∃ t, letter j = t := ⟨_, rfl⟩
            have hrun := letter_run j hj
            have HLT := Lib.hid (letter_ok j hj)
            have wr1 : IntKind.i64.wrap ((j : Int) + 1) = (j : Int) + 1 := IntWalk.i64_in _ ⟨by omega, by omega⟩
            rw [hltr] at hrun HLT
            clear hok hZ CI bu
            go_wp2_with (at_builtin
                         refine Gn.wpList_app slL slY rfl (.tmp 65) (.tmp 70) rfl (w1.heap.size + 1) _ ss rfl HS4.out _ [(⟨va, Z, vc⟩ : Sl)] rfl HR4.out (by have := HSL.out; simp; omega) HD4.out.lt ?_
                         intro v5 w5 ho5 hg5 hl5 hn5
                         have HS5 := Lib.hid ho5
                         have HD5 := Lib.hid (HD4.out.touch (touch_grown hg5) (fun e => by have := (HS4.out.lt _ e).1; omega))
                         have HE5 := Lib.hid (EachO.kept HE4.out HS4.out node_ne_sl hg5)
                         have HK5 := Lib.hid (Gn.Own.kept HK4.out hg5 (own_apart HK4.out HS4.out tx_ne_sl))
                         have HT5 := Lib.hid (touch_row HT4.out hg5 (fun i hi => by have := (HS4.out.lt i hi).1; omega))
                         have HV5 := Lib.hid (HV4.out.row hg5 (fun i hi => (HS4.out.lt i hi).1) (by omega))
                         have CW := Lib.hid (snext 10 B g nx' w5 (by omega) HV5.out)
                         have CWD := Lib.hid (snext 10 B g nx' w5.drew (by omega) HV5.out.drew)
                         clear ho5 hg5 hl5 hn5)
            go_region_held3 (fun w' => ∀ k, k < 10 → w'.cell? ⟨w1.heap.size, k, none⟩ = some (.string (wordAt k)))
              (first | exact HD5.out.drew.words | exact HD5.out.words | exact HDB.out.words | exact HD6.out.words | exact HD7.out.words | fail "keep")
              ((first
                | (go_at_call 75; (first | (with_reducible refine (CW.out).mono ?_) | (with_reducible refine (CWD.out).mono ?_)); rintro e w6 ⟨k6, rfl, hk6, ht, hs⟩; have ht' : Touch (fun i => i = g) w5 w6 := (by first | exact ht | exact Touch.undrew ht); have hk6' : k6 < 10 := (by omega); obtain ⟨s, hsw⟩ : ∃ s, wordAt k6 = s := ⟨_, rfl⟩; have hm : s ∈ wordsL := (by rw [← hsw]; exact words_mem k6 hk6'); have bu := up_new w6 (.cells #[.string (s ++ lt)] 9); have hno := no_over8 s lt (by have := (word_ok s hm).2; have := HLT.out.2; omega); have HKV := Lib.hid (by have hh := HL.out.new hj hj0 (word_ok s hm); rw [hltr] at hh; exact hh); have HDB := Lib.hid (HD5.out.touch ht' (by omega)); have HD6 := Lib.hid ((HD5.out.touch ht' (by omega)).later bu); have HK6 := Lib.hid (Gn.Own.later (own_seed HK5.out HV5.out seed_ne.2.2 ht') bu); have HS6 := Lib.hid (Gn.Own.later (own_seed HS5.out HV5.out seed_ne.2.1 ht') bu); have HE6 := Lib.hid ((each_seed HE5.out HV5.out ht').later bu); have HT6 := Lib.hid (touch_trans (touch_trans HT5.out ht') (touch_new bu)); have HV6 := Lib.hid (hs.later bu); have HR6 := Lib.hid (rdTx_one w6 (s ++ lt)); obtain ⟨y, hy⟩ : ∃ y, s ++ lt = y := ⟨_, rfl⟩; rw [hy] at HKV HD6 HK6 HS6 HE6 HT6 HV6 HR6; clear ht hs hm bu ht')
                | (refine Gn.step_app txL txY (by rfl) (.tmp 72) (.tmp 83) (by rfl) (w1.heap.size + 1) _ ys (by rfl) HK6.out _ [y] (by rfl) HR6.out (by have := HYL.out; simp; omega) HD6.out.lt ?_; intro v7 w7 ho7 hg7 hl7; have HK7 := Lib.hid ho7; have HS7 := Lib.hid (Gn.Own.kept HS6.out hg7 (own_apart HS6.out HK6.out sl_ne_tx)); have HD7 := Lib.hid (HD6.out.touch (touch_grown hg7) (fun e => by have := (HK6.out.lt _ e).1; omega)); have HE7 := Lib.hid (EachO.kept HE6.out HK6.out node_ne_tx hg7); have HT7 := Lib.hid (touch_row HT6.out hg7 (fun i hi => by have := (HK6.out.lt i hi).1; omega)); have HV7 := Lib.hid (HV6.out.row hg7 (fun i hi => (HK6.out.lt i hi).1) (by omega)); clear ho7 hg7 hl7)))
            have HNX : Hid (LS w w7 B g w1.heap.size D ns2 nx'.tail v7 v5 (ss ++ [(⟨va, Z, vc⟩ : Sl)]) (ys ++ [y]) (Fs ++ [F]) (j - 1)) := Lib.hid (by
              have h := HL.out
              have ho := HO.out
              have t1 := tail_len nx'
              refine ⟨HK7.out, HS7.out, HD7.out, h.lo, ?_, ?_, ?_, ?_, ?_, ?_, ?_, HKV.out.1, HKV.out.2, ?_, HT7.out, HV7.out⟩
              · rw [List.map_append]; exact HE7.out
              · intro G hG
                rcases List.mem_append.1 hG with hG | hG
                · exact h.root G hG
                · rw [List.mem_singleton.1 hG]; exact ho.root
              · intro G hG
                rcases List.mem_append.1 hG with hG | hG
                · exact h.good G hG
                · rw [List.mem_singleton.1 hG]; exact ho.good
              · intro G hG
                rcases List.mem_append.1 hG with hG | hG
                · exact h.dep G hG
                · rw [List.mem_singleton.1 hG]; have := ho.dep; omega
              · have h1 := h.sz
                have h2 := ho.sz
                rw [List.map_append, List.sum_append, List.length_append]
                simp only [List.map_cons, List.map_nil, List.sum_cons, List.sum_nil, List.length_cons, List.length_nil]
                omega
              · rw [List.length_append, List.length_append, h.len]; rfl
              · have := h.few
                rw [List.length_append]
                simp only [List.length_cons, List.length_nil]
                omega
              · intro G hG
                rcases List.mem_append.1 hG with hG | hG
                · exact h.sml G hG
                · rw [List.mem_singleton.1 hG]; exact ho.small)
            clear HK7 HS7 HE7 HT7 HV7 HKV HD7 HO HL hrun wr1
            go_wp2_with fail
            go_roundw
            case rel => exact ⟨j - 1, _, _, _, _, by congr 1; omega, by omega, HNX⟩
            case measure => simp [intOf]; omega
          · obtain rfl : j = 0 := by omega
            have HEX := Lib.hid (put_ok (K := 6) (zs := List.replicate Fs.length ⟨#[]⟩) (.inl rfl) HL.out (by simp) (by unfold Tp.ko; rw [if_neg (by omega)]; intro z hz; rw [(List.mem_replicate.1 hz).2]; rfl) (by intro z hz; rw [(List.mem_replicate.1 hz).2]; exact Nat.zero_le _) HNS.out hlen ⟨hD.1, hD6⟩)
            have CL := Lib.hid (mkList _ ss (Fs.map Tp.flat) wr (HL.out.each.rdS HL.out.row) (by have := HL.out.few; simp; omega) HTW2.out _ 0 (by unfold ListIs; rw [List.length_map]; exact HEX.out.1))
    
            go_wp2_with fail
            ((with_reducible refine (CL.out).mono ?_); rintro e w4 ⟨v, rfl, ho, b⟩)
            have HF := Lib.hid (HEX.out.2 _ v w4 ho HL.out.touch.size (touch_trans HL.out.touch (touch_new b)) (HL.out.seed.later b))
            clear ho b CL
            go_wp2_with fail
            go_ret
            exact ⟨_, _, _, rfl, HF.out⟩
      · have C := Lib.hid (snext 5 B g ns.tail wv (by omega) HS1.out)
        have HNS : Hid (ns.tail.tail.length + 2 ≤ ns.length) := Lib.hid (by have := HM.out; have h1 := hM1; simp only [List.length_tail] at this ⊢; omega)
        go_wp2_with fail
        rw [← hwv]
        ((with_reducible refine (C.out).mono ?_); rintro e w2 ⟨c0, rfl, hc0, ht, hs⟩)
        have HST := Lib.hid (LS.start (w := w) (D := D) (c0 := c0) (HWD.out.touch ht (by omega)) hlo (by omega) (touch_trans HT1.out ht) hs)
        have hc4 : c0 ≤ 4 := by omega
        obtain ⟨ns2, hns2⟩ : ∃ n2, n2 = ns.tail.tail := ⟨_, rfl⟩
        rw [← hns2] at HST HNS
        clear ht hs C hns2 HT1 HS1 HWD
        go_wp2_with fail
        go_loopw [7, 8, 9] (fun kv lv i wx => ∃ (j : Nat) (ss : List Sl) (ys : List ByteArray) (Fs : List Fo) (nx : List Int), i = .int .i64 (j : Nat) ∧ j ≤ 4 ∧ Hid (LS w wx B g w1.heap.size D ns2 nx kv lv ss ys Fs j)) (fun _ _ i _ => (intOf i).toNat)
        case atStart => exact ⟨c0, [], [], [], ns2, by rfl, hc4, HST⟩
        case round =>
          obtain ⟨j, ss, ys, Fs, nx, rfl, hj, HL⟩ := hrel
          have HTW2 := Lib.hid (HV.out.tab HTW.out hB HL.out.touch)
          by_cases hj0 : 0 < j
          · have hj1 : (0 : Int) < (j : Nat) := by omega
            have hnx : nx.length ≤ 150 := by have := HL.out.sz; have := HL.out.few; have := HNS.out; omega
            have CI := Lib.hid (HIH.out hD6 B g nx wr HL.out.seed hB hnx HTW2.out)
            have wD : ((D + 1 : Nat) : Int) = ((D : Nat) : Int) + 1 := by omega
            rw [wD] at CI
            clear wD
            go_wp2_with fail
            ((with_reducible refine (CI.out).mono ?_); rintro e w3 ⟨v, F, nx', rfl, hok⟩)
            have HO := Lib.hid hok
            obtain ⟨Z, hZ⟩ : ∃ Z, (Tp.flat F).length = Z := ⟨_, rfl⟩
            obtain ⟨va, vc, rfl⟩ : ∃ a c, v = .slice a Z c := by
              obtain ⟨a, c, e', _⟩ := Gn.Rd.form (Gn.Own.rd ndL hok.own)
              exact ⟨a, c, by rw [← hZ]; exact e'⟩
            have hgw : g < w.heap.size := HV.out.lt
            have bu := up_new w3 (.cells #[.slice va Z vc] 24)
            have HS4 := Lib.hid (Gn.Own.later (own_seed HL.out.row HL.out.seed seed_ne.2.1 hok.touch) bu)
            have HD4 := Lib.hid ((HL.out.wds.touch hok.touch (by omega)).later bu)
            have HE4 := Lib.hid (((each_seed HL.out.each HL.out.seed hok.touch).snoc (s := ⟨va, Z, vc⟩) (own_low hok.own) hok.ok).later bu)
            have HK4 := Lib.hid (Gn.Own.later (own_seed HL.out.keys HL.out.seed seed_ne.2.2 hok.touch) bu)
            have HT4 := Lib.hid (touch_trans (touch_trans HL.out.touch hok.touch) (touch_new bu))
            have HV4 := Lib.hid (hok.seed.later bu)
            have HR4 := Lib.hid (rdSl_one w3 va Z vc)
            have HSL : Hid (ss.length ≤ 4) := Lib.hid (by have h1 := HL.out.each.1; have := HL.out.few; simp only [List.length_map] at h1; omega)
            have HYL : Hid (ys.length ≤ 4) := Lib.hid (by have h1 := HL.out.len; have := HL.out.few; omega)
            obtain ⟨lt, hltr⟩ : ∃ t, letter j = t := ⟨_, rfl⟩
            have hrun := letter_run j hj
            have HLT := Lib.hid (letter_ok j hj)
            have wr1 : IntKind.i64.wrap ((j : Int) + 1) = (j : Int) + 1 := IntWalk.i64_in _ ⟨by omega, by omega⟩
            rw [hltr] at hrun HLT
            clear hok hZ CI bu
            go_wp2_with (at_builtin
                         refine Gn.wpList_app slL slY rfl (.tmp 65) (.tmp 70) rfl (w1.heap.size + 1) _ ss rfl HS4.out _ [(⟨va, Z, vc⟩ : Sl)] rfl HR4.out (by have := HSL.out; simp; omega) HD4.out.lt ?_
                         intro v5 w5 ho5 hg5 hl5 hn5
                         have HS5 := Lib.hid ho5
                         have HD5 := Lib.hid (HD4.out.touch (touch_grown hg5) (fun e => by have := (HS4.out.lt _ e).1; omega))
                         have HE5 := Lib.hid (EachO.kept HE4.out HS4.out node_ne_sl hg5)
                         have HK5 := Lib.hid (Gn.Own.kept HK4.out hg5 (own_apart HK4.out HS4.out tx_ne_sl))
                         have HT5 := Lib.hid (touch_row HT4.out hg5 (fun i hi => by have := (HS4.out.lt i hi).1; omega))
                         have HV5 := Lib.hid (HV4.out.row hg5 (fun i hi => (HS4.out.lt i hi).1) (by omega))
                         have CW := Lib.hid (snext 10 B g nx' w5 (by omega) HV5.out)
                         have CWD := Lib.hid (snext 10 B g nx' w5.drew (by omega) HV5.out.drew)
                         clear ho5 hg5 hl5 hn5)
            go_region_held3 (fun w' => ∀ k, k < 10 → w'.cell? ⟨w1.heap.size, k, none⟩ = some (.string (wordAt k)))
              (first | exact HD5.out.drew.words | exact HD5.out.words | exact HDB.out.words | exact HD6.out.words | exact HD7.out.words | fail "keep")
              ((first
                | (go_at_call 75; (first | (with_reducible refine (CW.out).mono ?_) | (with_reducible refine (CWD.out).mono ?_)); rintro e w6 ⟨k6, rfl, hk6, ht, hs⟩; have ht' : Touch (fun i => i = g) w5 w6 := (by first | exact ht | exact Touch.undrew ht); have hk6' : k6 < 10 := (by omega); obtain ⟨s, hsw⟩ : ∃ s, wordAt k6 = s := ⟨_, rfl⟩; have hm : s ∈ wordsL := (by rw [← hsw]; exact words_mem k6 hk6'); have bu := up_new w6 (.cells #[.string (s ++ lt)] 9); have hno := no_over8 s lt (by have := (word_ok s hm).2; have := HLT.out.2; omega); have HKV := Lib.hid (by have hh := HL.out.new hj hj0 (word_ok s hm); rw [hltr] at hh; exact hh); have HDB := Lib.hid (HD5.out.touch ht' (by omega)); have HD6 := Lib.hid ((HD5.out.touch ht' (by omega)).later bu); have HK6 := Lib.hid (Gn.Own.later (own_seed HK5.out HV5.out seed_ne.2.2 ht') bu); have HS6 := Lib.hid (Gn.Own.later (own_seed HS5.out HV5.out seed_ne.2.1 ht') bu); have HE6 := Lib.hid ((each_seed HE5.out HV5.out ht').later bu); have HT6 := Lib.hid (touch_trans (touch_trans HT5.out ht') (touch_new bu)); have HV6 := Lib.hid (hs.later bu); have HR6 := Lib.hid (rdTx_one w6 (s ++ lt)); obtain ⟨y, hy⟩ : ∃ y, s ++ lt = y := ⟨_, rfl⟩; rw [hy] at HKV HD6 HK6 HS6 HE6 HT6 HV6 HR6; clear ht hs hm bu ht')
                | (refine Gn.step_app txL txY (by rfl) (.tmp 72) (.tmp 83) (by rfl) (w1.heap.size + 1) _ ys (by rfl) HK6.out _ [y] (by rfl) HR6.out (by have := HYL.out; simp; omega) HD6.out.lt ?_; intro v7 w7 ho7 hg7 hl7; have HK7 := Lib.hid ho7; have HS7 := Lib.hid (Gn.Own.kept HS6.out hg7 (own_apart HS6.out HK6.out sl_ne_tx)); have HD7 := Lib.hid (HD6.out.touch (touch_grown hg7) (fun e => by have := (HK6.out.lt _ e).1; omega)); have HE7 := Lib.hid (EachO.kept HE6.out HK6.out node_ne_tx hg7); have HT7 := Lib.hid (touch_row HT6.out hg7 (fun i hi => by have := (HK6.out.lt i hi).1; omega)); have HV7 := Lib.hid (HV6.out.row hg7 (fun i hi => (HK6.out.lt i hi).1) (by omega)); clear ho7 hg7 hl7)))
            have HNX : Hid (LS w w7 B g w1.heap.size D ns2 nx'.tail v7 v5 (ss ++ [(⟨va, Z, vc⟩ : Sl)]) (ys ++ [y]) (Fs ++ [F]) (j - 1)) := Lib.hid (by
              have h := HL.out
              have ho := HO.out
              have t1 := tail_len nx'
              refine ⟨HK7.out, HS7.out, HD7.out, h.lo, ?_, ?_, ?_, ?_, ?_, ?_, ?_, HKV.out.1, HKV.out.2, ?_, HT7.out, HV7.out⟩
              · rw [List.map_append]; exact HE7.out
              · intro G hG
                rcases List.mem_append.1 hG with hG | hG
                · exact h.root G hG
                · rw [List.mem_singleton.1 hG]; exact ho.root
              · intro G hG
                rcases List.mem_append.1 hG with hG | hG
                · exact h.good G hG
                · rw [List.mem_singleton.1 hG]; exact ho.good
              · intro G hG
                rcases List.mem_append.1 hG with hG | hG
                · exact h.dep G hG
                · rw [List.mem_singleton.1 hG]; have := ho.dep; omega
              · have h1 := h.sz
                have h2 := ho.sz
                rw [List.map_append, List.sum_append, List.length_append]
                simp only [List.map_cons, List.map_nil, List.sum_cons, List.sum_nil, List.length_cons, List.length_nil]
                omega
              · rw [List.length_append, List.length_append, h.len]; rfl
              · have := h.few
                rw [List.length_append]
                simp only [List.length_cons, List.length_nil]
                omega
              · intro G hG
                rcases List.mem_append.1 hG with hG | hG
                · exact h.sml G hG
                · rw [List.mem_singleton.1 hG]; exact ho.small)
            clear HK7 HS7 HE7 HT7 HV7 HKV HD7 HO HL hrun wr1
            go_wp2_with fail
            go_roundw
            case rel => exact ⟨j - 1, _, _, _, _, by congr 1; omega, by omega, HNX⟩
            case measure => simp [intOf]; omega
          · obtain rfl : j = 0 := by omega
            have HEX := Lib.hid (put_ok (K := 7) (zs := ys) (.inr rfl) HL.out HL.out.len (by unfold Tp.ko; rw [if_pos rfl]; exact ⟨fun y hy => (HL.out.kok y hy).1.1, HL.out.nod⟩) (fun z hz => (HL.out.kok z hz).1.2) HNS.out hlen ⟨hD.1, hD6⟩)
            have CO := Lib.hid (mkObj _ _ ys ss (Fs.map Tp.flat) wr (Gn.Own.rd txL HL.out.keys) (HL.out.each.rdS HL.out.row) (fun z hz => by have := (HL.out.kok z hz).1.2; unfold maxLen; omega) (by have := HL.out.few; simp; omega) HTW2.out _ 0 (.inr ⟨by rw [List.length_map]; exact HL.out.len, HEX.out.1⟩))
            go_wp2_with fail
            ((with_reducible refine (CO.out).mono ?_); rintro e w4 ⟨v, rfl, ho, b⟩)
            have HF := Lib.hid (HEX.out.2 _ v w4 ho HL.out.touch.size (touch_trans HL.out.touch (touch_new b)) (HL.out.seed.later b))
            clear ho b CO
            go_wp2_with fail
            go_ret
            exact ⟨_, _, _, rfl, HF.out⟩
      · have C := Lib.hid (snext 5 B g ns.tail wv (by omega) HS1.out)
        have HNS : Hid (ns.tail.tail.length + 2 ≤ ns.length) := Lib.hid (by have := HM.out; have h1 := hM1; simp only [List.length_tail] at this ⊢; omega)
        go_wp2_with fail
        rw [← hwv]
        ((with_reducible refine (C.out).mono ?_); rintro e w2 ⟨c0, rfl, hc0, ht, hs⟩)
        have HST := Lib.hid (LS.start (w := w) (D := D) (c0 := c0) (HWD.out.touch ht (by omega)) hlo (by omega) (touch_trans HT1.out ht) hs)
        have hc4 : c0 ≤ 4 := by omega
        obtain ⟨ns2, hns2⟩ : ∃ n2, n2 = ns.tail.tail := ⟨_, rfl⟩
        rw [← hns2] at HST HNS
        clear ht hs C hns2 HT1 HS1 HWD
        go_wp2_with fail
        go_loopw [7, 8, 9] (fun kv lv i wx => ∃ (j : Nat) (ss : List Sl) (ys : List ByteArray) (Fs : List Fo) (nx : List Int), i = .int .i64 (j : Nat) ∧ j ≤ 4 ∧ Hid (LS w wx B g w1.heap.size D ns2 nx kv lv ss ys Fs j)) (fun _ _ i _ => (intOf i).toNat)
        case atStart => exact ⟨c0, [], [], [], ns2, by rfl, hc4, HST⟩
        case round =>
          obtain ⟨j, ss, ys, Fs, nx, rfl, hj, HL⟩ := hrel
          have HTW2 := Lib.hid (HV.out.tab HTW.out hB HL.out.touch)
          by_cases hj0 : 0 < j
          · have hj1 : (0 : Int) < (j : Nat) := by omega
            have hnx : nx.length ≤ 150 := by have := HL.out.sz; have := HL.out.few; have := HNS.out; omega
            have CI := Lib.hid (HIH.out hD6 B g nx wr HL.out.seed hB hnx HTW2.out)
            have wD : ((D + 1 : Nat) : Int) = ((D : Nat) : Int) + 1 := by omega
            rw [wD] at CI
            clear wD
            go_wp2_with fail
            ((with_reducible refine (CI.out).mono ?_); rintro e w3 ⟨v, F, nx', rfl, hok⟩)
            have HO := Lib.hid hok
            obtain ⟨Z, hZ⟩ : ∃ Z, (Tp.flat F).length = Z := ⟨_, rfl⟩
            obtain ⟨va, vc, rfl⟩ : ∃ a c, v = .slice a Z c := by
              obtain ⟨a, c, e', _⟩ := Gn.Rd.form (Gn.Own.rd ndL hok.own)
              exact ⟨a, c, by rw [← hZ]; exact e'⟩
            have hgw : g < w.heap.size := HV.out.lt
            have bu := up_new w3 (.cells #[.slice va Z vc] 24)
            have HS4 := Lib.hid (Gn.Own.later (own_seed HL.out.row HL.out.seed seed_ne.2.1 hok.touch) bu)
            have HD4 := Lib.hid ((HL.out.wds.touch hok.touch (by omega)).later bu)
            have HE4 := Lib.hid (((each_seed HL.out.each HL.out.seed hok.touch).snoc (s := ⟨va, Z, vc⟩) (own_low hok.own) hok.ok).later bu)
            have HK4 := Lib.hid (Gn.Own.later (own_seed HL.out.keys HL.out.seed seed_ne.2.2 hok.touch) bu)
            have HT4 := Lib.hid (touch_trans (touch_trans HL.out.touch hok.touch) (touch_new bu))
            have HV4 := Lib.hid (hok.seed.later bu)
            have HR4 := Lib.hid (rdSl_one w3 va Z vc)
            have HSL : Hid (ss.length ≤ 4) := Lib.hid (by have h1 := HL.out.each.1; have := HL.out.few; simp only [List.length_map] at h1; omega)
            have HYL : Hid (ys.length ≤ 4) := Lib.hid (by have h1 := HL.out.len; have := HL.out.few; omega)
            obtain ⟨lt, hltr⟩ : ∃ t, letter j = t := ⟨_, rfl⟩
            have hrun := letter_run j hj
            have HLT := Lib.hid (letter_ok j hj)
            have wr1 : IntKind.i64.wrap ((j : Int) + 1) = (j : Int) + 1 := IntWalk.i64_in _ ⟨by omega, by omega⟩
            rw [hltr] at hrun HLT
            clear hok hZ CI bu
            go_wp2_with (at_builtin
                         refine Gn.wpList_app slL slY rfl (.tmp 65) (.tmp 70) rfl (w1.heap.size + 1) _ ss rfl HS4.out _ [(⟨va, Z, vc⟩ : Sl)] rfl HR4.out (by have := HSL.out; simp; omega) HD4.out.lt ?_
                         intro v5 w5 ho5 hg5 hl5 hn5
                         have HS5 := Lib.hid ho5
                         have HD5 := Lib.hid (HD4.out.touch (touch_grown hg5) (fun e => by have := (HS4.out.lt _ e).1; omega))
                         have HE5 := Lib.hid (EachO.kept HE4.out HS4.out node_ne_sl hg5)
                         have HK5 := Lib.hid (Gn.Own.kept HK4.out hg5 (own_apart HK4.out HS4.out tx_ne_sl))
                         have HT5 := Lib.hid (touch_row HT4.out hg5 (fun i hi => by have := (HS4.out.lt i hi).1; omega))
                         have HV5 := Lib.hid (HV4.out.row hg5 (fun i hi => (HS4.out.lt i hi).1) (by omega))
                         have CW := Lib.hid (snext 10 B g nx' w5 (by omega) HV5.out)
                         have CWD := Lib.hid (snext 10 B g nx' w5.drew (by omega) HV5.out.drew)
                         clear ho5 hg5 hl5 hn5)
            go_region_held3 (fun w' => ∀ k, k < 10 → w'.cell? ⟨w1.heap.size, k, none⟩ = some (.string (wordAt k)))
              (first | exact HD5.out.drew.words | exact HD5.out.words | exact HDB.out.words | exact HD6.out.words | exact HD7.out.words | fail "keep")
              ((first
                | (go_at_call 75; (first | (with_reducible refine (CW.out).mono ?_) | (with_reducible refine (CWD.out).mono ?_)); rintro e w6 ⟨k6, rfl, hk6, ht, hs⟩; have ht' : Touch (fun i => i = g) w5 w6 := (by first | exact ht | exact Touch.undrew ht); have hk6' : k6 < 10 := (by omega); obtain ⟨s, hsw⟩ : ∃ s, wordAt k6 = s := ⟨_, rfl⟩; have hm : s ∈ wordsL := (by rw [← hsw]; exact words_mem k6 hk6'); have bu := up_new w6 (.cells #[.string (s ++ lt)] 9); have hno := no_over8 s lt (by have := (word_ok s hm).2; have := HLT.out.2; omega); have HKV := Lib.hid (by have hh := HL.out.new hj hj0 (word_ok s hm); rw [hltr] at hh; exact hh); have HDB := Lib.hid (HD5.out.touch ht' (by omega)); have HD6 := Lib.hid ((HD5.out.touch ht' (by omega)).later bu); have HK6 := Lib.hid (Gn.Own.later (own_seed HK5.out HV5.out seed_ne.2.2 ht') bu); have HS6 := Lib.hid (Gn.Own.later (own_seed HS5.out HV5.out seed_ne.2.1 ht') bu); have HE6 := Lib.hid ((each_seed HE5.out HV5.out ht').later bu); have HT6 := Lib.hid (touch_trans (touch_trans HT5.out ht') (touch_new bu)); have HV6 := Lib.hid (hs.later bu); have HR6 := Lib.hid (rdTx_one w6 (s ++ lt)); obtain ⟨y, hy⟩ : ∃ y, s ++ lt = y := ⟨_, rfl⟩; rw [hy] at HKV HD6 HK6 HS6 HE6 HT6 HV6 HR6; clear ht hs hm bu ht')
                | (refine Gn.step_app txL txY (by rfl) (.tmp 72) (.tmp 83) (by rfl) (w1.heap.size + 1) _ ys (by rfl) HK6.out _ [y] (by rfl) HR6.out (by have := HYL.out; simp; omega) HD6.out.lt ?_; intro v7 w7 ho7 hg7 hl7; have HK7 := Lib.hid ho7; have HS7 := Lib.hid (Gn.Own.kept HS6.out hg7 (own_apart HS6.out HK6.out sl_ne_tx)); have HD7 := Lib.hid (HD6.out.touch (touch_grown hg7) (fun e => by have := (HK6.out.lt _ e).1; omega)); have HE7 := Lib.hid (EachO.kept HE6.out HK6.out node_ne_tx hg7); have HT7 := Lib.hid (touch_row HT6.out hg7 (fun i hi => by have := (HK6.out.lt i hi).1; omega)); have HV7 := Lib.hid (HV6.out.row hg7 (fun i hi => (HK6.out.lt i hi).1) (by omega)); clear ho7 hg7 hl7)))
            have HNX : Hid (LS w w7 B g w1.heap.size D ns2 nx'.tail v7 v5 (ss ++ [(⟨va, Z, vc⟩ : Sl)]) (ys ++ [y]) (Fs ++ [F]) (j - 1)) := Lib.hid (by
              have h := HL.out
              have ho := HO.out
              have t1 := tail_len nx'
              refine ⟨HK7.out, HS7.out, HD7.out, h.lo, ?_, ?_, ?_, ?_, ?_, ?_, ?_, HKV.out.1, HKV.out.2, ?_, HT7.out, HV7.out⟩
              · rw [List.map_append]; exact HE7.out
              · intro G hG
                rcases List.mem_append.1 hG with hG | hG
                · exact h.root G hG
                · rw [List.mem_singleton.1 hG]; exact ho.root
              · intro G hG
                rcases List.mem_append.1 hG with hG | hG
                · exact h.good G hG
                · rw [List.mem_singleton.1 hG]; exact ho.good
              · intro G hG
                rcases List.mem_append.1 hG with hG | hG
                · exact h.dep G hG
                · rw [List.mem_singleton.1 hG]; have := ho.dep; omega
              · have h1 := h.sz
                have h2 := ho.sz
                rw [List.map_append, List.sum_append, List.length_append]
                simp only [List.map_cons, List.map_nil, List.sum_cons, List.sum_nil, List.length_cons, List.length_nil]
                omega
              · rw [List.length_append, List.length_append, h.len]; rfl
              · have := h.few
                rw [List.length_append]
                simp only [List.length_cons, List.length_nil]
                omega
              · intro G hG
                rcases List.mem_append.1 hG with hG | hG
                · exact h.sml G hG
                · rw [List.mem_singleton.1 hG]; exact ho.small)
            clear HK7 HS7 HE7 HT7 HV7 HKV HD7 HO HL hrun wr1
            go_wp2_with fail
            go_roundw
            case rel => exact ⟨j - 1, _, _, _, _, by congr 1; omega, by omega, HNX⟩
            case measure => simp [intOf]; omega
          · obtain rfl : j = 0 := by omega
            have HEX := Lib.hid (put_ok (K := 7) (zs := ys) (.inr rfl) HL.out HL.out.len (by unfold Tp.ko; rw [if_pos rfl]; exact ⟨fun y hy => (HL.out.kok y hy).1.1, HL.out.nod⟩) (fun z hz => (HL.out.kok z hz).1.2) HNS.out hlen ⟨hD.1, hD6⟩)
            have CO := Lib.hid (mkObj _ _ ys ss (Fs.map Tp.flat) wr (Gn.Own.rd txL HL.out.keys) (HL.out.each.rdS HL.out.row) (fun z hz => by have := (HL.out.kok z hz).1.2; unfold maxLen; omega) (by have := HL.out.few; simp; omega) HTW2.out _ 0 (.inr ⟨by rw [List.length_map]; exact HL.out.len, HEX.out.1⟩))
            go_wp2_with fail
            ((with_reducible refine (CO.out).mono ?_); rintro e w4 ⟨v, rfl, ho, b⟩)
            have HF := Lib.hid (HEX.out.2 _ v w4 ho HL.out.touch.size (touch_trans HL.out.touch (touch_new b)) (HL.out.seed.later b))
            clear ho b CO
            go_wp2_with fail
            go_ret
            exact ⟨_, _, _, rfl, HF.out⟩
theorem sval_claim : ∀ (m D : Nat), 1 ≤ D → D ≤ 7 → 7 - D ≤ m → SClaimV D
  | 0, D, h1, h2, h3 => sval_step D ⟨h1, h2⟩ (fun h => absurd h (by omega))
  | m + 1, D, h1, h2, h3 => sval_step D ⟨h1, h2⟩ (fun h => sval_claim m (D + 1) (by omega) (by omega) (by omega))
/-- What a seed's tape is. -/
structure DOk (F : Fo) : Prop where
  root : Root F
  good : Tp.good F
  sz : Tp.sz F ≤ 301
  dep : Tp.dep F ≤ 7
  ok : ∀ x ∈ Tp.flat F, Nok x
  small : Jr.Small 10 10 F
def DPost (w : World) (e : Ending) (w' : World) : Prop := ∃ v F, e = .returned v ∧ OwnN w' w.heap.size v (Tp.flat F) ∧ DOk F ∧ Below w.heap.size w w'
theorem DOk.may {F : Fo} (h : DOk F) : May (Tp.flat F) F := by
  obtain ⟨k, n, s, c, rfl⟩ := h.root
  refine ⟨?_, ⟨⟨k, ⟨#[]⟩, n, s, c, rfl, rfl⟩, h.good, rfl⟩, by have := h.dep; omega⟩
  have := h.sz
  rw [flat_sz]; omega

set_option maxHeartbeats 4000000 in
theorem drawnC (sv : Value) (ns : List Int) (w : World) (h : RdI w w.heap.size sv ns) (hok : ∀ x ∈ ns, -9223372036854775808 ≤ x ∧ x ≤ 9223372036854775807) (T : Tab w) :
    Calls Tryd.prog 21 #[.agg #[sv]] w fun e w' => DPost w e w' := by
  have hll := h.len'
  obtain ⟨sa, sc, rfl, _⟩ := Gn.Rd.form h
  obtain ⟨N, hN⟩ : ∃ N, ns.length = N := ⟨_, rfl⟩
  obtain ⟨u, hu, hur⟩ := Gn.cut_to plY w w.heap.size sa ns N sc (min N 150) (by rw [← hN]; exact h) hN (by omega)
  have em : ((min N 150 : Nat) : Int) = min (N : Int) 150 := by omega
  rw [em] at hu
  have hul : (ns.take (min N 150)).length ≤ 150 := by rw [List.length_take]; omega
  obtain ⟨ua, uc, rfl, _⟩ := Gn.Rd.form hur
  obtain ⟨M, hM⟩ : ∃ M, (ns.take (min N 150)).length = M := ⟨_, rfl⟩
  have h2 := T.size
  have HU := Lib.hid hur
  have HOK : Hid (∀ x ∈ ns.take (min N 150), -9223372036854775808 ≤ x ∧ x ≤ 9223372036854775807) := Lib.hid (fun x hx => hok x (List.mem_of_mem_take hx))
  have HT := Lib.hid T
  have HUL := Lib.hid hul
  have hB : TabAt w.heap.size := h2
  rw [hM] at hu HU
  rw [hN] at hll ⊢
  clear h hok T hur hN em hul hM h2
  generalize ns.take (min N 150) = ms at *
  obtain ⟨wx, hwx⟩ : ∃ wx, wx = (w.alloc (.cells #[.slice sa N sc] 43)).alloc (.cells #[.slice ua M uc] 43) := ⟨_, rfl⟩
  have HBX : Hid (Below w.heap.size w wx) := Lib.hid (by rw [hwx]; exact up (up_new w _) (up_new _ _))
  have HSV : Hid (SV wx w.heap.size (w.heap.size + 1) ms) := Lib.hid ⟨⟨_, by
      rw [hwx]
      have := Blk.new (w.alloc (.cells #[.slice sa N sc] 43)) 43 #[.slice ua M uc]
      rw [World.size_alloc] at this
      exact this, Gn.Rd.below HU.out HBX.out (Nat.le_refl _)⟩, by omega, HOK.out⟩
  have CV : Hid (Calls Tryd.prog 43 #[.pointer (some ⟨w.heap.size + 1, 0, none⟩), .int .i64 1] wx fun e w' => SPost wx w.heap.size (w.heap.size + 1) ms 1 e w') := Lib.hid (sval_claim 7 1 (by omega) (by omega) (by omega) w.heap.size (w.heap.size + 1) ms wx HSV.out hB HUL.out (HT.out.later HBX.out))
  rw [hwx] at CV
  go_enter Tryd.func21, Tryd.ntmps21
  go_wp2_with fail
  ((with_reducible refine (CV.out).mono ?_); rintro e w2 ⟨v, F, ms', rfl, hv⟩)
  rw [← hwx] at hv
  have HO := Lib.hid (Gn.Own.lower hv.own HBX.out.size)
  have HD : Hid (DOk F) := Lib.hid ⟨hv.root, hv.good, by have := hv.sz; have := HUL.out; omega, by have := hv.dep; omega, hv.ok, hv.small⟩
  have HB2 := Lib.hid (HBX.out.trans (hv.touch.below HBX.out.size (fun i hi => by rw [hi]; omega)))
  clear hv hwx
  go_wp2_with fail
  go_ret
  exact ⟨_, F, rfl, HO.out, HD.out, HB2.out⟩
end Go.Proofs.YtgmdjofnkbaflaaDoor.S8
