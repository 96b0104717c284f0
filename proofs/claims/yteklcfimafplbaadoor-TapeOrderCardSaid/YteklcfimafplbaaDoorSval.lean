/- A seed's value, one step. -/
import Derived.Test.YteklcfimafplbaaDoorUnlike
import Derived.Test.YteklcfimafplbaaDoorJoinF
import Derived.Test.YteklcfimafplbaaDoorListP
import Derived.Test.YteklcfimafplbaaDoorExP
import Derived.Deep.RegionHeld3
namespace Go.Proofs.YteklcfimafplbaaDoor
open Go.RowKit
set_option linter.unusedVariables false
set_option maxRecDepth 100000

/-- What a seed's value is. -/
structure VOk (w w' : World) (B g : Nat) (ns : List Int) (D : Nat) (v : Value) (F : Fo) (ns' : List Int) : Prop where
  own : OwnN w' w.heap.size v (Tp.flat F)
  root : Root F
  good : Tp.good F
  sz : Tp.sz F + 2 * ns'.length ≤ 1 + 2 * ns.length
  dep : Tp.dep F ≤ 8 - D
  ok : ∀ x ∈ Tp.flat F, Nok x
  touch : Touch (fun i => i = g) w w'
  seed : SV w' B g ns'
def SPost (w : World) (B g : Nat) (ns : List Int) (D : Nat) (e : Ending) (w' : World) : Prop := ∃ v F ns', e = .returned (.tuple #[v, .bool true]) ∧ VOk w w' B g ns D v F ns'
def SClaimV (D : Nat) : Prop := ∀ (B g : Nat) (ns : List Int) (w : World), SV w B g ns → TabAt B → ns.length ≤ 150 → Tab w → Calls Tryd.prog 34 #[.pointer (some ⟨g, 0, none⟩), .int .i64 (D : Nat)] w fun e w' => SPost w B g ns D e w'
theorem SV.tab {w w' : World} {B g : Nat} {ns : List Int} (h : SV w B g ns) (T : Tab w) (hB : TabAt B) (ht : Touch (fun i => i = g) w w') : Tab w' :=
  T.below hB (ht.below (by have := h.lt; have := h.lo; omega) (fun i hi => by rw [hi]; exact h.lo))
theorem touch_trans {g : Nat} {a b c : World} (h : Touch (fun i => i = g) a b) (k : Touch (fun i => i = g) b c) : Touch (fun i => i = g) a c := h.trans k (fun i hi => .inl hi)
theorem touch_new {g : Nat} {a b : World} (h : Below a.heap.size a b) : Touch (fun i => i = g) a b := Touch.of_below h
theorem tail_len (ns : List Int) : ns.tail.length ≤ ns.length := by simp
theorem leaf_ok {w w' w1 : World} {B g D base : Nat} {ns ns' : List Int} {v : Value} {k n : Int} {s : ByteArray} (ho : OwnN w' base v [nd1 k n s]) (hb : w.heap.size ≤ base) (hf : Tp.hf k n s) (hD : D ≤ 7) (hn : -9223372036854775808 ≤ n ∧ n ≤ 9223372036854775807) (hs : s.size ≤ 1000)
    (ht : Touch (fun i => i = g) w w') (hv : SV w' B g ns') (hl : ns'.length ≤ ns.length) : VOk w w' B g ns D v (.node k ⟨#[]⟩ n s .nil .nil) ns' := by
  refine ⟨Gn.Own.lower ho hb, ⟨k, n, s, .nil, rfl⟩, ⟨hf, fun _ => rfl, Tp.ko_nil k, trivial, trivial⟩, ?_, ?_, ?_, ht, hv⟩
  · rw [Tp.sz_node, Tp.sz_nil]; omega
  · simp only [Tp.dep]; omega
  · intro x hx
    have hk := Tp.hf_kind hf
    have : x = nd1 k n s := by
      have e : Tp.flat (.node k ⟨#[]⟩ n s .nil .nil) = [nd1 k n s] := rfl
      rw [e] at hx
      exact List.mem_singleton.1 hx
    subst this
    exact ⟨by simp [nd1]; omega, Nat.zero_le _, hn, by simp only [nd1]; unfold maxLen; omega, by simp [nd1]⟩
def numsL : List Int := [0, 1, -1, 9223372036854775807, -9223372036854775808, 42]
def nums64 (x : Int) : List Value := [.int .i64 x]
theorem word_ok : ∀ s ∈ wordsL, Utf.vld (bl s) = true ∧ s.size ≤ 4 := by
  intro s hs
  simp only [wordsL, List.mem_cons, List.not_mem_nil, or_false] at hs
  rcases hs with rfl | rfl | rfl | rfl | rfl | rfl | rfl | rfl | rfl | rfl <;> exact ⟨by kernel_rfl, by decide⟩
theorem num_ok : ∀ x ∈ numsL, -9223372036854775808 ≤ x ∧ x ≤ 9223372036854775807 := by
  intro x hx
  simp only [numsL, List.mem_cons, List.not_mem_nil, or_false] at hx
  omega


/-- A seed's list, under way. -/
structure LS (w wx : World) (B g D : Nat) (ns2 nx : List Int) (kv lv : Value) (ss : List Sl) (ys : List ByteArray) (Fs : List Fo) (j : Nat) : Prop where
  keys : OwnT wx w.heap.size kv ys
  row : OwnS wx w.heap.size lv ss
  each : EachO wx ss (Fs.map Tp.flat)
  root : ∀ F ∈ Fs, Root F
  good : ∀ F ∈ Fs, Tp.good F
  dep : ∀ F ∈ Fs, Tp.dep F ≤ 7 - D
  sz : (Fs.map Tp.sz).sum + 2 * nx.length ≤ Fs.length + 2 * ns2.length
  len : ys.length = Fs.length
  few : Fs.length + j ≤ 4
  kok : ∀ y ∈ ys, Utf.vld (bl y) = true ∧ y.size ≤ 100
  touch : Touch (fun i => i = g) w wx
  seed : SV wx B g nx
theorem seed_ne : (24 : TypeId) ≠ 36 ∧ (24 : TypeId) ≠ 25 ∧ (24 : TypeId) ≠ 9 := by decide
/-- A row stays when a seed's variable is written: it is of another type. -/
theorem own_seed {α : Type} {enc : α → List Value} {k : Nat} {T : TypeId} {w w' : World} {base B g : Nat} {v : Value} {l : List α} {ns : List Int} (h : Gn.Own enc k T w base v l) (hs : SV w B g ns) (hT : 24 ≠ T) (ht : Touch (fun i => i = g) w w') : Gn.Own enc k T w' base v l := by
  obtain ⟨h0, h1⟩ := h
  refine ⟨h0, ?_⟩
  rcases h1 with h1 | ⟨g', cap, cur, rfl, hg, hh, r⟩
  · exact .inl h1
  · have hlt : g' < w.heap.size := by
      rcases Nat.lt_or_ge g' w.heap.size with hlt | hge
      · exact hlt
      · rw [Array.getElem?_eq_none hge] at hh; cases hh
    refine .inr ⟨g', cap, cur, rfl, hg, (ht.block g' hlt (fun e => ?_)).trans hh, r⟩
    subst e
    obtain ⟨v, hb, _⟩ := hs.at_
    have hb' : w.heap[g']? = _ := hb
    rw [hh] at hb'
    injection hb' with hb'
    injection hb' with _ hb'
    exact hT hb'.symm
theorem each_seed {w w' : World} {B g : Nat} {ss : List Sl} {ls : List (List Nd)} {ns : List Int} (h : EachO w ss ls) (hs : SV w B g ns) (ht : Touch (fun i => i = g) w w') : EachO w' ss ls :=
  ⟨h.1, fun i s l h1 h2 => ⟨own_seed (h.2 i s l h1 h2).1 hs seed_ne.1 ht, (h.2 i s l h1 h2).2⟩⟩
theorem LS.start {w w2 : World} {B g D : Nat} {ns2 : List Int} {c0 : Nat} (hc : c0 ≤ 4) (ht : Touch (fun i => i = g) w w2) (hs : SV w2 B g ns2) : LS w w2 B g D ns2 ns2 (.slice none 0 0) (.slice none 0 0) [] [] [] c0 :=
  ⟨Gn.Own.nil _ _, Gn.Own.nil _ _, EachO.nil _, by simp, by simp, by simp, by simp, rfl, by simp; omega, by simp, ht, hs⟩
theorem mk_ok : ∀ (ys : List ByteArray) (Fs : List Fo), (∀ y ∈ ys, y.size ≤ maxLen) → (∀ F ∈ Fs, ∀ x ∈ Tp.flat F, Nok x) → ∀ x ∈ Tp.flat (mkC ys Fs), Nok x
  | [], _, _, _, x, hx => by simp [mkC] at hx
  | _ :: _, [], _, _, x, hx => by simp [mkC] at hx
  | y :: ys, .nil :: Fs, _, _, x, hx => by simp [mkC] at hx
  | y :: ys, .node k y' n s c r :: Fs, h1, h2, x, hx => by
    rw [mkC, Tp.flat_node] at hx
    have h3 := h2 _ (List.mem_cons_self ..)
    rw [Tp.flat_node] at h3
    rcases List.mem_cons.1 hx with rfl | hx
    · have := h3 _ (List.mem_cons_self ..)
      exact ⟨this.1, h1 y (List.mem_cons_self ..), this.2.2⟩
    · rcases List.mem_append.1 hx with hx | hx
      · exact h3 x (List.mem_cons_of_mem _ (List.mem_append_left _ hx))
      · exact mk_ok ys Fs (fun z hz => h1 z (List.mem_cons_of_mem _ hz)) (fun F hF => h2 F (List.mem_cons_of_mem _ hF)) x hx
theorem each_all {w : World} {ss : List Sl} {Fs : List Fo} (h : EachO w ss (Fs.map Tp.flat)) : ∀ F ∈ Fs, ∀ x ∈ Tp.flat F, Nok x := by
  intro F hF
  obtain ⟨i, hi, e⟩ := List.getElem_of_mem hF
  have h1 : (Fs.map Tp.flat)[i]? = some (Tp.flat F) := by rw [List.getElem?_map, List.getElem?_eq_getElem hi, e]; rfl
  have hl : i < ss.length := by rw [h.1]; simpa using hi
  exact (h.2 i _ _ (List.getElem?_eq_getElem hl) h1).2
/-- The list, or the object, that comes of parts. -/
theorem put_ok {w wx : World} {B g D : Nat} {ns ns2 nx : List Int} {kv lv : Value} {ss : List Sl} {ys zs : List ByteArray} {Fs : List Fo} {K : Int} (hK : K = 6 ∨ K = 7) (h : LS w wx B g D ns2 nx kv lv ss ys Fs 0) (hz : zs.length = Fs.length) (hko : Tp.ko K zs) (hzs : ∀ z ∈ zs, z.size ≤ maxLen) (hns : ns2.length + 2 ≤ ns.length) (hlen : ns.length ≤ 150) (hD : 1 ≤ D ∧ D ≤ 6) :
    JoinIs K zs (Fs.map Tp.flat) (Tp.flat (.node K ⟨#[]⟩ 0 ⟨#[]⟩ (mkC zs Fs) .nil)) 0 ∧ (∀ base v wz, OwnN wz base v (Tp.flat (.node K ⟨#[]⟩ 0 ⟨#[]⟩ (mkC zs Fs) .nil)) → w.heap.size ≤ base → Touch (fun i => i = g) w wz → SV wz B g nx → VOk w wz B g ns D v (.node K ⟨#[]⟩ 0 ⟨#[]⟩ (mkC zs Fs) .nil) nx) := by
  have hm := mk_is zs Fs hz h.root
  have h1 := h.sz
  have h2 := h.few
  have hsz := hm.sz
  have hdp := (hm.dep (7 - D)).2 h.dep
  have hg := hm.good h.good
  have hok : Tp.ko K (Tp.keys (mkC zs Fs)) := by rw [hm.keys]; exact hko
  refine ⟨?_, fun base v wz ho hb ht hs => ⟨Gn.Own.lower ho hb, ⟨K, 0, ⟨#[]⟩, _, rfl⟩, ⟨.inr (.inr (.inr ⟨hK, rfl, rfl⟩)), fun hk5 => by omega, hok, hg, trivial⟩, ?_, ?_, ?_, ht, hs⟩⟩
  · have := join_is hK hg hok (by omega) (by omega) (r := Tp.flat (.node K ⟨#[]⟩ 0 ⟨#[]⟩ (mkC zs Fs) .nil)) (x := 0) (.inl ⟨by omega, by omega, rfl, rfl⟩)
    rw [hm.keys, hm.cks] at this
    exact this
  · rw [Tp.sz_node, Tp.sz_nil]; omega
  · simp only [Tp.dep]; omega
  · intro x hx
    rw [Tp.flat_node] at hx
    rcases List.mem_cons.1 hx with rfl | hx
    · exact ⟨by simp only; omega, Nat.zero_le _, by simp only; omega, Nat.zero_le _, by simp only; omega⟩
    · rw [Tp.flat_nil, List.append_nil] at hx
      exact mk_ok zs Fs hzs (each_all h.each) x hx
def letter (j : Nat) : ByteArray := (⟨#[97, 98, 99, 100, 101]⟩ : ByteArray).extract j (j + 1)
theorem letter_ok (j : Nat) (h : j ≤ 4) : Utf.vld (bl (letter j)) = true ∧ (letter j).size = 1 := by
  rcases (show j = 0 ∨ j = 1 ∨ j = 2 ∨ j = 3 ∨ j = 4 by omega) with rfl | rfl | rfl | rfl | rfl <;> exact ⟨by kernel_rfl, by kernel_rfl⟩
theorem letter_run (j : Nat) (h : j ≤ 4) (w : World) : (Instr.slice 9 (.string ⟨#[97, 98, 99, 100, 101]⟩) (some (.int .i64 (j : Nat))) (some (.int .i64 ((j : Nat) + 1))) none).run Tryd.prog w = .ok (.string (letter j)) w := by
  rcases (show j = 0 ∨ j = 1 ∨ j = 2 ∨ j = 3 ∨ j = 4 by omega) with rfl | rfl | rfl | rfl | rfl <;> rfl
theorem touch_grown {w w' : World} {row : Option Nat} (hg : w.grownBy w' row) : Touch (fun i => row = some i) w w' := ⟨hg.os, hg.tape, hg.output, hg.size, fun k hk hn => hg.block k hk (fun e => hn e.symm)⟩
theorem touch_row {g : Nat} {w a b : World} {row : Option Nat} (h : Touch (fun i => i = g) w a) (hg : a.grownBy b row) (hr : ∀ i, row = some i → w.heap.size ≤ i) : Touch (fun i => i = g) w b := h.trans (touch_grown hg) (fun i hi => .inr (hr i hi))
theorem SV.row {w w' : World} {B g W0 : Nat} {ns : List Int} {row : Option Nat} (h : SV w B g ns) (hg : w.grownBy w' row) (hr : ∀ i, row = some i → W0 ≤ i) (hlt : g < W0) : SV w' B g ns := by
  obtain ⟨v, h1, h2⟩ := h.at_
  have ht := touch_grown hg
  have hlo := h.lo
  refine ⟨⟨v, h1.touch ht (fun e => by have := hr g e; omega), Gn.Rd.below h2 (ht.below (B := B) (by have := h.lt; omega) (fun i hi => by have := hr i hi; omega)) (Nat.le_refl _)⟩, h.lo, h.ok⟩
theorem SV.drew {w : World} {B g : Nat} {ns : List Int} (h : SV w B g ns) : SV w.drew B g ns := by
  obtain ⟨v, h1, h2⟩ := h.at_
  exact ⟨⟨v, h1, Gn.Rd.below h2 (Below.refl B w).drew (Nat.le_refl _)⟩, h.lo, h.ok⟩
theorem touch_undrew {g : Nat} {a b c : World} (h : Touch (fun i => i = g) a b) (k : Touch (fun i => i = g) b.drew c) : Touch (fun i => i = g) a c := touch_trans h (Touch.undrew k)

set_option maxHeartbeats 40000000 in
theorem sval_step (D : Nat) (hD : 1 ≤ D ∧ D ≤ 7) (IH : D ≤ 6 → SClaimV (D + 1)) : SClaimV D := by
  intro B g ns w hV hB hlen T
  have HV := Lib.hid hV
  have HIH := Lib.hid IH
  have CN := Lib.hid (snext 8 B g ns w (by omega) hV)
  have HTW := Lib.hid T
  clear hV T IH
  go_enter Tryd.func34, Tryd.ntmps34
  go_wp2_with fail
  ((with_reducible refine (CN.out).mono ?_); rintro e w1 ⟨k0, rfl, hk0, ht, hs⟩)
  have HT1 := Lib.hid ht
  have HS1 := Lib.hid hs
  have HTB := Lib.hid (HV.out.tab HTW.out hB ht)
  obtain ⟨sv, hbk, hri⟩ := hs.at_
  obtain ⟨sa, sc, rfl, _⟩ := Gn.Rd.form hri
  have c0 := hbk.cell 0
  simp only [List.getElem?_cons_zero] at c0
  obtain ⟨M, hM⟩ : ∃ M, ns.tail.length = M := ⟨_, rfl⟩
  have HM := Lib.hid hM
  rw [hM] at c0
  clear ht hs hbk hri hM CN
  have hk08 : k0 = 0 ∨ k0 = 1 ∨ k0 = 2 ∨ k0 = 3 ∨ k0 = 4 ∨ k0 = 5 ∨ k0 = 6 ∨ k0 = 7 := by omega
  by_cases h6 : 6 < D
  · have h6' : (6 : Int) < (D : Nat) := by omega
    rcases hk08 with rfl | rfl | rfl | rfl | rfl | rfl | rfl | rfl
    · have C := Lib.hid (mkNull w1)
      go_wp2_with fail
      ((with_reducible refine (C.out).mono ?_); rintro e w2 ⟨v, rfl, ho, b⟩)
      have HF := Lib.hid (leaf_ok (w := w) (w1 := w1) (D := D) (ns := ns) ho HT1.out.size null_hf hD.2 (by omega) (by decide) (touch_trans HT1.out (touch_new b)) (HS1.out.later b) (tail_len ns))
      clear ho b C
      go_wp2_with fail
      go_ret2
      exact ⟨_, _, _, rfl, HF.out⟩
    · have C := Lib.hid (snext 2 B g ns.tail w1 (by omega) HS1.out)
      go_wp2_with fail
      ((with_reducible refine (C.out).mono ?_); rintro e w2 ⟨k2, rfl, _, ht, hs⟩)
      have HT2 := Lib.hid (touch_trans HT1.out ht)
      have HS2 := Lib.hid hs
      have C2 := Lib.hid (mkBool ((k2 : Int) == 1) w2)
      clear ht hs C
      go_wp2_with fail
      ((with_reducible refine (C2.out).mono ?_); rintro e w3 ⟨v, rfl, ho, b⟩)
      have HF := Lib.hid (leaf_ok (w := w) (w1 := w1) (D := D) (ns := ns) ho HT2.out.size (bool_hf _) hD.2 (by omega) (by decide) (touch_trans HT2.out (touch_new b)) (HS2.out.later b) (Nat.le_trans (tail_len _) (tail_len ns)))
      clear ho b C2
      go_wp2_with fail
      go_ret2
      exact ⟨_, _, _, rfl, HF.out⟩
    · obtain ⟨wa, hwa⟩ : ∃ wa, wa = w1.alloc (.cells #[.int .i64 0, .int .i64 1, .int .i64 (-1), .int .i64 9223372036854775807, .int .i64 (-9223372036854775808), .int .i64 42] 2) := ⟨_, rfl⟩
      have HU : Hid (Below w1.heap.size w1 wa) := Lib.hid (by rw [hwa]; exact up_new w1 _)
      have HBK : Hid (Blk wa w1.heap.size 2 (numsL.map (fun x => .int .i64 x))) := Lib.hid (by rw [hwa]; exact Blk.new w1 _ _)
      have C := Lib.hid (snext 6 B g ns.tail wa (by omega) (HS1.out.later HU.out))
      rw [hwa] at C
      have hg1 := HS1.out.lt
      go_wp2_with fail
      ((with_reducible refine (C.out).mono ?_); rintro e w2 ⟨k2, rfl, hk2, ht, hs⟩)
      rw [← hwa] at ht
      have HT2 := Lib.hid (touch_trans HT1.out (touch_trans (touch_new HU.out) ht))
      have HS2 := Lib.hid hs
      have HB2 := HBK.out.touch ht (by omega)
      have hk6 : k2 < 6 := by omega
      have hc := HB2.cell k2
      obtain ⟨x, hx⟩ : ∃ x, numsL[k2]? = some x := ⟨_, List.getElem?_eq_getElem (by simpa [numsL] using hk6)⟩
      have HX := Lib.hid (num_ok x (List.mem_of_getElem? hx))
      rw [List.getElem?_map, hx] at hc
      simp only [Option.map_some] at hc
      have C2 := Lib.hid (mkNum x w2)
      clear ht hs HB2 hx hwa C
      go_wp2_with fail
      ((with_reducible refine (C2.out).mono ?_); rintro e w3 ⟨v, rfl, ho, b⟩)
      have HF := Lib.hid (leaf_ok (w := w) (w1 := w1) (D := D) (ns := ns) ho HT2.out.size (num_hf x) hD.2 HX.out (by decide) (touch_trans HT2.out (touch_new b)) (HS2.out.later b) (Nat.le_trans (tail_len _) (tail_len ns)))
      clear ho b C2
      go_wp2_with fail
      go_ret2
      exact ⟨_, _, _, rfl, HF.out⟩
    · obtain ⟨wa, hwa⟩ : ∃ wa, wa = w1.alloc (.cells #[.int .i64 0, .int .i64 1, .int .i64 (-1), .int .i64 9223372036854775807, .int .i64 (-9223372036854775808), .int .i64 42] 2) := ⟨_, rfl⟩
      have HU : Hid (Below w1.heap.size w1 wa) := Lib.hid (by rw [hwa]; exact up_new w1 _)
      have HBK : Hid (Blk wa w1.heap.size 2 (numsL.map (fun x => .int .i64 x))) := Lib.hid (by rw [hwa]; exact Blk.new w1 _ _)
      have C := Lib.hid (snext 6 B g ns.tail wa (by omega) (HS1.out.later HU.out))
      rw [hwa] at C
      have hg1 := HS1.out.lt
      go_wp2_with fail
      ((with_reducible refine (C.out).mono ?_); rintro e w2 ⟨k2, rfl, hk2, ht, hs⟩)
      rw [← hwa] at ht
      have HT2 := Lib.hid (touch_trans HT1.out (touch_trans (touch_new HU.out) ht))
      have HS2 := Lib.hid hs
      have HB2 := HBK.out.touch ht (by omega)
      have hk6 : k2 < 6 := by omega
      have hc := HB2.cell k2
      obtain ⟨x, hx⟩ : ∃ x, numsL[k2]? = some x := ⟨_, List.getElem?_eq_getElem (by simpa [numsL] using hk6)⟩
      have HX := Lib.hid (num_ok x (List.mem_of_getElem? hx))
      rw [List.getElem?_map, hx] at hc
      simp only [Option.map_some] at hc
      have C2 := Lib.hid (mkNum x w2)
      clear ht hs HB2 hx hwa C
      go_wp2_with fail
      ((with_reducible refine (C2.out).mono ?_); rintro e w3 ⟨v, rfl, ho, b⟩)
      have HF := Lib.hid (leaf_ok (w := w) (w1 := w1) (D := D) (ns := ns) ho HT2.out.size (num_hf x) hD.2 HX.out (by decide) (touch_trans HT2.out (touch_new b)) (HS2.out.later b) (Nat.le_trans (tail_len _) (tail_len ns)))
      clear ho b C2
      go_wp2_with fail
      go_ret2
      exact ⟨_, _, _, rfl, HF.out⟩
    · have C := Lib.hid (sword B g ns.tail w1 HS1.out)
      go_wp2_with fail
      ((with_reducible refine (C.out).mono ?_); rintro e w2 ⟨s, rfl, hm, ht, hs⟩)
      have HT2 := Lib.hid (touch_trans HT1.out ht)
      have HS2 := Lib.hid hs
      have HW := Lib.hid (word_ok s hm)
      have C2 : Hid (Calls Tryd.prog 46 #[.string s] w2 fun e w' => MkPost w2 [nd1 5 0 s] e w') := Lib.hid (by
        have h := mkStr s w2 (HS1.out.tab HTB.out hB ht) (by have := HW.out.2; unfold maxLen; omega)
        unfold strL at h
        rwa [if_pos HW.out.1] at h)
      clear ht hs C
      go_wp2_with fail
      ((with_reducible refine (C2.out).mono ?_); rintro e w3 ⟨v, rfl, ho, b⟩)
      have HF := Lib.hid (leaf_ok (w := w) (w1 := w1) (D := D) (ns := ns) ho HT2.out.size (.inr (.inr (.inl ⟨rfl, rfl, HW.out.1⟩))) hD.2 (by omega) (by have := HW.out.2; omega) (touch_trans HT2.out (touch_new b)) (HS2.out.later b) (Nat.le_trans (tail_len _) (tail_len ns)))
      clear ho b C2
      go_wp2_with fail
      go_ret2
      exact ⟨_, _, _, rfl, HF.out⟩
    · have C := Lib.hid (mkNull w1)
      go_wp2_with fail
      ((with_reducible refine (C.out).mono ?_); rintro e w2 ⟨v, rfl, ho, b⟩)
      have HF := Lib.hid (leaf_ok (w := w) (w1 := w1) (D := D) (ns := ns) ho HT1.out.size null_hf hD.2 (by omega) (by decide) (touch_trans HT1.out (touch_new b)) (HS1.out.later b) (tail_len ns))
      clear ho b C
      go_wp2_with fail
      go_ret2
      exact ⟨_, _, _, rfl, HF.out⟩
    · have C := Lib.hid (snext 2 B g ns.tail w1 (by omega) HS1.out)
      go_wp2_with fail
      ((with_reducible refine (C.out).mono ?_); rintro e w2 ⟨k2, rfl, _, ht, hs⟩)
      have HT2 := Lib.hid (touch_trans HT1.out ht)
      have HS2 := Lib.hid hs
      have C2 := Lib.hid (mkBool ((k2 : Int) == 1) w2)
      clear ht hs C
      go_wp2_with fail
      ((with_reducible refine (C2.out).mono ?_); rintro e w3 ⟨v, rfl, ho, b⟩)
      have HF := Lib.hid (leaf_ok (w := w) (w1 := w1) (D := D) (ns := ns) ho HT2.out.size (bool_hf _) hD.2 (by omega) (by decide) (touch_trans HT2.out (touch_new b)) (HS2.out.later b) (Nat.le_trans (tail_len _) (tail_len ns)))
      clear ho b C2
      go_wp2_with fail
      go_ret2
      exact ⟨_, _, _, rfl, HF.out⟩
    · obtain ⟨wa, hwa⟩ : ∃ wa, wa = w1.alloc (.cells #[.int .i64 0, .int .i64 1, .int .i64 (-1), .int .i64 9223372036854775807, .int .i64 (-9223372036854775808), .int .i64 42] 2) := ⟨_, rfl⟩
      have HU : Hid (Below w1.heap.size w1 wa) := Lib.hid (by rw [hwa]; exact up_new w1 _)
      have HBK : Hid (Blk wa w1.heap.size 2 (numsL.map (fun x => .int .i64 x))) := Lib.hid (by rw [hwa]; exact Blk.new w1 _ _)
      have C := Lib.hid (snext 6 B g ns.tail wa (by omega) (HS1.out.later HU.out))
      rw [hwa] at C
      have hg1 := HS1.out.lt
      go_wp2_with fail
      ((with_reducible refine (C.out).mono ?_); rintro e w2 ⟨k2, rfl, hk2, ht, hs⟩)
      rw [← hwa] at ht
      have HT2 := Lib.hid (touch_trans HT1.out (touch_trans (touch_new HU.out) ht))
      have HS2 := Lib.hid hs
      have HB2 := HBK.out.touch ht (by omega)
      have hk6 : k2 < 6 := by omega
      have hc := HB2.cell k2
      obtain ⟨x, hx⟩ : ∃ x, numsL[k2]? = some x := ⟨_, List.getElem?_eq_getElem (by simpa [numsL] using hk6)⟩
      have HX := Lib.hid (num_ok x (List.mem_of_getElem? hx))
      rw [List.getElem?_map, hx] at hc
      simp only [Option.map_some] at hc
      have C2 := Lib.hid (mkNum x w2)
      clear ht hs HB2 hx hwa C
      go_wp2_with fail
      ((with_reducible refine (C2.out).mono ?_); rintro e w3 ⟨v, rfl, ho, b⟩)
      have HF := Lib.hid (leaf_ok (w := w) (w1 := w1) (D := D) (ns := ns) ho HT2.out.size (num_hf x) hD.2 HX.out (by decide) (touch_trans HT2.out (touch_new b)) (HS2.out.later b) (Nat.le_trans (tail_len _) (tail_len ns)))
      clear ho b C2
      go_wp2_with fail
      go_ret2
      exact ⟨_, _, _, rfl, HF.out⟩
  · by_cases h0 : M = 0
    · have h6' : ¬ (6 : Int) < (D : Nat) := by omega
      subst h0
      rcases hk08 with rfl | rfl | rfl | rfl | rfl | rfl | rfl | rfl
      · have C := Lib.hid (mkNull w1)
        go_wp2_with fail
        ((with_reducible refine (C.out).mono ?_); rintro e w2 ⟨v, rfl, ho, b⟩)
        have HF := Lib.hid (leaf_ok (w := w) (w1 := w1) (D := D) (ns := ns) ho HT1.out.size null_hf hD.2 (by omega) (by decide) (touch_trans HT1.out (touch_new b)) (HS1.out.later b) (tail_len ns))
        clear ho b C
        go_wp2_with fail
        go_ret2
        exact ⟨_, _, _, rfl, HF.out⟩
      · have C := Lib.hid (snext 2 B g ns.tail w1 (by omega) HS1.out)
        go_wp2_with fail
        ((with_reducible refine (C.out).mono ?_); rintro e w2 ⟨k2, rfl, _, ht, hs⟩)
        have HT2 := Lib.hid (touch_trans HT1.out ht)
        have HS2 := Lib.hid hs
        have C2 := Lib.hid (mkBool ((k2 : Int) == 1) w2)
        clear ht hs C
        go_wp2_with fail
        ((with_reducible refine (C2.out).mono ?_); rintro e w3 ⟨v, rfl, ho, b⟩)
        have HF := Lib.hid (leaf_ok (w := w) (w1 := w1) (D := D) (ns := ns) ho HT2.out.size (bool_hf _) hD.2 (by omega) (by decide) (touch_trans HT2.out (touch_new b)) (HS2.out.later b) (Nat.le_trans (tail_len _) (tail_len ns)))
        clear ho b C2
        go_wp2_with fail
        go_ret2
        exact ⟨_, _, _, rfl, HF.out⟩
      · obtain ⟨wa, hwa⟩ : ∃ wa, wa = w1.alloc (.cells #[.int .i64 0, .int .i64 1, .int .i64 (-1), .int .i64 9223372036854775807, .int .i64 (-9223372036854775808), .int .i64 42] 2) := ⟨_, rfl⟩
        have HU : Hid (Below w1.heap.size w1 wa) := Lib.hid (by rw [hwa]; exact up_new w1 _)
        have HBK : Hid (Blk wa w1.heap.size 2 (numsL.map (fun x => .int .i64 x))) := Lib.hid (by rw [hwa]; exact Blk.new w1 _ _)
        have C := Lib.hid (snext 6 B g ns.tail wa (by omega) (HS1.out.later HU.out))
        rw [hwa] at C
        have hg1 := HS1.out.lt
        go_wp2_with fail
        ((with_reducible refine (C.out).mono ?_); rintro e w2 ⟨k2, rfl, hk2, ht, hs⟩)
        rw [← hwa] at ht
        have HT2 := Lib.hid (touch_trans HT1.out (touch_trans (touch_new HU.out) ht))
        have HS2 := Lib.hid hs
        have HB2 := HBK.out.touch ht (by omega)
        have hk6 : k2 < 6 := by omega
        have hc := HB2.cell k2
        obtain ⟨x, hx⟩ : ∃ x, numsL[k2]? = some x := ⟨_, List.getElem?_eq_getElem (by simpa [numsL] using hk6)⟩
        have HX := Lib.hid (num_ok x (List.mem_of_getElem? hx))
        rw [List.getElem?_map, hx] at hc
        simp only [Option.map_some] at hc
        have C2 := Lib.hid (mkNum x w2)
        clear ht hs HB2 hx hwa C
        go_wp2_with fail
        ((with_reducible refine (C2.out).mono ?_); rintro e w3 ⟨v, rfl, ho, b⟩)
        have HF := Lib.hid (leaf_ok (w := w) (w1 := w1) (D := D) (ns := ns) ho HT2.out.size (num_hf x) hD.2 HX.out (by decide) (touch_trans HT2.out (touch_new b)) (HS2.out.later b) (Nat.le_trans (tail_len _) (tail_len ns)))
        clear ho b C2
        go_wp2_with fail
        go_ret2
        exact ⟨_, _, _, rfl, HF.out⟩
      · obtain ⟨wa, hwa⟩ : ∃ wa, wa = w1.alloc (.cells #[.int .i64 0, .int .i64 1, .int .i64 (-1), .int .i64 9223372036854775807, .int .i64 (-9223372036854775808), .int .i64 42] 2) := ⟨_, rfl⟩
        have HU : Hid (Below w1.heap.size w1 wa) := Lib.hid (by rw [hwa]; exact up_new w1 _)
        have HBK : Hid (Blk wa w1.heap.size 2 (numsL.map (fun x => .int .i64 x))) := Lib.hid (by rw [hwa]; exact Blk.new w1 _ _)
        have C := Lib.hid (snext 6 B g ns.tail wa (by omega) (HS1.out.later HU.out))
        rw [hwa] at C
        have hg1 := HS1.out.lt
        go_wp2_with fail
        ((with_reducible refine (C.out).mono ?_); rintro e w2 ⟨k2, rfl, hk2, ht, hs⟩)
        rw [← hwa] at ht
        have HT2 := Lib.hid (touch_trans HT1.out (touch_trans (touch_new HU.out) ht))
        have HS2 := Lib.hid hs
        have HB2 := HBK.out.touch ht (by omega)
        have hk6 : k2 < 6 := by omega
        have hc := HB2.cell k2
        obtain ⟨x, hx⟩ : ∃ x, numsL[k2]? = some x := ⟨_, List.getElem?_eq_getElem (by simpa [numsL] using hk6)⟩
        have HX := Lib.hid (num_ok x (List.mem_of_getElem? hx))
        rw [List.getElem?_map, hx] at hc
        simp only [Option.map_some] at hc
        have C2 := Lib.hid (mkNum x w2)
        clear ht hs HB2 hx hwa C
        go_wp2_with fail
        ((with_reducible refine (C2.out).mono ?_); rintro e w3 ⟨v, rfl, ho, b⟩)
        have HF := Lib.hid (leaf_ok (w := w) (w1 := w1) (D := D) (ns := ns) ho HT2.out.size (num_hf x) hD.2 HX.out (by decide) (touch_trans HT2.out (touch_new b)) (HS2.out.later b) (Nat.le_trans (tail_len _) (tail_len ns)))
        clear ho b C2
        go_wp2_with fail
        go_ret2
        exact ⟨_, _, _, rfl, HF.out⟩
      · have C := Lib.hid (sword B g ns.tail w1 HS1.out)
        go_wp2_with fail
        ((with_reducible refine (C.out).mono ?_); rintro e w2 ⟨s, rfl, hm, ht, hs⟩)
        have HT2 := Lib.hid (touch_trans HT1.out ht)
        have HS2 := Lib.hid hs
        have HW := Lib.hid (word_ok s hm)
        have C2 : Hid (Calls Tryd.prog 46 #[.string s] w2 fun e w' => MkPost w2 [nd1 5 0 s] e w') := Lib.hid (by
          have h := mkStr s w2 (HS1.out.tab HTB.out hB ht) (by have := HW.out.2; unfold maxLen; omega)
          unfold strL at h
          rwa [if_pos HW.out.1] at h)
        clear ht hs C
        go_wp2_with fail
        ((with_reducible refine (C2.out).mono ?_); rintro e w3 ⟨v, rfl, ho, b⟩)
        have HF := Lib.hid (leaf_ok (w := w) (w1 := w1) (D := D) (ns := ns) ho HT2.out.size (.inr (.inr (.inl ⟨rfl, rfl, HW.out.1⟩))) hD.2 (by omega) (by have := HW.out.2; omega) (touch_trans HT2.out (touch_new b)) (HS2.out.later b) (Nat.le_trans (tail_len _) (tail_len ns)))
        clear ho b C2
        go_wp2_with fail
        go_ret2
        exact ⟨_, _, _, rfl, HF.out⟩
      · have C := Lib.hid (mkNull w1)
        go_wp2_with fail
        ((with_reducible refine (C.out).mono ?_); rintro e w2 ⟨v, rfl, ho, b⟩)
        have HF := Lib.hid (leaf_ok (w := w) (w1 := w1) (D := D) (ns := ns) ho HT1.out.size null_hf hD.2 (by omega) (by decide) (touch_trans HT1.out (touch_new b)) (HS1.out.later b) (tail_len ns))
        clear ho b C
        go_wp2_with fail
        go_ret2
        exact ⟨_, _, _, rfl, HF.out⟩
      · have C := Lib.hid (snext 2 B g ns.tail w1 (by omega) HS1.out)
        go_wp2_with fail
        ((with_reducible refine (C.out).mono ?_); rintro e w2 ⟨k2, rfl, _, ht, hs⟩)
        have HT2 := Lib.hid (touch_trans HT1.out ht)
        have HS2 := Lib.hid hs
        have C2 := Lib.hid (mkBool ((k2 : Int) == 1) w2)
        clear ht hs C
        go_wp2_with fail
        ((with_reducible refine (C2.out).mono ?_); rintro e w3 ⟨v, rfl, ho, b⟩)
        have HF := Lib.hid (leaf_ok (w := w) (w1 := w1) (D := D) (ns := ns) ho HT2.out.size (bool_hf _) hD.2 (by omega) (by decide) (touch_trans HT2.out (touch_new b)) (HS2.out.later b) (Nat.le_trans (tail_len _) (tail_len ns)))
        clear ho b C2
        go_wp2_with fail
        go_ret2
        exact ⟨_, _, _, rfl, HF.out⟩
      · obtain ⟨wa, hwa⟩ : ∃ wa, wa = w1.alloc (.cells #[.int .i64 0, .int .i64 1, .int .i64 (-1), .int .i64 9223372036854775807, .int .i64 (-9223372036854775808), .int .i64 42] 2) := ⟨_, rfl⟩
        have HU : Hid (Below w1.heap.size w1 wa) := Lib.hid (by rw [hwa]; exact up_new w1 _)
        have HBK : Hid (Blk wa w1.heap.size 2 (numsL.map (fun x => .int .i64 x))) := Lib.hid (by rw [hwa]; exact Blk.new w1 _ _)
        have C := Lib.hid (snext 6 B g ns.tail wa (by omega) (HS1.out.later HU.out))
        rw [hwa] at C
        have hg1 := HS1.out.lt
        go_wp2_with fail
        ((with_reducible refine (C.out).mono ?_); rintro e w2 ⟨k2, rfl, hk2, ht, hs⟩)
        rw [← hwa] at ht
        have HT2 := Lib.hid (touch_trans HT1.out (touch_trans (touch_new HU.out) ht))
        have HS2 := Lib.hid hs
        have HB2 := HBK.out.touch ht (by omega)
        have hk6 : k2 < 6 := by omega
        have hc := HB2.cell k2
        obtain ⟨x, hx⟩ : ∃ x, numsL[k2]? = some x := ⟨_, List.getElem?_eq_getElem (by simpa [numsL] using hk6)⟩
        have HX := Lib.hid (num_ok x (List.mem_of_getElem? hx))
        rw [List.getElem?_map, hx] at hc
        simp only [Option.map_some] at hc
        have C2 := Lib.hid (mkNum x w2)
        clear ht hs HB2 hx hwa C
        go_wp2_with fail
        ((with_reducible refine (C2.out).mono ?_); rintro e w3 ⟨v, rfl, ho, b⟩)
        have HF := Lib.hid (leaf_ok (w := w) (w1 := w1) (D := D) (ns := ns) ho HT2.out.size (num_hf x) hD.2 HX.out (by decide) (touch_trans HT2.out (touch_new b)) (HS2.out.later b) (Nat.le_trans (tail_len _) (tail_len ns)))
        clear ho b C2
        go_wp2_with fail
        go_ret2
        exact ⟨_, _, _, rfl, HF.out⟩
    · have h6' : ¬ (6 : Int) < (D : Nat) := by omega
      have hM0 : ((M : Int) == 0) = false := by simp; omega
      have hM1 : 1 ≤ M := by omega
      have hD6 : D ≤ 6 := by omega
      rcases hk08 with rfl | rfl | rfl | rfl | rfl | rfl | rfl | rfl
      · have C := Lib.hid (mkNull w1)
        go_wp2_with fail
        ((with_reducible refine (C.out).mono ?_); rintro e w2 ⟨v, rfl, ho, b⟩)
        have HF := Lib.hid (leaf_ok (w := w) (w1 := w1) (D := D) (ns := ns) ho HT1.out.size null_hf hD.2 (by omega) (by decide) (touch_trans HT1.out (touch_new b)) (HS1.out.later b) (tail_len ns))
        clear ho b C
        go_wp2_with fail
        go_ret2
        exact ⟨_, _, _, rfl, HF.out⟩
      · have C := Lib.hid (snext 2 B g ns.tail w1 (by omega) HS1.out)
        go_wp2_with fail
        ((with_reducible refine (C.out).mono ?_); rintro e w2 ⟨k2, rfl, _, ht, hs⟩)
        have HT2 := Lib.hid (touch_trans HT1.out ht)
        have HS2 := Lib.hid hs
        have C2 := Lib.hid (mkBool ((k2 : Int) == 1) w2)
        clear ht hs C
        go_wp2_with fail
        ((with_reducible refine (C2.out).mono ?_); rintro e w3 ⟨v, rfl, ho, b⟩)
        have HF := Lib.hid (leaf_ok (w := w) (w1 := w1) (D := D) (ns := ns) ho HT2.out.size (bool_hf _) hD.2 (by omega) (by decide) (touch_trans HT2.out (touch_new b)) (HS2.out.later b) (Nat.le_trans (tail_len _) (tail_len ns)))
        clear ho b C2
        go_wp2_with fail
        go_ret2
        exact ⟨_, _, _, rfl, HF.out⟩
      · obtain ⟨wa, hwa⟩ : ∃ wa, wa = w1.alloc (.cells #[.int .i64 0, .int .i64 1, .int .i64 (-1), .int .i64 9223372036854775807, .int .i64 (-9223372036854775808), .int .i64 42] 2) := ⟨_, rfl⟩
        have HU : Hid (Below w1.heap.size w1 wa) := Lib.hid (by rw [hwa]; exact up_new w1 _)
        have HBK : Hid (Blk wa w1.heap.size 2 (numsL.map (fun x => .int .i64 x))) := Lib.hid (by rw [hwa]; exact Blk.new w1 _ _)
        have C := Lib.hid (snext 6 B g ns.tail wa (by omega) (HS1.out.later HU.out))
        rw [hwa] at C
        have hg1 := HS1.out.lt
        go_wp2_with fail
        ((with_reducible refine (C.out).mono ?_); rintro e w2 ⟨k2, rfl, hk2, ht, hs⟩)
        rw [← hwa] at ht
        have HT2 := Lib.hid (touch_trans HT1.out (touch_trans (touch_new HU.out) ht))
        have HS2 := Lib.hid hs
        have HB2 := HBK.out.touch ht (by omega)
        have hk6 : k2 < 6 := by omega
        have hc := HB2.cell k2
        obtain ⟨x, hx⟩ : ∃ x, numsL[k2]? = some x := ⟨_, List.getElem?_eq_getElem (by simpa [numsL] using hk6)⟩
        have HX := Lib.hid (num_ok x (List.mem_of_getElem? hx))
        rw [List.getElem?_map, hx] at hc
        simp only [Option.map_some] at hc
        have C2 := Lib.hid (mkNum x w2)
        clear ht hs HB2 hx hwa C
        go_wp2_with fail
        ((with_reducible refine (C2.out).mono ?_); rintro e w3 ⟨v, rfl, ho, b⟩)
        have HF := Lib.hid (leaf_ok (w := w) (w1 := w1) (D := D) (ns := ns) ho HT2.out.size (num_hf x) hD.2 HX.out (by decide) (touch_trans HT2.out (touch_new b)) (HS2.out.later b) (Nat.le_trans (tail_len _) (tail_len ns)))
        clear ho b C2
        go_wp2_with fail
        go_ret2
        exact ⟨_, _, _, rfl, HF.out⟩
      · obtain ⟨wa, hwa⟩ : ∃ wa, wa = w1.alloc (.cells #[.int .i64 0, .int .i64 1, .int .i64 (-1), .int .i64 9223372036854775807, .int .i64 (-9223372036854775808), .int .i64 42] 2) := ⟨_, rfl⟩
        have HU : Hid (Below w1.heap.size w1 wa) := Lib.hid (by rw [hwa]; exact up_new w1 _)
        have HBK : Hid (Blk wa w1.heap.size 2 (numsL.map (fun x => .int .i64 x))) := Lib.hid (by rw [hwa]; exact Blk.new w1 _ _)
        have C := Lib.hid (snext 6 B g ns.tail wa (by omega) (HS1.out.later HU.out))
        rw [hwa] at C
        have hg1 := HS1.out.lt
        go_wp2_with fail
        ((with_reducible refine (C.out).mono ?_); rintro e w2 ⟨k2, rfl, hk2, ht, hs⟩)
        rw [← hwa] at ht
        have HT2 := Lib.hid (touch_trans HT1.out (touch_trans (touch_new HU.out) ht))
        have HS2 := Lib.hid hs
        have HB2 := HBK.out.touch ht (by omega)
        have hk6 : k2 < 6 := by omega
        have hc := HB2.cell k2
        obtain ⟨x, hx⟩ : ∃ x, numsL[k2]? = some x := ⟨_, List.getElem?_eq_getElem (by simpa [numsL] using hk6)⟩
        have HX := Lib.hid (num_ok x (List.mem_of_getElem? hx))
        rw [List.getElem?_map, hx] at hc
        simp only [Option.map_some] at hc
        have C2 := Lib.hid (mkNum x w2)
        clear ht hs HB2 hx hwa C
        go_wp2_with fail
        ((with_reducible refine (C2.out).mono ?_); rintro e w3 ⟨v, rfl, ho, b⟩)
        have HF := Lib.hid (leaf_ok (w := w) (w1 := w1) (D := D) (ns := ns) ho HT2.out.size (num_hf x) hD.2 HX.out (by decide) (touch_trans HT2.out (touch_new b)) (HS2.out.later b) (Nat.le_trans (tail_len _) (tail_len ns)))
        clear ho b C2
        go_wp2_with fail
        go_ret2
        exact ⟨_, _, _, rfl, HF.out⟩
      · have C := Lib.hid (sword B g ns.tail w1 HS1.out)
        go_wp2_with fail
        ((with_reducible refine (C.out).mono ?_); rintro e w2 ⟨s, rfl, hm, ht, hs⟩)
        have HT2 := Lib.hid (touch_trans HT1.out ht)
        have HS2 := Lib.hid hs
        have HW := Lib.hid (word_ok s hm)
        have C2 : Hid (Calls Tryd.prog 46 #[.string s] w2 fun e w' => MkPost w2 [nd1 5 0 s] e w') := Lib.hid (by
          have h := mkStr s w2 (HS1.out.tab HTB.out hB ht) (by have := HW.out.2; unfold maxLen; omega)
          unfold strL at h
          rwa [if_pos HW.out.1] at h)
        clear ht hs C
        go_wp2_with fail
        ((with_reducible refine (C2.out).mono ?_); rintro e w3 ⟨v, rfl, ho, b⟩)
        have HF := Lib.hid (leaf_ok (w := w) (w1 := w1) (D := D) (ns := ns) ho HT2.out.size (.inr (.inr (.inl ⟨rfl, rfl, HW.out.1⟩))) hD.2 (by omega) (by have := HW.out.2; omega) (touch_trans HT2.out (touch_new b)) (HS2.out.later b) (Nat.le_trans (tail_len _) (tail_len ns)))
        clear ho b C2
        go_wp2_with fail
        go_ret2
        exact ⟨_, _, _, rfl, HF.out⟩
      · have C := Lib.hid (snext 5 B g ns.tail w1 (by omega) HS1.out)
        have HNS : Hid (ns.tail.tail.length + 2 ≤ ns.length) := Lib.hid (by have := HM.out; have h1 := hM1; simp only [List.length_tail] at this ⊢; omega)
        go_wp2_with fail
        ((with_reducible refine (C.out).mono ?_); rintro e w2 ⟨c0, rfl, hc0, ht, hs⟩)
        have HST := Lib.hid (LS.start (w := w) (D := D) (c0 := c0) (by omega) (touch_trans HT1.out ht) hs)
        have hc4 : c0 ≤ 4 := by omega
        obtain ⟨ns2, hns2⟩ : ∃ n2, n2 = ns.tail.tail := ⟨_, rfl⟩
        rw [← hns2] at HST HNS
        clear ht hs C hns2 HT1 HS1
        go_wp2_with fail
        go_loopw [7, 8, 9] (fun kv lv i wx => ∃ (j : Nat) (ss : List Sl) (ys : List ByteArray) (Fs : List Fo) (nx : List Int), i = .int .i64 (j : Nat) ∧ j ≤ 4 ∧ Hid (LS w wx B g D ns2 nx kv lv ss ys Fs j)) (fun _ _ i _ => (intOf i).toNat)
        case atStart => exact ⟨c0, [], [], [], ns2, by rfl, hc4, HST⟩
        case round =>
          obtain ⟨j, ss, ys, Fs, nx, rfl, hj, HL⟩ := hrel
          have HTW2 := Lib.hid (HV.out.tab HTW.out hB HL.out.touch)
          by_cases hj0 : 0 < j
          · have hj1 : (0 : Int) < (j : Nat) := by omega
            have hnx : nx.length ≤ 150 := by have := HL.out.sz; have := HL.out.few; have := HNS.out; omega
            have CI := Lib.hid (HIH.out hD6 B g nx wr HL.out.seed hB hnx HTW2.out)
            have wD : ((D + 1 : Nat) : Int) = ((D : Nat) : Int) + 1 := by omega
            rw [wD] at CI
            clear wD
            go_wp2_with fail
            ((with_reducible refine (CI.out).mono ?_); rintro e w3 ⟨v, F, nx', rfl, hok⟩)
            have HO := Lib.hid hok
            obtain ⟨Z, hZ⟩ : ∃ Z, (Tp.flat F).length = Z := ⟨_, rfl⟩
            obtain ⟨va, vc, rfl⟩ : ∃ a c, v = .slice a Z c := by
              obtain ⟨a, c, e', _⟩ := Gn.Rd.form (Gn.Own.rd ndL hok.own)
              exact ⟨a, c, by rw [← hZ]; exact e'⟩
            have hgw : g < w.heap.size := HV.out.lt
            have bu := up_new w3 (.cells #[.slice va Z vc] 25)
            have HS4 := Lib.hid (Gn.Own.later (own_seed HL.out.row HL.out.seed seed_ne.2.1 hok.touch) bu)
            have HE4 := Lib.hid (((each_seed HL.out.each HL.out.seed hok.touch).snoc (s := ⟨va, Z, vc⟩) (own_low hok.own) hok.ok).later bu)
            have HK4 := Lib.hid (Gn.Own.later (own_seed HL.out.keys HL.out.seed seed_ne.2.2 hok.touch) bu)
            have HT4 := Lib.hid (touch_trans (touch_trans HL.out.touch hok.touch) (touch_new bu))
            have HV4 := Lib.hid (hok.seed.later bu)
            have HR4 := Lib.hid (rdSl_one w3 va Z vc)
            have HSL : Hid (ss.length ≤ 4) := Lib.hid (by have h1 := HL.out.each.1; have := HL.out.few; simp only [List.length_map] at h1; omega)
            have HYL : Hid (ys.length ≤ 4) := Lib.hid (by have h1 := HL.out.len; have := HL.out.few; omega)
            obtain ⟨lt, hltr⟩ : ∃ t, letter j = t := ⟨_, rfl⟩
            have hrun := letter_run j hj
            have HLT := Lib.hid (letter_ok j hj)
            have wr1 : IntKind.i64.wrap ((j : Int) + 1) = (j : Int) + 1 := IntWalk.i64_in _ ⟨by omega, by omega⟩
            rw [hltr] at hrun HLT
            clear hok hZ CI bu hltr
            go_wp2_with (at_builtin
                         refine Gn.wpList_app slL slY rfl (.tmp 69) (.tmp 71) rfl w.heap.size _ ss rfl HS4.out _ [(⟨va, Z, vc⟩ : Sl)] rfl HR4.out (by have := HSL.out; simp; omega) HT4.out.size ?_
                         intro v5 w5 ho5 hg5 hl5 hn5
                         have HS5 := Lib.hid ho5
                         have HE5 := Lib.hid (EachO.kept HE4.out HS4.out node_ne_sl hg5)
                         have HK5 := Lib.hid (Gn.Own.kept HK4.out hg5 (own_apart HK4.out HS4.out tx_ne_sl))
                         have HT5 := Lib.hid (touch_row HT4.out hg5 (fun i hi => (HS4.out.lt i hi).1))
                         have HV5 := Lib.hid (HV4.out.row hg5 (fun i hi => (HS4.out.lt i hi).1) hgw)
                         have CW := Lib.hid (sword B g nx' w5 HV5.out)
                         have CWD := Lib.hid (sword B g nx' w5.drew HV5.out.drew)
                         clear ho5 hg5 hl5 hn5)
            go_region_held3 (fun _ => True) (trivial)
              ((first
                | (go_at_call 82; (first | (with_reducible refine (CW.out).mono ?_) | (with_reducible refine (CWD.out).mono ?_)); rintro e w6 ⟨s, rfl, hm, ht, hs⟩; have ht' : Touch (fun i => i = g) w5 w6 := (by first | exact ht | exact Touch.undrew ht); have bu := up_new w6 (.cells #[.string (s ++ lt)] 9); have hno := no_over s lt (by have := (word_ok s hm).2; have := HLT.out.2; omega); have HKV : Hid (Utf.vld (bl (s ++ lt)) = true ∧ (s ++ lt).size ≤ 100) := Lib.hid (⟨vld_append (word_ok s hm).1 HLT.out.1, by rw [ByteArray.size_append]; have := (word_ok s hm).2; have := HLT.out.2; omega⟩); have HK6 := Lib.hid (Gn.Own.later (own_seed HK5.out HV5.out seed_ne.2.2 ht') bu); have HS6 := Lib.hid (Gn.Own.later (own_seed HS5.out HV5.out seed_ne.2.1 ht') bu); have HE6 := Lib.hid ((each_seed HE5.out HV5.out ht').later bu); have HT6 := Lib.hid (touch_trans (touch_trans HT5.out ht') (touch_new bu)); have HV6 := Lib.hid (hs.later bu); have HR6 := Lib.hid (rdTx_one w6 (s ++ lt)); obtain ⟨y, hy⟩ : ∃ y, s ++ lt = y := ⟨_, rfl⟩; rw [hy] at HKV HK6 HS6 HE6 HT6 HV6 HR6; clear ht hs hm bu ht')
                | (refine Gn.step_app txL txY (by rfl) (.tmp 73) (.tmp 81) (by rfl) w.heap.size _ ys (by rfl) HK6.out _ [y] (by rfl) HR6.out (by have := HYL.out; simp; omega) HT6.out.size ?_; intro v7 w7 ho7 hg7 hl7; have HK7 := Lib.hid ho7; have HS7 := Lib.hid (Gn.Own.kept HS6.out hg7 (own_apart HS6.out HK6.out sl_ne_tx)); have HE7 := Lib.hid (EachO.kept HE6.out HK6.out node_ne_tx hg7); have HT7 := Lib.hid (touch_row HT6.out hg7 (fun i hi => (HK6.out.lt i hi).1)); have HV7 := Lib.hid (HV6.out.row hg7 (fun i hi => (HK6.out.lt i hi).1) hgw); clear ho7 hg7 hl7)))
            have HNX : Hid (LS w w7 B g D ns2 nx'.tail v7 v5 (ss ++ [(⟨va, Z, vc⟩ : Sl)]) (ys ++ [y]) (Fs ++ [F]) (j - 1)) := Lib.hid (by
              have h := HL.out
              have ho := HO.out
              have t1 := tail_len nx'
              refine ⟨HK7.out, HS7.out, ?_, ?_, ?_, ?_, ?_, ?_, ?_, ?_, HT7.out, HV7.out⟩
              · rw [List.map_append]; exact HE7.out
              · intro G hG
                rcases List.mem_append.1 hG with hG | hG
                · exact h.root G hG
                · rw [List.mem_singleton.1 hG]; exact ho.root
              · intro G hG
                rcases List.mem_append.1 hG with hG | hG
                · exact h.good G hG
                · rw [List.mem_singleton.1 hG]; exact ho.good
              · intro G hG
                rcases List.mem_append.1 hG with hG | hG
                · exact h.dep G hG
                · rw [List.mem_singleton.1 hG]; have := ho.dep; omega
              · have h1 := h.sz
                have h2 := ho.sz
                rw [List.map_append, List.sum_append, List.length_append]
                simp only [List.map_cons, List.map_nil, List.sum_cons, List.sum_nil, List.length_cons, List.length_nil]
                omega
              · rw [List.length_append, List.length_append, h.len]; rfl
              · have := h.few
                rw [List.length_append]
                simp only [List.length_cons, List.length_nil]
                omega
              · intro z hz
                rcases List.mem_append.1 hz with hz | hz
                · exact h.kok z hz
                · rw [List.mem_singleton.1 hz]; exact HKV.out)
            clear HK7 HS7 HE7 HT7 HV7 HKV HO HL hrun wr1
            go_wp2_with fail
            go_roundw
            case rel => exact ⟨j - 1, _, _, _, _, by congr 1; omega, by omega, HNX⟩
            case measure => simp [intOf]; omega
          · obtain rfl : j = 0 := by omega
            have HEX := Lib.hid (put_ok (K := 6) (zs := List.replicate Fs.length ⟨#[]⟩) (.inl rfl) HL.out (by simp) (by unfold Tp.ko; rw [if_neg (by omega)]; intro z hz; rw [(List.mem_replicate.1 hz).2]; rfl) (by intro z hz; rw [(List.mem_replicate.1 hz).2]; exact Nat.zero_le _) HNS.out hlen ⟨hD.1, hD6⟩)
            have CL := Lib.hid (mkList _ ss (Fs.map Tp.flat) wr (HL.out.each.rdS HL.out.row) (by have := HL.out.few; simp; omega) HTW2.out _ 0 (by unfold ListIs; rw [List.length_map]; exact HEX.out.1))
    
            go_wp2_with fail
            ((with_reducible refine (CL.out).mono ?_); rintro e w4 ⟨v, rfl, ho, b⟩)
            have HF := Lib.hid (HEX.out.2 _ v w4 ho HL.out.touch.size (touch_trans HL.out.touch (touch_new b)) (HL.out.seed.later b))
            clear ho b CL
            go_wp2_with fail
            go_ret2
            exact ⟨_, _, _, rfl, HF.out⟩
      · have C := Lib.hid (snext 5 B g ns.tail w1 (by omega) HS1.out)
        have HNS : Hid (ns.tail.tail.length + 2 ≤ ns.length) := Lib.hid (by have := HM.out; have h1 := hM1; simp only [List.length_tail] at this ⊢; omega)
        go_wp2_with fail
        ((with_reducible refine (C.out).mono ?_); rintro e w2 ⟨c0, rfl, hc0, ht, hs⟩)
        have HST := Lib.hid (LS.start (w := w) (D := D) (c0 := c0) (by omega) (touch_trans HT1.out ht) hs)
        have hc4 : c0 ≤ 4 := by omega
        obtain ⟨ns2, hns2⟩ : ∃ n2, n2 = ns.tail.tail := ⟨_, rfl⟩
        rw [← hns2] at HST HNS
        clear ht hs C hns2 HT1 HS1
        go_wp2_with fail
        go_loopw [7, 8, 9] (fun kv lv i wx => ∃ (j : Nat) (ss : List Sl) (ys : List ByteArray) (Fs : List Fo) (nx : List Int), i = .int .i64 (j : Nat) ∧ j ≤ 4 ∧ Hid (LS w wx B g D ns2 nx kv lv ss ys Fs j)) (fun _ _ i _ => (intOf i).toNat)
        case atStart => exact ⟨c0, [], [], [], ns2, by rfl, hc4, HST⟩
        case round =>
          obtain ⟨j, ss, ys, Fs, nx, rfl, hj, HL⟩ := hrel
          have HTW2 := Lib.hid (HV.out.tab HTW.out hB HL.out.touch)
          by_cases hj0 : 0 < j
          · have hj1 : (0 : Int) < (j : Nat) := by omega
            have hnx : nx.length ≤ 150 := by have := HL.out.sz; have := HL.out.few; have := HNS.out; omega
            have CI := Lib.hid (HIH.out hD6 B g nx wr HL.out.seed hB hnx HTW2.out)
            have wD : ((D + 1 : Nat) : Int) = ((D : Nat) : Int) + 1 := by omega
            rw [wD] at CI
            clear wD
            go_wp2_with fail
            ((with_reducible refine (CI.out).mono ?_); rintro e w3 ⟨v, F, nx', rfl, hok⟩)
            have HO := Lib.hid hok
            obtain ⟨Z, hZ⟩ : ∃ Z, (Tp.flat F).length = Z := ⟨_, rfl⟩
            obtain ⟨va, vc, rfl⟩ : ∃ a c, v = .slice a Z c := by
              obtain ⟨a, c, e', _⟩ := Gn.Rd.form (Gn.Own.rd ndL hok.own)
              exact ⟨a, c, by rw [← hZ]; exact e'⟩
            have hgw : g < w.heap.size := HV.out.lt
            have bu := up_new w3 (.cells #[.slice va Z vc] 25)
            have HS4 := Lib.hid (Gn.Own.later (own_seed HL.out.row HL.out.seed seed_ne.2.1 hok.touch) bu)
            have HE4 := Lib.hid (((each_seed HL.out.each HL.out.seed hok.touch).snoc (s := ⟨va, Z, vc⟩) (own_low hok.own) hok.ok).later bu)
            have HK4 := Lib.hid (Gn.Own.later (own_seed HL.out.keys HL.out.seed seed_ne.2.2 hok.touch) bu)
            have HT4 := Lib.hid (touch_trans (touch_trans HL.out.touch hok.touch) (touch_new bu))
            have HV4 := Lib.hid (hok.seed.later bu)
            have HR4 := Lib.hid (rdSl_one w3 va Z vc)
            have HSL : Hid (ss.length ≤ 4) := Lib.hid (by have h1 := HL.out.each.1; have := HL.out.few; simp only [List.length_map] at h1; omega)
            have HYL : Hid (ys.length ≤ 4) := Lib.hid (by have h1 := HL.out.len; have := HL.out.few; omega)
            obtain ⟨lt, hltr⟩ : ∃ t, letter j = t := ⟨_, rfl⟩
            have hrun := letter_run j hj
            have HLT := Lib.hid (letter_ok j hj)
            have wr1 : IntKind.i64.wrap ((j : Int) + 1) = (j : Int) + 1 := IntWalk.i64_in _ ⟨by omega, by omega⟩
            rw [hltr] at hrun HLT
            clear hok hZ CI bu hltr
            go_wp2_with (at_builtin
                         refine Gn.wpList_app slL slY rfl (.tmp 69) (.tmp 71) rfl w.heap.size _ ss rfl HS4.out _ [(⟨va, Z, vc⟩ : Sl)] rfl HR4.out (by have := HSL.out; simp; omega) HT4.out.size ?_
                         intro v5 w5 ho5 hg5 hl5 hn5
                         have HS5 := Lib.hid ho5
                         have HE5 := Lib.hid (EachO.kept HE4.out HS4.out node_ne_sl hg5)
                         have HK5 := Lib.hid (Gn.Own.kept HK4.out hg5 (own_apart HK4.out HS4.out tx_ne_sl))
                         have HT5 := Lib.hid (touch_row HT4.out hg5 (fun i hi => (HS4.out.lt i hi).1))
                         have HV5 := Lib.hid (HV4.out.row hg5 (fun i hi => (HS4.out.lt i hi).1) hgw)
                         have CW := Lib.hid (sword B g nx' w5 HV5.out)
                         have CWD := Lib.hid (sword B g nx' w5.drew HV5.out.drew)
                         clear ho5 hg5 hl5 hn5)
            go_region_held3 (fun _ => True) (trivial)
              ((first
                | (go_at_call 82; (first | (with_reducible refine (CW.out).mono ?_) | (with_reducible refine (CWD.out).mono ?_)); rintro e w6 ⟨s, rfl, hm, ht, hs⟩; have ht' : Touch (fun i => i = g) w5 w6 := (by first | exact ht | exact Touch.undrew ht); have bu := up_new w6 (.cells #[.string (s ++ lt)] 9); have hno := no_over s lt (by have := (word_ok s hm).2; have := HLT.out.2; omega); have HKV : Hid (Utf.vld (bl (s ++ lt)) = true ∧ (s ++ lt).size ≤ 100) := Lib.hid (⟨vld_append (word_ok s hm).1 HLT.out.1, by rw [ByteArray.size_append]; have := (word_ok s hm).2; have := HLT.out.2; omega⟩); have HK6 := Lib.hid (Gn.Own.later (own_seed HK5.out HV5.out seed_ne.2.2 ht') bu); have HS6 := Lib.hid (Gn.Own.later (own_seed HS5.out HV5.out seed_ne.2.1 ht') bu); have HE6 := Lib.hid ((each_seed HE5.out HV5.out ht').later bu); have HT6 := Lib.hid (touch_trans (touch_trans HT5.out ht') (touch_new bu)); have HV6 := Lib.hid (hs.later bu); have HR6 := Lib.hid (rdTx_one w6 (s ++ lt)); obtain ⟨y, hy⟩ : ∃ y, s ++ lt = y := ⟨_, rfl⟩; rw [hy] at HKV HK6 HS6 HE6 HT6 HV6 HR6; clear ht hs hm bu ht')
                | (refine Gn.step_app txL txY (by rfl) (.tmp 73) (.tmp 81) (by rfl) w.heap.size _ ys (by rfl) HK6.out _ [y] (by rfl) HR6.out (by have := HYL.out; simp; omega) HT6.out.size ?_; intro v7 w7 ho7 hg7 hl7; have HK7 := Lib.hid ho7; have HS7 := Lib.hid (Gn.Own.kept HS6.out hg7 (own_apart HS6.out HK6.out sl_ne_tx)); have HE7 := Lib.hid (EachO.kept HE6.out HK6.out node_ne_tx hg7); have HT7 := Lib.hid (touch_row HT6.out hg7 (fun i hi => (HK6.out.lt i hi).1)); have HV7 := Lib.hid (HV6.out.row hg7 (fun i hi => (HK6.out.lt i hi).1) hgw); clear ho7 hg7 hl7)))
            have HNX : Hid (LS w w7 B g D ns2 nx'.tail v7 v5 (ss ++ [(⟨va, Z, vc⟩ : Sl)]) (ys ++ [y]) (Fs ++ [F]) (j - 1)) := Lib.hid (by
              have h := HL.out
              have ho := HO.out
              have t1 := tail_len nx'
              refine ⟨HK7.out, HS7.out, ?_, ?_, ?_, ?_, ?_, ?_, ?_, ?_, HT7.out, HV7.out⟩
              · rw [List.map_append]; exact HE7.out
              · intro G hG
                rcases List.mem_append.1 hG with hG | hG
                · exact h.root G hG
                · rw [List.mem_singleton.1 hG]; exact ho.root
              · intro G hG
                rcases List.mem_append.1 hG with hG | hG
                · exact h.good G hG
                · rw [List.mem_singleton.1 hG]; exact ho.good
              · intro G hG
                rcases List.mem_append.1 hG with hG | hG
                · exact h.dep G hG
                · rw [List.mem_singleton.1 hG]; have := ho.dep; omega
              · have h1 := h.sz
                have h2 := ho.sz
                rw [List.map_append, List.sum_append, List.length_append]
                simp only [List.map_cons, List.map_nil, List.sum_cons, List.sum_nil, List.length_cons, List.length_nil]
                omega
              · rw [List.length_append, List.length_append, h.len]; rfl
              · have := h.few
                rw [List.length_append]
                simp only [List.length_cons, List.length_nil]
                omega
              · intro z hz
                rcases List.mem_append.1 hz with hz | hz
                · exact h.kok z hz
                · rw [List.mem_singleton.1 hz]; exact HKV.out)
            clear HK7 HS7 HE7 HT7 HV7 HKV HO HL hrun wr1
            go_wp2_with fail
            go_roundw
            case rel => exact ⟨j - 1, _, _, _, _, by congr 1; omega, by omega, HNX⟩
            case measure => simp [intOf]; omega
          · obtain rfl : j = 0 := by omega
            have CU := Lib.hid (unlikeC _ ys wr (Gn.Own.rd txL HL.out.keys) (by have := HL.out.len; have := HL.out.few; omega) (fun y hy => (HL.out.kok y hy).2))
            go_wp2_with fail
            ((with_reducible refine (CU.out).mono ?_); rintro e w4 ⟨u, zs, rfl, hu, hun, b⟩)
            have HLB := Lib.hid HL.out.len
            have HEX := Lib.hid (put_ok (K := 7) (zs := zs) (.inr rfl) HL.out (by rw [hun.len]; exact HLB.out) (by unfold Tp.ko; rw [if_pos rfl]; exact ⟨hun.vld (fun y hy => (HL.out.kok y hy).1), hun.nodup⟩) (fun z hz => by have := hun.size z hz; unfold maxLen; omega) HNS.out hlen ⟨hD.1, hD6⟩)
            have HTB4 := Lib.hid (touch_trans HL.out.touch (touch_new b))
            have HSV4 := Lib.hid (HL.out.seed.later b)
            have CO := Lib.hid (mkObj _ _ zs ss (Fs.map Tp.flat) w4 (Gn.Own.rd txL hu) ((HL.out.each.later b).rdS (Gn.Own.later HL.out.row b)) (fun z hz => by have := hun.size z hz; unfold maxLen; omega) (by have := HL.out.few; simp; omega) (HTW2.out.later b) _ 0 (.inr ⟨by rw [hun.len, List.length_map]; exact HLB.out, HEX.out.1⟩))
            clear b hu hun CU
            go_wp2_with fail
            ((with_reducible refine (CO.out).mono ?_); rintro e w5 ⟨v, rfl, ho, b⟩)
            have HF := Lib.hid (HEX.out.2 _ v w5 ho HTB4.out.size (touch_trans HTB4.out (touch_new b)) (HSV4.out.later b))
            clear ho b CO
            go_wp2_with fail
            go_ret2
            exact ⟨_, _, _, rfl, HF.out⟩
      · have C := Lib.hid (snext 5 B g ns.tail w1 (by omega) HS1.out)
        have HNS : Hid (ns.tail.tail.length + 2 ≤ ns.length) := Lib.hid (by have := HM.out; have h1 := hM1; simp only [List.length_tail] at this ⊢; omega)
        go_wp2_with fail
        ((with_reducible refine (C.out).mono ?_); rintro e w2 ⟨c0, rfl, hc0, ht, hs⟩)
        have HST := Lib.hid (LS.start (w := w) (D := D) (c0 := c0) (by omega) (touch_trans HT1.out ht) hs)
        have hc4 : c0 ≤ 4 := by omega
        obtain ⟨ns2, hns2⟩ : ∃ n2, n2 = ns.tail.tail := ⟨_, rfl⟩
        rw [← hns2] at HST HNS
        clear ht hs C hns2 HT1 HS1
        go_wp2_with fail
        go_loopw [7, 8, 9] (fun kv lv i wx => ∃ (j : Nat) (ss : List Sl) (ys : List ByteArray) (Fs : List Fo) (nx : List Int), i = .int .i64 (j : Nat) ∧ j ≤ 4 ∧ Hid (LS w wx B g D ns2 nx kv lv ss ys Fs j)) (fun _ _ i _ => (intOf i).toNat)
        case atStart => exact ⟨c0, [], [], [], ns2, by rfl, hc4, HST⟩
        case round =>
          obtain ⟨j, ss, ys, Fs, nx, rfl, hj, HL⟩ := hrel
          have HTW2 := Lib.hid (HV.out.tab HTW.out hB HL.out.touch)
          by_cases hj0 : 0 < j
          · have hj1 : (0 : Int) < (j : Nat) := by omega
            have hnx : nx.length ≤ 150 := by have := HL.out.sz; have := HL.out.few; have := HNS.out; omega
            have CI := Lib.hid (HIH.out hD6 B g nx wr HL.out.seed hB hnx HTW2.out)
            have wD : ((D + 1 : Nat) : Int) = ((D : Nat) : Int) + 1 := by omega
            rw [wD] at CI
            clear wD
            go_wp2_with fail
            ((with_reducible refine (CI.out).mono ?_); rintro e w3 ⟨v, F, nx', rfl, hok⟩)
            have HO := Lib.hid hok
            obtain ⟨Z, hZ⟩ : ∃ Z, (Tp.flat F).length = Z := ⟨_, rfl⟩
            obtain ⟨va, vc, rfl⟩ : ∃ a c, v = .slice a Z c := by
              obtain ⟨a, c, e', _⟩ := Gn.Rd.form (Gn.Own.rd ndL hok.own)
              exact ⟨a, c, by rw [← hZ]; exact e'⟩
            have hgw : g < w.heap.size := HV.out.lt
            have bu := up_new w3 (.cells #[.slice va Z vc] 25)
            have HS4 := Lib.hid (Gn.Own.later (own_seed HL.out.row HL.out.seed seed_ne.2.1 hok.touch) bu)
            have HE4 := Lib.hid (((each_seed HL.out.each HL.out.seed hok.touch).snoc (s := ⟨va, Z, vc⟩) (own_low hok.own) hok.ok).later bu)
            have HK4 := Lib.hid (Gn.Own.later (own_seed HL.out.keys HL.out.seed seed_ne.2.2 hok.touch) bu)
            have HT4 := Lib.hid (touch_trans (touch_trans HL.out.touch hok.touch) (touch_new bu))
            have HV4 := Lib.hid (hok.seed.later bu)
            have HR4 := Lib.hid (rdSl_one w3 va Z vc)
            have HSL : Hid (ss.length ≤ 4) := Lib.hid (by have h1 := HL.out.each.1; have := HL.out.few; simp only [List.length_map] at h1; omega)
            have HYL : Hid (ys.length ≤ 4) := Lib.hid (by have h1 := HL.out.len; have := HL.out.few; omega)
            obtain ⟨lt, hltr⟩ : ∃ t, letter j = t := ⟨_, rfl⟩
            have hrun := letter_run j hj
            have HLT := Lib.hid (letter_ok j hj)
            have wr1 : IntKind.i64.wrap ((j : Int) + 1) = (j : Int) + 1 := IntWalk.i64_in _ ⟨by omega, by omega⟩
            rw [hltr] at hrun HLT
            clear hok hZ CI bu hltr
            go_wp2_with (at_builtin
                         refine Gn.wpList_app slL slY rfl (.tmp 69) (.tmp 71) rfl w.heap.size _ ss rfl HS4.out _ [(⟨va, Z, vc⟩ : Sl)] rfl HR4.out (by have := HSL.out; simp; omega) HT4.out.size ?_
                         intro v5 w5 ho5 hg5 hl5 hn5
                         have HS5 := Lib.hid ho5
                         have HE5 := Lib.hid (EachO.kept HE4.out HS4.out node_ne_sl hg5)
                         have HK5 := Lib.hid (Gn.Own.kept HK4.out hg5 (own_apart HK4.out HS4.out tx_ne_sl))
                         have HT5 := Lib.hid (touch_row HT4.out hg5 (fun i hi => (HS4.out.lt i hi).1))
                         have HV5 := Lib.hid (HV4.out.row hg5 (fun i hi => (HS4.out.lt i hi).1) hgw)
                         have CW := Lib.hid (sword B g nx' w5 HV5.out)
                         have CWD := Lib.hid (sword B g nx' w5.drew HV5.out.drew)
                         clear ho5 hg5 hl5 hn5)
            go_region_held3 (fun _ => True) (trivial)
              ((first
                | (go_at_call 82; (first | (with_reducible refine (CW.out).mono ?_) | (with_reducible refine (CWD.out).mono ?_)); rintro e w6 ⟨s, rfl, hm, ht, hs⟩; have ht' : Touch (fun i => i = g) w5 w6 := (by first | exact ht | exact Touch.undrew ht); have bu := up_new w6 (.cells #[.string (s ++ lt)] 9); have hno := no_over s lt (by have := (word_ok s hm).2; have := HLT.out.2; omega); have HKV : Hid (Utf.vld (bl (s ++ lt)) = true ∧ (s ++ lt).size ≤ 100) := Lib.hid (⟨vld_append (word_ok s hm).1 HLT.out.1, by rw [ByteArray.size_append]; have := (word_ok s hm).2; have := HLT.out.2; omega⟩); have HK6 := Lib.hid (Gn.Own.later (own_seed HK5.out HV5.out seed_ne.2.2 ht') bu); have HS6 := Lib.hid (Gn.Own.later (own_seed HS5.out HV5.out seed_ne.2.1 ht') bu); have HE6 := Lib.hid ((each_seed HE5.out HV5.out ht').later bu); have HT6 := Lib.hid (touch_trans (touch_trans HT5.out ht') (touch_new bu)); have HV6 := Lib.hid (hs.later bu); have HR6 := Lib.hid (rdTx_one w6 (s ++ lt)); obtain ⟨y, hy⟩ : ∃ y, s ++ lt = y := ⟨_, rfl⟩; rw [hy] at HKV HK6 HS6 HE6 HT6 HV6 HR6; clear ht hs hm bu ht')
                | (refine Gn.step_app txL txY (by rfl) (.tmp 73) (.tmp 81) (by rfl) w.heap.size _ ys (by rfl) HK6.out _ [y] (by rfl) HR6.out (by have := HYL.out; simp; omega) HT6.out.size ?_; intro v7 w7 ho7 hg7 hl7; have HK7 := Lib.hid ho7; have HS7 := Lib.hid (Gn.Own.kept HS6.out hg7 (own_apart HS6.out HK6.out sl_ne_tx)); have HE7 := Lib.hid (EachO.kept HE6.out HK6.out node_ne_tx hg7); have HT7 := Lib.hid (touch_row HT6.out hg7 (fun i hi => (HK6.out.lt i hi).1)); have HV7 := Lib.hid (HV6.out.row hg7 (fun i hi => (HK6.out.lt i hi).1) hgw); clear ho7 hg7 hl7)))
            have HNX : Hid (LS w w7 B g D ns2 nx'.tail v7 v5 (ss ++ [(⟨va, Z, vc⟩ : Sl)]) (ys ++ [y]) (Fs ++ [F]) (j - 1)) := Lib.hid (by
              have h := HL.out
              have ho := HO.out
              have t1 := tail_len nx'
              refine ⟨HK7.out, HS7.out, ?_, ?_, ?_, ?_, ?_, ?_, ?_, ?_, HT7.out, HV7.out⟩
              · rw [List.map_append]; exact HE7.out
              · intro G hG
                rcases List.mem_append.1 hG with hG | hG
                · exact h.root G hG
                · rw [List.mem_singleton.1 hG]; exact ho.root
              · intro G hG
                rcases List.mem_append.1 hG with hG | hG
                · exact h.good G hG
                · rw [List.mem_singleton.1 hG]; exact ho.good
              · intro G hG
                rcases List.mem_append.1 hG with hG | hG
                · exact h.dep G hG
                · rw [List.mem_singleton.1 hG]; have := ho.dep; omega
              · have h1 := h.sz
                have h2 := ho.sz
                rw [List.map_append, List.sum_append, List.length_append]
                simp only [List.map_cons, List.map_nil, List.sum_cons, List.sum_nil, List.length_cons, List.length_nil]
                omega
              · rw [List.length_append, List.length_append, h.len]; rfl
              · have := h.few
                rw [List.length_append]
                simp only [List.length_cons, List.length_nil]
                omega
              · intro z hz
                rcases List.mem_append.1 hz with hz | hz
                · exact h.kok z hz
                · rw [List.mem_singleton.1 hz]; exact HKV.out)
            clear HK7 HS7 HE7 HT7 HV7 HKV HO HL hrun wr1
            go_wp2_with fail
            go_roundw
            case rel => exact ⟨j - 1, _, _, _, _, by congr 1; omega, by omega, HNX⟩
            case measure => simp [intOf]; omega
          · obtain rfl : j = 0 := by omega
            have CU := Lib.hid (unlikeC _ ys wr (Gn.Own.rd txL HL.out.keys) (by have := HL.out.len; have := HL.out.few; omega) (fun y hy => (HL.out.kok y hy).2))
            go_wp2_with fail
            ((with_reducible refine (CU.out).mono ?_); rintro e w4 ⟨u, zs, rfl, hu, hun, b⟩)
            have HLB := Lib.hid HL.out.len
            have HEX := Lib.hid (put_ok (K := 7) (zs := zs) (.inr rfl) HL.out (by rw [hun.len]; exact HLB.out) (by unfold Tp.ko; rw [if_pos rfl]; exact ⟨hun.vld (fun y hy => (HL.out.kok y hy).1), hun.nodup⟩) (fun z hz => by have := hun.size z hz; unfold maxLen; omega) HNS.out hlen ⟨hD.1, hD6⟩)
            have HTB4 := Lib.hid (touch_trans HL.out.touch (touch_new b))
            have HSV4 := Lib.hid (HL.out.seed.later b)
            have CO := Lib.hid (mkObj _ _ zs ss (Fs.map Tp.flat) w4 (Gn.Own.rd txL hu) ((HL.out.each.later b).rdS (Gn.Own.later HL.out.row b)) (fun z hz => by have := hun.size z hz; unfold maxLen; omega) (by have := HL.out.few; simp; omega) (HTW2.out.later b) _ 0 (.inr ⟨by rw [hun.len, List.length_map]; exact HLB.out, HEX.out.1⟩))
            clear b hu hun CU
            go_wp2_with fail
            ((with_reducible refine (CO.out).mono ?_); rintro e w5 ⟨v, rfl, ho, b⟩)
            have HF := Lib.hid (HEX.out.2 _ v w5 ho HTB4.out.size (touch_trans HTB4.out (touch_new b)) (HSV4.out.later b))
            clear ho b CO
            go_wp2_with fail
            go_ret2
            exact ⟨_, _, _, rfl, HF.out⟩
end Go.Proofs.YteklcfimafplbaaDoor
