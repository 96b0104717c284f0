/- The law's own: cut, joins, gets, works. -/
import Derived.Test.YtenfjmdajlhfoaaDcT
import Derived.Deep.DrawnRows
namespace Go.Proofs.Ytenfjmdajlhfoaa
open Go.RowKit
set_option linter.unusedVariables false
set_option maxRecDepth 100000

def cutT (x : ByteArray) : ByteArray := x.extract 0 (min (x.size : Int) 200).toNat
def cutL (l : List ByteArray) : List ByteArray := (l.take 60).map cutT
theorem cutT_size (x : ByteArray) : (cutT x).size ≤ 200 := by unfold cutT; simp only [ByteArray.size_extract]; omega
theorem cutL_len (l : List ByteArray) : (cutL l).length ≤ 60 := by unfold cutL; simp; omega
theorem cutL_size (l : List ByteArray) : ∀ x ∈ cutL l, x.size ≤ 200 := by
  intro x hx
  obtain ⟨y, _, rfl⟩ := List.mem_map.1 hx
  exact cutT_size y
structure TextsIn (W : World) (v : Value) (l : List ByteArray) : Prop where
  rd : RdT W W.heap.size v l
  size : ∀ y ∈ l, y.size ≤ maxLen
theorem TextsIn.later {W w : World} {v : Value} {l : List ByteArray} (h : TextsIn W v l) (hb : Below W.heap.size W w) : TextsIn w v l := ⟨RdT.later h.rd hb, h.size⟩
set_option maxHeartbeats 4000000 in
theorem lCut (v : Value) (l : List ByteArray) (w : World) (h : TextsIn w v l) (L : List ByteArray) (hL : cutL l = L) :
    Calls Try.prog 11 #[v] w fun e w' => ∃ r, e = .returned r ∧ OwnT w' w.heap.size r L ∧ Below w.heap.size w w' := by
  have HR := Lib.hid h
  have HL := Lib.hid hL
  have hml := Gn.Rd.len' h.rd
  obtain ⟨a, c, rfl, _⟩ := Gn.Rd.form h.rd
  clear h hL
  go_enter Try.func11, Try.ntmps11
  go_wp2_with fail
  go_loopw [3, 4] (fun tv i wr => ∃ (k : Nat) (T : List ByteArray), k ≤ l.length ∧ k ≤ 60 ∧ i = .int .i64 (k : Nat) ∧ Hid (T = (l.take k).map cutT) ∧ Hid (OwnT wr w.heap.size tv T) ∧ Hid (Below w.heap.size w wr)) (fun _ i _ => l.length - (intOf i).toNat)
  case atStart => exact ⟨0, [], by omega, by omega, rfl, Lib.hid (by simp), Lib.hid (Gn.Own.nil _ _), Lib.hid (Below.refl _ _)⟩
  case round =>
    obtain ⟨k, T, hk, hk6, rfl, HK, HT, HW⟩ := hrel
    by_cases hlt : k < l.length
    · have hlt1 : (k : Int) < l.length := by omega
      by_cases h6 : k < 60
      · have h61 : (k : Int) < 60 := by omega
        obtain ⟨x, hx⟩ : ∃ x, l[k]? = some x := ⟨_, List.getElem?_eq_getElem hlt⟩
        obtain ⟨b, off, rfl, p0⟩ := rdT_cell HR.out.rd HW.out.drew hx
        have hxm : x.size ≤ 9223372036854775807 := by have := HR.out.size x (List.mem_of_getElem? hx); unfold maxLen at this; omega
        obtain ⟨y, hy⟩ : ∃ y, x.extract 0 (min (x.size : Int) 200).toNat = y := ⟨_, rfl⟩
        have hsl : ∀ w, (Instr.slice 9 (.string x) none (some (.int .i64 (min (x.size : Int) 200))) none).run Try.prog w = .ok (.string y) w := fun w => by
          rw [run_slice_string_to_if w 9 x .i64 _ Try.underlying9, if_pos (by omega), hy]
        have hTl : T.length ≤ 100 := by rw [HK.out]; simp; omega
        have HK2 : Hid (T ++ [y] = (l.take (k + 1)).map cutT) := Lib.hid (by rw [List.take_add_one, hx, List.map_append, ← HK.out]; simp [cutT, hy])
        have HO2 : Hid (OwnT (wr.drew.alloc (.cells #[.string y] 9)) w.heap.size _ T) := Lib.hid (OwnT.later (w := wr.drew) HT.out (up_new wr.drew _))
        have HR2 : Hid (RdT (wr.drew.alloc (.cells #[.string y] 9)) (wr.drew.alloc (.cells #[.string y] 9)).heap.size (.slice (some ⟨wr.heap.size, 0, none⟩) 1 1) [y]) := Lib.hid (rdTx_one wr.drew y)
        have HB2 : Hid (w.heap.size ≤ (wr.drew.alloc (.cells #[.string y] 9)).heap.size) := Lib.hid (by rw [World.size_alloc]; exact Nat.le_succ_of_le HW.out.size)
        have HW2 : Hid (Below w.heap.size w (wr.drew.alloc (.cells #[.string y] 9))) := Lib.hid (HW.out.drew.alloc HW.out.size _)
        clear hx hy HK
        go_wp2_with fail
        go_region_law (refine Gn.step_app txL txY rfl (.tmp 15) (.tmp 27) rfl w.heap.size _ T rfl HO2.out _ [y] rfl HR2.out (by simp; omega) HB2.out ?_; intro v3 w3 ho3 hg3 hl3; have HT3 := Lib.hid ho3; have HW3 := Lib.hid (HW2.out.trans (Gn.below_of_own HO2.out hg3 HB2.out)); clear ho3 hg3 hl3)
        all_goals
          go_wp2_with fail
          go_roundw
          case rel => exact ⟨k + 1, _, by omega, by omega, by go_num, HK2, HT3, HW3⟩
          case measure => simp [intOf]; omega
      · obtain rfl : k = 60 := by omega
        have h61 : ¬ (60 : Int) < 60 := by omega
        have hE : T = L := by rw [HK.out, ← HL.out]; rfl
        subst hE
        obtain ⟨at_, ct, rfl, _⟩ := own_form HT.out
        clear HK HL
        go_wp2_with fail
        go_ret
        exact ⟨_, rfl, HT.out, HW.out⟩
    · obtain rfl : k = l.length := by omega
      have hlt1 : ¬ (l.length : Int) < l.length := by omega
      have hE : T = L := by rw [HK.out, ← HL.out, List.take_of_length_le (Nat.le_refl _)]; unfold cutL; rw [List.take_of_length_le (by omega)]
      subst hE
      obtain ⟨at_, ct, rfl, _⟩ := own_form HT.out
      clear HK HL
      go_wp2_with fail
      go_ret
      exact ⟨_, rfl, HT.out, HW.out⟩
/-- Lists that are written out. -/
theorem rdT_lit (w : World) (l : List ByteArray) (cs : Array Value) (n : Nat) (hcs : cs = (Gn.cells txc l).toArray) (hn : n = l.length) (hm : l.length ≤ 1000) :
    RdT (w.alloc (.cells cs 9)) (w.alloc (.cells cs 9)).heap.size (.slice (some ⟨w.heap.size, 0, none⟩) n n) l :=
  Gn.Own.rd txL (Gn.Own.lit (T := 9) txL w 0 l cs n n hcs hn rfl (by unfold maxLen; omega) (Nat.zero_le _))
theorem rdI_lit (w : World) (l : List Int) (cs : Array Value) (n : Nat) (hcs : cs = (Gn.cells inc l).toArray) (hn : n = l.length) (hm : l.length ≤ 1000) :
    RdI (w.alloc (.cells cs 3)) (w.alloc (.cells cs 3)).heap.size (.slice (some ⟨w.heap.size, 0, none⟩) n n) l :=
  Gn.Own.rd inL (Gn.Own.lit (T := 3) inL w 0 l cs n n hcs hn rfl (by unfold maxLen; omega) (Nat.zero_le _))
theorem rd_lit (w : World) (l : List Nat) (cs : Array Value) (n : Nat) (hcs : cs = (vals l).toArray) (hn : n = l.length) (hm : l.length ≤ 1000) (hb : ∀ x ∈ l, x < 256) :
    Rd (w.alloc (.cells cs 5)) (w.alloc (.cells cs 5)).heap.size (.slice (some ⟨w.heap.size, 0, none⟩) n n) l := by
  subst hn; subst hcs
  refine Own.rd (base := 0) ⟨⟨by simp [vals], .inr ⟨w.heap.size, l.length, _, rfl, Nat.zero_le _, heap_alloc_new w _, Nat.le_refl _, by unfold maxLen; omega, by simp [vals], ?_⟩⟩, hb⟩
  show List.take _ (vals l) = _
  rw [List.take_of_length_le (by simp [vals])]
theorem eq_yes (v u : Value) (l r : List Nat) (w : World) (hv : Rd w w.heap.size v l) (hu : Rd w w.heap.size u r) (h : l = r) :
    Calls Try.prog 17 #[v, u] w fun e w' => e = .returned (.bool true) ∧ w = w' :=
  (eqBytes v u l r w hv hu).mono fun e w' ⟨h1, h2⟩ => ⟨by rw [h1]; simp [h], h2⟩
theorem JnIs.yes {D : List ByteArray} {ns : List Int} (T : List ByteArray) (h1 : (Dc.spl [] [] T).1 = D) (h2 : ofN (Dc.spl [] [] T).2 = ns) : JnIs D ns (some T) := by
  have h := (Dc.joi_iff D ns T).2 ⟨h1, h2⟩
  intro T2
  constructor
  · intro e; injection e with e; subst e; exact h
  · rintro ⟨_, e⟩; rw [h.2] at e; exact e
theorem JnIs.not {D : List ByteArray} {ns : List Int} (h : Dc.joi D ns = Option.none) : JnIs D ns Option.none := fun T => ⟨fun e => (by cases e), fun ⟨_, e⟩ => (by rw [h] at e; cases e)⟩
theorem JnIs.twice {D : List ByteArray} {ns : List Int} (h : ¬ Dc.Once D) : JnIs D ns Option.none := fun T => ⟨fun e => (by cases e), fun ⟨e, _⟩ => absurd e h⟩
theorem JnIs.all (D : List ByteArray) (ns : List Int) : ∃ r, JnIs D ns r := by
  by_cases h : Dc.Once D
  · refine ⟨Dc.joi D ns, fun T => ⟨fun e => ⟨h, e⟩, fun e => e.2⟩⟩
  · exact ⟨Option.none, JnIs.twice h⟩
set_option maxHeartbeats 2000000 in
theorem joinsT (v u e_ x : Value) (D : List ByteArray) (ns : List Int) (r : Option (List ByteArray)) (w : World) (hd : RdT w w.heap.size v D) (hn : RdI w w.heap.size u ns) (hx : RdT w w.heap.size x (r.getD []))
    (hb : ∀ y ∈ ns, -9223372036854775808 ≤ y ∧ y ≤ 9223372036854775807) (hD : D.length ≤ 1000) (hnl : ns.length ≤ 1000) (hr : JnIs D ns r) (he : e_ = .int .i64 (if r.isSome then 0 else 150)) :
    Calls Try.prog 32 #[v, u, e_, x] w fun e w' => e = .returned (.bool true) ∧ Below w.heap.size w w' := by
  subst he
  have hrl : (r.getD []).length ≤ 1000 := by
    cases r with
    | none => simp
    | some T =>
      have := (hr T).1 rfl
      have := pk_len D ns [] (joi_pk this.2)
      simp at this ⊢; omega
  have HJ := Lib.hid (join v u D ns w hd hn hb (by omega) (by omega) r hr)
  have HX := Lib.hid hx
  unfold JnPost at HJ
  generalize (if r.isSome then (0 : Int) else 150) = er at *
  generalize r.getD [] = T at *
  clear hd hn hx hb hr
  go_enter Try.func32, Try.ntmps32
  go_wp2_with fail
  refine HJ.out.mono ?_
  rintro e w1 ⟨tv, rfl, ho, hb⟩
  have HE := Lib.hid (eqTexts tv x T T w1 (RdT.of ho) (RdT.later HX.out hb) (by omega) true (by simp))
  have HB := Lib.hid hb
  clear ho hb HJ HX
  go_wp2_with fail
  refine HE.out.mono ?_
  rintro e w2 ⟨rfl, hb2⟩
  go_wp2_with fail
  go_ret
  exact ⟨by simp, up HB.out hb2⟩
set_option maxHeartbeats 2000000 in
theorem getsT (v x : Value) (b : List Nat) (n most k er : Int) (T : List ByteArray) (K E : Nat) (w : World) (hb : Rd w w.heap.size v b) (hx : RdT w w.heap.size x T) (n0 : -1000 ≤ n) (n1 : n ≤ 1000) (m0 : -1000 ≤ most) (m1 : most ≤ 1000)
    (hg : Dc.get b n most = (T, K, E)) (hk : k = (K : Nat)) (he : er = (E : Nat)) (hT : T.length ≤ 1000) :
    Calls Try.prog 33 #[v, .int .i64 n, .int .i64 most, .int .i64 k, .int .i64 er, x] w fun e w' => e = .returned (.bool true) ∧ Below w.heap.size w w' := by
  subst hk he
  have HG := Lib.hid (getL v b n most w hb (by omega) (by omega) (by omega) (by omega))
  rw [hg] at HG
  have HX := Lib.hid hx
  clear hb hx hg
  go_enter Try.func33, Try.ntmps33
  go_wp2_with fail
  refine HG.out.mono ?_
  rintro e w1 ⟨tv, rfl, ho, hb⟩
  have HE := Lib.hid (eqTexts tv x T T w1 (RdT.of ho) (RdT.later HX.out hb) (by omega) true (by simp))
  have HB := Lib.hid hb
  clear ho hb HG HX
  go_wp2_with fail
  refine HE.out.mono ?_
  rintro e w2 ⟨rfl, hb2⟩
  go_wp2_with fail
  go_ret
  exact ⟨by simp, up HB.out hb2⟩
theorem rdT_lit' (w : World) (l : List ByteArray) (cs : Array Value) (n a : Nat) (ha : a = w.heap.size) (hcs : cs = (Gn.cells txc l).toArray) (hn : n = l.length) (hm : l.length ≤ 1000) :
    RdT (w.alloc (.cells cs 9)) (w.alloc (.cells cs 9)).heap.size (.slice (some ⟨a, 0, none⟩) n n) l := by subst ha; exact rdT_lit w l cs n hcs hn hm
theorem rdI_lit' (w : World) (l : List Int) (cs : Array Value) (n a : Nat) (ha : a = w.heap.size) (hcs : cs = (Gn.cells inc l).toArray) (hn : n = l.length) (hm : l.length ≤ 1000) :
    RdI (w.alloc (.cells cs 3)) (w.alloc (.cells cs 3)).heap.size (.slice (some ⟨a, 0, none⟩) n n) l := by subst ha; exact rdI_lit w l cs n hcs hn hm
theorem k1 : Dc.spl [] [] [(⟨#[98]⟩ : ByteArray), ⟨#[97]⟩, ⟨#[98]⟩, ⟨#[]⟩, ⟨#[97]⟩] = ([⟨#[98]⟩, ⟨#[97]⟩, ⟨#[]⟩], [0, 1, 0, 2, 1]) := by decide +kernel
theorem k2 : JnIs [(⟨#[98]⟩ : ByteArray), ⟨#[97]⟩] [0, 1, 1] (some [⟨#[98]⟩, ⟨#[97]⟩, ⟨#[97]⟩]) := JnIs.yes _ (by decide +kernel) (by decide +kernel)
theorem k3 : JnIs [(⟨#[98]⟩ : ByteArray), ⟨#[97]⟩] [1, 0] none := JnIs.not (by decide +kernel)
theorem k4 : JnIs [(⟨#[98]⟩ : ByteArray), ⟨#[97]⟩] [0, 0] none := JnIs.not (by decide +kernel)
theorem k5 : JnIs [(⟨#[98]⟩ : ByteArray), ⟨#[98]⟩] [0, 1] none := JnIs.twice (once_not (k := 1) (x := ⟨#[98]⟩) rfl (by decide +kernel))
theorem k6 : Dc.enL [(⟨#[98]⟩ : ByteArray), ⟨#[97]⟩, ⟨#[98]⟩] = [2, 1, 98, 1, 97, 0, 1, 0] := by decide +kernel
theorem k7 : Dc.get [2, 1, 98, 1, 97, 0, 1, 0] 3 1 = ([⟨#[98]⟩, ⟨#[97]⟩, ⟨#[98]⟩], 8, 0) := by decide +kernel
theorem k8 : Dc.get [2, 1, 98, 1, 97, 0, 1, 0] 3 0 = ([], 0, 5) := by decide +kernel
theorem k9 : Dc.get [2, 1, 98, 1, 97, 0, 1, 0] 2 1 = ([⟨#[98]⟩, ⟨#[97]⟩], 7, 0) := by decide +kernel
theorem k10 : Dc.get [1, 1, 98, 1] 1 9 = ([], 0, 150) := by decide +kernel
theorem k11 : Dc.get [2] 1 9 = ([], 0, 5) := by decide +kernel
theorem k12 : Dc.get [0] 0 0 = ([], 1, 0) := by decide +kernel
theorem k13 : Dc.get [] 0 0 = ([], 0, 3) := by decide +kernel
theorem k14 : Dc.get [0] (-1) 0 = ([], 0, 6) := by decide +kernel
end Go.Proofs.Ytenfjmdajlhfoaa
