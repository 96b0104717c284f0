/- The program's reader: what is open, the nodes, and a value that is laid behind the others. -/
import Derived.Test.YteklcfimafplbaaDoorRd
import Derived.Test.YteklcfimafplbaaDoorSlic
import Derived.Test.YteklcfimafplbaaDoorFew
import Derived.Test.YteklcfimafplbaaDoorSet
namespace Go.Proofs.YteklcfimafplbaaDoor
open Go.RowKit
set_option linter.unusedVariables false
set_option maxRecDepth 100000

/-! ### what stays -/
section
variable {α : Type} {enc : α → List Value} {k : Nat} {T : TypeId} {w w' : World} {B g j : Nat} {v : Value} {l : List α}
theorem own_blk {T' : TypeId} {cs : List Value} (h : Gn.Own enc k T w B v l) (hb : Blk w g T' cs) (hT : T ≠ T') : v.ownBlock ≠ some g := by
  rcases h.2 with ⟨rfl, _⟩ | ⟨g', cap, cur, rfl, _, hh, _⟩
  · simp [Value.ownBlock]
  · intro e
    obtain rfl : g' = g := by simpa [Value.ownBlock] using e
    unfold Blk at hb
    rw [hh] at hb
    injection hb with hb
    injection hb with _ hb
    exact hT hb
theorem own_set' {ys : List ByteArray} (h : Gn.Own enc k T w B v l) (hb : IsSet w j ys) : v.ownBlock ≠ some j := by
  rcases h.2 with ⟨rfl, _⟩ | ⟨g', cap, cur, rfl, _, hh, _⟩
  · simp [Value.ownBlock]
  · intro e
    obtain rfl : g' = j := by simpa [Value.ownBlock] using e
    unfold IsSet at hb
    rw [hh] at hb
    injection hb with hb
    cases hb
theorem blk_set {T' : TypeId} {cs : List Value} {ys : List ByteArray} (hb : Blk w g T' cs) (hs : IsSet w j ys) : g ≠ j := by
  rintro rfl
  unfold Blk at hb
  unfold IsSet at hs
  rw [hb] at hs
  injection hs with hs
  cases hs
theorem own_keep {S : Nat → Prop} (h : Gn.Own enc k T w B v l) (ht : Touch S w w') (hn : ∀ g, v.ownBlock = some g → ¬ S g) : Gn.Own enc k T w' B v l := by
  obtain ⟨h0, h1⟩ := h
  refine ⟨h0, ?_⟩
  rcases h1 with h1 | ⟨g, cap, cur, rfl, hg, hh, r⟩
  · exact .inl h1
  · have hlt : g < w.heap.size := by
      rcases Nat.lt_or_ge g w.heap.size with hlt | hge
      · exact hlt
      · rw [Array.getElem?_eq_none hge] at hh; cases hh
    exact .inr ⟨g, cap, cur, rfl, hg, (ht.block g hlt (hn g rfl)).trans hh, r⟩
theorem touch_grown {row : Option Nat} (h3 : w.grownBy w' row) : Touch (fun k => row = some k) w w' := ⟨h3.os, h3.tape, h3.output, h3.size, fun k hk hn => h3.block k hk fun e => hn e.symm⟩
theorem own_dj {β : Type} {enc' : β → List Value} {k' : Nat} {T' : TypeId} {B' : Nat} {v' : Value} {l' : List β} (h : Gn.Own enc k T w B v l) (h' : Gn.Own enc' k' T' w B' v' l') (hT : T ≠ T') : ∀ g, v.ownBlock = some g → ¬ v'.ownBlock = some g := by
  intro g hg hg'
  rcases own_apart h h' hT with h1 | h1
  · rw [h1] at hg; cases hg
  · exact h1 (by rw [hg, hg'])
end

/-! ### what is open -/
structure Op1 where
  at_ : Nat
  fin : Nat
  m : Option Nat
def opc (x : Op1) : List Value := [.int .i64 (x.at_ : Nat), .int .u8 (x.fin : Nat), .map x.m]
theorem opL : Gn.Lay opc 3 := ⟨fun _ => rfl, fun x v hv => by simp [opc] at hv; rcases hv with rfl | rfl | rfl <;> rfl, by omega⟩
theorem opY : Gn.Ty 79 117 (.agg #[.int .i64 0, .int .u8 0, .map none]) 3 24 := ⟨Tryd.underlying79, by kernel_rfl, by kernel_rfl, rfl, by omega⟩
def OwnO (w : World) (B : Nat) (v : Value) (l : List Op1) : Prop := Gn.Own opc 3 117 w B v l
theorem ne_rd : (36 : TypeId) ≠ 81 ∧ (117 : TypeId) ≠ 81 ∧ (117 : TypeId) ≠ 36 := by decide
/-- What is open, as it lies: where each one's node is, what ends it, the keys that it had. -/
def OR (w : World) (B : Nat) : List Jr.Fr → Fo → List Op1 → Prop
  | [], R, O => O = []
  | f :: r, R, O => ∃ O' m, O = O' ++ [⟨Jr.cnt r R, Jr.endOf f.kind, m⟩] ∧ OR w B r R O' ∧ ((f.kind = 6 ∧ m = none) ∨ (f.kind = 7 ∧ ∃ j, m = some j ∧ B ≤ j ∧ IsSet w j f.had ∧ ∀ x ∈ O', x.m ≠ some j))
theorem OR.touch {S : Nat → Prop} {w w' : World} {B : Nat} (ht : Touch S w w') (hn : ∀ j ys, IsSet w j ys → ¬ S j) : ∀ {op : List Jr.Fr} {R : Fo} {O : List Op1}, OR w B op R O → OR w' B op R O
  | [], R, O, h => h
  | f :: r, R, O, h => by
    obtain ⟨O', m, e, h1, h2⟩ := h
    refine ⟨O', m, e, OR.touch ht hn h1, h2.imp id ?_⟩
    rintro ⟨hk, j, e2, h3, h4, h5⟩
    exact ⟨hk, j, e2, h3, h4.touch ht (hn j _ h4), h5⟩
theorem OR.len {w : World} {B : Nat} : ∀ {op : List Jr.Fr} {R : Fo} {O : List Op1}, OR w B op R O → O.length = op.length
  | [], R, O, h => by rw [show O = [] from h]; rfl
  | f :: r, R, O, h => by
    obtain ⟨O', m, rfl, h1, _⟩ := h
    have := OR.len h1
    simp [this]
/-- Parts that are laid change nothing of what is open. -/
theorem OR.place {w : World} {B : Nat} (T : Fo) : ∀ {op : List Jr.Fr} {R : Fo} {O : List Op1}, OR w B op R O → OR w B (Jr.place T op R).1 (Jr.place T op R).2 O
  | [], R, O, h => h
  | f :: r, R, O, h => h

theorem slice_of {α : Type} {enc : α → List Value} {k : Nat} {w : World} {B : Nat} {v : Value} {l : List α} (h : Gn.Rd enc k w B v l) : ∃ a n c, v = .slice a n c := by
  obtain ⟨a, c, e, _⟩ := Gn.Rd.form h
  exact ⟨a, _, c, e⟩
/-- Behind the append: what the two stores find, and leave. -/
def PutEnd (w : World) (B g a : Nat) (S : ByteArray) (ov tv v : Value) (L : List Nd) (w' : World) : Prop :=
  ∃ tv', RP w' g S a 4 ⟨#[]⟩ ov tv' ∧ OwnN w' B tv' L ∧ Touch (fun k => k = g ∨ tv.ownBlock = some k ∨ v.ownBlock = some k) w w'
theorem put_after {w w2 w3 : World} {B g a : Nat} {S : ByteArray} {nx : Int} {ov tv v v3 : Value} {L : List Nd} (h2 : RP w2 g S a nx ⟨#[]⟩ ov tv) (hgt : tv.ownBlock ≠ some g) (ht2 : Touch (fun k => k = g ∨ tv.ownBlock = some k ∨ v.ownBlock = some k) w w2) (ho3 : OwnN w3 B v3 L) (hg3 : w2.grownBy w3 tv.ownBlock) :
    w3.frozen? ⟨g, 5, none⟩ = false ∧ w3.cell? ⟨g, 5, none⟩ = some tv ∧ (w3.setCell ⟨g, 5, none⟩ v3).frozen? ⟨g, 2, none⟩ = false ∧ (w3.setCell ⟨g, 5, none⟩ v3).cell? ⟨g, 2, none⟩ = some (.int .i64 nx) ∧
      Hid (PutEnd w B g a S ov tv v L ((w3.setCell ⟨g, 5, none⟩ v3).setCell ⟨g, 2, none⟩ (.int .i64 4))) := by
  have ht3 := touch_grown hg3
  have h3 : RP w3 g S a nx ⟨#[]⟩ ov tv := h2.touch ht3 hgt
  have h4 := h3.putT v3
  have hx3 := own_blk ho3 h3 ne_rd.1
  refine ⟨Blk.frozen h3 5, h3.lie.2.2.2.2.2, Blk.frozen h4 2, h4.lie.2.2.1, Lib.hid ⟨v3, h4.putN 4, ?_, ?_⟩⟩
  · exact own_keep (own_keep ho3 (touchG w3 g 5 v3) (fun k hk e => hx3 (by rw [← e]; exact hk))) (touchG _ g 2 _) (fun k hk e => hx3 (by rw [← e]; exact hk))
  · exact (ht2.trans ht3 (fun i hi => .inl (.inr (.inl hi)))).trans ((touchG w3 g 5 v3).trans (touchG _ g 2 (.int .i64 4)) (fun i hi => .inl hi)) (fun i hi => .inl (.inl hi))
set_option maxHeartbeats 4000000 in
theorem jput {w : World} {B C g a : Nat} {S y : ByteArray} {nx : Int} {ov tv v : Value} {L : List Nd} {x : Nd} (h : RP w g S a nx y ov tv) (ht : OwnN w B tv L) (hv : OwnN w C v [x]) (hd : ∀ k, v.ownBlock = some k → ¬ tv.ownBlock = some k) (hL : L.length ≤ 5000) (hB : B ≤ w.heap.size) :
    Calls Tryd.prog 130 #[.pointer (some ⟨g, 0, none⟩), v] w fun e w' => e = .returned (.tuple #[]) ∧ PutEnd w B g a S ov tv v (L ++ [{ x with key := y }]) w' := by
  obtain ⟨va, vc, rfl, _⟩ := Gn.Rd.form (Gn.Own.rd ndL hv)
  obtain ⟨gv, rfl⟩ := own_addr hv (by simp)
  have hg := own_blk hv h ne_rd.1
  have hgt := own_blk ht h ne_rd.1
  have hgv : ¬ g = gv := fun e => hg (by rw [e]; rfl)
  have htv : ¬ tv.ownBlock = some gv := hd gv rfl
  have f0 := own_melt hv rfl 1
  obtain ⟨_, _, e0, _, q0, _, _, _⟩ := rdN_cells (Gn.Own.rd ndL hv) (Below.refl _ _) (i := 0) (x := x) rfl
  obtain ⟨rfl, rfl⟩ : gv = _ ∧ 0 = _ := by injection e0 with e0; injection e0 with e1 e2; exact ⟨e1, e2⟩
  simp only [Nat.zero_mul, Nat.zero_add] at q0
  obtain ⟨_, _, _, c3, _, _⟩ := h.lie
  obtain ⟨w1, hw1⟩ : ∃ w1, w1 = w.setCell ⟨gv, 1, none⟩ (.string y) := ⟨_, rfl⟩
  have ht1 : Touch (fun k => k = gv) w w1 := by rw [hw1]; exact touchG w gv 1 _
  have h1 : RP w1 g S a nx y ov tv := h.touch ht1 hgv
  have hv1 : OwnN w1 C (.slice (some ⟨gv, 0, none⟩) 1 vc) [{ x with key := y }] := by
    have := own_put (i := 0) (m := 1) (u := .string y) (x' := { x with key := y }) hv rfl rfl rfl (by omega)
    rw [hw1]; simpa using this
  have ho1 : OwnN w1 B tv L := own_keep ht ht1 (fun k hk e => htv (by rw [← e]; exact hk))
  have f1 := Blk.frozen h1 3
  have hw2 : ∃ w2, w2 = w1.setCell ⟨g, 3, none⟩ (.string ⟨#[]⟩) := ⟨_, rfl⟩
  obtain ⟨w2, hw2⟩ := hw2
  have ht2 : Touch (fun k => k = g) w1 w2 := by rw [hw2]; exact touchG w1 g 3 _
  have h2 : RP w2 g S a nx ⟨#[]⟩ ov tv := by rw [hw2]; exact h1.putK _
  have hv2 : OwnN w2 C (.slice (some ⟨gv, 0, none⟩) 1 vc) [{ x with key := y }] := own_keep hv1 ht2 (fun k hk e => hg (by rw [← e]; exact hk))
  have ho2 : OwnN w2 B tv L := own_keep ho1 ht2 (fun k hk e => hgt (by rw [← e]; exact hk))
  obtain ⟨_, _, _, _, _, c5⟩ := h2.lie
  have H2 := Lib.hid h2
  have HV2 := Lib.hid (Gn.Own.rd ndL hv2)
  have HO2 := Lib.hid ho2
  have HT2 := Lib.hid (show Touch (fun k => k = g ∨ tv.ownBlock = some k ∨ (Value.slice (some ⟨gv, 0, none⟩) 1 vc).ownBlock = some k) w w2 from (ht1.mono (S' := fun k => k = g ∨ tv.ownBlock = some k ∨ (Value.slice (some ⟨gv, 0, none⟩) 1 vc).ownBlock = some k) (fun i hi => .inr (.inr (by rw [hi]; rfl)))).trans ht2 (fun i hi => .inl (.inl hi)))
  have HB := Lib.hid (Nat.le_trans hB (Nat.le_trans ht1.size ht2.size))
  have HG := Lib.hid hgt
  rw [hw1] at f1 hw2
  clear h ht hv hd h1 hv1 ho1 h2 hv2 ho2 ht1 ht2 hw1 hg hgt hB
  go_enter Tryd.func130, Tryd.ntmps130
  go_wp2_with (at_builtin
               rw [← hw2]
               refine Gn.wpList_app ndL ndY rfl (.tmp 18) (.tmp 19) rfl B tv L rfl HO2.out _ [({ x with key := y } : Nd)] rfl HV2.out (by simp; omega) HB.out ?_
               intro v3 w3 ho3 hg3 hl3 hn3
               obtain ⟨f5, d5, f2, d2, HE⟩ := put_after H2.out HG.out HT2.out ho3 hg3
               obtain ⟨a3, n3, c3, rfl⟩ := slice_of (Gn.Own.rd ndL ho3)
               clear ho3 hg3 hl3 hn3)
  go_end0
  exact ⟨rfl, HE.out⟩
theorem wd_step {W : List Nat} {S : ByteArray} {b i c : Nat} (hc : W[i]? = some c) (hn : c ≠ 0) : Jr.wd (W.drop i) (left S b) = if Jr.hd (left S b) = c then Jr.wd (W.drop (i + 1)) (left S (b + 1)) + 1 else 0 := by
  obtain ⟨hl, he⟩ := List.getElem?_eq_some_iff.1 hc
  rw [List.drop_eq_getElem_cons hl, he, Jr.wd, left_drop]
  by_cases h : Jr.hd (left S b) = c
  · rw [if_pos h, if_pos ⟨h, fun e => hn (by rw [← h, e]; rfl)⟩]
  · rw [if_neg h, if_neg (fun e => h e.1)]
/-- What taking a word leaves. -/
def WordEnd (w : World) (B g a : Nat) (S y : ByteArray) (nx : Int) (ov tv v : Value) (L : List Nd) (x : Nd) (W : ByteArray) (e : Ending) (w' : World) : Prop :=
  (Jr.wd (bl W) (left S a) = W.size ∧ e = .returned (.int .i64 0) ∧ a + W.size ≤ S.size ∧ PutEnd w B g (a + W.size) S ov tv v (L ++ [{ x with key := y }]) w') ∨
  (Jr.wd (bl W) (left S a) ≠ W.size ∧ e = .returned (.int .i64 70) ∧ Went w w' g S (a + Jr.wd (bl W) (left S a)) nx y ov tv)
theorem PutEnd.before {w w1 w2 : World} {B g a b : Nat} {S y : ByteArray} {nx : Int} {ov tv v : Value} {L : List Nd} (h : Went w w1 g S b nx y ov tv) (k : PutEnd w1 B g a S ov tv v L w2) : PutEnd w B g a S ov tv v L w2 := by
  obtain ⟨tv', h1, h2, h3⟩ := k
  exact ⟨tv', h1, h2, (h.2.mono (fun i hi => .inl hi)).trans h3 (fun i hi => .inl hi)⟩
theorem own_went {α : Type} {enc : α → List Value} {k : Nat} {T : TypeId} {w w' : World} {B g a b : Nat} {S y z : ByteArray} {nx mx : Int} {ov tv ou tu v : Value} {l : List α} (h : Gn.Own enc k T w B v l) (hr : RP w g S a nx y ov tv) (hw : Went w w' g S b mx z ou tu) (hT : T ≠ 81) : Gn.Own enc k T w' B v l :=
  own_keep h hw.2 (fun i hi e => own_blk h hr hT (by rw [← e]; exact hi))
set_option maxHeartbeats 4000000 in
theorem jtakeWord {w : World} {B C g a : Nat} {S y : ByteArray} {nx : Int} {ov tv v : Value} {L : List Nd} {x : Nd} (h : RP w g S a nx y ov tv) (ha : a ≤ S.size) (hm : S.size ≤ 1048576) (ht : OwnN w B tv L) (hv : OwnN w C v [x]) (hd : ∀ k, v.ownBlock = some k → ¬ tv.ownBlock = some k) (hL : L.length ≤ 5000) (hB : B ≤ w.heap.size)
    (W : ByteArray) (hW : 0 ∉ bl W) (hWs : W.size ≤ 100) :
    Calls Tryd.prog 98 #[.pointer (some ⟨g, 0, none⟩), .string W, v] w fun e w' => WordEnd w B g a S y nx ov tv v L x W e w' := by
  obtain ⟨va, vn, vc, rfl⟩ := slice_of (Gn.Own.rd ndL hv)
  obtain ⟨n, hn⟩ : ∃ n, Jr.wd (bl W) (left S a) = n := ⟨_, rfl⟩
  have HN := Lib.hid hn
  have H := Lib.hid h
  have HO := Lib.hid ht
  have HV := Lib.hid hv
  have HD := Lib.hid hd
  have HW0 := Lib.hid hW
  clear h ht hv hd hn hW
  go_enter Tryd.func98, Tryd.ntmps98
  go_wp2_with fail
  go_loopw [10] (fun iv wx => ∃ i : Nat, iv = .int .i64 (i : Nat) ∧ i ≤ W.size ∧ a + i ≤ S.size ∧ Hid (Went w wx g S (a + i) nx y ov tv ∧ n = i + Jr.wd ((bl W).drop i) (left S (a + i)))) (fun iv _ => W.size - (intOf iv).toNat)
  case atStart => exact ⟨0, by rfl, by omega, by omega, Lib.hid ⟨⟨H.out, Touch.refl _ _⟩, by rw [List.drop_zero, Nat.zero_add]; exact HN.out.symm⟩⟩
  case round =>
    obtain ⟨i, rfl, hi, hai, HW⟩ := hrel
    by_cases hlt : i < W.size
    · have hlt1 : (i : Int) < W.size := by omega
      have hx := bl_at W i hlt
      obtain ⟨c, hc⟩ : ∃ c, (bl W).getD i 0 = c := ⟨_, rfl⟩
      rw [hc] at hx
      have hcm : (bl W)[i]? = some c := by
        have hl : i < (bl W).length := by rw [bl_length]; exact hlt
        rw [List.getElem?_eq_getElem hl]
        rw [List.getD_eq_getElem?_getD, List.getElem?_eq_getElem hl] at hc
        exact congrArg some hc
      have hc0 : c ≠ 0 := fun e => HW0.out (by rw [← e]; exact List.mem_of_getElem? hcm)
      have HST := Lib.hid (wd_step (S := S) (b := a + i) hcm hc0)
      obtain ⟨d, hdd⟩ : ∃ d, Jr.hd (left S (a + i)) = d := ⟨_, rfl⟩
      have HC := Lib.hid (fun m => jhere (HW.out.1.1.drew m) hai hm d hdd)
      have f1 := fun n => Blk.frozen (HW.out.1.1.drew n) 1
      obtain ⟨_, d1, _⟩ := HW.out.1.1.lie
      have d1 : ∀ n, (wr.drewN n).cell? ⟨g, 1, none⟩ = some (.int .i64 ((a + i : Nat) : Int)) := fun n => d1
      by_cases he : d = c
      · have hne : ((d : Int) != c) = false := by simp [he]
        have hin := hd_in (S := S) (a := a + i) (by rw [hdd, he]; exact hc0)
        have HQ : Hid (n = i + 1 + Jr.wd ((bl W).drop (i + 1)) (left S (a + (i + 1)))) := Lib.hid (by
          have := HW.out.2
          rw [HST.out, hdd, if_pos he] at this
          rw [show a + (i + 1) = a + i + 1 by omega]; omega)
        clear hc hcm hdd he
        go_wp2_with fail
        go_quiet ((go_at_call 97; exact Calls.quiet_of (HC.out _)))
        have f1 := f1 nq
        have d1 := d1 nq
        have HWN : Hid (Went w ((wr.drewN nq).setCell ⟨g, 1, none⟩ (.int .i64 ((a + i + 1 : Nat) : Int))) g S (a + (i + 1)) nx y ov tv) := Lib.hid (HW.out.1.then (show Went wr _ g S (a + (i + 1)) nx y ov tv from ⟨(HW.out.1.1.drew nq).putA (a + i + 1), (touchD wr _ nq).trans (touchG _ g 1 _) (fun i hi => .inl hi)⟩))
        simp only [Int.natCast_add, Int.natCast_one] at HWN
        go_wp2_with fail
        go_roundw
        case rel => exact ⟨i + 1, by go_num, by omega, by omega, Lib.hid ⟨HWN.out, HQ.out⟩⟩
        case measure => simp [intOf]; omega
      · have hne : ((d : Int) != c) = true := by simp; omega
        have HQ : Hid (n = i) := Lib.hid (by
          have := HW.out.2
          rw [HST.out, hdd, if_neg he] at this
          omega)
        clear hc hcm hdd he
        go_wp2_with fail
        go_quiet ((go_at_call 97; exact Calls.quiet_of (HC.out _)))
        go_wp2_with fail
        go_ret
        refine .inr ⟨by rw [HN.out, HQ.out]; omega, rfl, ?_⟩
        rw [HN.out, HQ.out]
        exact ⟨HW.out.1.1.drew _, HW.out.1.2.trans (touchD wr _ _) (fun i hi => .inl hi)⟩
    · obtain rfl : i = W.size := by omega
      have hlt1 : ¬ (W.size : Int) < W.size := by omega
      have HQ : Hid (n = W.size) := Lib.hid (by
        have := HW.out.2
        rw [List.drop_eq_nil_of_le (by rw [bl_length]; exact Nat.le_refl _)] at this
        simpa [Jr.wd] using this)
      have CP := Lib.hid (jput HW.out.1.1 (own_went HO.out H.out HW.out.1 ne_rd.1) (own_went HV.out H.out HW.out.1 ne_rd.1) HD.out hL (Nat.le_trans hB HW.out.1.2.size))
      clear hlt
      go_wp2_with fail
      ((with_reducible refine (CP.out).mono ?_); rintro e w2 ⟨rfl, hp⟩)
      have HP := Lib.hid (PutEnd.before HW.out.1 hp)
      clear hp
      go_wp2_with fail
      go_ret
      exact .inl ⟨by rw [HN.out, HQ.out], rfl, hai, HP.out⟩
end Go.Proofs.YteklcfimafplbaaDoor
