/- QEvS. -/
import Derived.Test.YtigcgkhcbmnboaaGreatDoorQEvCh
import Derived.Test.YtigcgkhcbmnboaaGreatDoorQEvh
import Derived.Test.YtigcgkhcbmnboaaGreatDoorQEva
import Derived.Test.YtigcgkhcbmnboaaGreatDoorQEvd
import Derived.Deep.DeepCutAuto
import Derived.Deep.CutBlock
import Derived.Test.YtigcgkhcbmnboaaGreatDoorQClFr
/- What the laws' walks share: what came in; two schemas of a chain in two variables. -/
namespace Go.Proofs.YtigcgkhcbmnboaaGreatDoor
open Go.RowKit Go.Sort
set_option linter.unusedVariables false
set_option linter.unusedSimpArgs false
set_option maxRecDepth 100000

def V3In (x : Ev.V3) : Prop := Cl.I64 x.a ∧ Cl.I64 x.b ∧ Cl.I64 x.c
/-- Numbers that came in. -/
structure NumsE (W : World) (v : Value) (l : List Int) : Prop where
  rd : RdI W W.heap.size v l
  i : ∀ q ∈ l, Cl.I64 q
/-- A seed that came in. -/
structure SeedE (W : World) (cv vv : Value) (C : List Int) (V : List Ev.V3) : Prop where
  c : RdI W W.heap.size cv C
  v : RdV W W.heap.size vv V
  ci : ∀ x ∈ C, Cl.I64 x
  vi : ∀ x ∈ V, V3In x
theorem NumsE.later {W W' : World} {v : Value} {l : List Int} (h : NumsE W v l) (hb : Below W.heap.size W W') : NumsE W' v l := ⟨h.rd.later hb, h.i⟩
theorem SeedE.later {W W' : World} {cv vv : Value} {C : List Int} {V : List Ev.V3} (h : SeedE W cv vv C V) (hb : Below W.heap.size W W') : SeedE W' cv vv C V := ⟨h.c.later hb, Gn.Rd.later h.v hb, h.ci, h.vi⟩
theorem chainE {W : World} {cv vv : Value} {C : List Int} {V : List Ev.V3} (h : SeedE W cv vv C V) : Calls Tryz.prog 27 #[.agg #[cv, vv]] W fun e w' => ChPost W (Ev.mkch C V) e w' :=
  lChain cv vv C V W h.c h.v h.ci h.vi
/-- A chain's versions may be schemas. -/
theorem mk_ok {l : List Ev.Sm} (h : Ev.MkIs l) : ∀ s ∈ l, SmOk s := fun s hs => by
  obtain ⟨h1, h2, n, o, hn, hcl⟩ := h.all s hs
  refine ⟨fun c hc => ?_, fun q hq => ?_, by omega, by rw [h1]; simp⟩
  · have hco := hcl.co c hc
    have h3 := hco.id0
    have h4 := hco.id1
    have h5 := hco.n0
    have h6 := hco.s1
    have h7 := hco.m2
    have hk := Cl.may_le (Cl.chk_ok hco.ck).1
    exact ⟨by unfold Cl.I64; omega, by unfold Cl.I64; omega, by omega, by unfold Cl.I64; omega, by omega⟩
  · rw [h1] at hq
    simp at hq
    subst hq
    unfold Cl.I64; decide
theorem mk_oks {l : List Ev.Sm} {L : List Sx} (h : Ev.MkIs l) (e : sms L = l) : SmsOk L := fun x hx => mk_ok h x.s (by rw [← e]; unfold sms; exact List.mem_map_of_mem hx)
/-- One of the chain. -/
theorem mk_at {l : List Ev.Sm} {L : List Sx} (e : sms L = l) {i : Nat} {x : Sx} (hx : L[i]? = some x) : l[i]? = some x.s := by rw [← e]; exact sms_at hx
/-- Two schemas, in two variables that a drawn region makes: slots sa, sb; operations ja, jb make them, ka, kb fill them. -/
structure AB (B N sa sb ja jb ka kb : Nat) (x0 x1 y0 y1 : Value) (d : Nat → Bool) (ts : Array Value) (u : World) : Prop where
  sz : ts.size = N
  bz : B ≤ u.heap.size
  ma : d ka = true → d ja = true
  mb : d kb = true → d jb = true
  pa : d ja = true → ∃ p, ts.getD sa undef = .pointer (some ⟨p, 0, none⟩) ∧ B ≤ p ∧ Blk u p 25 (if d ka = true then [x0, x1] else nilC)
  pb : d jb = true → ∃ p, ts.getD sb undef = .pointer (some ⟨p, 0, none⟩) ∧ B ≤ p ∧ Blk u p 25 (if d kb = true then [y0, y1] else nilC)
  ne : d ja = true → d jb = true → ts.getD sa undef ≠ ts.getD sb undef
section
variable {B N sa sb ja jb ka kb : Nat} {x0 x1 y0 y1 : Value} {d : Nat → Bool} {ts : Array Value} {u : World}
theorem AB.start (h : ts.size = N) (hb : B ≤ u.heap.size) : AB B N sa sb ja jb ka kb x0 x1 y0 y1 (fun _ => false) ts u :=
  ⟨h, hb, fun e => (by cases e), fun e => (by cases e), fun e => (by cases e), fun e => (by cases e), fun e => (by cases e)⟩
theorem AB.put (h : AB B N sa sb ja jb ka kb x0 x1 y0 y1 d ts u) {s' j : Nat} {v : Value} (h1 : s' ≠ sa) (h2 : s' ≠ sb) (h3 : ja ≠ j) (h4 : jb ≠ j) (h5 : ka ≠ j) (h6 : kb ≠ j) : AB B N sa sb ja jb ka kb x0 x1 y0 y1 (upd d j) (ts.setIfInBounds s' v) u := by
  refine ⟨by simp [h.sz], h.bz, ?_, ?_, ?_, ?_, ?_⟩ <;> simp only [upd_no h3, upd_no h4, upd_no h5, upd_no h6, getD_put v h1, getD_put v h2]
  · exact h.ma
  · exact h.mb
  · exact h.pa
  · exact h.pb
  · exact h.ne
theorem AB.newA (h : AB B N sa sb ja jb ka kb x0 x1 y0 y1 d ts u) (hs : sa ≠ sb) (hN : sa < N) (h4 : jb ≠ ja) (h5 : ka ≠ ja) (h6 : kb ≠ ja) (hd : d ja = false) :
    AB B N sa sb ja jb ka kb x0 x1 y0 y1 (upd d ja) (ts.setIfInBounds sa (.pointer (some ⟨u.heap.size, 0, none⟩))) (u.alloc (.cells #[.slice none 0 0, .slice none 0 0] 25)) := by
  have hb := box_new u (.cells #[.slice none 0 0, .slice none 0 0] 25)
  have hka : d ka = false := by cases e : d ka with
    | false => rfl
    | true => have := h.ma e; rw [hd] at this; cases this
  refine ⟨by simp [h.sz], Nat.le_trans h.bz hb.size, ?_, ?_, ?_, ?_, ?_⟩ <;> simp only [upd_at, upd_no h4, upd_no h5, upd_no h6, getD_self _ (show sa < ts.size by rw [h.sz]; exact hN), getD_put _ hs, hka]
  · intro e; cases e
  · exact h.mb
  · intro _; exact ⟨_, rfl, h.bz, Blk.new u 25 _⟩
  · intro e
    obtain ⟨p, h1, h2, h3⟩ := h.pb e
    exact ⟨p, h1, h2, h3.later hb⟩
  · intro _ e he
    obtain ⟨p, h1, h2, h3⟩ := h.pb e
    rw [h1] at he
    injection he with he
    injection he with he
    injection he with he
    have := h3.lt
    omega
theorem AB.newB (h : AB B N sa sb ja jb ka kb x0 x1 y0 y1 d ts u) (hs : sb ≠ sa) (hN : sb < N) (h4 : ja ≠ jb) (h5 : ka ≠ jb) (h6 : kb ≠ jb) (hd : d jb = false) :
    AB B N sa sb ja jb ka kb x0 x1 y0 y1 (upd d jb) (ts.setIfInBounds sb (.pointer (some ⟨u.heap.size, 0, none⟩))) (u.alloc (.cells #[.slice none 0 0, .slice none 0 0] 25)) := by
  have hb := box_new u (.cells #[.slice none 0 0, .slice none 0 0] 25)
  have hkb : d kb = false := by cases e : d kb with
    | false => rfl
    | true => have := h.mb e; rw [hd] at this; cases this
  refine ⟨by simp [h.sz], Nat.le_trans h.bz hb.size, ?_, ?_, ?_, ?_, ?_⟩ <;> simp only [upd_at, upd_no h4, upd_no h5, upd_no h6, getD_self _ (show sb < ts.size by rw [h.sz]; exact hN), getD_put _ hs, hkb]
  · exact h.ma
  · intro e; cases e
  · intro e
    obtain ⟨p, h1, h2, h3⟩ := h.pa e
    exact ⟨p, h1, h2, h3.later hb⟩
  · intro _; exact ⟨_, rfl, h.bz, Blk.new u 25 _⟩
  · intro e _ he
    obtain ⟨p, h1, h2, h3⟩ := h.pa e
    rw [h1] at he
    injection he with he
    injection he with he
    injection he with he
    have := h3.lt
    omega
theorem AB.fillA (h : AB B N sa sb ja jb ka kb x0 x1 y0 y1 d ts u) (h4 : jb ≠ ka) (h5 : ja ≠ ka) (h6 : kb ≠ ka) (hj : d ja = true) (hd : d ka = false) {p : Nat} (hp : ts.getD sa undef = .pointer (some ⟨p, 0, none⟩)) :
    AB B N sa sb ja jb ka kb x0 x1 y0 y1 (upd d ka) ts ((u.setCell ⟨p, 0, none⟩ x0).setCell ⟨p, 1, none⟩ x1) := by
  obtain ⟨p', h1, h2, h3⟩ := h.pa hj
  obtain rfl : p = p' := by rw [hp] at h1; injection h1 with h1; injection h1 with h1; injection h1
  rw [hd] at h3
  refine ⟨h.sz, by simp; exact h.bz, ?_, ?_, ?_, ?_, ?_⟩ <;> simp only [upd_at, upd_no h4, upd_no h5, upd_no h6]
  · intro _; exact hj
  · exact h.mb
  · intro _; exact ⟨p, hp, h2, by simpa [nilC] using Blk.put (Blk.put h3 0 x0) 1 x1⟩
  · intro e
    obtain ⟨q, q1, q2, q3⟩ := h.pb e
    have hne : p ≠ q := fun e2 => h.ne hj e (by rw [hp, q1, e2])
    exact ⟨q, q1, q2, (q3.far (by exact hne) x0).far (by exact hne) x1⟩
  · exact h.ne
theorem AB.fillB (h : AB B N sa sb ja jb ka kb x0 x1 y0 y1 d ts u) (h4 : ja ≠ kb) (h5 : jb ≠ kb) (h6 : ka ≠ kb) (hj : d jb = true) (hd : d kb = false) {p : Nat} (hp : ts.getD sb undef = .pointer (some ⟨p, 0, none⟩)) :
    AB B N sa sb ja jb ka kb x0 x1 y0 y1 (upd d kb) ts ((u.setCell ⟨p, 0, none⟩ y0).setCell ⟨p, 1, none⟩ y1) := by
  obtain ⟨p', h1, h2, h3⟩ := h.pb hj
  obtain rfl : p = p' := by rw [hp] at h1; injection h1 with h1; injection h1 with h1; injection h1
  rw [hd] at h3
  refine ⟨h.sz, by simp; exact h.bz, ?_, ?_, ?_, ?_, ?_⟩ <;> simp only [upd_at, upd_no h4, upd_no h5, upd_no h6]
  · exact h.ma
  · intro _; exact hj
  · intro e
    obtain ⟨q, q1, q2, q3⟩ := h.pa e
    have hne : p ≠ q := fun e2 => h.ne e hj (by rw [hp, q1, e2])
    exact ⟨q, q1, q2, (q3.far (by exact hne) y0).far (by exact hne) y1⟩
  · intro _; exact ⟨p, hp, h2, by simpa [nilC] using Blk.put (Blk.put h3 0 y0) 1 y1⟩
  · exact h.ne
end
end Go.Proofs.YtigcgkhcbmnboaaGreatDoor

/- How a seed of the laws of layer 12, numbers and rows of numbers that came in are read. -/
namespace Go.Proofs.YtigcgkhcbmnboaaGreatDoor
open Go.ChangeShapes Go.WideShapes Go.ChangeAt Go.RowKit Go.Deep
set_option linter.unusedVariables false
set_option maxRecDepth 100000

instance : Inhabited Ev.V3 := ⟨⟨0, 0, 0⟩⟩
theorem pick_list {α : Type} [Inhabited α] (n : Nat) (Q : Nat → α → Prop) (h : ∀ i, i < n → ∃ p, Q i p) : ∃ l : List α, l.length = n ∧ ∀ i p, l[i]? = some p → Q i p := by
  induction n with
  | zero => exact ⟨[], rfl, fun i p hp => by simp at hp⟩
  | succ n ih =>
    obtain ⟨l, hl, hq⟩ := ih fun i hi => h i (by omega)
    obtain ⟨p, hp⟩ := h n (by omega)
    refine ⟨l ++ [p], by simp [hl], fun i q hq2 => ?_⟩
    rcases Nat.lt_or_ge i l.length with hi | hi
    · rw [List.getElem?_append_left hi] at hq2
      exact hq i q hq2
    · rw [List.getElem?_append_right hi] at hq2
      have hi2 : i - l.length = 0 := by
        rcases Nat.eq_zero_or_pos (i - l.length) with h0 | h0
        · exact h0
        · rw [List.getElem?_eq_none (by simp; omega)] at hq2; cases hq2
      rw [hi2] at hq2
      simp at hq2
      subst hq2
      rw [show i = n by omega]
      exact hp
theorem add_flat (b off k : Nat) : (⟨b, off, none⟩ : Addr).add k = ⟨b, off + k, none⟩ := by unfold Addr.add; split <;> simp_all
theorem blk_lt {w : World} {a : Addr} {v : Value} (h : w.cell? a = some v) : a.block < w.heap.size := block_lt_of_cell h
/-- A part of a struct, of however many cells. -/
theorem open_part {H : Type} {enc : TypeId × Value → H} {P : Program} {W : World} {fuel : Nat} {t : TypeId} {fs : Array Field} {cs : List Value} {x : DataW H × List MemPlace} (he : P.underlying t = some (.struct fs))
    (h : DataW.trod enc P W 0 (fun _ => true) true fuel t cs = some x) (i : Nat) (f : Field) (hf : fs[i]? = some f) (off k : Nat) (T : TypeId) (ho : f.offset = off) (hT : f.type = T) (hk : P.cellsOf T = k) : ∃ n y, DataW.trod enc P W 0 (fun _ => true) true n T ((cs.drop off).take k) = some y := by
  subst ho hT hk
  obtain ⟨xs, n, _, _, _, hlen, hh⟩ := DataW.trod_struct he h
  have hix : i < xs.length := by rw [hlen]; exact (Array.getElem?_eq_some_iff.1 hf).1
  exact ⟨n, xs[i], (hh i f hf).trans (List.getElem?_eq_getElem hix)⟩
theorem okWide_array {P : Program} {w : World} {r : Reach} {base n : Nat} {t e : TypeId} {v : Value} (ht : P.underlying t = some (.array n e)) (h : Value.okWide P w r base t v) : ∃ cs, v = .agg cs ∧ cs.size = P.cellsOf t := by
  simp only [Value.okWide, ht] at h
  obtain ⟨cs, h1, h2, _⟩ := h
  exact ⟨cs, h1, h2⟩
theorem three_cells : Tryz.prog.cellsOf 54 = 3 := by kernel_rfl
theorem three_of {H : Type} {enc : TypeId × Value → H} {W : World} {fuel : Nat} {cs : List Value} {x : DataW H × List MemPlace} (hf : DataW.trod enc Tryz.prog W 0 (fun _ => true) true fuel 54 cs = some x) (hlen : cs.length = 3) : ∃ c : Ev.V3, cs = v3c c ∧ V3In c := by
  obtain ⟨xs, m, _, _, hl, hxl, hh⟩ := DataW.trod_array Tryz.underlying54 hf
  have h0 := hh 0 (by decide)
  have h1 := hh 1 (by decide)
  have h2 := hh 2 (by decide)
  rw [show Tryz.prog.cellsOf 3 = 1 from by kernel_rfl, List.getElem?_eq_getElem (by omega)] at h0 h1 h2
  match cs, hlen with
  | [a, b, c], _ =>
    simp only [List.drop_succ_cons, List.drop_zero, List.take_succ_cons, List.take_zero, Nat.zero_mul, Nat.one_mul] at h0 h1 h2
    obtain ⟨k0, c0, _, b0⟩ := DataW.trod_int Tryz.underlying3 h0
    obtain ⟨k1, c1, _, b1⟩ := DataW.trod_int Tryz.underlying3 h1
    obtain ⟨k2, c2, _, b2⟩ := DataW.trod_int Tryz.underlying3 h2
    obtain rfl := (List.cons.inj c0).1
    obtain rfl := (List.cons.inj c1).1
    obtain rfl := (List.cons.inj c2).1
    exact ⟨⟨k0, k1, k2⟩, rfl, ⟨bounds_i64 b0, bounds_i64 b1, bounds_i64 b2⟩⟩
theorem threes_of {H : Type} {enc : TypeId × Value → H} {W : World} {fuel : Nat} {v : Value} {x : DataW H × List MemPlace} (hf : DataW.trod enc Tryz.prog W 0 (fun _ => true) true fuel 43 [v] = some x) : ∃ l, RdV W W.heap.size v l ∧ ∀ p ∈ l, V3In p := by
  rcases open_slice Tryz.underlying43 hf with ⟨hcs, _⟩ | ⟨x, len, cap, m, n, D, Pl, hcs, hb, hl, hm, hmm, _, hi⟩
  · obtain rfl := (List.cons.inj hcs).1
    exact ⟨[], Gn.Rd.nil _ _, by simp⟩
  · obtain rfl := (List.cons.inj hcs).1
    rw [if_pos rfl] at hmm
    subst hmm
    obtain ⟨ps, hlen, hps⟩ := pick_list (α := Ev.V3) len (fun i p => V3In p ∧ ∀ j, j < 3 → W.cell? ((x.add (i * 3)).add j) = (v3c p)[j]?) (fun i hi' => by
      obtain ⟨cs, hc, ht⟩ := hi i (by omega)
      rw [three_cells] at hc
      obtain ⟨_, hcl, hat⟩ := World.cells?_some hc
      obtain ⟨c, rfl, h1⟩ := three_of ht hcl
      exact ⟨c, h1, hat⟩)
    refine ⟨ps, ⟨some x, _, by rw [hlen], by omega, hm, by simp, fun hp => ?_⟩, fun p hp => ?_⟩
    · obtain ⟨b, off, spot⟩ := x
      have h0 : W.cell? (((⟨b, off, spot⟩ : Addr).add (0 * 3)).add 0) = some (.int .i64 (ps[0]'hp).a) := (hps 0 _ (List.getElem?_eq_getElem hp)).2 0 (by omega)
      have hs : spot = none := by simpa [Addr.add] using World.cell?_spot h0
      subst hs
      refine ⟨b, off, rfl, by simpa [Addr.add] using blk_lt h0, fun i p j u hip hj => ?_⟩
      have hj3 : j < 3 := by have := (List.getElem?_eq_some_iff.1 hj).1; simpa [v3c] using this
      have := (hps i p hip).2 j hj3
      rw [add_flat, add_flat, hj] at this
      exact this
    · obtain ⟨i, hi', rfl⟩ := List.getElem_of_mem hp
      exact (hps i _ (List.getElem?_eq_getElem hi')).1
theorem nums_of {H : Type} {enc : TypeId × Value → H} {W : World} {fuel : Nat} {v : Value} {x : DataW H × List MemPlace} (hf : DataW.trod enc Tryz.prog W 0 (fun _ => true) true fuel 23 [v] = some x) : ∃ l, RdI W W.heap.size v l ∧ ∀ q ∈ l, Cl.I64 q := by
  rcases open_ints Tryz.underlying23 Tryz.underlying3 (by kernel_rfl) hf with ⟨hcs, _⟩ | ⟨x, len, cap, zs, hcs, _, hl, hm, hz, _, hcell, hwz⟩
  · obtain rfl := (List.cons.inj hcs).1
    exact ⟨[], Gn.Rd.nil _ _, by simp⟩
  · obtain rfl := (List.cons.inj hcs).1
    have hz' : zs.length = cap := by simpa using hz
    refine ⟨zs.take len, ⟨some x, cap, by simp; omega, by simp; omega, hm, by simp, fun hp => ?_⟩, fun q hq => bounds_i64 (hwz q (List.mem_of_mem_take hq))⟩
    simp at hp
    obtain ⟨b, off, spot⟩ := x
    have hc := hcell 0 (by omega)
    have hs : spot = none := by simpa [Addr.add] using World.cell?_spot hc
    subst hs
    refine ⟨b, off, rfl, by simpa [Addr.add] using blk_lt hc, fun i y j u hi hj => ?_⟩
    have hil := (List.getElem?_eq_some_iff.1 hi).1
    have hil' : i < len := by simp at hil; omega
    have hj0 : j = 0 := by have := (List.getElem?_eq_some_iff.1 hj).1; simp [inc] at this; exact this
    subst hj0
    have := hcell i (by omega)
    rw [add_flat] at this
    rw [List.getElem?_take_of_lt hil'] at hi
    rw [List.getD_eq_getElem?_getD, hi] at this
    have hu : u = .int .i64 y := by simpa [inc] using hj.symm
    subst hu
    simpa using this
theorem open_numsE {H : Type} {enc : TypeId × Value → H} {W : World} {base : Nat} {v : Value} {d : DataW H} {p : List MemPlace}
    (hv : Value.okWide Tryz.prog W .any base 23 v) (h : DataW.Trod enc Tryz.prog W 0 (fun _ => true) true 23 v d p) : ∃ l, NumsE W v l := by
  obtain ⟨a, len, cap, rfl⟩ := okWide_slice Tryz.underlying23 hv
  obtain ⟨fuel, hf⟩ := h
  obtain ⟨l, h1, h2⟩ := nums_of hf
  exact ⟨l, h1, h2⟩
theorem open_seedE {H : Type} {enc : TypeId × Value → H} {W : World} {base : Nat} {v : Value} {d : DataW H} {p : List MemPlace}
    (hv : Value.okWide Tryz.prog W .any base 45 v) (h : DataW.Trod enc Tryz.prog W 0 (fun _ => true) true 45 v d p) : ∃ cv vv C V, v = .agg #[cv, vv] ∧ SeedE W cv vv C V := by
  have hv2 : ∃ cs, v = .agg cs := by
    simp only [Value.okWide, Tryz.underlying45] at hv
    obtain ⟨cs, h1, _⟩ := hv
    exact ⟨cs, h1⟩
  obtain ⟨⟨cs⟩, rfl⟩ := hv2
  obtain ⟨fuel, hf⟩ := h
  have hf : DataW.trod enc Tryz.prog W 0 (fun _ => true) true fuel 45 cs = some (d, p) := hf
  obtain ⟨n0, y0, t0⟩ := open_part Tryz.underlying45 hf 0 _ rfl 0 1 23 rfl rfl (by kernel_rfl)
  obtain ⟨n1, y1, t1⟩ := open_part Tryz.underlying45 hf 1 _ rfl 1 1 43 rfl rfl (by kernel_rfl)
  obtain ⟨xs, n, hs, _, hz, _, _⟩ := DataW.trod_struct Tryz.underlying45 hf
  have hl2 : cs.length = 2 := by first | (simpa using hz) | (rw [hz]; kernel_rfl) | (have := hz; simp at this; omega)
  match cs, hl2 with
  | [a, b], _ =>
    simp only [List.drop_succ_cons, List.drop_zero, List.take_succ_cons, List.take_zero] at t0 t1
    obtain ⟨C, h1, h2⟩ := nums_of t0
    obtain ⟨V, h3, h4⟩ := threes_of t1
    exact ⟨a, b, C, V, rfl, ⟨h1, h3, h2, h4⟩⟩
theorem two_size : Tryz.prog.cellsOf 39 = 2 := by kernel_rfl
/-- Two numbers, three numbers, by value. -/
theorem open_twoE {H : Type} {enc : TypeId × Value → H} {W : World} {base : Nat} {v : Value} {d : DataW H} {p : List MemPlace}
    (hv : Value.okWide Tryz.prog W .any base 39 v) (h : DataW.Trod enc Tryz.prog W 0 (fun _ => true) true 39 v d p) : ∃ a b : Int, v = .agg #[.int .i64 a, .int .i64 b] ∧ Cl.I64 a ∧ Cl.I64 b := by
  obtain ⟨cs, rfl, hsz⟩ := okWide_array Tryz.underlying39 hv
  obtain ⟨fuel, hf⟩ := h
  rw [two_size] at hsz
  obtain ⟨cs⟩ := cs
  obtain ⟨xs, m, _, _, hl, hxl, hh⟩ := DataW.trod_array Tryz.underlying39 hf
  have h0 := hh 0 (by decide)
  have h1 := hh 1 (by decide)
  rw [show Tryz.prog.cellsOf 3 = 1 from by kernel_rfl, List.getElem?_eq_getElem (by omega)] at h0 h1
  have hsz2 : cs.length = 2 := by simpa using hsz
  match cs, hsz2 with
  | [a, b], _ =>
    simp only [Value.cells, List.drop_succ_cons, List.drop_zero, List.take_succ_cons, List.take_zero, Nat.zero_mul, Nat.one_mul] at h0 h1
    obtain ⟨k0, c0, _, b0⟩ := DataW.trod_int Tryz.underlying3 h0
    obtain ⟨k1, c1, _, b1⟩ := DataW.trod_int Tryz.underlying3 h1
    obtain rfl := (List.cons.inj c0).1
    obtain rfl := (List.cons.inj c1).1
    exact ⟨k0, k1, rfl, bounds_i64 b0, bounds_i64 b1⟩
theorem open_threeE {H : Type} {enc : TypeId × Value → H} {W : World} {base : Nat} {v : Value} {d : DataW H} {p : List MemPlace}
    (hv : Value.okWide Tryz.prog W .any base 54 v) (h : DataW.Trod enc Tryz.prog W 0 (fun _ => true) true 54 v d p) : ∃ a b c : Int, v = .agg #[.int .i64 a, .int .i64 b, .int .i64 c] ∧ Cl.I64 a ∧ Cl.I64 b ∧ Cl.I64 c := by
  obtain ⟨cs, rfl, hsz⟩ := okWide_array Tryz.underlying54 hv
  obtain ⟨fuel, hf⟩ := h
  rw [three_cells] at hsz
  obtain ⟨cs⟩ := cs
  have hsz2 : cs.length = 3 := by simpa using hsz
  obtain ⟨c, e, h1, h2, h3⟩ := three_of hf (by simpa [Value.cells] using hsz2)
  have e : cs = v3c c := e
  subst e
  exact ⟨c.a, c.b, c.c, rfl, h1, h2, h3⟩
end Go.Proofs.YtigcgkhcbmnboaaGreatDoor
