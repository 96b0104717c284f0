/- Is it a tape, and how deep is it: measure, look, Check, Deep. -/
import Derived.Test.YtgmdjofnkbaflaaGreatDoorLoopO
import Derived.Deep.RegionWith
import Derived.Deep.RegionHeld3
import Derived.Deep.RegionLaw
import Derived.Deep.DeepCutAuto
import Derived.Laws.EntriesVeiled
import Derived.BigQuiet
import Derived.Deep.QuietTactic
namespace Go.Proofs.YtgmdjofnkbaflaaGreatDoor
open Go.RowKit
set_option linter.unusedVariables false
set_option maxRecDepth 100000

theorem value_all (B : Nat) (v : Value) (l : List Nd) (tb db vb : Nat) (hl : l.length ≤ 4000) : ∀ n, VClaim B v l tb db vb n
  | 0 => fun a m δ M D d w h1 h2 h3 => by omega
  | n + 1 => by
    have IH := value_all B v l tb db vb hl n
    intro a m δ M D d w h1 ham hm hM hD hδ hδ2 d0 d1 T V hb
    obtain ⟨x, hx⟩ : ∃ x, l[a]? = some x := ⟨_, List.getElem?_eq_getElem (by omega)⟩
    by_cases hc : ¬ (Tp.hf x.kind x.n x.s ∧ (x.kind ≤ 5 → x.size = 1)) ∨ x.size ≤ 1 ∨ (m : Int) < x.size
    · exact value_leaf B v l tb db vb a m δ M D d w x hx hl ham hm hM hD hδ hδ2 d0 d1 T V hb hc
    · obtain ⟨hf, hk⟩ : Tp.hf x.kind x.n x.s ∧ (x.kind ≤ 5 → x.size = 1) := Classical.byContradiction fun h => hc (.inl h)
      have h6 : 1 < x.size ∧ x.size ≤ m := ⟨by omega, by omega⟩
      have h7 := Tp.hf_kind hf
      obtain ⟨s, hs⟩ := Int.eq_ofNat_of_zero_le (show 0 ≤ x.size by omega)
      rcases (show x.kind = 6 ∨ x.kind = 7 by omega) with h8 | h8
      · exact value_list B v l tb db vb n a m δ IH M D d w x hx (by omega) hl ham hM hD hδ hδ2 d0 d1 T V hb hf h8 s hs (by omega) (by omega)
      · exact value_obj B v l tb db vb n a m δ IH M D d w x hx (by omega) hl ham hM hD hδ hδ2 d0 d1 T V hb hf h8 s hs (by omega) (by omega)

/-- Where the closure's variables are laid. -/
theorem VS.start {w : World} {v : Value} {l : List Nd} (h : RdN w w.heap.size v l) (hok : ∀ x ∈ l, Nok x) (h2 : TabAt w.heap.size) (w' : World)
    (hw : w' = ((w.alloc (.cells #[v] 22)).alloc (.cells #[.int .i64 0] 3)).alloc (.cells #[mfn w.heap.size (w.heap.size + 1) (w.heap.size + 1 + 1)] 196)) :
    VS w' w.heap.size v l w.heap.size (w.heap.size + 1) (w.heap.size + 1 + 1) ∧ Blk w' (w.heap.size + 1) 3 [.int .i64 0] ∧ Below w.heap.size w w' := by
  subst hw
  have e1 : (w.alloc (.cells #[v] 22)).heap.size = w.heap.size + 1 := by simp
  have e2 : ((w.alloc (.cells #[v] 22)).alloc (.cells #[.int .i64 0] 3)).heap.size = w.heap.size + 1 + 1 := by simp
  have b0 := up_new w (.cells #[v] 22)
  have b1 := up_new (w.alloc (.cells #[v] 22)) (.cells #[.int .i64 0] 3)
  have b2 := up_new ((w.alloc (.cells #[v] 22)).alloc (.cells #[.int .i64 0] 3)) (.cells #[mfn w.heap.size (w.heap.size + 1) (w.heap.size + 1 + 1)] 196)
  have hb := up (up b0 b1) b2
  have n0 := ((Blk.new w 22 #[v]).later b1).later b2
  have n1 := (Blk.new (w.alloc (.cells #[v] 22)) 3 #[.int .i64 0]).later b2
  have n2 := Blk.new ((w.alloc (.cells #[v] 22)).alloc (.cells #[.int .i64 0] 3)) 196 #[mfn w.heap.size (w.heap.size + 1) (w.heap.size + 1 + 1)]
  rw [e1] at n1
  rw [e2] at n2
  exact ⟨⟨Gn.Rd.below h hb (Nat.le_refl _), hok, n0, n2, Nat.le_refl _, by omega, by omega, by omega, by omega, hb.size, h2⟩, n1, hb⟩

theorem below_drewN {W w : World} {B : Nat} (h : Below B W w) (n : Nat) : Below B W (w.drewN n) := ⟨h.os, h.tape, h.output, h.size, h.block⟩
theorem VPost.out_no {w w' : World} {l : List Nd} {db a m δ : Nat} {d : Int} {e : Ending} (hv : ¬ Tp.Vp l a m) (h : VPost w l db a m δ d e w') : e = .returned (.bool false) ∧ ∃ d', Touch (fun i => i = db) w w' ∧ Blk w' db 3 [.int .i64 d'] := by
  obtain ⟨b, d', rfl, h1, _, _, h4, h5⟩ := h
  cases b with
  | true => exact absurd (h1.1 rfl) hv
  | false => exact ⟨rfl, d', h4, h5⟩
theorem VPost.out_yes {w w' : World} {l : List Nd} {db a m δ : Nat} {d : Int} {e : Ending} {F : Fo} (hv : Tp.Val l a m F) (h : VPost w l db a m δ d e w') : e = .returned (.bool true) ∧ Touch (fun i => i = db) w w' ∧ Blk w' db 3 [.int .i64 (max d (δ + Tp.dep F - 1))] := by
  obtain ⟨b, d', rfl, h1, h2, _, h4, h5⟩ := h
  obtain rfl : b = true := h1.2 ⟨F, hv⟩
  rw [h2 F hv] at h5
  exact ⟨rfl, h4, h5⟩
theorem VS.read {w : World} {B n c b off : Nat} {l : List Nd} {tb db vb : Nat} (h : VS w B (.slice (some ⟨b, off, none⟩) n c) l tb db vb) {x : Nd} (hi : l[0]? = some x) :
    w.cell? ⟨tb, 0, none⟩ = some (.slice (some ⟨b, off, none⟩) n c) ∧ w.cell? ⟨vb, 0, none⟩ = some (mfn tb db vb) ∧ w.cell? ⟨b, off + 1, none⟩ = some (.string x.key) ∧ w.cell? ⟨b, off + 4, none⟩ = some (.int .i64 x.size) := by
  obtain ⟨b', off', e, _, h1, _, _, h4⟩ := h.cells hi
  injection e with e
  injection e with e1 e2
  subst e1 e2
  rw [Nat.zero_mul, Nat.add_zero] at h1 h4
  exact ⟨h.t.cell 0, h.f.cell 0, h1, h4⟩
/-- A tape's root. -/
def Rt (l : List Nd) (F : Fo) : Prop := (∃ k y n s c, F = .node k y n s c .nil ∧ y.size = 0) ∧ Tp.good F ∧ Tp.flat F = l
theorem rt_iff (l : List Nd) (x : Nd) (hx : l[0]? = some x) (F : Fo) : Rt l F ↔ x.key.size = 0 ∧ x.size = (l.length : Nat) ∧ Tp.Val l 0 l.length F := by
  constructor
  · rintro ⟨⟨k, y, n, s, c, rfl, hy⟩, hg, rfl⟩
    have hA := Tp.at_flat (.node k y n s c .nil)
    have h0 := (Tp.at_node.1 hA).1
    rw [hx] at h0
    obtain rfl : x = _ := by injection h0
    refine ⟨hy, ?_, ⟨_, _, _, _, _, rfl⟩, hA, hg, Nat.le_refl _⟩
    show _ = (Tp.sz (.node k y n s c .nil) : Int)
    rw [Tp.sz_node]; simp
  · rintro ⟨hy, hs, ⟨k, y, n, s, c, rfl⟩, hA, hg, hm⟩
    have h0 := (Tp.at_node.1 hA).1
    rw [hx] at h0
    obtain rfl : x = _ := by injection h0
    refine ⟨⟨_, _, _, _, _, rfl, hy⟩, hg, ?_⟩
    obtain ⟨t, ht⟩ := hA
    rw [List.drop_zero] at ht
    have hl := congrArg List.length ht
    rw [List.length_append] at hl
    have e : (Tp.flat (.node k y n s c .nil)).length = 1 + Tp.sz c := by show Tp.sz _ = _; rw [Tp.sz_node]; simp
    simp only at hs
    have : t = [] := List.eq_nil_of_length_eq_zero (by omega)
    rw [this, List.append_nil] at ht
    exact ht
theorem rt_nil (F : Fo) : ¬ Rt [] F := by
  rintro ⟨⟨k, y, n, s, c, rfl, hy⟩, hg, h⟩
  simp [Tp.flat] at h
theorem rt_one {l : List Nd} {F G : Fo} (hF : Rt l F) (hG : Rt l G) : F = G := Tp.flat_inj (hF.2.2.trans hG.2.2.symm)
/-- What measure tells. -/
def MPost (w : World) (l : List Nd) (e : Ending) (w' : World) : Prop :=
  Below w.heap.size w w' ∧ ((e = .returned (.tuple #[.int .i64 0, .bool false]) ∧ ∀ F, ¬ Rt l F) ∨ ∃ F, Rt l F ∧ e = .returned (.tuple #[.int .i64 (Tp.dep F : Nat), .bool true]))

theorem res_cell {fn : Func} {t u : Tmp} (h : fn.results = #[.cell t 3, .tmp u]) (tmps : Array Value) {w : World} {p : Addr} {x : Int} (hp : tmps.getD t undef = .pointer (some p)) (hc : w.cell? p = some (.int .i64 x)) :
    (results fn tmps).run Tryz.prog w = .ok (.tuple #[.int .i64 x, tmps.getD u undef]) w := by
  have hp2 : tmps[t]?.getD undef = .pointer (some p) := by simpa using hp
  simp [results, h, hp2]
  go_simp
set_option maxHeartbeats 8000000 in
theorem measure (v : Value) (l : List Nd) (w : World) (h : RdN w w.heap.size v l) (hok : ∀ x ∈ l, Nok x) (hl : l.length ≤ 4000) (T : Tab w) :
    Calls Tryz.prog 130 #[v] w fun e w' => MPost w l e w' := by
  have HH := Lib.hid h
  have HO := Lib.hid hok
  obtain ⟨hv, hb, hbe⟩ := VS.start h hok T.size _ rfl
  obtain ⟨ad, c, rfl, hc1, hc2, _⟩ := Gn.Rd.form h
  simp only [mfn] at hv hb hbe
  have T3 := hbe
  generalize hW3 : (((w.alloc (.cells #[.slice ad l.length c] 22)).alloc (.cells #[.int .i64 0] 3)).alloc (.cells #[.func (.func 169) #[] #[.pointer (some ⟨w.heap.size, 0, none⟩), .pointer (some ⟨w.heap.size + 1, 0, none⟩), .pointer (some ⟨w.heap.size + 1 + 1, 0, none⟩)]] 196)) = W3 at *
  have HW3 := Lib.hid hW3
  have HV := Lib.hid hv
  have HB := Lib.hid hb
  have HE := Lib.hid hbe
  have HT := Lib.hid (T.later hbe)
  clear hW3 T3 T hv hb hbe h hok
  go_enter Tryz.func130, Tryz.ntmps130
  go_wp2_with fail
  rw [HW3.out]
  clear HW3
  go_cut [31] from 6 to 30 (fun s31 wx => ∃ b d', s31 = .bool b ∧ Hid (Below w.heap.size w wx ∧ Blk wx (w.heap.size + 1) 3 [.int .i64 d'] ∧ ((b = true ∧ ∀ F, ¬ Rt l F) ∨ ∃ F, Rt l F ∧ b = false ∧ d' = (Tp.dep F : Nat))))
  case first =>
    have ct : ∀ n, (W3.drewN n).cell? ⟨w.heap.size, 0, none⟩ = some (.slice ad l.length c) := fun n => HV.out.t.cell 0
    by_cases h0 : l.length = 0
    · obtain rfl : l = [] := List.eq_nil_of_length_eq_zero h0
      go_quiet (fail)
      go_wp2_with fail
      go_meet
      exact ⟨_, _, rfl, Lib.hid ⟨below_drewN HE.out _, HB.out, .inl ⟨rfl, fun F => rt_nil F⟩⟩⟩
    · obtain ⟨x, hx⟩ : ∃ x, l[0]? = some x := ⟨_, List.getElem?_eq_getElem (by omega)⟩
      obtain ⟨b, off, e, z0, z1, z2, z3, z4⟩ := HV.out.cells hx
      subst e
      have HR := Lib.hid (rt_iff l x hx)
      have hl1 : (0 : Int) < l.length := by omega
      have hl2 : 0 < l.length := by omega
      have hb0 : ((l.length : Int) == 0) = false := by rw [beq_eq_false_iff_ne]; omega
      have y1 : ∀ n, (W3.drewN n).cell? ⟨b, off + 1, none⟩ = some (.string x.key) := fun n => by have := z1; rw [Nat.zero_mul, Nat.add_zero] at this; exact this
      clear z0 z1 z2 z3 z4
      by_cases hy : x.key.size = 0
      · have hq : x.key.toList.isEmpty = true := by rw [bl_empty, bl_nil.2 hy]; rfl
        have CV := Lib.hid (fun (wz : World) (ht : Touch (fun i => i = w.heap.size + 1) W3 wz) (hbz : Blk wz (w.heap.size + 1) 3 [.int .i64 0]) => value_all w.heap.size _ l w.heap.size (w.heap.size + 1) (w.heap.size + 1 + 1) hl l.length 0 l.length 1 l.length 1 0 wz (by omega) (by omega) (by omega) rfl rfl (by omega) (by omega) (by omega) (by omega) (HV.out.tab HT.out ht) (HV.out.touch ht) hbz)
        simp only [Int.natCast_zero] at CV
        have HS := Lib.hid (fun (wz : World) (ht : Touch (fun i => i = w.heap.size + 1) W3 wz) => And.intro ht (VS.read (HV.out.touch ht) hx))
        by_cases hv : Tp.Vp l 0 l.length
        · obtain ⟨F, hF⟩ := hv
          have CVd := Lib.hid ((CV.out W3.drew ⟨rfl, rfl, rfl, Nat.le_refl _, fun _ _ _ => rfl⟩ HB.out).mono (fun e w' h => VPost.out_yes hF h))
          have hF3 := Tp.At.len hF.2.1
          have HF := Lib.hid hF
          have hsz : -9223372036854775808 ≤ x.size ∧ x.size ≤ 9223372036854775807 := (HO.out x (List.mem_of_getElem? hx)).2.2.2.2
          clear hx ct y1
          by_cases hs : x.size = (l.length : Nat)
          · have hs2 : ((x.size : Int) != (l.length : Nat)) = false := by simpa using hs
            have HX := Lib.hid ((HR.out F).2 ⟨hy, hs, HF.out⟩)
            clear hs hsz hF hF3
            refine wp_region_held_drew (S := (fun w' => Touch (fun i => i = w.heap.size + 1) W3 w' ∧ (w'.cell? ⟨w.heap.size, 0, none⟩ = some (.slice (some ⟨b, off, none⟩) l.length c) ∧ w'.cell? ⟨w.heap.size + 1 + 1, 0, none⟩ = some (.func (.func 169) #[] #[.pointer (some ⟨w.heap.size, 0, none⟩), .pointer (some ⟨w.heap.size + 1, 0, none⟩), .pointer (some ⟨w.heap.size + 1 + 1, 0, none⟩)]) ∧ w'.cell? ⟨b, off + 1, none⟩ = some (.string x.key) ∧ w'.cell? ⟨b, off + 4, none⟩ = some (.int .i64 x.size)))) (by kernel_rfl) (HS.out _ (Touch.refl _ _).drew) (fun hH => ?_)
            refine wpAnyH_take (i := 0) (oi := { dst := some 6, op := Op.load 22 (Operand.tmp 1), type := 22, pos := "tape.go:57", after := #[], guard := none }) (v := ?_) rfl (by kernel_rfl) (by kernel_rfl) (by kernel_rfl) (fun _ _ _ h => h) (Or.inl ⟨rfl, ?_⟩) hH ?_
            rotate_left
            (intro wy hSw; (try dsimp only at hSw); go_simp; try (with_reducible rfl))
            try simp only [Act.put, List.setIfInBounds_toArray, List.set_cons_zero, List.set_cons_succ]
            refine wpAnyH_take (i := 1) (oi := { dst := some 7, op := Op.call { callee := Callee.builtin Builtin.len, args := #[Operand.tmp 6], argTypes := #[22] }, type := 3, pos := "tape.go:57", after := #[{ on := 0, ground := Ground.data }], guard := none }) (v := ?_) rfl (by kernel_rfl) (by kernel_rfl) (by kernel_rfl) (fun _ _ _ h => h) (Or.inl ⟨rfl, ?_⟩) hH ?_
            rotate_left
            (intro wy hSw; (try dsimp only at hSw); go_simp; try (with_reducible rfl))
            try simp only [Act.put, List.setIfInBounds_toArray, List.set_cons_zero, List.set_cons_succ]
            refine wpAnyH_take (i := 2) (oi := { dst := some 8, op := Op.binOp BinOp.eql 3 (Operand.tmp 7) (Operand.const (Value.int IntKind.i64 0)) 3, type := 4, pos := "tape.go:57", after := #[{ on := 1, ground := Ground.data }], guard := none }) (v := ?_) rfl (by kernel_rfl) (by kernel_rfl) (by kernel_rfl) (fun _ _ _ h => h) (Or.inl ⟨rfl, ?_⟩) hH ?_
            rotate_left
            (intro wy hSw; (try dsimp only at hSw); go_simp; try (with_reducible rfl))
            try simp only [Act.put, List.setIfInBounds_toArray, List.set_cons_zero, List.set_cons_succ]
            refine wpAnyH_take (i := 3) (oi := { dst := some 9, op := Op.move (Operand.tmp 8), type := 4, pos := "tape.go:57", after := #[{ on := 2, ground := Ground.data }], guard := none }) (v := ?_) rfl (by kernel_rfl) (by kernel_rfl) (by kernel_rfl) (fun _ _ _ h => h) (Or.inl ⟨rfl, ?_⟩) hH ?_
            rotate_left
            (intro wy hSw; (try dsimp only at hSw); go_simp; try (with_reducible rfl))
            try simp only [Act.put, List.setIfInBounds_toArray, List.set_cons_zero, List.set_cons_succ]
            refine wpAnyH_take (i := 4) (oi := { dst := some 10, op := Op.load 22 (Operand.tmp 1), type := 22, pos := "tape.go:57", after := #[{ on := 3, ground := Ground.guard }], guard := some (3, false) }) (v := ?_) rfl (by kernel_rfl) (by kernel_rfl) (by kernel_rfl) (fun _ _ _ h => h) (Or.inl ⟨rfl, ?_⟩) hH ?_
            rotate_left
            (intro wy hSw; (try dsimp only at hSw); go_simp; try (with_reducible rfl))
            try simp only [Act.put, List.setIfInBounds_toArray, List.set_cons_zero, List.set_cons_succ]
            refine wpAnyH_take (i := 5) (oi := { dst := some 11, op := Op.indexAddr 22 (Operand.tmp 10) (Operand.const (Value.int IntKind.i64 0)), type := 0, pos := "tape.go:57", after := #[{ on := 4, ground := Ground.data }, { on := 3, ground := Ground.guard }], guard := some (3, false) }) (v := ?_) rfl (by kernel_rfl) (by kernel_rfl) (by kernel_rfl) (fun _ _ _ h => h) (Or.inl ⟨rfl, ?_⟩) hH ?_
            rotate_left
            (intro wy hSw; (try dsimp only at hSw); go_simp; try (with_reducible rfl))
            try simp only [Act.put, List.setIfInBounds_toArray, List.set_cons_zero, List.set_cons_succ]
            refine wpAnyH_take (i := 6) (oi := { dst := some 12, op := Op.fieldAddr 28 (Operand.tmp 11) 1, type := 0, pos := "tape.go:57", after := #[{ on := 5, ground := Ground.data }, { on := 3, ground := Ground.guard }], guard := some (3, false) }) (v := ?_) rfl (by kernel_rfl) (by kernel_rfl) (by kernel_rfl) (fun _ _ _ h => h) (Or.inl ⟨rfl, ?_⟩) hH ?_
            rotate_left
            (intro wy hSw; (try dsimp only at hSw); go_simp; try (with_reducible rfl))
            try simp only [Act.put, List.setIfInBounds_toArray, List.set_cons_zero, List.set_cons_succ]
            refine wpAnyH_take (i := 7) (oi := { dst := some 13, op := Op.load 9 (Operand.tmp 12), type := 9, pos := "tape.go:57", after := #[{ on := 6, ground := Ground.data }, { on := 3, ground := Ground.guard }], guard := some (3, false) }) (v := ?_) rfl (by kernel_rfl) (by kernel_rfl) (by kernel_rfl) (fun _ _ _ h => h) (Or.inl ⟨rfl, ?_⟩) hH ?_
            rotate_left
            (intro wy hSw; (try dsimp only at hSw); go_simp; try (with_reducible rfl))
            try simp only [Act.put, List.setIfInBounds_toArray, List.set_cons_zero, List.set_cons_succ]
            refine wpAnyH_take (i := 8) (oi := { dst := some 14, op := Op.binOp BinOp.neq 9 (Operand.tmp 13) (Operand.const (Value.string { data := #[] })) 9, type := 4, pos := "tape.go:57", after := #[{ on := 7, ground := Ground.data }, { on := 3, ground := Ground.guard }], guard := some (3, false) }) (v := ?_) rfl (by kernel_rfl) (by kernel_rfl) (by kernel_rfl) (fun _ _ _ h => h) (Or.inl ⟨rfl, ?_⟩) hH ?_
            rotate_left
            (intro wy hSw; (try dsimp only at hSw); go_simp; try (with_reducible rfl))
            try simp only [Act.put, List.setIfInBounds_toArray, List.set_cons_zero, List.set_cons_succ]
            refine wpAnyH_take (i := 9) (oi := { dst := some 15, op := Op.pick (Operand.tmp 9) (Operand.const (Value.bool true)) (Operand.tmp 14), type := 4, pos := "tape.go:57", after := #[{ on := 3, ground := Ground.data }, { on := 8, ground := Ground.data }], guard := none }) (v := ?_) rfl (by kernel_rfl) (by kernel_rfl) (by kernel_rfl) (fun _ _ _ h => h) (Or.inl ⟨rfl, ?_⟩) hH ?_
            rotate_left
            (intro wy hSw; (try dsimp only at hSw); go_simp; try (with_reducible rfl))
            try simp only [Act.put, List.setIfInBounds_toArray, List.set_cons_zero, List.set_cons_succ]
            refine wpAnyH_take (i := 10) (oi := { dst := some 16, op := Op.move (Operand.tmp 15), type := 4, pos := "tape.go:57", after := #[{ on := 9, ground := Ground.data }, { on := 3, ground := Ground.chain }], guard := none }) (v := ?_) rfl (by kernel_rfl) (by kernel_rfl) (by kernel_rfl) (fun _ _ _ h => h) (Or.inl ⟨rfl, ?_⟩) hH ?_
            rotate_left
            (intro wy hSw; (try dsimp only at hSw); go_simp; try (with_reducible rfl))
            try simp only [Act.put, List.setIfInBounds_toArray, List.set_cons_zero, List.set_cons_succ]
            refine wpAnyH_take (i := 11) (oi := { dst := some 17, op := Op.load 196 (Operand.tmp 4), type := 196, pos := "tape.go:57", after := #[{ on := 10, ground := Ground.guard }], guard := some (10, false) }) (v := ?_) rfl (by kernel_rfl) (by kernel_rfl) (by kernel_rfl) (fun _ _ _ h => h) (Or.inl ⟨rfl, ?_⟩) hH ?_
            rotate_left
            (intro wy hSw; (try dsimp only at hSw); go_simp; try (with_reducible rfl))
            try simp only [Act.put, List.setIfInBounds_toArray, List.set_cons_zero, List.set_cons_succ]
            refine wpAnyH_take (i := 12) (oi := { dst := some 18, op := Op.load 22 (Operand.tmp 1), type := 22, pos := "tape.go:57", after := #[{ on := 10, ground := Ground.guard }], guard := some (10, false) }) (v := ?_) rfl (by kernel_rfl) (by kernel_rfl) (by kernel_rfl) (fun _ _ _ h => h) (Or.inl ⟨rfl, ?_⟩) hH ?_
            rotate_left
            (intro wy hSw; (try dsimp only at hSw); go_simp; try (with_reducible rfl))
            try simp only [Act.put, List.setIfInBounds_toArray, List.set_cons_zero, List.set_cons_succ]
            refine wpAnyH_take (i := 13) (oi := { dst := some 19, op := Op.call { callee := Callee.builtin Builtin.len, args := #[Operand.tmp 18], argTypes := #[22] }, type := 3, pos := "tape.go:57", after := #[{ on := 12, ground := Ground.data }, { on := 10, ground := Ground.guard }], guard := some (10, false) }) (v := ?_) rfl (by kernel_rfl) (by kernel_rfl) (by kernel_rfl) (fun _ _ _ h => h) (Or.inl ⟨rfl, ?_⟩) hH ?_
            rotate_left
            (intro wy hSw; (try dsimp only at hSw); go_simp; try (with_reducible rfl))
            try simp only [Act.put, List.setIfInBounds_toArray, List.set_cons_zero, List.set_cons_succ]
            refine wpAnyH_ready (rs := [14]) (by kernel_rfl) (by simp) ?_
            refine AllReadyH.cons (o := { dst := some 20, op := Op.call { callee := Callee.value (Operand.tmp 17), args := #[Operand.const (Value.int IntKind.i64 0), Operand.tmp 19, Operand.const (Value.int IntKind.i64 1)], argTypes := #[3, 3, 3] }, type := 4, pos := "tape.go:57", after := #[{ on := 11, ground := Ground.data }, { on := 13, ground := Ground.data }, { on := 10, ground := Ground.chain }, { on := 10, ground := Ground.guard }], guard := some (10, false) }) rfl (fun K hK => ?_) AllReadyH.nil
            go_simp
            go_at_call 169
            ((with_reducible refine (CVd.out).mono ?_); rintro e w5 ⟨rfl, ht5, hb5⟩)
            clear hH
            refine hK.out _ _ (HS.out _ (Touch.undrew ht5)) (fun hH => ?_)
            clear hK K
            try simp only [Act.put, List.setIfInBounds_toArray, List.set_cons_zero, List.set_cons_succ]
            refine wpAnyH_take (i := 15) (oi := { dst := some 21, op := Op.unOp UnOp.not 4 (Operand.tmp 20), type := 4, pos := "tape.go:57", after := #[{ on := 14, ground := Ground.data }, { on := 10, ground := Ground.guard }], guard := some (10, false) }) (v := ?_) rfl (by kernel_rfl) (by kernel_rfl) (by kernel_rfl) (fun _ _ _ h => h) (Or.inl ⟨rfl, ?_⟩) hH ?_
            rotate_left
            (intro wy hSw; (try dsimp only at hSw); go_simp; try (with_reducible rfl))
            try simp only [Act.put, List.setIfInBounds_toArray, List.set_cons_zero, List.set_cons_succ]
            refine wpAnyH_take (i := 16) (oi := { dst := some 22, op := Op.pick (Operand.tmp 16) (Operand.const (Value.bool true)) (Operand.tmp 21), type := 4, pos := "tape.go:57", after := #[{ on := 10, ground := Ground.data }, { on := 15, ground := Ground.data }], guard := none }) (v := ?_) rfl (by kernel_rfl) (by kernel_rfl) (by kernel_rfl) (fun _ _ _ h => h) (Or.inl ⟨rfl, ?_⟩) hH ?_
            rotate_left
            (intro wy hSw; (try dsimp only at hSw); go_simp; try (with_reducible rfl))
            try simp only [Act.put, List.setIfInBounds_toArray, List.set_cons_zero, List.set_cons_succ]
            refine wpAnyH_take (i := 17) (oi := { dst := some 23, op := Op.move (Operand.tmp 22), type := 4, pos := "tape.go:57", after := #[{ on := 16, ground := Ground.data }, { on := 14, ground := Ground.chain }], guard := none }) (v := ?_) rfl (by kernel_rfl) (by kernel_rfl) (by kernel_rfl) (fun _ _ _ h => h) (Or.inl ⟨rfl, ?_⟩) hH ?_
            rotate_left
            (intro wy hSw; (try dsimp only at hSw); go_simp; try (with_reducible rfl))
            try simp only [Act.put, List.setIfInBounds_toArray, List.set_cons_zero, List.set_cons_succ]
            refine wpAnyH_take (i := 18) (oi := { dst := some 24, op := Op.load 22 (Operand.tmp 1), type := 22, pos := "tape.go:57", after := #[{ on := 17, ground := Ground.guard }], guard := some (17, false) }) (v := ?_) rfl (by kernel_rfl) (by kernel_rfl) (by kernel_rfl) (fun _ _ _ h => h) (Or.inl ⟨rfl, ?_⟩) hH ?_
            rotate_left
            (intro wy hSw; (try dsimp only at hSw); go_simp; try (with_reducible rfl))
            try simp only [Act.put, List.setIfInBounds_toArray, List.set_cons_zero, List.set_cons_succ]
            refine wpAnyH_take (i := 19) (oi := { dst := some 25, op := Op.indexAddr 22 (Operand.tmp 24) (Operand.const (Value.int IntKind.i64 0)), type := 0, pos := "tape.go:57", after := #[{ on := 18, ground := Ground.data }, { on := 17, ground := Ground.guard }], guard := some (17, false) }) (v := ?_) rfl (by kernel_rfl) (by kernel_rfl) (by kernel_rfl) (fun _ _ _ h => h) (Or.inl ⟨rfl, ?_⟩) hH ?_
            rotate_left
            (intro wy hSw; (try dsimp only at hSw); go_simp; try (with_reducible rfl))
            try simp only [Act.put, List.setIfInBounds_toArray, List.set_cons_zero, List.set_cons_succ]
            refine wpAnyH_take (i := 20) (oi := { dst := some 26, op := Op.fieldAddr 28 (Operand.tmp 25) 4, type := 0, pos := "tape.go:57", after := #[{ on := 19, ground := Ground.data }, { on := 17, ground := Ground.guard }], guard := some (17, false) }) (v := ?_) rfl (by kernel_rfl) (by kernel_rfl) (by kernel_rfl) (fun _ _ _ h => h) (Or.inl ⟨rfl, ?_⟩) hH ?_
            rotate_left
            (intro wy hSw; (try dsimp only at hSw); go_simp; try (with_reducible rfl))
            try simp only [Act.put, List.setIfInBounds_toArray, List.set_cons_zero, List.set_cons_succ]
            refine wpAnyH_take (i := 21) (oi := { dst := some 27, op := Op.load 3 (Operand.tmp 26), type := 3, pos := "tape.go:57", after := #[{ on := 20, ground := Ground.data }, { on := 17, ground := Ground.guard }], guard := some (17, false) }) (v := ?_) rfl (by kernel_rfl) (by kernel_rfl) (by kernel_rfl) (fun _ _ _ h => h) (Or.inl ⟨rfl, ?_⟩) hH ?_
            rotate_left
            (intro wy hSw; (try dsimp only at hSw); go_simp; try (with_reducible rfl))
            try simp only [Act.put, List.setIfInBounds_toArray, List.set_cons_zero, List.set_cons_succ]
            refine wpAnyH_take (i := 22) (oi := { dst := some 28, op := Op.load 22 (Operand.tmp 1), type := 22, pos := "tape.go:57", after := #[{ on := 17, ground := Ground.guard }], guard := some (17, false) }) (v := ?_) rfl (by kernel_rfl) (by kernel_rfl) (by kernel_rfl) (fun _ _ _ h => h) (Or.inl ⟨rfl, ?_⟩) hH ?_
            rotate_left
            (intro wy hSw; (try dsimp only at hSw); go_simp; try (with_reducible rfl))
            try simp only [Act.put, List.setIfInBounds_toArray, List.set_cons_zero, List.set_cons_succ]
            refine wpAnyH_take (i := 23) (oi := { dst := some 29, op := Op.call { callee := Callee.builtin Builtin.len, args := #[Operand.tmp 28], argTypes := #[22] }, type := 3, pos := "tape.go:57", after := #[{ on := 22, ground := Ground.data }, { on := 17, ground := Ground.guard }], guard := some (17, false) }) (v := ?_) rfl (by kernel_rfl) (by kernel_rfl) (by kernel_rfl) (fun _ _ _ h => h) (Or.inl ⟨rfl, ?_⟩) hH ?_
            rotate_left
            (intro wy hSw; (try dsimp only at hSw); go_simp; try (with_reducible rfl))
            try simp only [Act.put, List.setIfInBounds_toArray, List.set_cons_zero, List.set_cons_succ]
            refine wpAnyH_take (i := 24) (oi := { dst := some 30, op := Op.binOp BinOp.neq 3 (Operand.tmp 27) (Operand.tmp 29) 3, type := 4, pos := "tape.go:57", after := #[{ on := 21, ground := Ground.data }, { on := 23, ground := Ground.data }, { on := 17, ground := Ground.guard }], guard := some (17, false) }) (v := ?_) rfl (by kernel_rfl) (by kernel_rfl) (by kernel_rfl) (fun _ _ _ h => h) (Or.inl ⟨rfl, ?_⟩) hH ?_
            rotate_left
            (intro wy hSw; (try dsimp only at hSw); go_simp; try (with_reducible rfl))
            try simp only [Act.put, List.setIfInBounds_toArray, List.set_cons_zero, List.set_cons_succ]
            refine wpAnyH_take (i := 25) (oi := { dst := some 31, op := Op.pick (Operand.tmp 23) (Operand.const (Value.bool true)) (Operand.tmp 30), type := 4, pos := "tape.go:57", after := #[{ on := 17, ground := Ground.data }, { on := 24, ground := Ground.data }], guard := none }) (v := ?_) rfl (by kernel_rfl) (by kernel_rfl) (by kernel_rfl) (fun _ _ _ h => h) (Or.inl ⟨rfl, ?_⟩) hH ?_
            rotate_left
            (intro wy hSw; (try dsimp only at hSw); go_simp; try (with_reducible rfl))
            try simp only [Act.put, List.setIfInBounds_toArray, List.set_cons_zero, List.set_cons_succ]
            refine wpAnyH_done (by kernel_rfl) ?_ _
            go_wp2_with fail
            go_meet
            refine ⟨_, _, rfl, Lib.hid ⟨HE.out.trans ((Touch.undrew ht5).below HE.out.size (fun i e => by omega)), hb5, .inr ⟨F, HX.out, rfl, ?_⟩⟩⟩
            have := HF.out
            obtain ⟨⟨_, _, _, _, _, rfl⟩, _⟩ := this
            simp only [Tp.dep]
            omega
          · have hs2 : ((x.size : Int) != (l.length : Nat)) = true := by simpa using hs
            have HN := Lib.hid (fun G (h : Rt l G) => hs ((HR.out G).1 h).2.1)
            clear hs hsz hF hF3
            refine wp_region_held_drew (S := (fun w' => Touch (fun i => i = w.heap.size + 1) W3 w' ∧ (w'.cell? ⟨w.heap.size, 0, none⟩ = some (.slice (some ⟨b, off, none⟩) l.length c) ∧ w'.cell? ⟨w.heap.size + 1 + 1, 0, none⟩ = some (.func (.func 169) #[] #[.pointer (some ⟨w.heap.size, 0, none⟩), .pointer (some ⟨w.heap.size + 1, 0, none⟩), .pointer (some ⟨w.heap.size + 1 + 1, 0, none⟩)]) ∧ w'.cell? ⟨b, off + 1, none⟩ = some (.string x.key) ∧ w'.cell? ⟨b, off + 4, none⟩ = some (.int .i64 x.size)))) (by kernel_rfl) (HS.out _ (Touch.refl _ _).drew) (fun hH => ?_)
            refine wpAnyH_take (i := 0) (oi := { dst := some 6, op := Op.load 22 (Operand.tmp 1), type := 22, pos := "tape.go:57", after := #[], guard := none }) (v := ?_) rfl (by kernel_rfl) (by kernel_rfl) (by kernel_rfl) (fun _ _ _ h => h) (Or.inl ⟨rfl, ?_⟩) hH ?_
            rotate_left
            (intro wy hSw; (try dsimp only at hSw); go_simp; try (with_reducible rfl))
            try simp only [Act.put, List.setIfInBounds_toArray, List.set_cons_zero, List.set_cons_succ]
            refine wpAnyH_take (i := 1) (oi := { dst := some 7, op := Op.call { callee := Callee.builtin Builtin.len, args := #[Operand.tmp 6], argTypes := #[22] }, type := 3, pos := "tape.go:57", after := #[{ on := 0, ground := Ground.data }], guard := none }) (v := ?_) rfl (by kernel_rfl) (by kernel_rfl) (by kernel_rfl) (fun _ _ _ h => h) (Or.inl ⟨rfl, ?_⟩) hH ?_
            rotate_left
            (intro wy hSw; (try dsimp only at hSw); go_simp; try (with_reducible rfl))
            try simp only [Act.put, List.setIfInBounds_toArray, List.set_cons_zero, List.set_cons_succ]
            refine wpAnyH_take (i := 2) (oi := { dst := some 8, op := Op.binOp BinOp.eql 3 (Operand.tmp 7) (Operand.const (Value.int IntKind.i64 0)) 3, type := 4, pos := "tape.go:57", after := #[{ on := 1, ground := Ground.data }], guard := none }) (v := ?_) rfl (by kernel_rfl) (by kernel_rfl) (by kernel_rfl) (fun _ _ _ h => h) (Or.inl ⟨rfl, ?_⟩) hH ?_
            rotate_left
            (intro wy hSw; (try dsimp only at hSw); go_simp; try (with_reducible rfl))
            try simp only [Act.put, List.setIfInBounds_toArray, List.set_cons_zero, List.set_cons_succ]
            refine wpAnyH_take (i := 3) (oi := { dst := some 9, op := Op.move (Operand.tmp 8), type := 4, pos := "tape.go:57", after := #[{ on := 2, ground := Ground.data }], guard := none }) (v := ?_) rfl (by kernel_rfl) (by kernel_rfl) (by kernel_rfl) (fun _ _ _ h => h) (Or.inl ⟨rfl, ?_⟩) hH ?_
            rotate_left
            (intro wy hSw; (try dsimp only at hSw); go_simp; try (with_reducible rfl))
            try simp only [Act.put, List.setIfInBounds_toArray, List.set_cons_zero, List.set_cons_succ]
            refine wpAnyH_take (i := 4) (oi := { dst := some 10, op := Op.load 22 (Operand.tmp 1), type := 22, pos := "tape.go:57", after := #[{ on := 3, ground := Ground.guard }], guard := some (3, false) }) (v := ?_) rfl (by kernel_rfl) (by kernel_rfl) (by kernel_rfl) (fun _ _ _ h => h) (Or.inl ⟨rfl, ?_⟩) hH ?_
            rotate_left
            (intro wy hSw; (try dsimp only at hSw); go_simp; try (with_reducible rfl))
            try simp only [Act.put, List.setIfInBounds_toArray, List.set_cons_zero, List.set_cons_succ]
            refine wpAnyH_take (i := 5) (oi := { dst := some 11, op := Op.indexAddr 22 (Operand.tmp 10) (Operand.const (Value.int IntKind.i64 0)), type := 0, pos := "tape.go:57", after := #[{ on := 4, ground := Ground.data }, { on := 3, ground := Ground.guard }], guard := some (3, false) }) (v := ?_) rfl (by kernel_rfl) (by kernel_rfl) (by kernel_rfl) (fun _ _ _ h => h) (Or.inl ⟨rfl, ?_⟩) hH ?_
            rotate_left
            (intro wy hSw; (try dsimp only at hSw); go_simp; try (with_reducible rfl))
            try simp only [Act.put, List.setIfInBounds_toArray, List.set_cons_zero, List.set_cons_succ]
            refine wpAnyH_take (i := 6) (oi := { dst := some 12, op := Op.fieldAddr 28 (Operand.tmp 11) 1, type := 0, pos := "tape.go:57", after := #[{ on := 5, ground := Ground.data }, { on := 3, ground := Ground.guard }], guard := some (3, false) }) (v := ?_) rfl (by kernel_rfl) (by kernel_rfl) (by kernel_rfl) (fun _ _ _ h => h) (Or.inl ⟨rfl, ?_⟩) hH ?_
            rotate_left
            (intro wy hSw; (try dsimp only at hSw); go_simp; try (with_reducible rfl))
            try simp only [Act.put, List.setIfInBounds_toArray, List.set_cons_zero, List.set_cons_succ]
            refine wpAnyH_take (i := 7) (oi := { dst := some 13, op := Op.load 9 (Operand.tmp 12), type := 9, pos := "tape.go:57", after := #[{ on := 6, ground := Ground.data }, { on := 3, ground := Ground.guard }], guard := some (3, false) }) (v := ?_) rfl (by kernel_rfl) (by kernel_rfl) (by kernel_rfl) (fun _ _ _ h => h) (Or.inl ⟨rfl, ?_⟩) hH ?_
            rotate_left
            (intro wy hSw; (try dsimp only at hSw); go_simp; try (with_reducible rfl))
            try simp only [Act.put, List.setIfInBounds_toArray, List.set_cons_zero, List.set_cons_succ]
            refine wpAnyH_take (i := 8) (oi := { dst := some 14, op := Op.binOp BinOp.neq 9 (Operand.tmp 13) (Operand.const (Value.string { data := #[] })) 9, type := 4, pos := "tape.go:57", after := #[{ on := 7, ground := Ground.data }, { on := 3, ground := Ground.guard }], guard := some (3, false) }) (v := ?_) rfl (by kernel_rfl) (by kernel_rfl) (by kernel_rfl) (fun _ _ _ h => h) (Or.inl ⟨rfl, ?_⟩) hH ?_
            rotate_left
            (intro wy hSw; (try dsimp only at hSw); go_simp; try (with_reducible rfl))
            try simp only [Act.put, List.setIfInBounds_toArray, List.set_cons_zero, List.set_cons_succ]
            refine wpAnyH_take (i := 9) (oi := { dst := some 15, op := Op.pick (Operand.tmp 9) (Operand.const (Value.bool true)) (Operand.tmp 14), type := 4, pos := "tape.go:57", after := #[{ on := 3, ground := Ground.data }, { on := 8, ground := Ground.data }], guard := none }) (v := ?_) rfl (by kernel_rfl) (by kernel_rfl) (by kernel_rfl) (fun _ _ _ h => h) (Or.inl ⟨rfl, ?_⟩) hH ?_
            rotate_left
            (intro wy hSw; (try dsimp only at hSw); go_simp; try (with_reducible rfl))
            try simp only [Act.put, List.setIfInBounds_toArray, List.set_cons_zero, List.set_cons_succ]
            refine wpAnyH_take (i := 10) (oi := { dst := some 16, op := Op.move (Operand.tmp 15), type := 4, pos := "tape.go:57", after := #[{ on := 9, ground := Ground.data }, { on := 3, ground := Ground.chain }], guard := none }) (v := ?_) rfl (by kernel_rfl) (by kernel_rfl) (by kernel_rfl) (fun _ _ _ h => h) (Or.inl ⟨rfl, ?_⟩) hH ?_
            rotate_left
            (intro wy hSw; (try dsimp only at hSw); go_simp; try (with_reducible rfl))
            try simp only [Act.put, List.setIfInBounds_toArray, List.set_cons_zero, List.set_cons_succ]
            refine wpAnyH_take (i := 11) (oi := { dst := some 17, op := Op.load 196 (Operand.tmp 4), type := 196, pos := "tape.go:57", after := #[{ on := 10, ground := Ground.guard }], guard := some (10, false) }) (v := ?_) rfl (by kernel_rfl) (by kernel_rfl) (by kernel_rfl) (fun _ _ _ h => h) (Or.inl ⟨rfl, ?_⟩) hH ?_
            rotate_left
            (intro wy hSw; (try dsimp only at hSw); go_simp; try (with_reducible rfl))
            try simp only [Act.put, List.setIfInBounds_toArray, List.set_cons_zero, List.set_cons_succ]
            refine wpAnyH_take (i := 12) (oi := { dst := some 18, op := Op.load 22 (Operand.tmp 1), type := 22, pos := "tape.go:57", after := #[{ on := 10, ground := Ground.guard }], guard := some (10, false) }) (v := ?_) rfl (by kernel_rfl) (by kernel_rfl) (by kernel_rfl) (fun _ _ _ h => h) (Or.inl ⟨rfl, ?_⟩) hH ?_
            rotate_left
            (intro wy hSw; (try dsimp only at hSw); go_simp; try (with_reducible rfl))
            try simp only [Act.put, List.setIfInBounds_toArray, List.set_cons_zero, List.set_cons_succ]
            refine wpAnyH_take (i := 13) (oi := { dst := some 19, op := Op.call { callee := Callee.builtin Builtin.len, args := #[Operand.tmp 18], argTypes := #[22] }, type := 3, pos := "tape.go:57", after := #[{ on := 12, ground := Ground.data }, { on := 10, ground := Ground.guard }], guard := some (10, false) }) (v := ?_) rfl (by kernel_rfl) (by kernel_rfl) (by kernel_rfl) (fun _ _ _ h => h) (Or.inl ⟨rfl, ?_⟩) hH ?_
            rotate_left
            (intro wy hSw; (try dsimp only at hSw); go_simp; try (with_reducible rfl))
            try simp only [Act.put, List.setIfInBounds_toArray, List.set_cons_zero, List.set_cons_succ]
            refine wpAnyH_ready (rs := [14]) (by kernel_rfl) (by simp) ?_
            refine AllReadyH.cons (o := { dst := some 20, op := Op.call { callee := Callee.value (Operand.tmp 17), args := #[Operand.const (Value.int IntKind.i64 0), Operand.tmp 19, Operand.const (Value.int IntKind.i64 1)], argTypes := #[3, 3, 3] }, type := 4, pos := "tape.go:57", after := #[{ on := 11, ground := Ground.data }, { on := 13, ground := Ground.data }, { on := 10, ground := Ground.chain }, { on := 10, ground := Ground.guard }], guard := some (10, false) }) rfl (fun K hK => ?_) AllReadyH.nil
            go_simp
            go_at_call 169
            ((with_reducible refine (CVd.out).mono ?_); rintro e w5 ⟨rfl, ht5, hb5⟩)
            clear hH
            refine hK.out _ _ (HS.out _ (Touch.undrew ht5)) (fun hH => ?_)
            clear hK K
            try simp only [Act.put, List.setIfInBounds_toArray, List.set_cons_zero, List.set_cons_succ]
            refine wpAnyH_take (i := 15) (oi := { dst := some 21, op := Op.unOp UnOp.not 4 (Operand.tmp 20), type := 4, pos := "tape.go:57", after := #[{ on := 14, ground := Ground.data }, { on := 10, ground := Ground.guard }], guard := some (10, false) }) (v := ?_) rfl (by kernel_rfl) (by kernel_rfl) (by kernel_rfl) (fun _ _ _ h => h) (Or.inl ⟨rfl, ?_⟩) hH ?_
            rotate_left
            (intro wy hSw; (try dsimp only at hSw); go_simp; try (with_reducible rfl))
            try simp only [Act.put, List.setIfInBounds_toArray, List.set_cons_zero, List.set_cons_succ]
            refine wpAnyH_take (i := 16) (oi := { dst := some 22, op := Op.pick (Operand.tmp 16) (Operand.const (Value.bool true)) (Operand.tmp 21), type := 4, pos := "tape.go:57", after := #[{ on := 10, ground := Ground.data }, { on := 15, ground := Ground.data }], guard := none }) (v := ?_) rfl (by kernel_rfl) (by kernel_rfl) (by kernel_rfl) (fun _ _ _ h => h) (Or.inl ⟨rfl, ?_⟩) hH ?_
            rotate_left
            (intro wy hSw; (try dsimp only at hSw); go_simp; try (with_reducible rfl))
            try simp only [Act.put, List.setIfInBounds_toArray, List.set_cons_zero, List.set_cons_succ]
            refine wpAnyH_take (i := 17) (oi := { dst := some 23, op := Op.move (Operand.tmp 22), type := 4, pos := "tape.go:57", after := #[{ on := 16, ground := Ground.data }, { on := 14, ground := Ground.chain }], guard := none }) (v := ?_) rfl (by kernel_rfl) (by kernel_rfl) (by kernel_rfl) (fun _ _ _ h => h) (Or.inl ⟨rfl, ?_⟩) hH ?_
            rotate_left
            (intro wy hSw; (try dsimp only at hSw); go_simp; try (with_reducible rfl))
            try simp only [Act.put, List.setIfInBounds_toArray, List.set_cons_zero, List.set_cons_succ]
            refine wpAnyH_take (i := 18) (oi := { dst := some 24, op := Op.load 22 (Operand.tmp 1), type := 22, pos := "tape.go:57", after := #[{ on := 17, ground := Ground.guard }], guard := some (17, false) }) (v := ?_) rfl (by kernel_rfl) (by kernel_rfl) (by kernel_rfl) (fun _ _ _ h => h) (Or.inl ⟨rfl, ?_⟩) hH ?_
            rotate_left
            (intro wy hSw; (try dsimp only at hSw); go_simp; try (with_reducible rfl))
            try simp only [Act.put, List.setIfInBounds_toArray, List.set_cons_zero, List.set_cons_succ]
            refine wpAnyH_take (i := 19) (oi := { dst := some 25, op := Op.indexAddr 22 (Operand.tmp 24) (Operand.const (Value.int IntKind.i64 0)), type := 0, pos := "tape.go:57", after := #[{ on := 18, ground := Ground.data }, { on := 17, ground := Ground.guard }], guard := some (17, false) }) (v := ?_) rfl (by kernel_rfl) (by kernel_rfl) (by kernel_rfl) (fun _ _ _ h => h) (Or.inl ⟨rfl, ?_⟩) hH ?_
            rotate_left
            (intro wy hSw; (try dsimp only at hSw); go_simp; try (with_reducible rfl))
            try simp only [Act.put, List.setIfInBounds_toArray, List.set_cons_zero, List.set_cons_succ]
            refine wpAnyH_take (i := 20) (oi := { dst := some 26, op := Op.fieldAddr 28 (Operand.tmp 25) 4, type := 0, pos := "tape.go:57", after := #[{ on := 19, ground := Ground.data }, { on := 17, ground := Ground.guard }], guard := some (17, false) }) (v := ?_) rfl (by kernel_rfl) (by kernel_rfl) (by kernel_rfl) (fun _ _ _ h => h) (Or.inl ⟨rfl, ?_⟩) hH ?_
            rotate_left
            (intro wy hSw; (try dsimp only at hSw); go_simp; try (with_reducible rfl))
            try simp only [Act.put, List.setIfInBounds_toArray, List.set_cons_zero, List.set_cons_succ]
            refine wpAnyH_take (i := 21) (oi := { dst := some 27, op := Op.load 3 (Operand.tmp 26), type := 3, pos := "tape.go:57", after := #[{ on := 20, ground := Ground.data }, { on := 17, ground := Ground.guard }], guard := some (17, false) }) (v := ?_) rfl (by kernel_rfl) (by kernel_rfl) (by kernel_rfl) (fun _ _ _ h => h) (Or.inl ⟨rfl, ?_⟩) hH ?_
            rotate_left
            (intro wy hSw; (try dsimp only at hSw); go_simp; try (with_reducible rfl))
            try simp only [Act.put, List.setIfInBounds_toArray, List.set_cons_zero, List.set_cons_succ]
            refine wpAnyH_take (i := 22) (oi := { dst := some 28, op := Op.load 22 (Operand.tmp 1), type := 22, pos := "tape.go:57", after := #[{ on := 17, ground := Ground.guard }], guard := some (17, false) }) (v := ?_) rfl (by kernel_rfl) (by kernel_rfl) (by kernel_rfl) (fun _ _ _ h => h) (Or.inl ⟨rfl, ?_⟩) hH ?_
            rotate_left
            (intro wy hSw; (try dsimp only at hSw); go_simp; try (with_reducible rfl))
            try simp only [Act.put, List.setIfInBounds_toArray, List.set_cons_zero, List.set_cons_succ]
            refine wpAnyH_take (i := 23) (oi := { dst := some 29, op := Op.call { callee := Callee.builtin Builtin.len, args := #[Operand.tmp 28], argTypes := #[22] }, type := 3, pos := "tape.go:57", after := #[{ on := 22, ground := Ground.data }, { on := 17, ground := Ground.guard }], guard := some (17, false) }) (v := ?_) rfl (by kernel_rfl) (by kernel_rfl) (by kernel_rfl) (fun _ _ _ h => h) (Or.inl ⟨rfl, ?_⟩) hH ?_
            rotate_left
            (intro wy hSw; (try dsimp only at hSw); go_simp; try (with_reducible rfl))
            try simp only [Act.put, List.setIfInBounds_toArray, List.set_cons_zero, List.set_cons_succ]
            refine wpAnyH_take (i := 24) (oi := { dst := some 30, op := Op.binOp BinOp.neq 3 (Operand.tmp 27) (Operand.tmp 29) 3, type := 4, pos := "tape.go:57", after := #[{ on := 21, ground := Ground.data }, { on := 23, ground := Ground.data }, { on := 17, ground := Ground.guard }], guard := some (17, false) }) (v := ?_) rfl (by kernel_rfl) (by kernel_rfl) (by kernel_rfl) (fun _ _ _ h => h) (Or.inl ⟨rfl, ?_⟩) hH ?_
            rotate_left
            (intro wy hSw; (try dsimp only at hSw); go_simp; try (with_reducible rfl))
            try simp only [Act.put, List.setIfInBounds_toArray, List.set_cons_zero, List.set_cons_succ]
            refine wpAnyH_take (i := 25) (oi := { dst := some 31, op := Op.pick (Operand.tmp 23) (Operand.const (Value.bool true)) (Operand.tmp 30), type := 4, pos := "tape.go:57", after := #[{ on := 17, ground := Ground.data }, { on := 24, ground := Ground.data }], guard := none }) (v := ?_) rfl (by kernel_rfl) (by kernel_rfl) (by kernel_rfl) (fun _ _ _ h => h) (Or.inl ⟨rfl, ?_⟩) hH ?_
            rotate_left
            (intro wy hSw; (try dsimp only at hSw); go_simp; try (with_reducible rfl))
            try simp only [Act.put, List.setIfInBounds_toArray, List.set_cons_zero, List.set_cons_succ]
            refine wpAnyH_done (by kernel_rfl) ?_ _
            go_wp2_with fail
            go_meet
            exact ⟨_, _, rfl, Lib.hid ⟨HE.out.trans ((Touch.undrew ht5).below HE.out.size (fun i e => by omega)), hb5, .inl ⟨rfl, HN.out⟩⟩⟩
        · have HN := Lib.hid (fun F (h : Rt l F) => hv ⟨F, ((HR.out F).1 h).2.2⟩)
          have CVd := Lib.hid ((CV.out W3.drew ⟨rfl, rfl, rfl, Nat.le_refl _, fun _ _ _ => rfl⟩ HB.out).mono (fun e w' h => VPost.out_no hv h))
          clear hx ct y1
          refine wp_region_held_drew (S := (fun w' => Touch (fun i => i = w.heap.size + 1) W3 w' ∧ (w'.cell? ⟨w.heap.size, 0, none⟩ = some (.slice (some ⟨b, off, none⟩) l.length c) ∧ w'.cell? ⟨w.heap.size + 1 + 1, 0, none⟩ = some (.func (.func 169) #[] #[.pointer (some ⟨w.heap.size, 0, none⟩), .pointer (some ⟨w.heap.size + 1, 0, none⟩), .pointer (some ⟨w.heap.size + 1 + 1, 0, none⟩)]) ∧ w'.cell? ⟨b, off + 1, none⟩ = some (.string x.key) ∧ w'.cell? ⟨b, off + 4, none⟩ = some (.int .i64 x.size)))) (by kernel_rfl) (HS.out _ (Touch.refl _ _).drew) (fun hH => ?_)
          refine wpAnyH_take (i := 0) (oi := { dst := some 6, op := Op.load 22 (Operand.tmp 1), type := 22, pos := "tape.go:57", after := #[], guard := none }) (v := ?_) rfl (by kernel_rfl) (by kernel_rfl) (by kernel_rfl) (fun _ _ _ h => h) (Or.inl ⟨rfl, ?_⟩) hH ?_
          rotate_left
          (intro wy hSw; (try dsimp only at hSw); go_simp; try (with_reducible rfl))
          try simp only [Act.put, List.setIfInBounds_toArray, List.set_cons_zero, List.set_cons_succ]
          refine wpAnyH_take (i := 1) (oi := { dst := some 7, op := Op.call { callee := Callee.builtin Builtin.len, args := #[Operand.tmp 6], argTypes := #[22] }, type := 3, pos := "tape.go:57", after := #[{ on := 0, ground := Ground.data }], guard := none }) (v := ?_) rfl (by kernel_rfl) (by kernel_rfl) (by kernel_rfl) (fun _ _ _ h => h) (Or.inl ⟨rfl, ?_⟩) hH ?_
          rotate_left
          (intro wy hSw; (try dsimp only at hSw); go_simp; try (with_reducible rfl))
          try simp only [Act.put, List.setIfInBounds_toArray, List.set_cons_zero, List.set_cons_succ]
          refine wpAnyH_take (i := 2) (oi := { dst := some 8, op := Op.binOp BinOp.eql 3 (Operand.tmp 7) (Operand.const (Value.int IntKind.i64 0)) 3, type := 4, pos := "tape.go:57", after := #[{ on := 1, ground := Ground.data }], guard := none }) (v := ?_) rfl (by kernel_rfl) (by kernel_rfl) (by kernel_rfl) (fun _ _ _ h => h) (Or.inl ⟨rfl, ?_⟩) hH ?_
          rotate_left
          (intro wy hSw; (try dsimp only at hSw); go_simp; try (with_reducible rfl))
          try simp only [Act.put, List.setIfInBounds_toArray, List.set_cons_zero, List.set_cons_succ]
          refine wpAnyH_take (i := 3) (oi := { dst := some 9, op := Op.move (Operand.tmp 8), type := 4, pos := "tape.go:57", after := #[{ on := 2, ground := Ground.data }], guard := none }) (v := ?_) rfl (by kernel_rfl) (by kernel_rfl) (by kernel_rfl) (fun _ _ _ h => h) (Or.inl ⟨rfl, ?_⟩) hH ?_
          rotate_left
          (intro wy hSw; (try dsimp only at hSw); go_simp; try (with_reducible rfl))
          try simp only [Act.put, List.setIfInBounds_toArray, List.set_cons_zero, List.set_cons_succ]
          refine wpAnyH_take (i := 4) (oi := { dst := some 10, op := Op.load 22 (Operand.tmp 1), type := 22, pos := "tape.go:57", after := #[{ on := 3, ground := Ground.guard }], guard := some (3, false) }) (v := ?_) rfl (by kernel_rfl) (by kernel_rfl) (by kernel_rfl) (fun _ _ _ h => h) (Or.inl ⟨rfl, ?_⟩) hH ?_
          rotate_left
          (intro wy hSw; (try dsimp only at hSw); go_simp; try (with_reducible rfl))
          try simp only [Act.put, List.setIfInBounds_toArray, List.set_cons_zero, List.set_cons_succ]
          refine wpAnyH_take (i := 5) (oi := { dst := some 11, op := Op.indexAddr 22 (Operand.tmp 10) (Operand.const (Value.int IntKind.i64 0)), type := 0, pos := "tape.go:57", after := #[{ on := 4, ground := Ground.data }, { on := 3, ground := Ground.guard }], guard := some (3, false) }) (v := ?_) rfl (by kernel_rfl) (by kernel_rfl) (by kernel_rfl) (fun _ _ _ h => h) (Or.inl ⟨rfl, ?_⟩) hH ?_
          rotate_left
          (intro wy hSw; (try dsimp only at hSw); go_simp; try (with_reducible rfl))
          try simp only [Act.put, List.setIfInBounds_toArray, List.set_cons_zero, List.set_cons_succ]
          refine wpAnyH_take (i := 6) (oi := { dst := some 12, op := Op.fieldAddr 28 (Operand.tmp 11) 1, type := 0, pos := "tape.go:57", after := #[{ on := 5, ground := Ground.data }, { on := 3, ground := Ground.guard }], guard := some (3, false) }) (v := ?_) rfl (by kernel_rfl) (by kernel_rfl) (by kernel_rfl) (fun _ _ _ h => h) (Or.inl ⟨rfl, ?_⟩) hH ?_
          rotate_left
          (intro wy hSw; (try dsimp only at hSw); go_simp; try (with_reducible rfl))
          try simp only [Act.put, List.setIfInBounds_toArray, List.set_cons_zero, List.set_cons_succ]
          refine wpAnyH_take (i := 7) (oi := { dst := some 13, op := Op.load 9 (Operand.tmp 12), type := 9, pos := "tape.go:57", after := #[{ on := 6, ground := Ground.data }, { on := 3, ground := Ground.guard }], guard := some (3, false) }) (v := ?_) rfl (by kernel_rfl) (by kernel_rfl) (by kernel_rfl) (fun _ _ _ h => h) (Or.inl ⟨rfl, ?_⟩) hH ?_
          rotate_left
          (intro wy hSw; (try dsimp only at hSw); go_simp; try (with_reducible rfl))
          try simp only [Act.put, List.setIfInBounds_toArray, List.set_cons_zero, List.set_cons_succ]
          refine wpAnyH_take (i := 8) (oi := { dst := some 14, op := Op.binOp BinOp.neq 9 (Operand.tmp 13) (Operand.const (Value.string { data := #[] })) 9, type := 4, pos := "tape.go:57", after := #[{ on := 7, ground := Ground.data }, { on := 3, ground := Ground.guard }], guard := some (3, false) }) (v := ?_) rfl (by kernel_rfl) (by kernel_rfl) (by kernel_rfl) (fun _ _ _ h => h) (Or.inl ⟨rfl, ?_⟩) hH ?_
          rotate_left
          (intro wy hSw; (try dsimp only at hSw); go_simp; try (with_reducible rfl))
          try simp only [Act.put, List.setIfInBounds_toArray, List.set_cons_zero, List.set_cons_succ]
          refine wpAnyH_take (i := 9) (oi := { dst := some 15, op := Op.pick (Operand.tmp 9) (Operand.const (Value.bool true)) (Operand.tmp 14), type := 4, pos := "tape.go:57", after := #[{ on := 3, ground := Ground.data }, { on := 8, ground := Ground.data }], guard := none }) (v := ?_) rfl (by kernel_rfl) (by kernel_rfl) (by kernel_rfl) (fun _ _ _ h => h) (Or.inl ⟨rfl, ?_⟩) hH ?_
          rotate_left
          (intro wy hSw; (try dsimp only at hSw); go_simp; try (with_reducible rfl))
          try simp only [Act.put, List.setIfInBounds_toArray, List.set_cons_zero, List.set_cons_succ]
          refine wpAnyH_take (i := 10) (oi := { dst := some 16, op := Op.move (Operand.tmp 15), type := 4, pos := "tape.go:57", after := #[{ on := 9, ground := Ground.data }, { on := 3, ground := Ground.chain }], guard := none }) (v := ?_) rfl (by kernel_rfl) (by kernel_rfl) (by kernel_rfl) (fun _ _ _ h => h) (Or.inl ⟨rfl, ?_⟩) hH ?_
          rotate_left
          (intro wy hSw; (try dsimp only at hSw); go_simp; try (with_reducible rfl))
          try simp only [Act.put, List.setIfInBounds_toArray, List.set_cons_zero, List.set_cons_succ]
          refine wpAnyH_take (i := 11) (oi := { dst := some 17, op := Op.load 196 (Operand.tmp 4), type := 196, pos := "tape.go:57", after := #[{ on := 10, ground := Ground.guard }], guard := some (10, false) }) (v := ?_) rfl (by kernel_rfl) (by kernel_rfl) (by kernel_rfl) (fun _ _ _ h => h) (Or.inl ⟨rfl, ?_⟩) hH ?_
          rotate_left
          (intro wy hSw; (try dsimp only at hSw); go_simp; try (with_reducible rfl))
          try simp only [Act.put, List.setIfInBounds_toArray, List.set_cons_zero, List.set_cons_succ]
          refine wpAnyH_take (i := 12) (oi := { dst := some 18, op := Op.load 22 (Operand.tmp 1), type := 22, pos := "tape.go:57", after := #[{ on := 10, ground := Ground.guard }], guard := some (10, false) }) (v := ?_) rfl (by kernel_rfl) (by kernel_rfl) (by kernel_rfl) (fun _ _ _ h => h) (Or.inl ⟨rfl, ?_⟩) hH ?_
          rotate_left
          (intro wy hSw; (try dsimp only at hSw); go_simp; try (with_reducible rfl))
          try simp only [Act.put, List.setIfInBounds_toArray, List.set_cons_zero, List.set_cons_succ]
          refine wpAnyH_take (i := 13) (oi := { dst := some 19, op := Op.call { callee := Callee.builtin Builtin.len, args := #[Operand.tmp 18], argTypes := #[22] }, type := 3, pos := "tape.go:57", after := #[{ on := 12, ground := Ground.data }, { on := 10, ground := Ground.guard }], guard := some (10, false) }) (v := ?_) rfl (by kernel_rfl) (by kernel_rfl) (by kernel_rfl) (fun _ _ _ h => h) (Or.inl ⟨rfl, ?_⟩) hH ?_
          rotate_left
          (intro wy hSw; (try dsimp only at hSw); go_simp; try (with_reducible rfl))
          try simp only [Act.put, List.setIfInBounds_toArray, List.set_cons_zero, List.set_cons_succ]
          refine wpAnyH_ready (rs := [14]) (by kernel_rfl) (by simp) ?_
          refine AllReadyH.cons (o := { dst := some 20, op := Op.call { callee := Callee.value (Operand.tmp 17), args := #[Operand.const (Value.int IntKind.i64 0), Operand.tmp 19, Operand.const (Value.int IntKind.i64 1)], argTypes := #[3, 3, 3] }, type := 4, pos := "tape.go:57", after := #[{ on := 11, ground := Ground.data }, { on := 13, ground := Ground.data }, { on := 10, ground := Ground.chain }, { on := 10, ground := Ground.guard }], guard := some (10, false) }) rfl (fun K hK => ?_) AllReadyH.nil
          go_simp
          go_at_call 169
          ((with_reducible refine (CVd.out).mono ?_); rintro e w5 ⟨rfl, d5, ht5, hb5⟩)
          clear hH
          refine hK.out _ _ (HS.out _ (Touch.undrew ht5)) (fun hH => ?_)
          clear hK K
          try simp only [Act.put, List.setIfInBounds_toArray, List.set_cons_zero, List.set_cons_succ]
          refine wpAnyH_take (i := 15) (oi := { dst := some 21, op := Op.unOp UnOp.not 4 (Operand.tmp 20), type := 4, pos := "tape.go:57", after := #[{ on := 14, ground := Ground.data }, { on := 10, ground := Ground.guard }], guard := some (10, false) }) (v := ?_) rfl (by kernel_rfl) (by kernel_rfl) (by kernel_rfl) (fun _ _ _ h => h) (Or.inl ⟨rfl, ?_⟩) hH ?_
          rotate_left
          (intro wy hSw; (try dsimp only at hSw); go_simp; try (with_reducible rfl))
          try simp only [Act.put, List.setIfInBounds_toArray, List.set_cons_zero, List.set_cons_succ]
          refine wpAnyH_take (i := 16) (oi := { dst := some 22, op := Op.pick (Operand.tmp 16) (Operand.const (Value.bool true)) (Operand.tmp 21), type := 4, pos := "tape.go:57", after := #[{ on := 10, ground := Ground.data }, { on := 15, ground := Ground.data }], guard := none }) (v := ?_) rfl (by kernel_rfl) (by kernel_rfl) (by kernel_rfl) (fun _ _ _ h => h) (Or.inl ⟨rfl, ?_⟩) hH ?_
          rotate_left
          (intro wy hSw; (try dsimp only at hSw); go_simp; try (with_reducible rfl))
          try simp only [Act.put, List.setIfInBounds_toArray, List.set_cons_zero, List.set_cons_succ]
          refine wpAnyH_take (i := 17) (oi := { dst := some 23, op := Op.move (Operand.tmp 22), type := 4, pos := "tape.go:57", after := #[{ on := 16, ground := Ground.data }, { on := 14, ground := Ground.chain }], guard := none }) (v := ?_) rfl (by kernel_rfl) (by kernel_rfl) (by kernel_rfl) (fun _ _ _ h => h) (Or.inl ⟨rfl, ?_⟩) hH ?_
          rotate_left
          (intro wy hSw; (try dsimp only at hSw); go_simp; try (with_reducible rfl))
          try simp only [Act.put, List.setIfInBounds_toArray, List.set_cons_zero, List.set_cons_succ]
          refine wpAnyH_take (i := 18) (oi := { dst := some 24, op := Op.load 22 (Operand.tmp 1), type := 22, pos := "tape.go:57", after := #[{ on := 17, ground := Ground.guard }], guard := some (17, false) }) (v := undef) rfl (by kernel_rfl) (by kernel_rfl) (by kernel_rfl) (fun _ _ _ h => h) (Or.inr ⟨rfl, rfl⟩) hH ?_
          try simp only [Act.put, List.setIfInBounds_toArray, List.set_cons_zero, List.set_cons_succ]
          refine wpAnyH_take (i := 19) (oi := { dst := some 25, op := Op.indexAddr 22 (Operand.tmp 24) (Operand.const (Value.int IntKind.i64 0)), type := 0, pos := "tape.go:57", after := #[{ on := 18, ground := Ground.data }, { on := 17, ground := Ground.guard }], guard := some (17, false) }) (v := undef) rfl (by kernel_rfl) (by kernel_rfl) (by kernel_rfl) (fun _ _ _ h => h) (Or.inr ⟨rfl, rfl⟩) hH ?_
          try simp only [Act.put, List.setIfInBounds_toArray, List.set_cons_zero, List.set_cons_succ]
          refine wpAnyH_take (i := 20) (oi := { dst := some 26, op := Op.fieldAddr 28 (Operand.tmp 25) 4, type := 0, pos := "tape.go:57", after := #[{ on := 19, ground := Ground.data }, { on := 17, ground := Ground.guard }], guard := some (17, false) }) (v := undef) rfl (by kernel_rfl) (by kernel_rfl) (by kernel_rfl) (fun _ _ _ h => h) (Or.inr ⟨rfl, rfl⟩) hH ?_
          try simp only [Act.put, List.setIfInBounds_toArray, List.set_cons_zero, List.set_cons_succ]
          refine wpAnyH_take (i := 21) (oi := { dst := some 27, op := Op.load 3 (Operand.tmp 26), type := 3, pos := "tape.go:57", after := #[{ on := 20, ground := Ground.data }, { on := 17, ground := Ground.guard }], guard := some (17, false) }) (v := undef) rfl (by kernel_rfl) (by kernel_rfl) (by kernel_rfl) (fun _ _ _ h => h) (Or.inr ⟨rfl, rfl⟩) hH ?_
          try simp only [Act.put, List.setIfInBounds_toArray, List.set_cons_zero, List.set_cons_succ]
          refine wpAnyH_take (i := 22) (oi := { dst := some 28, op := Op.load 22 (Operand.tmp 1), type := 22, pos := "tape.go:57", after := #[{ on := 17, ground := Ground.guard }], guard := some (17, false) }) (v := undef) rfl (by kernel_rfl) (by kernel_rfl) (by kernel_rfl) (fun _ _ _ h => h) (Or.inr ⟨rfl, rfl⟩) hH ?_
          try simp only [Act.put, List.setIfInBounds_toArray, List.set_cons_zero, List.set_cons_succ]
          refine wpAnyH_take (i := 23) (oi := { dst := some 29, op := Op.call { callee := Callee.builtin Builtin.len, args := #[Operand.tmp 28], argTypes := #[22] }, type := 3, pos := "tape.go:57", after := #[{ on := 22, ground := Ground.data }, { on := 17, ground := Ground.guard }], guard := some (17, false) }) (v := undef) rfl (by kernel_rfl) (by kernel_rfl) (by kernel_rfl) (fun _ _ _ h => h) (Or.inr ⟨rfl, rfl⟩) hH ?_
          try simp only [Act.put, List.setIfInBounds_toArray, List.set_cons_zero, List.set_cons_succ]
          refine wpAnyH_take (i := 24) (oi := { dst := some 30, op := Op.binOp BinOp.neq 3 (Operand.tmp 27) (Operand.tmp 29) 3, type := 4, pos := "tape.go:57", after := #[{ on := 21, ground := Ground.data }, { on := 23, ground := Ground.data }, { on := 17, ground := Ground.guard }], guard := some (17, false) }) (v := undef) rfl (by kernel_rfl) (by kernel_rfl) (by kernel_rfl) (fun _ _ _ h => h) (Or.inr ⟨rfl, rfl⟩) hH ?_
          try simp only [Act.put, List.setIfInBounds_toArray, List.set_cons_zero, List.set_cons_succ]
          refine wpAnyH_take (i := 25) (oi := { dst := some 31, op := Op.pick (Operand.tmp 23) (Operand.const (Value.bool true)) (Operand.tmp 30), type := 4, pos := "tape.go:57", after := #[{ on := 17, ground := Ground.data }, { on := 24, ground := Ground.data }], guard := none }) (v := ?_) rfl (by kernel_rfl) (by kernel_rfl) (by kernel_rfl) (fun _ _ _ h => h) (Or.inl ⟨rfl, ?_⟩) hH ?_
          rotate_left
          (intro wy hSw; (try dsimp only at hSw); go_simp; try (with_reducible rfl))
          try simp only [Act.put, List.setIfInBounds_toArray, List.set_cons_zero, List.set_cons_succ]
          refine wpAnyH_done (by kernel_rfl) ?_ _
          go_wp2_with fail
          go_meet
          exact ⟨_, _, rfl, Lib.hid ⟨HE.out.trans ((Touch.undrew ht5).below HE.out.size (fun i e => by omega)), hb5, .inl ⟨rfl, HN.out⟩⟩⟩
      · have hq : x.key.toList.isEmpty = false := by rw [bl_empty]; exact decide_eq_false fun e => hy (bl_nil.1 e)
        have HN := Lib.hid (fun F (h : Rt l F) => hy ((HR.out F).1 h).1)
        clear hx
        go_quiet (fail)
        go_wp2_with fail
        go_meet
        exact ⟨_, _, rfl, Lib.hid ⟨below_drewN HE.out _, HB.out, .inl ⟨rfl, HN.out⟩⟩⟩
  case rest =>
    obtain ⟨bb, d', rfl, HC⟩ := hcut
    have cd : wc.cell? ⟨w.heap.size + 1, 0, none⟩ = some (.int .i64 d') := HC.out.2.1.cell 0
    have fd : wc.frozen? ⟨w.heap.size + 1, 0, none⟩ = false := HC.out.2.1.frozen 0
    rcases HC.out.2.2 with ⟨rfl, hno⟩ | ⟨F, hF, rfl, rfl⟩
    · have HN := Lib.hid hno
      have c2 : (wc.setCell ⟨w.heap.size + 1, 0, none⟩ (.int .i64 0)).cell? ⟨w.heap.size + 1, 0, none⟩ = some (.int .i64 0) := (HC.out.2.1.put 0 (.int .i64 0)).cell 0
      clear hno
      go_wp2_with fail
      refine bodyPost_ret (res_cell rfl _ rfl c2) rfl ?_
      exact ⟨HC.out.1.setCell (by simp) _, .inl ⟨rfl, HN.out⟩⟩
    · have HX := Lib.hid hF
      have c2 : ∀ u, (wc.setCell ⟨w.heap.size + 1, 0, none⟩ u).cell? ⟨w.heap.size + 1, 0, none⟩ = some u := fun u => (HC.out.2.1.put 0 u).cell 0
      clear hF
      go_wp2_with fail
      refine bodyPost_ret (res_cell rfl _ rfl (c2 _)) rfl ?_
      exact ⟨HC.out.1.setCell (by simp) _, .inr ⟨F, HX.out, rfl⟩⟩
end Go.Proofs.YtgmdjofnkbaflaaGreatDoor
