/- Sorted (the program's). -/
import Derived.Test.YteklcfimafplbaaDoorPutS
import Derived.Laws.MakeOwn
namespace Go.Proofs.YteklcfimafplbaaDoor
open Go.RowKit
set_option linter.unusedVariables false
set_option maxRecDepth 100000

theorem put_claim (B base : Nat) (v : Value) (l : List Nd) (hl : l.length ≤ 4000) (sb tb pb : Nat) : ∀ n, PClaim B base v l sb tb pb n
  | 0 => fun a A k y nn s c w sv acc hn => absurd hn (Nat.not_lt_zero _)
  | n + 1 => put_step B base v l hl sb tb pb n (put_claim B base v l hl sb tb pb n)
theorem node_room (w : World) (s : Nat) (hm : s ≤ 4000) :
    (Instr.makeSlice 25 (.int .i64 0) (.int .i64 (s : Nat))).run Tryd.prog w = .ok (.slice (some ⟨w.heap.size, 0, none⟩) 0 s) (w.alloc (.cells (madeCells ndz.cells (s * 5)) 36)) := by
  obtain ⟨i, hi, hz, hsz, hby⟩ := ndY.parts
  have h := run_makeSlice w 25 36 i ndz Tryd.underlying25 hi hz .i64 .i64 0 (s : Nat) (by omega) (by omega) (by rw [hsz]; simp; omega) (by rw [hby]; omega) (by omega)
  simpa [hsz] using h
/-- A row of nodes that was made: none yet, room for them. -/
theorem own_room (w : World) (s : Nat) (hm : s ≤ 4000) : OwnN (w.alloc (.cells (madeCells ndz.cells (s * 5)) 36)) w.heap.size (.slice (some ⟨w.heap.size, 0, none⟩) 0 s) [] := by
  have hl : (madeCells ndz.cells (s * 5)).size = s * 5 := by simp [madeCells]
  refine ⟨rfl, .inr ⟨w.heap.size, s, _, rfl, Nat.le_refl _, heap_alloc_new w _, by simp, by simp [maxLen]; omega, hl, ?_⟩⟩
  simp [Gn.cells]
theorem ps_start (w w2 : World) (v : Value) (l : List Nd) (M : Array Value) (n : Nat) (hR : RdN w w.heap.size v l) (hb : Below w.heap.size w w2) (ht : Blk w2 w.heap.size 25 [v]) (ho : OwnN (w2.alloc (.cells M 36)) w2.heap.size (.slice (some ⟨w2.heap.size, 0, none⟩) 0 n) []) :
    PS (((w2.alloc (.cells M 36)).alloc (.cells #[.slice (some ⟨w2.heap.size, 0, none⟩) 0 n] 25)).alloc (.cells #[pfn (w2.heap.size + 1) w.heap.size (w2.heap.size + 1 + 1)] 63)) w.heap.size w.heap.size v l (w2.heap.size + 1) w.heap.size (w2.heap.size + 1 + 1) (.slice (some ⟨w2.heap.size, 0, none⟩) 0 n) [] := by
  have b0 := up_new w2 (.cells M 36)
  have b1 := up_new (w2.alloc (.cells M 36)) (.cells #[.slice (some ⟨w2.heap.size, 0, none⟩) 0 n] 25)
  have b2 := up_new ((w2.alloc (.cells M 36)).alloc (.cells #[.slice (some ⟨w2.heap.size, 0, none⟩) 0 n] 25)) (.cells #[pfn (w2.heap.size + 1) w.heap.size (w2.heap.size + 1 + 1)] 63)
  have b12 := up b1 b2
  have b02 := up b0 b12
  have n1 := (Blk.new (w2.alloc (.cells M 36)) 25 #[.slice (some ⟨w2.heap.size, 0, none⟩) 0 n]).later b2
  have n2 := Blk.new ((w2.alloc (.cells M 36)).alloc (.cells #[.slice (some ⟨w2.heap.size, 0, none⟩) 0 n] 25)) 63 #[pfn (w2.heap.size + 1) w.heap.size (w2.heap.size + 1 + 1)]
  simp only [World.size_alloc] at n1 n2
  have hs := hb.size
  have htl := ht.lt
  refine ⟨Gn.Rd.below hR (up hb b02) (Nat.le_refl _), ht.later b02, n2, n1, Gn.Own.lower (Gn.Own.later ho b12) hs, ?_, by omega, Nat.le_refl _, by omega, by omega, by omega, by have := (up hb b02).size; omega, by have := (up hb b02).size; omega⟩
  intro g hg
  have : w2.heap.size = g := by simpa [Value.ownBlock] using hg
  omega
theorem ps_end {w w2 w' : World} {M : Array Value} {n b : Nat} {v sv' : Value} {l acc : List Nd} {tb pb : Nat} {o1 o2 : Obj} (h : PS (((w2.alloc (.cells M 36)).alloc o1).alloc o2) w.heap.size w.heap.size v l b tb pb (.slice (some ⟨w2.heap.size, 0, none⟩) 0 n) acc) (hb : Below w.heap.size w w2) (hr : PR b (((w2.alloc (.cells M 36)).alloc o1).alloc o2) (.slice (some ⟨w2.heap.size, 0, none⟩) 0 n) w' sv') : Below w.heap.size w w' := by
  have b02 := up hb (up (up_new w2 (.cells M 36)) (up (up_new _ o1) (up_new _ o2)))
  exact b02.trans (hr.touch.below h.lo (fun i hi => hi.elim (fun e => by rw [e]; exact h.bs) (fun e => (h.nb i e).2.2.2)))
def SortIs (l r : List Nd) : Prop := (∃ F, May l F ∧ r = Tp.flat (Tp.sT F)) ∨ (chk l ≠ 0 ∧ r = [])

set_option maxHeartbeats 4000000 in
theorem sorted (v : Value) (l : List Nd) (w : World) (h : RdN w w.heap.size v l) (hok : ∀ x ∈ l, Nok x) (T : Tab w) (r : List Nd) (hr : SortIs l r) :
    Calls Tryd.prog 10 #[v] w fun e w' => MkPost w r e w' := by
  have hR := Lib.hid h
  obtain ⟨ad, cp, rfl, _⟩ := Gn.Rd.form h
  have C := Lib.hid (fun (wb : World) (hb : Below w.heap.size w wb) (e : Int) (he : chk l = e) => check _ l wb (h.later hb) hok (T.later hb) e he)
  rcases hr with ⟨F, hM, rfl⟩ | ⟨h0, rfl⟩
  · obtain ⟨⟨k, y, nn, s, c, rfl, hy⟩, hg, hfl⟩ := hM.2.1
    have h0 := (may_chk hM).1
    have hll := hM.1
    have C0 := Lib.hid (fun (wb : World) (hb : Below w.heap.size w wb) => C.out wb hb 0 h0)
    have hlz : l.length = 1 + Tp.sz c := by
      have e : (Tp.flat (.node k y nn s c .nil)).length = Tp.sz (.node k y nn s c .nil) := rfl
      rw [← hfl, e, Tp.sz_node, Tp.sz_nil]; omega
    have HLZ := Lib.hid hlz
    have HAt : Hid (Tp.At l 0 (.node k y nn s c .nil)) := Lib.hid (by rw [← hfl]; exact Tp.at_flat _)
    have HG := Lib.hid hg
    obtain ⟨M, hM2⟩ : ∃ M, M = madeCells ndz.cells (l.length * 5) := ⟨_, rfl⟩
    have R := Lib.hid (fun wx => node_room wx l.length hll)
    rw [← hM2] at R
    have HO := Lib.hid (fun wx => own_room wx l.length hll)
    rw [← hM2] at HO
    clear h hok T hM hy hg hfl C h0 hlz hM2
    go_enter Tryd.func10, Tryd.ntmps10
    go_wp2_with fail
    ((with_reducible refine (C0.out _ (up_new w _)).mono ?_); rintro e w2 ⟨rfl, b2⟩)
    have HB2 := Lib.hid (up (up_new w (.cells #[.slice ad l.length cp] 25)) b2)
    have HT : Hid (Blk w2 w.heap.size 25 [.slice ad l.length cp]) := Lib.hid ((Blk.new w _ _).later b2)
    have ct := HT.out.cell 0
    simp only [List.getElem?_cons_zero] at ct
    have RR := R.out w2
    clear b2
    go_wp2_with fail
    have HP := Lib.hid (ps_start w w2 _ l M l.length hR.out HB2.out HT.out (HO.out w2))
    refine ((put_claim _ _ _ l hll _ _ _ (Tp.sz c + 1)) 0 _ k y nn s c _ _ [] (by omega) rfl HAt.out HG.out (by have := HLZ.out; simp; omega) HP.out).mono ?_
    rintro e w5 ⟨rfl, sv5, hp5, hr5⟩
    have HP5 := Lib.hid hp5
    have HR5 := Lib.hid hr5
    have cs := hp5.s.cell 0
    simp only [List.getElem?_cons_zero] at cs
    clear hp5 hr5 ct
    go_wp2_with fail
    go_ret
    exact ⟨_, rfl, HP5.out.own, ps_end HP.out HB2.out HR5.out⟩
  · have h0' : ((chk l : Int) != 0) = true := by simpa using h0
    clear h hok T h0
    have C0 := Lib.hid (fun (wb : World) (hb : Below w.heap.size w wb) => C.out wb hb _ rfl)
    clear C
    generalize chk l = e at *
    go_enter Tryd.func10, Tryd.ntmps10
    go_wp2_with fail
    ((with_reducible refine (C0.out _ (up_new w _)).mono ?_); rintro e w2 ⟨rfl, b2⟩)
    have HB := Lib.hid (up (up_new w (.cells #[.slice ad l.length cp] 25)) b2)
    clear b2
    go_wp2_with fail
    go_ret
    exact ⟨_, rfl, Gn.Own.nil _ _, HB.out⟩
end Go.Proofs.YteklcfimafplbaaDoor
