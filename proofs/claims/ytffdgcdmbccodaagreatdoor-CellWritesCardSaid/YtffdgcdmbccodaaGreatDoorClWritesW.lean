/- CellWrites' walk: Text and Bits answer as the reference's. -/
import Derived.Test.YtffdgcdmbccodaaGreatDoorClCut
import Derived.Test.YtffdgcdmbccodaaGreatDoorClRefT
import Derived.Test.YtffdgcdmbccodaaGreatDoorClRefB
namespace Go.Proofs.YtffdgcdmbccodaaGreatDoor
open Go.RowKit
set_option linter.unusedVariables false
set_option maxRecDepth 100000

theorem BX.put4 {w0 w : World} {u : Bool} {k : Int} {c : Cl.C} (h : BX w0 u k c w) (a : Bool) (n : Int) (s : ByteArray) : BX w0 u k ⟨a, n, s⟩ (((w.setCell ⟨w0.heap.size + 1, 0, none⟩ (.bool a)).setCell ⟨w0.heap.size + 1, 1, none⟩ (.int .i64 n)).setCell ⟨w0.heap.size + 1, 2, none⟩ (.string s)) :=
  ⟨Blk.past h.t (by omega) _ _ _, CV.put h.c _ _ _, put_below (by omega) h.b _ _ _⟩
set_option maxHeartbeats 8000000 in
theorem cellWrites (u : Bool) (k : Int) (c : Cl.C) (w : World) (hk : Cl.I64 k) (ci : Cl.I64 c.n) (cm : c.s.size ≤ maxLen) (T : TA w) : Calls Tryz.prog 9 #[tv u k, cv c] w fun e w' => e = .returned (.bool true) ∧ Below w.heap.size w w' := by
  have B0 := Lib.hid (BX.start w u k c)
  have TW := Lib.hid (fun w1 (hb : Below w.heap.size w w1) => T.later hb)
  have CW := Lib.hid (fun w1 (hb : Below w.heap.size w w1) => works w1 (TW.out w1 hb))
  obtain ⟨d, hd⟩ : ∃ d, cutC c = d := ⟨_, rfl⟩
  have hdm : d.s.size ≤ 1000000 := Nat.le_trans (hd ▸ cutC_size c) (by decide)
  have hdi : Cl.I64 d.n := hd ▸ cutC_i64 c ci
  have LA := Lib.hid (fun w => lCut c d w cm hd)
  obtain ⟨e0, he⟩ : ∃ e0, Cl.chk u k d = e0 := ⟨_, rfl⟩
  obtain ⟨x, hx⟩ : ∃ x, (if e0 = 0 then Cl.txt k d else ⟨#[]⟩) = x := ⟨_, rfl⟩
  obtain ⟨y, hy⟩ : ∃ y, (if e0 = 0 then str (Cl.bts u k d) else ⟨#[]⟩) = y := ⟨_, rfl⟩
  have K1 := Lib.hid (fun w1 (hb : Below w.heap.size w w1) => texts u k d w1 (TW.out w1 hb) hdi hdm e0 he x hx)
  have K2 := Lib.hid (fun w1 (hb : Below w.heap.size w w1) => rText u k d w1 hdi hdm e0 he x hx)
  have K3 := Lib.hid (fun w1 (hb : Below w.heap.size w w1) => bitss u k d w1 (TW.out w1 hb) hdi hdm e0 he y hy)
  have K4 := Lib.hid (fun w1 (hb : Below w.heap.size w w1) => rBits u k d w1 hdi hdm e0 he y hy)
  have hxx : (x.toList == x.toList) = true := by simp
  have hyy : (y.toList == y.toList) = true := by simp
  clear T hk hd hdm hdi he ci cm hx hy
  obtain ⟨u0, n0, s0⟩ := c
  unfold tv cv at K1 K2 K3 K4
  unfold cv at LA
  unfold tv cv
  simp only at LA B0 ⊢
  go_enter Tryz.func9, Tryz.ntmps9
  go_wp2_with fail
  ((with_reducible refine (LA.out _).mono ?_); rintro e w1 ⟨rfl, b1⟩)
  have B1 := Lib.hid (B0.out.later b1)
  obtain ⟨du, dn, ds⟩ := d
  obtain ⟨⟨t0, t1⟩, ⟨c0, c1, c2⟩⟩ := B1.out.lies
  obtain ⟨f0, f1, f2⟩ := B1.out.c.free
  have B2 := Lib.hid (B1.out.put4 du dn ds)
  simp only at c0 c1 c2 K1 K2 K3 K4
  clear b1 LA B0 B1
  go_wp2_with fail
  ((with_reducible refine (K1.out _ B2.out.b).mono ?_); rintro e w3 ⟨rfl, b3⟩)
  have B3 := Lib.hid (B2.out.later b3)
  clear t0 t1 c0 c1 c2 b3 B2
  obtain ⟨⟨t0, t1⟩, ⟨c0, c1, c2⟩⟩ := B3.out.lies
  simp only at c0 c1 c2
  go_wp2_with fail
  ((with_reducible refine (K2.out _ B3.out.b).mono ?_); rintro e w4 ⟨rfl, b4⟩)
  have B4 := Lib.hid (B3.out.later b4)
  clear t0 t1 c0 c1 c2 b4 B3
  obtain ⟨⟨t0, t1⟩, ⟨c0, c1, c2⟩⟩ := B4.out.lies
  simp only at c0 c1 c2
  go_wp2_with fail
  ((with_reducible refine (K3.out _ B4.out.b).mono ?_); rintro e w5 ⟨rfl, b5⟩)
  have B5 := Lib.hid (B4.out.later b5)
  clear t0 t1 c0 c1 c2 b5 B4
  obtain ⟨⟨t0, t1⟩, ⟨c0, c1, c2⟩⟩ := B5.out.lies
  simp only at c0 c1 c2
  go_wp2_with fail
  ((with_reducible refine (K4.out _ B5.out.b).mono ?_); rintro e w6 ⟨rfl, b6⟩)
  have B6 := Lib.hid (B5.out.later b6)
  clear t0 t1 c0 c1 c2 b6 B5
  obtain ⟨⟨t0, t1⟩, ⟨c0, c1, c2⟩⟩ := B6.out.lies
  simp only at c0 c1 c2
  go_wp2_with fail
  ((with_reducible refine (CW.out _ B6.out.b).mono ?_); rintro e w7 ⟨rfl, b7⟩)
  have B7 := Lib.hid (up B6.out.b b7)
  clear b7
  go_wp2_with fail
  go_ret
  exact ⟨rfl, B7.out⟩
end Go.Proofs.YtffdgcdmbccodaaGreatDoor
