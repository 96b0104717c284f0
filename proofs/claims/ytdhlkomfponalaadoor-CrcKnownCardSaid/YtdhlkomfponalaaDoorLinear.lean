/- The walk of CrcLinear: it returns true and changes nothing that was there. -/
import Derived.Test.YtdhlkomfponalaaDoorLaws
import Derived.StillTailTactics
import Derived.Deep.RegionLaw
namespace Go.Proofs.YtdhlkomfponalaaDoor
open Go.RowKit
set_option linter.unusedVariables false
attribute [local irreducible] Go.wpStill

theorem adds_snoc : ∀ (l m n : List Nat) (i : Nat), i < l.length → i < m.length → i < n.length →
    Crc.adds (l.take (i + 1)) (m.take (i + 1)) (n.take (i + 1)) = Crc.adds (l.take i) (m.take i) (n.take i) ++ [l.getD i 0 ^^^ m.getD i 0 ^^^ n.getD i 0]
  | a :: l, b :: m, c :: n, 0, _, _, _ => by simp [Crc.adds]
  | a :: l, b :: m, c :: n, i + 1, h1, h2, h3 => by
    have := adds_snoc l m n i (by simpa using h1) (by simpa using h2) (by simpa using h3)
    rw [List.take_succ_cons, List.take_succ_cons, List.take_succ_cons, Crc.adds, this, List.take_succ_cons, List.take_succ_cons, List.take_succ_cons, Crc.adds]
    simp
  | [], _, _, _, h, _, _ => by simp at h
  | _ :: _, [], _, _, _, h, _ => by simp at h
  | _ :: _, _ :: _, [], _, _, _, h => by simp at h
theorem adds_length (l m n : List Nat) (i : Nat) (h1 : i ≤ l.length) (h2 : i ≤ m.length) (h3 : i ≤ n.length) : (Crc.adds (l.take i) (m.take i) (n.take i)).length = i := by
  induction i with
  | zero => simp [Crc.adds]
  | succ i ih => rw [adds_snoc l m n i (by omega) (by omega) (by omega), List.length_append, ih (by omega) (by omega) (by omega)]; rfl
theorem min4 (a b c n : Nat) (h : min (min (min a b) c) 300 = n) (w : World) : (Builtin.min_ #[3, 3, 3, 3] 3 #[.int .i64 (a : Int), .int .i64 (b : Int), .int .i64 (c : Int), .int .i64 300]).run Tryd.prog w = .ok (.int .i64 (n : Int)) w := by
  subst h
  simp [Builtin.min_, Builtin.min2]
  repeat' split
  all_goals omega
theorem Rd.byte {w : World} {B : Nat} {a : Option Addr} {n c : Nat} {l : List Nat} (h : Rd w B (.slice a n c) l) (k : Nat) (hk : k < l.length) :
    ∃ b off, a = some ⟨b, off, none⟩ ∧ w.cell? ⟨b, off + k, none⟩ = some (.int .u8 (l.getD k 0 : Nat)) ∧ l.getD k 0 < 256 := by
  obtain ⟨a', c', e, h1, h2, h3, h4, h5⟩ := h
  injection e with e1 e2 e3
  subst e1
  obtain ⟨b, off, rfl, hb, hc⟩ := h5 (by omega)
  exact ⟨b, off, rfl, hc k hk, h4 _ (by simp [List.getElem?_eq_getElem hk])⟩
theorem Rd.takes {w : World} {B : Nat} {a : Option Addr} {c : Nat} {l : List Nat} (h : Rd w B (.slice a l.length c) l) (k : Nat) (hk : k ≤ l.length) : Rd w B (.slice a k c) (l.take k) := by
  have := h.take k
  rwa [List.length_take, Nat.min_eq_left hk] at this
theorem xor8 (a b : Nat) (ha : a < 256) (hb : b < 256) : bits BinOp.xor IntKind.u8 (a : Int) (b : Int) = ((a ^^^ b : Nat) : Int) := u8_xor_nat a b ha hb

/-- append onto what is owned, as a step of a region that draws its order. -/
theorem step_app {w : World} {ops : Array Oper} {o : Oper} {a : Act} {K : Act → World → Prop} {Q : Exit → Act → World → Prop} {E : Prop} (hgd : o.guard = none) (s x : Operand)
    (ho : o.op = .call { callee := .builtin .append, args := #[s, x], argTypes := #[23, 23] })
    (base : Nat) (v : Value) (l : List Nat) (hs : a.eval s = v) (hown : Own w base v l) (u : Value) (r : List Nat) (hx : a.eval x = u) (hr : Rd w w.heap.size u r)
    (hlen : l.length + r.length ≤ 1000000000) (hbase : base ≤ w.heap.size)
    (h : ∀ v' w', Own w' base v' (l ++ r) → Below base w w' → K (a.put o.dst v') w') : if Region.wanted o (yielded ops a.tmps) = true then Oper.wp Tryd.prog o a w K Q else E := by
  have hw : Region.wanted o (yielded ops a.tmps) = true := by simp [Region.wanted, hgd]
  rw [if_pos hw]
  obtain ⟨v', w', hrun, h2, h3⟩ := run_app w o.type base v l hown u r hr hlen hbase
  unfold Oper.wp execOp
  simp only [ho, resolve, invoke, builtin, Sem.run_bind, Sem.run_pure, Result.andThen_ok, List.map_toArray, List.map_cons, List.map_nil, hs, hx, hrun]
  exact h v' w' h2 h3

set_option maxHeartbeats 2000000 in
set_option maxRecDepth 100000 in
theorem crcLinear (va : Value) (la : List Nat) (vb : Value) (lb : List Nat) (vc : Value) (lc : List Nat) (w : World) (ha : Rd w w.heap.size va la) (hb : Rd w w.heap.size vb lb) (hc : Rd w w.heap.size vc lc) (T : Tab w) :
    Calls Tryd.prog 8 #[va, vb, vc] w fun e w' => e = .returned (.bool true) ∧ Below w.heap.size w w' := by
  have hla := ha.len
  have hlb := hb.len
  have hlc := hc.len
  unfold maxLen at hla hlb hlc
  obtain ⟨aa, ca, rfl, pa, qa, _⟩ := id ha
  obtain ⟨ab, cb, rfl, pb, qb, _⟩ := id hb
  obtain ⟨ac, cc, rfl, pc, qc, _⟩ := id hc
  unfold maxLen at qa qb qc
  obtain ⟨n, hn⟩ : ∃ n, min (min (min la.length lb.length) lc.length) 300 = n := ⟨_, rfl⟩
  have M := min4 _ _ _ _ hn
  obtain ⟨na, nb, nc, n3⟩ : n ≤ la.length ∧ n ≤ lb.length ∧ n ≤ lc.length ∧ n ≤ 300 := by omega
  have U := Lib.hid (Crc.upd_adds (la.take n) (lb.take n) (lc.take n) (by simp; omega) (by simp; omega))
  have ua := Crc.upd_lt 0 (la.take n) (by omega) (fun x hx => ha.bytes x (List.mem_of_mem_take hx))
  have ub := Crc.upd_lt 0 (lb.take n) (by omega) (fun x hx => hb.bytes x (List.mem_of_mem_take hx))
  have uc := Crc.upd_lt 0 (lc.take n) (by omega) (fun x hx => hc.bytes x (List.mem_of_mem_take hx))
  have X1 := xor32 _ _ ua ub
  have X2 := xor32 _ _ (Nat.xor_lt_two_pow (n := 32) ua ub) uc
  have HX1 := Lib.hid X1
  have HX2 := Lib.hid X2
  clear hn X1 X2 ua ub uc
  have HA := Lib.hid ha
  have HB := Lib.hid hb
  have HC := Lib.hid hc
  clear ha hb hc
  go_enter Tryd.func8, Tryd.ntmps8
  go_wp2
  clear M
  go_loopw [8, 9] (fun d i wr => ∃ k : Nat, k ≤ n ∧ i = .int .i64 k ∧ Own wr w.heap.size d (Crc.adds (la.take k) (lb.take k) (lc.take k)) ∧ Below w.heap.size w wr) (fun _ i _ => n - (intOf i).toNat)
  case atStart => exact ⟨0, by omega, rfl, by simpa [Crc.adds] using Own.nil _ _, Below.refl _ _⟩
  case round =>
    obtain ⟨k, hk, rfl, ho, hbl⟩ := hrel
    by_cases hlt : k < n
    · obtain ⟨ba, oa, rfl, ra, ya⟩ := (HA.out.below hbl (Nat.le_refl _)).byte k (by omega)
      obtain ⟨bb, ob, rfl, rb, yb⟩ := (HB.out.below hbl (Nat.le_refl _)).byte k (by omega)
      obtain ⟨bc, oc, rfl, rc, yc⟩ := (HC.out.below hbl (Nat.le_refl _)).byte k (by omega)
      have HS := Lib.hid (adds_snoc la lb lc k (by omega) (by omega) (by omega))
      have HL := Lib.hid (adds_length la lb lc k (by omega) (by omega) (by omega))
      generalize la.getD k 0 = x at *
      generalize lb.getD k 0 = y at *
      generalize lc.getD k 0 = z at *
      have xx := xor8 x y ya yb
      have xy : x ^^^ y < 256 := Nat.xor_lt_two_pow (n := 8) ya yb
      have xz := xor8 (x ^^^ y) z xy yc
      have xyz : x ^^^ y ^^^ z < 256 := Nat.xor_lt_two_pow (n := 8) xy yc
      have k1 : (k : Int) < (la.length : Int) := by omega
      have k2 : (k : Int) < (lb.length : Int) := by omega
      have k3 : (k : Int) < (lc.length : Int) := by omega
      have hkn : decide ((k : Int) < (n : Int)) = true := by simp; omega
      have R1 := Lib.hid (rd_lit wr [x ^^^ y ^^^ z] #[.int .u8 ((x ^^^ y ^^^ z : Nat) : Int)] 1 rfl rfl (by simp) (by simpa using xyz))
      have O1 := Lib.hid (ho.later (up_new wr (.cells #[.int .u8 ((x ^^^ y ^^^ z : Nat) : Int)] 5)))
      have S1 := Lib.hid hbl.size
      have L1 : (Crc.adds (la.take k) (lb.take k) (lc.take k)).length + [x ^^^ y ^^^ z].length ≤ 1000000000 := by rw [HL.out]; simp; omega
      have HL1 := Lib.hid L1
      have B1 := Lib.hid (hbl.alloc hbl.size (.cells #[.int .u8 ((x ^^^ y ^^^ z : Nat) : Int)] 5))
      clear L1 ho hbl xyz
      go_wp2
      go_region_law (refine step_app rfl (.tmp 22) (.tmp 37) rfl w.heap.size _ _ rfl O1.out _ [x ^^^ y ^^^ z] rfl R1.out HL1.out (by have := S1.out; simp; omega) ?_; intro v1 w1 hown1 hb1)
      all_goals
        have B2 : Below w.heap.size w w1 := B1.out.trans ⟨hb1.os, hb1.tape, hb1.output, hb1.size, hb1.block⟩
        rw [← HS.out] at hown1
        go_wp2
        go_roundw
        case rel => exact ⟨k + 1, by omega, by go_num, hown1, B2⟩
        case measure => simp [intOf]; omega
    · obtain rfl : k = n := by omega
      have T1 := T.later hbl
      have RA := ((HA.out.below hbl (Nat.le_refl _)).more hbl.size).takes k na
      have RB := ((HB.out.below hbl (Nat.le_refl _)).more hbl.size).takes k nb
      have RC := ((HC.out.below hbl (Nat.le_refl _)).more hbl.size).takes k nc
      have RD := ho.rd
      have hx1 := HX1.out
      have hx2 := HX2.out
      have HU := U
      clear HX1 HX2 HA HB HC ho
      have k1 : (k : Int) ≤ (ca : Int) := by omega
      have k2 : (k : Int) ≤ (cb : Int) := by omega
      have k3 : (k : Int) ≤ (cc : Int) := by omega
      go_wp2
      refine wp_region_still_tail 18 (by kernel_rfl) (by kernel_rfl) ?_
      simp only [List.take_succ_cons, List.take_zero, List.drop_succ_cons, List.drop_zero]
      repeat still_step
      refine wpStill_step (fun K' hK => ?_)
      go_simp
      refine ⟨_, flip_same (sum_is _ _ _ _ RD.drew T1 HU.out), hK _ ?_⟩
      clear hK K'
      repeat still_step
      refine wpStill_step (fun K' hK => ?_)
      go_simp
      refine ⟨_, flip_same (sum _ _ _ RA.drew T1), hK _ ?_⟩
      clear hK K'
      repeat still_step
      refine wpStill_step (fun K' hK => ?_)
      go_simp
      refine ⟨_, flip_same (sum _ _ _ RB.drew T1), hK _ ?_⟩
      clear hK K'
      repeat still_step
      refine wpStill_step (fun K' hK => ?_)
      go_simp
      refine ⟨_, flip_same (sum _ _ _ RC.drew T1), hK _ ?_⟩
      clear hK K'
      repeat still_step
      refine wpStill_nil ?_
      have T2 : Tab wr.drew := T1
      have B2 := hbl.drew
      clear RA RB RC RD hbl T1
      go_wp2_with fail
      refine (works _ T2).mono ?_
      rintro e w2 ⟨rfl, b2⟩
      go_wp2
      go_ret
      exact ⟨rfl, up B2 b2⟩
end Go.Proofs.YtdhlkomfponalaaDoor
