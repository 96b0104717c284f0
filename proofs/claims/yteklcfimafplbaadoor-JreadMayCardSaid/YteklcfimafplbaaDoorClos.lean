/- The program's reader: single bytes; what was opened last ends. -/
import Derived.Test.YteklcfimafplbaaDoorOpen
namespace Go.Proofs.YteklcfimafplbaaDoor
open Go.RowKit
set_option linter.unusedVariables false
set_option maxRecDepth 100000

/-- The cells of what was opened last. -/
theorem last_open {W w : World} {n c : Nat} {ad : Option Addr} {O O' : List Op1} {x : Op1} (h : Gn.Rd opc 3 W W.heap.size (.slice ad n c) O) (hO : O = O' ++ [x]) (hb : Below W.heap.size W w) :
    ∃ b off, ad = some ⟨b, off, none⟩ ∧ w.cell? ⟨b, off + O'.length * 3, none⟩ = some (.int .i64 (x.at_ : Nat)) ∧ w.cell? ⟨b, off + O'.length * 3 + 1, none⟩ = some (.int .u8 (x.fin : Nat)) ∧ w.cell? ⟨b, off + O'.length * 3 + 2, none⟩ = some (.map x.m) := by
  have hl : O'.length < O.length := by rw [hO]; simp
  obtain ⟨b, off, rfl, _, hc⟩ := Gn.Rd.at h hb hl
  have e : O[O'.length] = x := by simp [hO]
  rw [e] at hc
  exact ⟨b, off, rfl, hc 0 _ rfl, hc 1 _ rfl, hc 2 _ rfl⟩
theorem eql_map0 (w : World) : (binOp .eql 115 (.map none) (.map none)).run Tryd.prog w = .ok (.bool true) w := by kernel_rfl
theorem eql_map1 (j : Nat) (w : World) : (binOp .eql 115 (.map (some j)) (.map none)).run Tryd.prog w = .ok (.bool false) w := by kernel_rfl
theorem PS.drew {w : World} {B g : Nat} {S : ByteArray} {t : Jr.St} {ov tv : Value} {O : List Op1} (h : PS w B g S t ov tv O) (m : Nat) : PS (w.drewN m) B g S t ov tv O := h.later (below_drewN (Below.refl _ _) m)
set_option maxHeartbeats 2000000 in
theorem jahead {w : World} {B g : Nat} {S : ByteArray} {t : Jr.St} {ov tv : Value} {O : List Op1} {f : Jr.Fr} {r : List Jr.Fr} (h : PS w B g S t ov tv O) (hop : t.op = f :: r) :
    Calls Tryd.prog 69 #[.pointer (some ⟨g, 0, none⟩)] w fun e w' => e = .returned (.int .i64 (nxn (Jr.ahead t.op))) ∧ ∃ m, w' = w.drewN m := by
  have hors := h.ors
  rw [hop] at hors
  obtain ⟨O', m, hO, h1, h2⟩ := hors
  obtain ⟨p, hp⟩ : ∃ p, O'.length = p := ⟨_, rfl⟩
  obtain ⟨n, hn⟩ : ∃ n, O.length = n := ⟨_, rfl⟩
  have hnp : n = p + 1 := by rw [← hn, ← hp, hO]; simp
  obtain ⟨oa, oc, rfl⟩ := rdv (Gn.Own.rd opL h.opn) n hn
  obtain ⟨ob, off, rfl, _, _, c2⟩ := last_open (Gn.Own.rd opL h.opn) hO (Below.refl _ _)
  rw [hp] at c2
  obtain ⟨_, _, _, _, c4, _⟩ := h.rp.lie
  have e1 : (n : Int) - 1 = (p : Nat) := by omega
  have e2 : (p : Int) < n := by omega
  have e3 : p < n := by omega
  have hp64 : n ≤ 65 := by have := h.ors.len; have := h.deep; omega
  have e4 : IntKind.i64.wrap ((n : Int) - 1) = (p : Nat) := by rw [IntWalk.i64_in _ ⟨by omega, by omega⟩]; exact e1
  have e5 : IntKind.i64.wrap (p : Int) = (p : Int) := IntWalk.i64_in _ ⟨by omega, by omega⟩
  rw [hop]
  simp only at c2
  rcases h2 with ⟨k6, rfl⟩ | ⟨k7, j, rfl, _⟩
  · rw [show nxn (Jr.ahead (f :: r)) = 0 by show nxn (if f.kind = 7 then Jr.Nx.key else Jr.Nx.value) = 0; rw [if_neg (by omega)]; rfl]
    have em := fun n => eql_map0 (w.drewN n)
    clear h hO h1 hn hp hnp k6 hop
    go_enter Tryd.func69, Tryd.ntmps69
    go_wp2_with fail
    go_quiet (fail)
    go_wp2_with fail
    go_ret
    exact ⟨rfl, _, rfl⟩
  · rw [show nxn (Jr.ahead (f :: r)) = 2 by show nxn (if f.kind = 7 then Jr.Nx.key else Jr.Nx.value) = 2; rw [if_pos k7]; rfl]
    have em := fun n => eql_map1 j (w.drewN n)
    clear h hO h1 hn hp hnp k7 hop
    go_enter Tryd.func69, Tryd.ntmps69
    go_wp2_with fail
    go_quiet (fail)
    go_wp2_with fail
    go_ret
    exact ⟨rfl, _, rfl⟩
set_option maxHeartbeats 2000000 in
theorem jtakeMark {w : World} {B g : Nat} {S : ByteArray} {t : Jr.St} {ov tv : Value} {O : List Op1} (h : PS w B g S t ov tv O) (hm : S.size ≤ 1048576) (c : Nat) (hc : c < 256) (hc0 : c ≠ 0) (nx : Jr.Nx) :
    Calls Tryd.prog 71 #[.pointer (some ⟨g, 0, none⟩), .int .u8 (c : Nat), .int .i64 (nxn nx)] w fun e w' =>
      e = .returned (.int .i64 (code (if Jr.hd t.s ≠ c then .inr (.err t.at_ 70) else .inl (Jr.go t 1 nx)))) ∧ After w B g S (if Jr.hd t.s ≠ c then .inr (.err t.at_ 70) else .inl (Jr.go t 1 nx)) w' := by
  obtain ⟨d, hd⟩ : ∃ d, Jr.hd (left S t.at_) = d := ⟨_, rfl⟩
  have C := Lib.hid (jhere h.rp h.le hm d hd)
  obtain ⟨_, c1, c2, _⟩ := h.rp.lie
  have H := Lib.hid h
  rw [h.s, hd]
  by_cases he : d = c
  · have hne : ((d : Int) != c) = false := by simp [he]
    have hin := hd_in (S := S) (a := t.at_) (by rw [hd, he]; exact hc0)
    rw [if_neg (by simp [he])]
    have f1 := fun m => Blk.frozen (h.rp.drew m) 1
    have f2 := fun m => Blk.frozen ((h.rp.drew m).putA (t.at_ + 1)) 2
    have d2 := fun m => ((h.rp.drew m).putA (t.at_ + 1)).lie.2.2.1
    simp only [Int.natCast_add, Int.natCast_one] at f2 d2
    have HW := Lib.hid (fun m => (show Went w (((w.drewN m).setCell ⟨g, 1, none⟩ (.int .i64 ((t.at_ + 1 : Nat) : Int))).setCell ⟨g, 2, none⟩ (.int .i64 (nxn nx))) g S (t.at_ + 1) (nxn nx) t.key ov tv from ⟨((H.out.rp.drew m).putA (t.at_ + 1)).putN _, (touchD w _ m).trans ((touchG _ g 1 _).trans (touchG _ g 2 _) (fun i hi => .inl hi)) (fun i hi => .inl hi)⟩))
    simp only [Int.natCast_add, Int.natCast_one] at HW
    clear h he hd
    go_enter Tryd.func71, Tryd.ntmps71
    go_wp2_with fail
    ((with_reducible refine (C.out).mono ?_); rintro e w1 ⟨rfl, m, rfl⟩)
    have f1 := f1 m
    have f2 := f2 m
    have d2 := d2 m
    go_wp2_with fail
    go_ret
    refine ⟨rfl, (HW.out m).below H.out.gB H.out.wB, ov, tv, O, PS.went (u := Jr.go t 1 nx) H.out (HW.out m) rfl rfl ?_ ?_⟩
    · show t.s.drop 1 = left S (t.at_ + 1)
      rw [H.out.s, left_drop]
    · show t.at_ + 1 ≤ S.size
      omega
  · have hne : ((d : Int) != c) = true := by simp; omega
    rw [if_pos he]
    clear h he hd
    go_enter Tryd.func71, Tryd.ntmps71
    go_wp2_with fail
    ((with_reducible refine (C.out).mono ?_); rintro e w1 ⟨rfl, m, rfl⟩)
    go_wp2_with fail
    go_ret
    exact ⟨rfl, (below_drewN (Below.refl _ _) m).mono H.out.wB, _, _, _, _, H.out.rp.drew m⟩
theorem own_addrG {α : Type} {enc : α → List Value} {k : Nat} {T : TypeId} {w : World} {B n cap : Nat} {ad : Option Addr} {l : List α} (h : Gn.Own enc k T w B (.slice ad n cap) l) (h0 : 0 < l.length) : ∃ g, ad = some ⟨g, 0, none⟩ := by
  rcases h.2 with ⟨_, e⟩ | ⟨g, c, cur, e, _⟩
  · omega
  · injection e with e
    exact ⟨g, e⟩
/-- A cut row is owned. -/
theorem own_cutO {w : World} {B : Nat} {a : Option Addr} {n c p : Nat} {O : List Op1} (h : OwnO w B (.slice a n c) O) (hn : O.length = n) (hp : p < n) : OwnO w B (.slice a p c) (O.take p) := by
  obtain ⟨h0, h1⟩ := h
  rcases h1 with ⟨e, _⟩ | ⟨g, cap, cur, e, hg, hh, h2, h3, h4, h5⟩
  · injection e with e1 e2 e3
    omega
  · injection e with e1 e2 e3
    subst e1 e3
    refine ⟨by rw [Gn.cells_len opL, List.length_take], .inr ⟨g, c, cur, by rw [List.length_take, Nat.min_eq_left (by omega)], hg, hh, by rw [List.length_take]; omega, h3, h4, ?_⟩⟩
    rw [List.length_take, Nat.min_eq_left (by omega)]
    have e5 : cur.toList.take (p * 3) = (cur.toList.take (O.length * 3)).take (p * 3) := by rw [List.take_take]; congr 1; omega
    rw [e5, h5]
    conv => lhs; rw [← List.take_append_drop p O, Gn.cells_append, List.take_append_of_le_length (by rw [Gn.cells_len opL, List.length_take]; omega), List.take_of_length_le (by rw [Gn.cells_len opL, List.length_take]; omega)]
theorem run_cutO (w : World) (b n c p : Nat) (hp : p ≤ n) (hn : n ≤ c) : (Instr.slice 79 (.slice (some ⟨b, 0, none⟩) n c) none (some (.int .i64 (p : Nat))) none).run Tryd.prog w = .ok (.slice (some ⟨b, 0, none⟩) p c) w := by
  rw [run_slice_h w _ _ _ _ (opY.el.symm ▸ opY.sl) _ _ (by omega) (by omega), opY.el, Gn.sz_of opY]
  simp [sliced, Gn.plain]
theorem endOf_ne (k : Int) : Jr.endOf k ≠ 0 ∧ Jr.endOf k < 256 := by unfold Jr.endOf; split <;> simp
/-- A node of an owned row gets its size. -/
theorem zf_close (f : Jr.Fr) (r : List Jr.Fr) (R : Fo) : (Jr.zf id (f :: r) R).set (Jr.cnt r R) ⟨f.kind, f.key, 0, ⟨#[]⟩, 1 + (Tp.sz f.done : Nat)⟩ = Jr.zf id (Jr.place (Jr.nd1 f.kind f.key 0 ⟨#[]⟩ f.done) r R).1 (Jr.place (Jr.nd1 f.kind f.key 0 ⟨#[]⟩ f.done) r R).2 := by
  rw [Jr.place_zf]
  unfold Jr.nd1
  rw [Tp.flat_node, Tp.flat_nil, List.append_nil, ← Jr.zf_len id r R]
  show (Jr.zf id r R ++ _ :: _).set _ _ = _
  rw [List.set_append_right (h := Nat.le_refl _), Nat.sub_self]
  rfl
theorem zf_at (f : Jr.Fr) (r : List Jr.Fr) (R : Fo) : (Jr.zf id (f :: r) R)[Jr.cnt r R]? = some ⟨f.kind, f.key, 0, ⟨#[]⟩, 0⟩ := by
  rw [← Jr.zf_len id r R]
  show (Jr.zf id r R ++ _ :: _)[_]? = _
  rw [List.getElem?_append_right (Nat.le_refl _), Nat.sub_self]
  rfl
/-- What was opened last has ended. -/
theorem cls_after {w1 : World} {B g gt N tc p n b oc : Nat} {S : ByteArray} {t : Jr.St} {O O' : List Op1} {f : Jr.Fr} {r : List Jr.Fr} {m : Option Nat} (h : PS w1 B g S t (.slice (some ⟨b, 0, none⟩) n oc) (.slice (some ⟨gt, 0, none⟩) N tc) O) (hnp : n = p + 1) (hop : t.op = f :: r) (hN : Jr.cnt t.op t.root = N) (hO : O = O' ++ [⟨Jr.cnt r t.root, Jr.endOf f.kind, m⟩]) (hO' : OR w1 B r t.root O') (hp : O'.length = p) (hin : t.at_ < S.size) (z : Int) (hz : z = 1 + (Tp.sz f.done : Nat)) :
    ∃ w2, w2 = w1.setCell ⟨gt, Jr.cnt r t.root * 5 + 4, none⟩ (.int .i64 z) ∧ w2.frozen? ⟨g, 4, none⟩ = false ∧ w2.cell? ⟨g, 4, none⟩ = some (.slice (some ⟨b, 0, none⟩) n oc) ∧
    ∃ w3, w3 = w2.setCell ⟨g, 4, none⟩ (.slice (some ⟨b, 0, none⟩) p oc) ∧ w3.frozen? ⟨g, 1, none⟩ = false ∧ w3.cell? ⟨g, 1, none⟩ = some (.int .i64 (t.at_ : Nat)) ∧
    ∃ w4, w4 = w3.setCell ⟨g, 1, none⟩ (.int .i64 ((t.at_ : Int) + 1)) ∧ w4.frozen? ⟨g, 2, none⟩ = false ∧ w4.cell? ⟨g, 2, none⟩ = some (.int .i64 (nxn t.nx)) ∧
      Hid (After w1 B g S (.inl (Jr.cls t)) (w4.setCell ⟨g, 2, none⟩ (.int .i64 4))) := by
  subst hnp
  have hT := h.tape
  rw [hop] at hT hN
  have hx := zf_at f r t.root
  have t2 := own_put (m := 4) (u := .int .i64 z) (x' := ⟨f.kind, f.key, 0, ⟨#[]⟩, z⟩) hT (by rw [Jr.zf_len]; exact hN) hx rfl (by omega)
  rw [hz, zf_close] at t2
  have hgt : gt ≠ g := fun e => own_blk h.tape h.rp ne_rd.1 (by rw [e]; rfl)
  have tt : Touch (fun i => i = gt) w1 (w1.setCell ⟨gt, Jr.cnt r t.root * 5 + 4, none⟩ (.int .i64 z)) := touchG w1 gt _ _
  have r2 := h.rp.touch tt hgt.symm
  have o2 : OwnO _ B _ O := own_keep h.opn tt (fun i hi e => own_dj h.opn h.tape ne_rd.2.2 i hi (by rw [e]; rfl))
  have s2 : OR _ B r t.root O' := OR.touch tt (fun j ys hs e => own_set' h.tape hs (by rw [e]; rfl)) hO'
  rw [← hz] at t2
  refine ⟨_, rfl, Blk.frozen r2 4, r2.lie.2.2.2.2.1, ?_⟩
  have hOl : O.length = p + 1 := by rw [hO]; simp [hp]
  have o3 := own_cutO (p := p) o2 hOl (by omega)
  have hOt : O.take p = O' := by rw [hO, ← hp]; simp
  rw [hOt] at o3
  have r3 := r2.putO (.slice (some ⟨b, 0, none⟩) p oc)
  refine ⟨_, rfl, Blk.frozen r3 1, r3.lie.2.1, ?_⟩
  have r4 := r3.putA (t.at_ + 1)
  simp only [Int.natCast_add, Int.natCast_one] at r4
  refine ⟨_, rfl, Blk.frozen r4 2, r4.lie.2.2.1, Lib.hid ?_⟩
  have r5 := r4.putN 4
  have tg := ((touchG (w1.setCell ⟨gt, Jr.cnt r t.root * 5 + 4, none⟩ (.int .i64 z)) g 4 (.slice (some ⟨b, 0, none⟩) p oc)).trans (touchG _ g 1 (.int .i64 ((t.at_ : Int) + 1))) (fun i hi => .inl hi)).trans (touchG _ g 2 (.int .i64 4)) (fun i hi => .inl hi)
  have ta := (tt.mono (S' := fun i => i = gt ∨ i = g) (fun i hi => .inl hi)).trans tg (fun i hi => .inl (.inr hi))
  have hgB := h.gB
  have htB : B ≤ gt := (h.tape.lt gt rfl).1
  have e1 : Jr.cls t = ⟨t.at_ + 1, t.s.drop 1, .behind, t.key, (Jr.place (Jr.nd1 f.kind f.key 0 ⟨#[]⟩ f.done) r t.root).1, (Jr.place (Jr.nd1 f.kind f.key 0 ⟨#[]⟩ f.done) r t.root).2⟩ := by unfold Jr.cls; rw [hop]
  rw [e1]
  have hdeep := h.deep
  have hcnt := h.cnt
  rw [hop] at hdeep hcnt
  refine ⟨ta.below h.wB (fun i hi => by rcases hi with rfl | rfl <;> assumption), .slice (some ⟨b, 0, none⟩) p oc, .slice (some ⟨gt, 0, none⟩) N tc, O', r5, ?_, ?_, ?_, hgB, Nat.le_trans h.wB ta.size, ?_, ?_, ?_, ?_, h.tB⟩
  · exact own_keep t2 tg (fun i hi e => own_blk t2 r2 ne_rd.1 (by rw [← e]; exact hi))
  · have o4 : OwnO _ B (.slice (some ⟨b, 0, none⟩) p oc) O' := own_keep o3 tg (fun i hi e => own_blk o3 r2 ne_rd.2.1 (by rw [← e]; exact hi))
    exact o4
  · exact OR.place _ (OR.touch tg (fun j ys hs e => blk_set r2 hs e.symm) s2)
  · show t.s.drop 1 = left S (t.at_ + 1)
    rw [h.s, left_drop]
  · show t.at_ + 1 ≤ S.size
    omega
  · show Jr.cnt (Jr.place _ r t.root).1 (Jr.place _ r t.root).2 ≤ 4000
    rw [Jr.place_cnt]
    unfold Jr.nd1
    rw [Tp.sz_node, Tp.sz_nil]
    show Jr.cnt r t.root + (1 + Tp.sz f.done + 0) ≤ 4000
    have : Jr.cnt r t.root + (1 + Tp.sz f.done) ≤ 4000 := hcnt
    omega
  · show (Jr.place _ r t.root).1.length ≤ 64
    rw [Jr.place_len]
    simp at hdeep
    omega
set_option maxHeartbeats 8000000 in
theorem jtakeEnd {w : World} {B g : Nat} {S : ByteArray} {t : Jr.St} {ov tv : Value} {O : List Op1} {f : Jr.Fr} {r : List Jr.Fr} (h : PS w B g S t ov tv O) (hop : t.op = f :: r) (hm : S.size ≤ 1048576) :
    Calls Tryd.prog 68 #[.pointer (some ⟨g, 0, none⟩)] w fun e w' =>
      (Jr.hd t.s = Jr.endOf f.kind ∧ e = .returned (.bool true) ∧ After w B g S (.inl (Jr.cls t)) w') ∨
      (Jr.hd t.s ≠ Jr.endOf f.kind ∧ e = .returned (.bool false) ∧ PS w' B g S t ov tv O ∧ Below w.heap.size w w') := by
  have hors := h.ors
  rw [hop] at hors
  obtain ⟨O', m, hO, h1, h2⟩ := hors
  obtain ⟨p, hp⟩ : ∃ p, O'.length = p := ⟨_, rfl⟩
  obtain ⟨n, hn⟩ : ∃ n, O.length = n := ⟨_, rfl⟩
  have hnp : n = p + 1 := by rw [← hn, ← hp, hO]; simp
  obtain ⟨N, hN⟩ : ∃ N, Jr.cnt t.op t.root = N := ⟨_, rfl⟩
  obtain ⟨oa, oc, rfl⟩ := rdv (Gn.Own.rd opL h.opn) n hn
  obtain ⟨ta, tc, rfl⟩ := rdv (Gn.Own.rd ndL h.tape) N (by rw [Jr.zf_len]; exact hN)
  obtain ⟨ob, rfl⟩ := own_addrG h.opn (by omega)
  have hNp : Jr.cnt r t.root + (1 + Tp.sz f.done) = N := by rw [← hN, hop]; rfl
  obtain ⟨gt, rfl⟩ := own_addr h.tape (by rw [Jr.zf_len]; omega)
  obtain ⟨wb, hwb⟩ : ∃ wb, wb = w.alloc (.cells #[.int .i64 (Jr.cnt r t.root : Nat), .int .u8 (Jr.endOf f.kind : Nat), .map m] 117) := ⟨_, rfl⟩
  have bu : Below w.heap.size w wb := by rw [hwb]; exact up_new _ _
  have hbk : Blk wb w.heap.size 117 [.int .i64 (Jr.cnt r t.root : Nat), .int .u8 (Jr.endOf f.kind : Nat), .map m] := by rw [hwb]; exact Blk.new w _ _
  have hb1 := h.later bu
  have ho1 : OR wb B r t.root O' := OR.touch (Touch.of_below (S := fun _ => False) bu) (fun _ _ _ hf => hf) h1
  obtain ⟨b0, off0, e0, p0, p1, p2⟩ := last_open (Gn.Own.rd opL h.opn) hO (Below.refl _ _)
  obtain ⟨rfl, rfl⟩ : ob = b0 ∧ 0 = off0 := by injection e0 with e0; injection e0 with e1 e2; exact ⟨e1, e2⟩
  rw [hp] at p0 p1 p2
  simp only [Nat.zero_add] at p0 p1 p2
  have g0 := hbk.cell 0
  have g1 := hbk.cell 1
  simp only [List.getElem?_cons_zero, List.getElem?_cons_succ] at g0 g1
  obtain ⟨fin, hfin⟩ : ∃ x, Jr.endOf f.kind = x := ⟨_, rfl⟩
  obtain ⟨pl, hpl⟩ : ∃ x, Jr.cnt r t.root = x := ⟨_, rfl⟩
  rw [hfin] at p1 g1 hwb
  rw [hpl] at p0 g0 hwb
  obtain ⟨_, _, _, _, c4, c5⟩ := h.rp.lie
  obtain ⟨_, k1, k2, _, k4, k5⟩ := hb1.rp.lie
  have e1 : (n : Int) - 1 = (p : Nat) := by omega
  have e2 : (p : Int) < n := by omega
  have e3 : p < n := by omega
  have hp64 : n ≤ 65 := by have := h.ors.len; have := h.deep; omega
  have e4 : IntKind.i64.wrap ((n : Int) - 1) = (p : Nat) := by rw [IntWalk.i64_in _ ⟨by omega, by omega⟩]; exact e1
  have e5 : IntKind.i64.wrap (p : Int) = (p : Int) := IntWalk.i64_in _ ⟨by omega, by omega⟩
  have hN4 : N ≤ 4000 := by rw [← hN]; exact h.cnt
  have H := Lib.hid h
  have H1 := Lib.hid hb1
  have HO := Lib.hid hO
  have HO1 := Lib.hid ho1
  have HOP := Lib.hid hop
  have HFN := Lib.hid hfin
  have HPL := Lib.hid hpl
  have HPN := Lib.hid (And.intro hp hn)
  have HN := Lib.hid hN
  have HWB := Lib.hid hwb
  have HBU := Lib.hid bu
  have HNP := Lib.hid hNp
  obtain ⟨d, hd⟩ : ∃ d, Jr.hd (left S t.at_) = d := ⟨_, rfl⟩
  have HD := Lib.hid hd
  have C := Lib.hid (fun m => jhere (hb1.rp.drew m) hb1.le hm d hd)
  rw [h.s, hd, hfin]
  obtain ⟨gb, hgb⟩ : ∃ gb, gb = w.heap.size := ⟨_, rfl⟩
  rw [← hgb] at g0 g1
  have HGB := Lib.hid hgb
  rw [hpl] at hNp
  have hplN : (pl : Int) < N := by omega
  have hpls : (N : Int) - pl = 1 + (Tp.sz f.done : Nat) := by omega
  have hplw : IntKind.i64.wrap ((N : Int) - pl) = (N : Int) - pl := IntWalk.i64_in _ ⟨by omega, by omega⟩
  have hft := fun j => own_melt hb1.tape (by rw [Jr.zf_len]; exact hN) j
  have hx := zf_at f r t.root
  rw [← hop, hpl] at hx
  obtain ⟨b1, o1, q0, _, _, _, _, q4⟩ := rdN_cells (Gn.Own.rd ndL hb1.tape) (Below.refl _ _) hx
  obtain ⟨rfl, rfl⟩ : gt = b1 ∧ 0 = o1 := by injection q0 with q0; injection q0 with e1 e2; exact ⟨e1, e2⟩
  simp only [Nat.zero_add] at q4
  have HPS := Lib.hid hpls
  clear h hO h1 h2 hn hp hop hfin hpl hb1 ho1 bu hbk hwb hgb hN hd hx hnp hNp hpls
  go_enter Tryd.func68, Tryd.ntmps68
  go_wp2_with fail
  rw [← HWB.out, ← HGB.out]
  by_cases he : d = fin
  · have hne : ((d : Int) != fin) = false := by simp [he]
    have HE := Lib.hid he
    clear he
    go_wp2_with fail
    go_quiet ((go_at_call 97; exact Calls.quiet_of (C.out _)))
    obtain ⟨w1, hw1⟩ : ∃ w1, w1 = wb.drewN nq := ⟨_, rfl⟩
    rw [← hw1]
    have HP1 := Lib.hid (show PS w1 B g S t (.slice (some ⟨ob, 0, none⟩) n oc) (.slice (some ⟨gt, 0, none⟩) N tc) O by rw [hw1]; exact H1.out.drew nq)
    have HB1 := Lib.hid (show Below w.heap.size w w1 by rw [hw1]; exact below_drewN HBU.out nq)
    have HR1 := Lib.hid (show OR w1 B r t.root O' by rw [hw1]; exact OR.touch (touchD wb (fun _ => False) nq) (fun _ _ _ hf => hf) HO1.out)
    replace g0 : w1.cell? ⟨gb, 0, none⟩ = some (.int .i64 (pl : Nat)) := by rw [hw1]; exact g0
    replace k4 : w1.cell? ⟨g, 4, none⟩ = some (.slice (some ⟨ob, 0, none⟩) n oc) := by rw [hw1]; exact k4
    replace k5 : w1.cell? ⟨g, 5, none⟩ = some (.slice (some ⟨gt, 0, none⟩) N tc) := by rw [hw1]; exact k5
    replace q4 : w1.cell? ⟨gt, pl * 5 + 4, none⟩ = some (.int .i64 0) := by rw [hw1]; exact q4
    replace hft : ∀ j, w1.frozen? ⟨gt, j, none⟩ = false := by rw [hw1]; exact hft
    clear hw1
    go_wp2_with fail
    go_region
    have hnp : n = p + 1 := by
      have h1 := HPN.out.1
      have h2 := HPN.out.2
      rw [HO.out, List.length_append, h1] at h2
      simp at h2
      omega
    have hlt := hd_in (S := S) (a := t.at_) (by rw [HD.out, HE.out, ← HFN.out]; exact (endOf_ne _).1)
    obtain ⟨w2, hw2, f4, d4, w3, hw3, f1, d1, w4, hw4, f2, d2, HF⟩ := cls_after (w1 := w1.drew) (show PS w1.drew B g S t _ _ O from HP1.out.later (Below.refl _ _).drew) hnp HOP.out HN.out HO.out (show OR w1.drew B r t.root O' from OR.touch (Touch.drew (Touch.refl (fun _ => False) _)) (fun _ _ _ hf => hf) HR1.out) HPN.out.1 hlt ((N : Int) - pl) HPS.out
    have hpc : p ≤ oc := by
      have := HP1.out.opn.2
      have h2 := HPN.out.2
      rcases this with ⟨e, _⟩ | ⟨_, cap, _, e, _, _, h2, _⟩ <;> injection e with e1 e2 e3 <;> omega
    have e2w : (w1.setCell ⟨gt, pl * 5 + 4, none⟩ (.int .i64 ((N : Int) - pl))).drew = w2 := by rw [hw2, HPL.out]; rfl
    rw [e2w]
    have HA := Lib.hid HF.out
    have HW3 := Lib.hid hw3
    have HW4 := Lib.hid hw4
    rw [hw3] at f1 d1
    rw [hw4, hw3] at f2 d2 HA
    clear hw2 hw3 hw4 e2w HF hft q4 k4 k5 g0
    go_wp2_with fail
    go_ret
    refine .inl ⟨HE.out, rfl, After.before ((HB1.out.drew).mono H.out.wB) ?_⟩
    exact HA.out
  · have hne : ((d : Int) != fin) = true := by simp; omega
    have HE := Lib.hid he
    clear he
    go_wp2_with fail
    go_quiet ((go_at_call 97; exact Calls.quiet_of (C.out _)))
    go_wp2_with fail
    go_ret
    exact .inr ⟨HE.out, rfl, H1.out.drew nq, below_drewN HBU.out nq⟩
end Go.Proofs.YteklcfimafplbaaDoor
