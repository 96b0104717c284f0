/- The walk of CrcKnown: it returns true and changes nothing that was there. Four rows grow beside each other: they lie apart. -/
import Derived.Test.YtdhlkomfponalaaDoorTurn
namespace Go.Proofs.YtdhlkomfponalaaDoor
open Go.RowKit
set_option linter.unusedVariables false

/-- Two slices that share no block. -/
def Apart (u v : Value) : Prop := ∀ k, u.ownBlock = some k → v.ownBlock ≠ some k
theorem Apart.symm {u v : Value} (h : Apart u v) : Apart v u := fun k hk hu => h k hu hk
theorem Apart.nil (v : Value) : Apart (.slice none 0 0) v := fun k hk => by cases hk

/-- append onto one of several owned rows: the others stay. -/
theorem run_app_one (w : World) (ty : TypeId) (base : Nat) (v : Value) (l : List Nat) (hown : Own w base v l) (a : Addr) (c : Nat) (r : List Nat) (hr : Rd w w.heap.size (.slice (some a) r.length c) r)
    (hlen : l.length + r.length ≤ 1000000000) (hbase : base ≤ w.heap.size) :
    ∃ v' w', (Builtin.append_ #[23, 23] ty #[v, .slice (some a) r.length c]).run Tryd.prog w = .ok v' w' ∧ Own w' base v' (l ++ r) ∧ Below base w w' ∧
      ∀ u m, Own w base u m → Apart u v → Own w' base u m ∧ Apart u v' := by
  obtain ⟨i, hi, hz, hs, hby⟩ := byte_parts
  have hbt : ∀ x ∈ l ++ r, x < 256 := fun x hx => (List.mem_append.1 hx).elim (hown.2 x) (hr.bytes x)
  obtain ⟨a', c', e, hlc, hc, hnil, _, hcell⟩ := hr
  injection e with e1 e2 e3
  subst e1 e3
  have hnews : ∀ j q, (vals r)[j]? = some q → w.cell? (a.add j) = some q := by
    intro j q hq
    obtain ⟨hj, rfl⟩ := vals_get hq
    obtain ⟨b, off, e, _, hcc⟩ := hcell (by omega)
    injection e with e
    subst e
    rw [add_plain]
    exact hcc j hj
  obtain ⟨v', w', hrun, h2, h3, _, h5⟩ := run_append_own_at (P := Tryd.prog) w base 23 ty 5 i _ 1 1 Tryd.underlying23 hi hz hs hby rfl (by omega) v l.length (vals l) hown.1 a r.length c (vals r)
    (by rw [vals_length]; omega) hnews (vals_one r) (by simp only [maxLen]; omega) (by omega) hbase
  refine ⟨v', w', hrun, ⟨?_, hbt⟩, (Below.refl _ _).grown h3 hbase (fun k hk => (hown.1.lt k hk).1), fun u m hu hap => ⟨⟨hu.1.kept h3 ?_, hu.2⟩, fun k hk => ?_⟩⟩
  · rw [List.length_append, vals_append]; exact h2
  · cases hob : u.ownBlock with
    | none => exact .inl rfl
    | some k => exact .inr fun e => hap k hob e.symm
  · rcases h5 with h5 | h5
    · rw [h5]; exact hap k hk
    · rw [h5]
      have := (hu.1.lt k hk).2
      intro e
      injection e with e
      omega
theorem wpList_app_one {w : World} {ops : Array Oper} {rest : List Oper} {o : Oper} {a : Act} {Q : Exit → Act → World → Prop} (hgd : o.guard = none) (s x : Operand)
    (ho : o.op = .call { callee := .builtin .append, args := #[s, x], argTypes := #[23, 23] })
    (base : Nat) (v : Value) (l : List Nat) (hs : a.eval s = v) (hown : Own w base v l) (ad : Addr) (n c : Nat) (r : List Nat) (hx : a.eval x = .slice (some ad) n c) (hn : n = r.length) (hr : Rd w w.heap.size (.slice (some ad) n c) r)
    (hlen : l.length + r.length ≤ 1000000000) (hbase : base ≤ w.heap.size)
    (h : ∀ v' w', Own w' base v' (l ++ r) → Below base w w' → (∀ u m, Own w base u m → Apart u v → Own w' base u m ∧ Apart u v') → wpList Tryd.prog ops Q rest (a.put o.dst v') w') : wpList Tryd.prog ops Q (o :: rest) a w := by
  subst hn
  refine wpList_plain hgd fun K hK => ?_
  obtain ⟨v', w', hrun, h2, h3, h4⟩ := run_app_one w o.type base v l hown ad c r hr hlen hbase
  unfold Oper.wp execOp
  simp only [ho, resolve, invoke, builtin, Sem.run_bind, Sem.run_pure, Result.andThen_ok, List.map_toArray, List.map_cons, List.map_nil, hs, hx, hrun]
  exact hK _ _ (h v' w' h2 h3 h4)

/-- Four rows that a call owns, apart from each other, k bytes having been laid into each. -/
def Four (w : World) (base : Nat) (a b c d : Value) (k : Nat) : Prop :=
  Own w base a (List.replicate k 0) ∧ Own w base b (List.replicate k 255) ∧ Own w base c (List.range k) ∧ Own w base d ((List.range k).map (31 - ·)) ∧
  Apart a b ∧ Apart a c ∧ Apart a d ∧ Apart b c ∧ Apart b d ∧ Apart c d
theorem heap_size_alloc' (w : World) (o : Obj) : (w.alloc o).heap.size = w.heap.size + 1 := by simp
theorem Own.alloc {w : World} {base : Nat} {v : Value} {l : List Nat} (h : Own w base v l) (o : Obj) : Own (w.alloc o) base v l := h.later (up_new w o)

/-- Join of 0: nothing is carried. -/
theorem join_none (b n : Nat) (w : World) (hb : b < 4294967296) (hn : n ≤ 9223372036854775807) (T : Tab w) :
    Calls Tryd.prog 18 #[.int .u32 0, .int .u32 b, .int .i64 n] w fun e w' => e = .returned (.tuple #[.int .u32 b, .int .i64 0]) ∧ Below w.heap.size w w' := by
  have h := join 0 b n w (by omega) hb hn T
  rw [Crc.zs_zero, Nat.zero_xor] at h
  exact h

set_option maxHeartbeats 4000000 in
set_option maxRecDepth 100000 in
theorem crcKnown (w : World) (T : Tab w) :
    Calls Tryd.prog 10 #[] w fun e w' => e = .returned (.bool true) ∧ Below w.heap.size w w' := by
  go_enter Tryd.func10, Tryd.ntmps10
  go_wp2
  go_loopw [1, 2, 3, 4, 5] (fun v1 v2 v3 v4 i wr => ∃ k : Nat, k ≤ 32 ∧ i = .int .i64 k ∧ Hid (Four wr w.heap.size v1 v2 v3 v4 k) ∧ Below w.heap.size w wr) (fun _ _ _ _ i _ => 32 - (intOf i).toNat)
  case atStart => exact ⟨0, by omega, rfl, Lib.hid ⟨Own.nil _ _, Own.nil _ _, Own.nil _ _, Own.nil _ _, Apart.nil _, Apart.nil _, Apart.nil _, Apart.nil _, Apart.nil _, Apart.nil _⟩, Below.refl _ _⟩
  case round =>
    obtain ⟨k, hk, rfl, F, hbl⟩ := hrel
    by_cases hlt : k < 32
    · obtain ⟨f1, f2, f3, f4, a12, a13, a14, a23, a24, a34⟩ := F.out
      clear F
      have hz := hbl.size
      go_wp2_with (at_builtin
                   first
                   | (refine wpList_app_one rfl (.tmp 15) (.tmp 16) rfl w.heap.size _ _ rfl (f1.alloc _) _ _ _ [0] rfl rfl (rd_lit wr [0] _ 1 rfl rfl (by simp) (by simp)) (by simp; omega) (by simp; omega) ?_
                      intro v1 w1 o1 b1 g1
                      have g12 := g1 _ _ (f2.alloc _) a12.symm
                      have g13 := g1 _ _ (f3.alloc _) a13.symm
                      have g14 := g1 _ _ (f4.alloc _) a14.symm
                      have s1 := b1.size
                      simp only [heap_size_alloc'] at s1
                      clear g1 f1 f2 f3 f4 a12 a13 a14)
                   | (refine wpList_app_one rfl (.tmp 18) (.tmp 19) rfl w.heap.size _ _ rfl (g12.1.alloc _) _ _ _ [255] rfl rfl (rd_lit w1 [255] _ 1 rfl rfl (by simp) (by simp)) (by simp; omega) (by simp; omega) ?_
                      intro v2 w2 o2 b2 g2
                      have g21 := g2 _ _ (o1.alloc _) g12.2.symm
                      have g23 := g2 _ _ (g13.1.alloc _) a23.symm
                      have g24 := g2 _ _ (g14.1.alloc _) a24.symm
                      have s2 := b2.size
                      simp only [heap_size_alloc'] at s2
                      clear g2 g12 o1 a23 a24)
                   | (refine wpList_app_one rfl (.tmp 21) (.tmp 24) rfl w.heap.size _ _ rfl (g23.1.alloc _) _ _ _ [k] rfl rfl (rd_lit w2 [k] _ 1 rfl rfl (by simp) (by simp; omega)) (by simp; omega) (by simp; omega) ?_
                      intro v3 w3 o3 b3 g3
                      have g31 := g3 _ _ (g21.1.alloc _) g13.2.symm
                      have g32 := g3 _ _ (o2.alloc _) g23.2.symm
                      have g34 := g3 _ _ (g24.1.alloc _) a34.symm
                      have s3 := b3.size
                      simp only [heap_size_alloc'] at s3
                      clear g3 o2 a34)
                   | (refine wpList_app_one rfl (.tmp 26) (.tmp 30) rfl w.heap.size _ _ rfl (g34.1.alloc _) _ _ _ [31 - k] rfl rfl (rd_lit w3 [31 - k] _ 1 (by simp [vals]; omega) rfl (by simp) (by simp; omega)) (by simp; omega) (by simp; omega) ?_
                      intro v4 w4 o4 b4 g4
                      have g41 := g4 _ _ (g31.1.alloc _) g14.2.symm
                      have g42 := g4 _ _ (g32.1.alloc _) g24.2.symm
                      have g43 := g4 _ _ (o3.alloc _) g34.2.symm
                      clear g4 o3))
      have B1 := (hbl.alloc hbl.size _).trans b1
      have B2 := (B1.alloc B1.size _).trans b2
      have B3 := (B2.alloc B2.size _).trans b3
      have B4 := (B3.alloc B3.size _).trans b4
      have FF : Four w4 w.heap.size v1 v2 v3 v4 (k + 1) := by
        refine ⟨?_, ?_, ?_, ?_, g21.2, g31.2, g41.2, g32.2, g42.2, g43.2⟩
        · rw [List.replicate_succ']; exact g41.1
        · rw [List.replicate_succ']; exact g42.1
        · rw [List.range_succ]; exact g43.1
        · rw [List.range_succ, List.map_append]; exact o4
      go_roundw
      case rel => exact ⟨k + 1, by omega, by go_num, Lib.hid FF, B4⟩
      case measure => simp [intOf]; omega
    · obtain rfl : k = 32 := by omega
      have T1 := T.later hbl
      obtain ⟨o1, o2, o3, o4, _⟩ := F.out
      clear F
      go_wp2_with fail
      refine (sum_is _ _ 2324772522 _ o1.rd T1 (by decide +kernel)).mono ?_
      rintro e w' ⟨rfl, rfl⟩
      go_wp2_with fail
      refine (sum_is _ _ 1655221059 _ o2.rd T1 (by decide +kernel)).mono ?_
      rintro e w' ⟨rfl, rfl⟩
      go_wp2_with fail
      refine (sum_is _ _ 1188919630 _ o3.rd T1 (by decide +kernel)).mono ?_
      rintro e w' ⟨rfl, rfl⟩
      go_wp2_with fail
      refine (sum_is _ _ 289397596 _ o4.rd T1 (by decide +kernel)).mono ?_
      rintro e w' ⟨rfl, rfl⟩
      clear o1 o2 o3 o4
      go_wp2
      go_loopw [6] (fun i wq => ∃ k : Nat, k ≤ 256 ∧ i = .int .i64 k ∧ Hid (Tab wq) ∧ Below w.heap.size w wq) (fun i _ => 256 - (intOf i).toNat)
      case atStart => exact ⟨0, by omega, rfl, Lib.hid T1, hbl⟩
      case round =>
        clear T1 hbl
        obtain ⟨k, hk, rfl, T1, hbl⟩ := hrel
        by_cases hlt : k < 256
        · have T2 : Hid (Tab (wr.alloc (.cells #[.int .u8 (k : Int)] 5))) := Lib.hid (T1.out.later (up_new _ _))
          have B2 := hbl.alloc hbl.size (.cells #[.int .u8 (k : Int)] 5)
          go_wp2_with fail
          refine (crcSums _ _ [k] _ (by omega) (by omega) (rd_lit wr [k] _ 1 rfl rfl (by simp) (by simp; omega)) T2.out).mono ?_
          rintro e w3 ⟨rfl, b3⟩
          have T3 := Lib.hid (T2.out.later b3)
          have B3 := up B2 b3
          clear T1 T2 B2 b3 hbl
          go_wp2_with fail
          refine (crcJoins _ _ _ _ (by omega) (by omega) (by omega) (by omega) (by omega) (by omega) T3.out).mono ?_
          rintro e w4 ⟨rfl, b4⟩
          have T4 := Lib.hid (T3.out.later b4)
          have B4 := up B3 b4
          clear T3 B3 b4
          go_wp2
          go_roundw
          case rel => exact ⟨k + 1, by omega, by go_num, T4, B4⟩
          case measure => simp [intOf]; omega
        · obtain rfl : k = 256 := by omega
          go_wp2_with fail
          refine (join_neg 1 1 (-9223372036854775808) _ (by decide)).mono ?_
          rintro e w' ⟨rfl, rfl⟩
          go_wp2_with fail
          refine (join_none 9 9223372036854775807 _ (by decide) (by decide) T1.out).mono ?_
          rintro e w3 ⟨rfl, b3⟩
          have T3 := Lib.hid (T1.out.later b3)
          have B3 := up hbl b3
          clear b3 hbl T1
          go_wp2_with fail
          refine (works _ T3.out).mono ?_
          rintro e w4 ⟨rfl, b4⟩
          go_wp2
          go_ret
          exact ⟨rfl, up B3 b4⟩
end Go.Proofs.YtdhlkomfponalaaDoor
