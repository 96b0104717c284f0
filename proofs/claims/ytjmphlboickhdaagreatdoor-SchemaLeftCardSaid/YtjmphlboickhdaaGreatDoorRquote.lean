/- The reference's Quote. -/
import Derived.Test.YtjmphlboickhdaaGreatDoorBuild
import Derived.BigRegion
import Derived.Deep.RegionLawGrows
namespace Go.Proofs.YtjmphlboickhdaaGreatDoor
open Go.RowKit
set_option linter.unusedVariables false

theorem rd_lit (w : World) (l : List Nat) (cs : Array Value) (n : Nat) (hcs : cs.toList = vals l) (hn : n = l.length) (hm : l.length ≤ 1000) (hb : ∀ x ∈ l, x < 256) :
    Rd (w.alloc (.cells cs 5)) (w.alloc (.cells cs 5)).heap.size (.slice (some ⟨w.heap.size, 0, none⟩) n n) l := by
  subst hn
  refine ⟨_, _, rfl, Nat.le_refl _, by simp only [maxLen]; omega, by simp, hb, fun _ => ⟨w.heap.size, 0, rfl, by simp, fun k hk => ?_⟩⟩
  have := (Blk.new w 5 cs).cell (0 + k)
  rw [this, hcs]
  simp [vals, List.getElem?_eq_getElem hk]
/-- A literal that a call makes, appended to what it owns. -/
theorem rd_lit2 (w : World) (l : List Nat) (cs : Array Value) (n : Nat) (hcs : cs.toList = vals l) (hn : n = l.length) (hm : l.length ≤ 1000) (hb : ∀ x ∈ l, x < 256) :
    Rd (w.alloc (.cells cs 5)).drew (w.alloc (.cells cs 5)).drew.heap.size (.slice (some ⟨w.heap.size, 0, none⟩) n n) l := rd_lit w l cs n hcs hn hm hb
def hexS : ByteArray := ⟨#[48, 49, 50, 51, 52, 53, 54, 55, 56, 57, 97, 98, 99, 100, 101, 102]⟩
theorem hex_at : ∀ x : Fin 16, (hexS[x.val]'(x.isLt)).toNat = Utf.hex x.val := by decide
theorem hex_run (x : Nat) (h : x < 16) (k : IntKind) (w : World) : (Instr.index 9 (.string ⟨#[48, 49, 50, 51, 52, 53, 54, 55, 56, 57, 97, 98, 99, 100, 101, 102]⟩) (.int k (x : Int))).run Tryz.prog w = .ok (.int .u8 (Utf.hex x : Nat)) w := by
  refine (run_index_string (P := Tryz.prog) w 9 hexS k _ Tryz.underlying9).trans ?_
  rw [dif_pos ⟨by omega, by show (x : Int) < 16; omega⟩]
  have := hex_at ⟨x, h⟩
  simp only [Int.toNat_natCast]
  exact congrArg (fun y : Nat => Result.ok (Value.int .u8 (y : Int)) w) this
theorem hex_at' (x : Nat) (h : x < 16) : (hexS[x]'h).toNat = Utf.hex x := hex_at ⟨x, h⟩

/-- append onto what is owned, as a step of a region that draws its order. -/
theorem step_app {w : World} {ops : Array Oper} {o : Oper} {a : Act} {K : Act → World → Prop} {Q : Exit → Act → World → Prop} {E : Prop} (hgd : o.guard = none) (s x : Operand)
    (ho : o.op = .call { callee := .builtin .append, args := #[s, x], argTypes := #[71, 71] })
    (base : Nat) (v : Value) (l : List Nat) (hs : a.eval s = v) (hown : Own w base v l) (u : Value) (r : List Nat) (hx : a.eval x = u) (hr : Rd w w.heap.size u r)
    (hlen : l.length + r.length ≤ 1000000000) (hbase : base ≤ w.heap.size)
    (h : ∀ v' w', Own w' base v' (l ++ r) → Below base w w' → K (a.put o.dst v') w') : if Region.wanted o (yielded ops a.tmps) = true then Oper.wp Tryz.prog o a w K Q else E := by
  have hw : Region.wanted o (yielded ops a.tmps) = true := by simp [Region.wanted, hgd]
  rw [if_pos hw]
  obtain ⟨v', w', hrun, h2, h3⟩ := run_app w o.type base v l hown u r hr hlen hbase
  unfold Oper.wp execOp
  simp only [ho, resolve, invoke, builtin, Sem.run_bind, Sem.run_pure, Result.andThen_ok, List.map_toArray, List.map_cons, List.map_nil, hs, hx, hrun]
  exact h v' w' h2 h3
theorem up_new (w : World) (o : Obj) : Below w.heap.size w (w.alloc o) := (Below.refl _ _).alloc (Nat.le_refl _) o
theorem rquote_no (s : ByteArray) (w : World) (hm : s.size ≤ maxLen) (h : Utf.vld (bl s) = false) :
    Calls Tryz.prog 93 #[.string s] w fun e w' => e = .returned (.tuple #[.string ⟨#[]⟩, .int .i64 40]) ∧ Below w.heap.size w w' := by
  go_enter Tryz.func93, Tryz.ntmps93
  go_wp2_with (go_at_call 87; refine (rvalid s _ hm _ h).mono ?_; rintro e w2 ⟨rfl, hb2⟩)
  go_ret2
  exact ⟨rfl, hb2⟩
/-- The literal, up to a byte. -/
def upto (l : List Nat) (k : Nat) : List Nat := 34 :: Utf.escs (l.take k)
theorem upto_succ (l : List Nat) (k : Nat) (h : k < l.length) : upto l (k + 1) = upto l k ++ Utf.escB (l.getD k 0) := by
  unfold upto
  rw [List.take_succ_eq_append_getElem h, Utf.escs_append, List.getD_eq_getElem?_getD, List.getElem?_eq_getElem h]
  simp [Utf.escs]
theorem escs_len (l : List Nat) : (Utf.escs l).length ≤ 6 * l.length := by
  induction l with
  | nil => simp [Utf.escs]
  | cons a l ih =>
    rw [Utf.escs_cons, List.length_append, List.length_cons]
    have := Utf.escB_len a
    omega
theorem upto_len (l : List Nat) (k : Nat) : (upto l k).length ≤ 6 * l.length + 1 := by
  unfold upto
  have := escs_len (l.take k)
  have h2 : (l.take k).length ≤ l.length := by rw [List.length_take]; omega
  simp; omega
set_option maxHeartbeats 8000000 in
set_option maxRecDepth 100000 in
theorem rquote_yes (s : ByteArray) (w : World) (hm : s.size ≤ 1000000) (h : Utf.vld (bl s) = true) :
    Calls Tryz.prog 93 #[.string s] w fun e w' => e = .returned (.tuple #[.string (str (Utf.tidy (bl s))), .int .i64 0]) ∧ Below w.heap.size w w' := by
  have hm2 : s.size ≤ maxLen := by unfold maxLen; omega
  go_enter Tryz.func93, Tryz.ntmps93
  go_wp2_with (go_at_call 87; refine (rvalid s _ hm2 _ h).mono ?_; rintro e w2 ⟨rfl, hb2⟩)
  have ho0 : Own (w2.alloc (.cells #[.int .u8 34] 5)) w2.heap.size (.slice (some ⟨w2.heap.size, 0, none⟩) 1 1) [34] :=
    ⟨⟨rfl, .inr ⟨w2.heap.size, 1, _, rfl, Nat.le_refl _, heap_alloc_new w2 _, Nat.le_refl _, by simp [maxLen], rfl, rfl⟩⟩, by simp⟩
  have HO0 := Lib.hid ho0
  have HB2 := Lib.hid hb2
  have hbs := hb2.size
  clear ho0 h
  go_loopw [4, 5] (fun v i wr => ∃ k : Nat, k ≤ s.size ∧ i = .int .i64 k ∧ Own wr w2.heap.size v (upto (bl s) k) ∧ Below w2.heap.size w2 wr) (fun _ i _ => s.size - (intOf i).toNat)
  case atStart => exact ⟨0, by omega, rfl, by simpa [upto, Utf.escs] using HO0.out, (Below.refl _ _).alloc (Nat.le_refl _) _⟩
  case round =>
    obtain ⟨k, hk, rfl, ho, hb⟩ := hrel
    have hul := upto_len (bl s) k
    rw [bl_length] at hul
    have hws := hb.size
    obtain ⟨a, c, rfl, -⟩ := ho.rd
    have HO := Lib.hid ho
    clear ho
    by_cases hlt : k < s.size
    · have hx := bl_at s k hlt
      have hsu := upto_succ (bl s) k (by rw [bl_length]; exact hlt)
      have hxb := Utf.getD_byte (bl_byte s) k
      generalize (bl s).getD k 0 = x at *
      have HSU := Lib.hid hsu
      clear hsu
      by_cases c34 : x = 34
      · subst c34
        have HE := Lib.hid (show Utf.escB 34 = [92, 34] from rfl)
        go_wp2_with (at_builtin; refine wpList_app rfl _ _ rfl w2.heap.size _ (upto (bl s) k) rfl (HO.out.later (up_new _ _)) _ [92, 34] rfl (rd_lit wr _ _ 2 rfl rfl (by decide) (by decide)) (by simp; omega) (by simp; omega) ?_; intro v1 w3 ho1 hb3)
        go_roundw
        case rel => exact ⟨k + 1, by omega, by go_num, by rw [HSU.out, HE.out]; exact ho1, (hb.alloc hws _).trans hb3⟩
        case measure => simp [intOf]; omega
      have d34 : ((x : Int) == 34) = false := by simp; omega
      by_cases c92 : x = 92
      · subst c92
        have HE := Lib.hid (show Utf.escB 92 = [92, 92] from rfl)
        go_wp2_with (at_builtin; refine wpList_app rfl _ _ rfl w2.heap.size _ (upto (bl s) k) rfl (HO.out.later (up_new _ _)) _ [92, 92] rfl (rd_lit wr _ _ 2 rfl rfl (by decide) (by decide)) (by simp; omega) (by simp; omega) ?_; intro v1 w3 ho1 hb3)
        go_roundw
        case rel => exact ⟨k + 1, by omega, by go_num, by rw [HSU.out, HE.out]; exact ho1, (hb.alloc hws _).trans hb3⟩
        case measure => simp [intOf]; omega
      have d92 : ((x : Int) == 92) = false := by simp; omega
      by_cases c8 : x = 8
      · subst c8
        have HE := Lib.hid (show Utf.escB 8 = [92, 98] from rfl)
        go_wp2_with (at_builtin; refine wpList_app rfl _ _ rfl w2.heap.size _ (upto (bl s) k) rfl (HO.out.later (up_new _ _)) _ [92, 98] rfl (rd_lit wr _ _ 2 rfl rfl (by decide) (by decide)) (by simp; omega) (by simp; omega) ?_; intro v1 w3 ho1 hb3)
        go_roundw
        case rel => exact ⟨k + 1, by omega, by go_num, by rw [HSU.out, HE.out]; exact ho1, (hb.alloc hws _).trans hb3⟩
        case measure => simp [intOf]; omega
      have d8 : ((x : Int) == 8) = false := by simp; omega
      by_cases c12 : x = 12
      · subst c12
        have HE := Lib.hid (show Utf.escB 12 = [92, 102] from rfl)
        go_wp2_with (at_builtin; refine wpList_app rfl _ _ rfl w2.heap.size _ (upto (bl s) k) rfl (HO.out.later (up_new _ _)) _ [92, 102] rfl (rd_lit wr _ _ 2 rfl rfl (by decide) (by decide)) (by simp; omega) (by simp; omega) ?_; intro v1 w3 ho1 hb3)
        go_roundw
        case rel => exact ⟨k + 1, by omega, by go_num, by rw [HSU.out, HE.out]; exact ho1, (hb.alloc hws _).trans hb3⟩
        case measure => simp [intOf]; omega
      have d12 : ((x : Int) == 12) = false := by simp; omega
      by_cases c10 : x = 10
      · subst c10
        have HE := Lib.hid (show Utf.escB 10 = [92, 110] from rfl)
        go_wp2_with (at_builtin; refine wpList_app rfl _ _ rfl w2.heap.size _ (upto (bl s) k) rfl (HO.out.later (up_new _ _)) _ [92, 110] rfl (rd_lit wr _ _ 2 rfl rfl (by decide) (by decide)) (by simp; omega) (by simp; omega) ?_; intro v1 w3 ho1 hb3)
        go_roundw
        case rel => exact ⟨k + 1, by omega, by go_num, by rw [HSU.out, HE.out]; exact ho1, (hb.alloc hws _).trans hb3⟩
        case measure => simp [intOf]; omega
      have d10 : ((x : Int) == 10) = false := by simp; omega
      by_cases c13 : x = 13
      · subst c13
        have HE := Lib.hid (show Utf.escB 13 = [92, 114] from rfl)
        go_wp2_with (at_builtin; refine wpList_app rfl _ _ rfl w2.heap.size _ (upto (bl s) k) rfl (HO.out.later (up_new _ _)) _ [92, 114] rfl (rd_lit wr _ _ 2 rfl rfl (by decide) (by decide)) (by simp; omega) (by simp; omega) ?_; intro v1 w3 ho1 hb3)
        go_roundw
        case rel => exact ⟨k + 1, by omega, by go_num, by rw [HSU.out, HE.out]; exact ho1, (hb.alloc hws _).trans hb3⟩
        case measure => simp [intOf]; omega
      have d13 : ((x : Int) == 13) = false := by simp; omega
      by_cases c9 : x = 9
      · subst c9
        have HE := Lib.hid (show Utf.escB 9 = [92, 116] from rfl)
        go_wp2_with (at_builtin; refine wpList_app rfl _ _ rfl w2.heap.size _ (upto (bl s) k) rfl (HO.out.later (up_new _ _)) _ [92, 116] rfl (rd_lit wr _ _ 2 rfl rfl (by decide) (by decide)) (by simp; omega) (by simp; omega) ?_; intro v1 w3 ho1 hb3)
        go_roundw
        case rel => exact ⟨k + 1, by omega, by go_num, by rw [HSU.out, HE.out]; exact ho1, (hb.alloc hws _).trans hb3⟩
        case measure => simp [intOf]; omega
      have d9 : ((x : Int) == 9) = false := by simp; omega
      by_cases cl : x < 32
      · have cl' : (x : Int) < 32 := by omega
        have HE := Lib.hid (show Utf.escB x = [92, 117, 48, 48, Utf.hex (x / 16), Utf.hex (x % 16)] by
          unfold Utf.escB
          rw [if_neg c34, if_neg c92, if_neg c8, if_neg c12, if_neg c10, if_neg c13, if_neg c9, if_pos cl])
        have hq1 := hex_run (x / 16) (by omega) .u8
        have hq2 := hex_run (x % 16) (by omega) .u8
        rw [show ((x / 16 : Nat) : Int) = (x : Int) / 16 by omega] at hq1
        rw [show ((x % 16 : Nat) : Int) = (x : Int) % 16 by omega] at hq2
        have hh1 : Utf.hex (x / 16) < 256 := by unfold Utf.hex; split <;> omega
        have hh2 : Utf.hex (x % 16) < 256 := by unfold Utf.hex; split <;> omega
        generalize Utf.hex (x / 16) = p at *
        generalize Utf.hex (x % 16) = q at *
        have hw1 : IntKind.u8.wrap ((x : Int) / 16) = (x : Int) / 16 := IntWalk.u8_in _ ⟨by omega, by omega⟩
        have hw2 : (x : Int).tmod 16 = (x : Int) % 16 := Int.tmod_eq_emod_of_nonneg (by omega)
        have O1 := Lib.hid (HO.out.later (up_new wr (.cells #[.int .u8 92, .int .u8 117, .int .u8 48, .int .u8 48, .int .u8 (p : Nat), .int .u8 (q : Nat)] 5)))
        have R1 := Lib.hid (rd_lit wr [92, 117, 48, 48, p, q] #[.int .u8 92, .int .u8 117, .int .u8 48, .int .u8 48, .int .u8 (p : Nat), .int .u8 (q : Nat)] 6 rfl rfl (by simp) (by simp; omega))
        go_wp2
        go_region_law (refine step_app rfl (.tmp 68) (.tmp 75) rfl w2.heap.size _ (upto (bl s) k) rfl O1.out _ [92, 117, 48, 48, p, q] rfl R1.out (by simp; omega) (by simp; omega) ?_; intro v1 w3 hown1 hb3)
        all_goals
          go_wp2
          go_roundw
          case rel => exact ⟨k + 1, by omega, by go_num, by rw [HSU.out, HE.out]; exact hown1, (hb.alloc hws _).trans ⟨hb3.os, hb3.tape, hb3.output, hb3.size, hb3.block⟩⟩
          case measure => simp [intOf]; omega
      · have cl' : ¬ ((x : Int) < 32) := by omega
        have HE := Lib.hid (show Utf.escB x = [x] by
          unfold Utf.escB
          rw [if_neg c34, if_neg c92, if_neg c8, if_neg c12, if_neg c10, if_neg c13, if_neg c9, if_neg cl])
        go_wp2_with (at_builtin; refine wpList_app rfl _ _ rfl w2.heap.size _ (upto (bl s) k) rfl (HO.out.later (up_new _ _)) _ [x] rfl (rd_lit wr _ _ 1 rfl rfl (by simp) (by simp; omega)) (by simp; omega) (by simp; omega) ?_; intro v1 w3 ho1 hb3)
        go_roundw
        case rel => exact ⟨k + 1, by omega, by go_num, by rw [HSU.out, HE.out]; exact ho1, (hb.alloc hws _).trans hb3⟩
        case measure => simp [intOf]; omega
    · have hall : upto (bl s) k = 34 :: Utf.escs (bl s) := by unfold upto; rw [List.take_of_length_le (by rw [bl_length]; omega)]
      have HA := Lib.hid hall
      have hstr : ∀ (v1 : Value) (w3 : World), Own w3 w2.heap.size v1 (upto (bl s) k ++ [34]) → (convert 71 9 v1).run Tryz.prog w3 = .ok (.string (str (Utf.tidy (bl s)))) w3 := by
        intro v1 w3 ho1
        have := run_str w3 _ v1 _ ho1.rd
        rw [hall] at this
        exact this
      have HSTR := Lib.hid hstr
      clear hall hstr
      go_wp2_with (at_builtin; refine wpList_app rfl _ _ rfl w2.heap.size _ (upto (bl s) k) rfl (HO.out.later (up_new _ _)) _ [34] rfl (rd_lit wr _ _ 1 rfl rfl (by decide) (by decide)) (by simp; omega) (by simp; omega) ?_; intro v1 w3 ho1 hb3; have hcv := HSTR.out v1 w3 ho1)
      go_ret2
      exact ⟨rfl, HB2.out.trans (((hb.alloc hws _).trans hb3).mono (by omega))⟩
end Go.Proofs.YtjmphlboickhdaaGreatDoor
