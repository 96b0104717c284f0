/- List and Obj (the program's). -/
import Derived.Test.YtgmdjofnkbaflaaDoorJoinL
namespace Go.Proofs.YtgmdjofnkbaflaaDoor
open Go.RowKit
set_option linter.unusedVariables false
set_option maxRecDepth 100000

theorem tx_make (w : World) (n : Nat) (hm : n ≤ 100000) :
    (Instr.makeSlice 22 (.int .i64 (n : Nat)) (.int .i64 (n : Nat))).run Tryd.prog w = .ok (.slice (some ⟨w.heap.size, 0, none⟩) n n) (w.alloc (.cells (madeCells (Value.string ⟨#[]⟩).cells n) 9)) := by
  obtain ⟨i, hi, hz, hsz, hby⟩ := txY.parts
  have h := run_makeSlice w 22 9 i (.string ⟨#[]⟩) Tryd.underlying22 hi hz .i64 .i64 (n : Nat) (n : Nat) (by omega) (by omega) (by rw [hsz]; simp; omega) (by rw [hby]; omega) (by omega)
  simpa [hsz] using h
theorem made_text (n j : Nat) (h : j < n) : (madeCells (Value.string ⟨#[]⟩).cells n).toList[j]? = some (.string ⟨#[]⟩) := by
  rw [Array.getElem?_toList, Array.getElem?_eq_getElem (by simpa [madeCells] using h)]
  simp [madeCells, Value.cells, Nat.mod_one]
theorem rd_texts (w : World) (n : Nat) (hm : n ≤ 100000) : RdT (w.alloc (.cells (madeCells (Value.string ⟨#[]⟩).cells n) 9)) (w.alloc (.cells (madeCells (Value.string ⟨#[]⟩).cells n) 9)).heap.size (.slice (some ⟨w.heap.size, 0, none⟩) n n) (List.replicate n ⟨#[]⟩) := by
  refine ⟨some ⟨w.heap.size, 0, none⟩, n, by simp, by simp, by simp [maxLen]; omega, by simp, fun hp => ⟨w.heap.size, 0, rfl, by simp, fun i x j u hi hj => ?_⟩⟩
  have hl := (List.getElem?_eq_some_iff.1 hi).1
  rw [List.getElem?_replicate] at hi
  have hin : i < n := by simpa using hl
  rw [if_pos hin] at hi
  obtain rfl : x = ⟨#[]⟩ := by injection hi with hi; exact hi.symm
  have hj0 : j = 0 := by have := (List.getElem?_eq_some_iff.1 hj).1; simp [txc] at this; exact this
  subst hj0
  have e := (Blk.new w 9 (madeCells (Value.string ⟨#[]⟩).cells n)).cell i
  rw [made_text n i hin] at e
  have : u = .string ⟨#[]⟩ := by simpa [txc] using hj.symm
  subst this
  simpa using e
/-- The list of parts, or what is wrong. -/
def ListIs (ls : List (List Nd)) (r : List Nd) (x : Int) : Prop := JoinIs 6 (List.replicate ls.length ⟨#[]⟩) ls r x
/-- The object of members, or what is wrong. -/
def ObjIs (ys : List ByteArray) (ls : List (List Nd)) (r : List Nd) (x : Int) : Prop := (ys.length ≠ ls.length ∧ x = 2 ∧ r = []) ∨ (ys.length = ls.length ∧ JoinIs 7 ys ls r x)
theorem list_ex (ls : List (List Nd)) : ∃ r x, ListIs ls r x := join_ex _ _ _
theorem obj_ex (ys : List ByteArray) (ls : List (List Nd)) : ∃ r x, ObjIs ys ls r x := by
  by_cases h : ys.length = ls.length
  · obtain ⟨r, x, hj⟩ := join_ex 7 ys ls
    exact ⟨r, x, .inr ⟨h, hj⟩⟩
  · exact ⟨[], 2, .inl ⟨h, rfl, rfl⟩⟩

set_option maxHeartbeats 2000000 in
theorem mkList (lv : Value) (ss : List Sl) (ls : List (List Nd)) (w : World) (hS : RdS w w.heap.size lv ss ls) (hll : ls.length ≤ 100000) (T : Tab w) (r : List Nd) (x : Int) (hr : ListIs ls r x) :
    Calls Tryd.prog 10 #[lv] w fun e w' => JPost w r x e w' := by
  have HS := Lib.hid hS
  obtain ⟨N, hN⟩ : ∃ N, ls.length = N := ⟨_, rfl⟩
  have hks : ss.length = N := hS.len.trans hN
  obtain ⟨lb, lc, rfl, _⟩ := Gn.Rd.form hS.rd
  rw [hks] at HS ⊢
  have hN0 : N ≤ 100000 := by omega
  have RM := tx_make w N hN0
  have HM := Lib.hid (rd_texts w N hN0)
  obtain ⟨M, hM⟩ : ∃ M, M = madeCells (Value.string ⟨#[]⟩).cells N := ⟨_, rfl⟩
  rw [← hM] at RM HM
  have HU := Lib.hid (up_new w (.cells M 9))
  have CJ := Lib.hid (join6 _ _ (List.replicate N ⟨#[]⟩) ss ls _ HM.out (HS.out.below HU.out (Nat.le_refl _) |>.more HU.out.size) (by intro y hy; rw [(List.mem_replicate.1 hy).2]; exact Nat.zero_le _) (by simp [hN]) hll (T.later HU.out) r x (by unfold ListIs at hr; rwa [hN] at hr))
  clear hS hM hr T hks hN hll
  go_enter Tryd.func10, Tryd.ntmps10
  go_wp2_with fail
  ((with_reducible refine (CJ.out).mono ?_); rintro e w2 ⟨v2, rfl, ho2, b2⟩)
  have HB := Lib.hid (up HU.out b2)
  have HO := Lib.hid (Gn.Own.lower ho2 HU.out.size)
  clear ho2 b2 RM
  go_wp2_with fail
  go_ret2
  exact ⟨_, rfl, HO.out, HB.out⟩

set_option maxHeartbeats 2000000 in
theorem mkObj (kv lv : Value) (ys : List ByteArray) (ss : List Sl) (ls : List (List Nd)) (w : World) (hK : RdT w w.heap.size kv ys) (hS : RdS w w.heap.size lv ss ls) (hys : ∀ y ∈ ys, y.size ≤ maxLen) (hll : ls.length ≤ 100000) (T : Tab w) (r : List Nd) (x : Int) (hr : ObjIs ys ls r x) :
    Calls Tryd.prog 11 #[kv, lv] w fun e w' => JPost w r x e w' := by
  have HK := Lib.hid hK
  have HS := Lib.hid hS
  obtain ⟨kb, kc, rfl, _⟩ := Gn.Rd.form hK
  obtain ⟨lb, lc, rfl, _⟩ := Gn.Rd.form hS.rd
  have hks : ss.length = ls.length := hS.len
  have h1 := hK.len'
  rw [hks] at HS ⊢
  rcases hr with ⟨hne, rfl, rfl⟩ | ⟨he, hj⟩
  · have hne' : ((ys.length : Int) != (ls.length : Int)) = true := by simp; omega
    have hne2 : ¬ ((ys.length : Int) = (ls.length : Int)) := by omega
    clear hK hS T hks hne
    go_enter Tryd.func11, Tryd.ntmps11
    go_wp2_with fail
    go_ret2
    exact ⟨_, rfl, Gn.Own.nil _ _, Below.refl _ _⟩
  · obtain ⟨N, hN⟩ : ∃ N, ls.length = N := ⟨_, rfl⟩
    have CJ := Lib.hid (join7 _ _ ys ss ls w HK.out HS.out hys he hll T r x hj)
    rw [he, hN] at CJ ⊢
    have hN0 : N ≤ 100000 := by omega
    clear hK hS T hks hj hys h1 he hN hll HK HS
    go_enter Tryd.func11, Tryd.ntmps11
    go_wp2_with fail
    ((with_reducible refine (CJ.out).mono ?_); rintro e w2 ⟨v2, rfl, ho2, b2⟩)
    have HB := Lib.hid b2
    have HO := Lib.hid ho2
    clear ho2 b2
    go_wp2_with fail
    go_ret2
    exact ⟨_, rfl, HO.out, HB.out⟩
end Go.Proofs.YtgmdjofnkbaflaaDoor
