/- The walk of LebWrites: Put, PutInt, Size, Zig and Zag answer as the reference does; what was handed in, and its spare room, stays as it was. -/
import Derived.Test.YthnjadhheklofaaLaws
namespace Go.Proofs.Ythnjadhheklofaa
open Go.RowKit
set_option linter.unusedVariables false

theorem Rd.drop {w : World} {B : Nat} {a : Option Addr} {l : List Nat} {c : Nat} (h : Rd w B (.slice a l.length c) l) (k m : Nat) (hk : k < l.length) (hm : m = l.length - k) :
    Rd w B (.slice (a.map fun x => x.add k) m (c - k)) (l.drop k) := by
  obtain ⟨a', c', e, h1, h2, h3, h4, h5⟩ := h
  injection e with e1 e2 e3
  subst e1 e3 hm
  obtain ⟨b, off, rfl, hb, hc⟩ := h5 (by omega)
  refine ⟨_, _, by rw [List.length_drop], by rw [List.length_drop]; omega, by omega, by simp, fun x hx => h4 x (List.mem_of_mem_drop hx), fun _ => ⟨b, off + k, by simp [add_plain], hb, fun j hj => ?_⟩⟩
  rw [List.length_drop] at hj
  rw [Nat.add_assoc, hc (k + j) (by omega)]
  simp
/-- The twelve sevens. -/
def sevens : List Nat := [7, 7, 7, 7, 7, 7, 7, 7, 7, 7, 7, 7]

set_option maxHeartbeats 2000000 in
set_option maxRecDepth 100000 in
theorem lebWrites (v : Value) (l : List Nat) (n i : Int) (w : World) (h : Rd w w.heap.size v l) (n0 : 0 ≤ n) (n1 : n ≤ 18446744073709551615) (i0 : -9223372036854775808 ≤ i) (i1 : i ≤ 9223372036854775807) :
    Calls Try.prog 3 #[v, .int .u64 n, .int .i64 i] w fun e w' => e = .returned (.bool true) ∧ Below w.heap.size w w' := by
  have z := zig_range i i0 i1
  have hl : (l.take 60).length ≤ 60 := by rw [List.length_take]; omega
  have hs : sevens.length = 12 := rfl
  have HS := Lib.hid hs
  clear hs
  obtain ⟨z0, z1⟩ := z
  go_enter Try.func3, Try.ntmps3
  go_wp2_with fail
  refine (cut60 v l _ h).mono ?_
  rintro e w1 ⟨r1, rfl, ho1, b1⟩
  go_wp2_with fail
  refine (cut60 v l _ (h.later (Nat.le_refl _) b1)).mono ?_
  rintro e w2 ⟨r2, rfl, ho2, b2⟩
  generalize hL : l.take 60 = L at *
  have HL := Lib.hid hL
  clear hL
  go_wp2_with (at_builtin
               refine wpList_app rfl (.tmp 15) (.tmp 16) rfl w1.heap.size r2 _ rfl (ho2.later (up_new _ _)) _ sevens rfl (rd_lit w2 sevens _ 12 rfl rfl (by decide) (by decide)) (by rw [HS.out]; omega) (by have := b2.size; simp; omega) ?_
               intro v3 w3 ho3 b3)
  have B3 : Below w1.heap.size w1 w3 := (b2.alloc b2.size _).trans b3
  refine (put _ L n _ (ho1.later B3).rd (by omega) n0 n1).mono ?_
  rintro e w4 ⟨r4, rfl, ho4, b4⟩
  go_wp2_with fail
  refine (putInt _ L i _ ((ho1.later B3).later b4).rd (by omega) i0 i1).mono ?_
  rintro e w5 ⟨r5, rfl, ho5, b5⟩
  have ho1' : Own w5 w.heap.size r1 L := ((ho1.later B3).later b4).later b5
  have ho3' : Own w5 w1.heap.size v3 (L ++ sevens) := (ho3.later b4).later b5
  have ho4' := ho4.later b5
  have B5 : Below w.heap.size w w5 := up (up (up b1 B3) b4) b5
  clear ho1 ho2 ho3 ho4 b2 b3 b4 b5 B3 b1
  obtain ⟨a1, c1, e1, _⟩ := id ho1'.rd
  obtain ⟨a3, c3, e3, q1, q2, _⟩ := id ho3'.rd
  subst e1
  subst e3
  have T3 := ho3'.rd.take L.length
  rw [List.take_left] at T3
  have LL : (L ++ sevens).length = L.length + 12 := by rw [List.length_append, HS.out]
  rw [LL] at q1
  unfold maxLen at q2
  go_wp2_with fail
  refine (put _ L n _ T3 (by omega) n0 n1).mono ?_
  rintro e w6 ⟨r6, rfl, ho6, b6⟩
  have ho1 := ho1'.later b6
  have ho3 := ho3'.later b6
  have ho4 := ho4'.later b6
  have ho5' := ho5.later b6
  have B6 := up B5 b6
  clear ho1' ho3' ho4' ho5 b6 B5 T3
  go_wp2_with fail
  refine (rput _ L n _ ho1.rd (by omega) n0 n1).mono ?_
  rintro e w7 ⟨r7, rfl, ho7, b7⟩
  go_wp2_with fail
  refine (eq_yes _ _ _ _ _ (ho4.later b7).rd ho7.rd rfl).mono ?_
  rintro e w' ⟨rfl, rfl⟩
  go_wp2_with fail
  refine (rputInt _ L i _ (ho1.later b7).rd (by omega) i0 i1).mono ?_
  rintro e w8 ⟨r8, rfl, ho8, b8⟩
  go_wp2_with fail
  refine (eq_yes _ _ _ _ _ ((ho5'.later b7).later b8).rd ho8.rd rfl).mono ?_
  rintro e w' ⟨rfl, rfl⟩
  go_wp2_with fail
  refine (eq_yes _ _ _ _ _ ((ho6.later b7).later b8).rd ((ho4.later b7).later b8).rd rfl).mono ?_
  rintro e w' ⟨rfl, rfl⟩
  have B8 := up (up B6 b7) b8
  have ho1' := (ho1.later b7).later b8
  have ho3' := (ho3.later b7).later b8
  clear ho1 ho3 ho4 ho5' ho6 ho7 ho8 b7 b8 B6
  go_wp2_with fail
  refine (cut60 v l _ (h.later (Nat.le_refl _) B8)).mono ?_
  rintro e w9 ⟨r9, rfl, ho9, b9⟩
  rw [HL.out] at ho9
  go_wp2_with fail
  refine (eq_yes _ _ _ _ _ (ho1'.later b9).rd ho9.rd rfl).mono ?_
  rintro e w' ⟨rfl, rfl⟩
  have ho3 := ho3'.later b9
  have B9 := up B8 b9
  clear ho1' ho3' ho9 b9 B8
  go_wp2_with fail
  have T3 := ho3.rd.drop L.length 12 (by omega) (by omega)
  rw [List.drop_left] at T3
  refine (eq_yes _ _ sevens sevens _ (T3.later (Nat.le_refl _) (up_new _ _)) (rd_lit w9 sevens _ 12 rfl rfl (by decide) (by decide)) rfl).mono ?_
  rintro e w' ⟨rfl, rfl⟩
  have B10 : Below w.heap.size w (w9.alloc (.cells (vals sevens).toArray 5)) := B9.alloc B9.size _
  generalize w9.alloc (.cells (vals sevens).toArray 5) = w10 at *
  clear T3 ho3 B9
  go_wp2_with fail
  refine (size _ _ n0 n1).mono ?_
  rintro e w' ⟨rfl, rfl⟩
  go_wp2_with fail
  refine (rsize _ _ n0 n1).mono ?_
  rintro e w11 ⟨rfl, b11⟩
  go_wp2_with fail
  refine (zig _ _ i0 i1).mono ?_
  rintro e w' ⟨rfl, rfl⟩
  go_wp2_with fail
  refine (rzig _ _ i0 i1).mono ?_
  rintro e w' ⟨rfl, rfl⟩
  go_wp2_with fail
  refine (zag _ _ n0 n1).mono ?_
  rintro e w' ⟨rfl, rfl⟩
  go_wp2_with fail
  refine (rzag _ _ n0 n1).mono ?_
  rintro e w' ⟨rfl, rfl⟩
  go_wp2_with fail
  refine (works _).mono ?_
  rintro e w12 ⟨rfl, b12⟩
  go_wp2
  go_ret
  exact ⟨rfl, up (up B10 b11) b12⟩
end Go.Proofs.Ythnjadhheklofaa
