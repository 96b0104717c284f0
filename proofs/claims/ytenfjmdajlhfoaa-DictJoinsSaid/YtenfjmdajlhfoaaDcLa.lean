/- The walks of DictReads, DictOnlyBytes, DictJoins, DictOnly. -/
import Derived.Test.YtenfjmdajlhfoaaDcKW
namespace Go.Proofs.Ytenfjmdajlhfoaa
open Go.RowKit
set_option linter.unusedVariables false
set_option maxRecDepth 100000

theorem min_is (a b c : Int) (h : min a b = c) (w : World) : (Builtin.min_ #[3, 3] 3 #[.int .i64 a, .int .i64 b]).run Try.prog w = .ok (.int .i64 c) w := by
  rw [← h]
  simp [Builtin.min_, Builtin.min2]
  repeat' split
  all_goals omega
theorem Rd.takes {w : World} {B : Nat} {a : Option Addr} {l : List Nat} {n c : Nat} (h : Rd w B (.slice a n c) l) (hn : l.length = n) (k : Nat) (hk : k ≤ n) : Rd w B (.slice a k c) (l.take k) := by
  subst hn
  have := h.take k
  rwa [List.length_take, Nat.min_eq_left hk] at this
namespace Dc
theorem enN_len : ∀ N : List Nat, N.length ≤ (enN N).length
  | [] => Nat.zero_le _
  | x :: N => by rw [enN_cons, List.length_append, List.length_cons]; have := enN_len N; have := Leb.enc_pos x; omega
theorem enL_len (l : List ByteArray) : l.length ≤ (enL l).length := by
  unfold enL
  have h := (spl_len [] l).1
  have := enN_len (spl ([] : List ByteArray) [] l).2
  simp only [List.length_append]
  omega
theorem get_len (b : List Nat) (n most : Int) (hb : ∀ x ∈ b, x < 256) : (get b n most).1.length ≤ b.length := by
  by_cases h : (get b n most).2.2 = 0
  · obtain ⟨_, h2, h3⟩ := get_good b n most hb h
    have := congrArg List.length h3
    rw [List.length_take] at this
    have := enL_len (get b n most).1
    omega
  · rw [(get_none b n most h).1]; simp
theorem enD_bound : ∀ d : List ByteArray, (∀ x ∈ d, x.size ≤ 200) → (enD d).length ≤ 210 * d.length
  | [], _ => by simp [enD]
  | x :: d, h => by
    rw [enD_cons, List.length_append, List.length_cons]
    have := enD_bound d (fun y hy => h y (List.mem_cons_of_mem _ hy))
    have := enT_len x
    have := h x (List.mem_cons_self ..)
    omega
theorem enN_bound : ∀ N : List Nat, (enN N).length ≤ 10 * N.length
  | [] => by simp [enN]
  | x :: N => by rw [enN_cons, List.length_append, List.length_cons]; have := enN_bound N; have := Leb.enc_len x; omega
end Dc
theorem enL_bound (l : List ByteArray) (hl : l.length ≤ 60) (hs : ∀ x ∈ l, x.size ≤ 200) : (Dc.enL l).length ≤ 14000 := by
  unfold Dc.enL
  have h := Dc.spl_len [] l
  have h1 := Dc.enD_bound (Dc.spl ([] : List ByteArray) [] l).1 (fun x hx => (Dc.spl_mem [] l x hx).elim (fun h => by cases h) (fun h => hs x h))
  have h2 := Dc.enN_bound (Dc.spl ([] : List ByteArray) [] l).2
  have h3 := Leb.enc_len (Dc.spl ([] : List ByteArray) [] l).1.length
  simp only [List.length_append]
  simp at h
  omega
set_option maxHeartbeats 4000000 in
theorem dictReads (v : Value) (l : List Nat) (n m : Int) (w : World) (h : Rd w w.heap.size v l) (n0 : -9223372036854775808 ≤ n) (n1 : n ≤ 9223372036854775807) (m0 : -9223372036854775808 ≤ m) (m1 : m ≤ 9223372036854775807) :
    Calls Try.prog 5 #[v, .int .i64 n, .int .i64 m] w fun e w' => e = .returned (.bool true) ∧ Below w.heap.size w w' := by
  have hll := h.len
  unfold maxLen at hll
  obtain ⟨aa, ca, rfl, pa, qa, _⟩ := id h
  unfold maxLen at qa
  obtain ⟨j, hj⟩ : ∃ j, min l.length 300 = j := ⟨_, rfl⟩
  have M := min_is l.length 300 j (by omega)
  obtain ⟨na, n2⟩ : j ≤ l.length ∧ j ≤ 300 := by omega
  have k1 : (j : Int) ≤ (ca : Int) := by omega
  have HA := Lib.hid (h.takes rfl j na)
  have lt1 : (l.take j).length = j := by rw [List.length_take]; omega
  have HL := Lib.hid lt1
  generalize l.take j = L at *
  clear hj h lt1
  go_enter Try.func5, Try.ntmps5
  go_wp2_with fail
  refine (copyBytes _ _ _ HA.out (by rw [HL.out]; omega)).mono ?_
  rintro e w1 ⟨r1, rfl, o1, b1⟩
  have HG := Lib.hid (getL r1 L n m w1 o1.rd n0 n1 m0 m1)
  have hlen := Dc.get_len L n m o1.2
  rw [HL.out] at hlen
  obtain ⟨⟨T, K, E⟩, hx⟩ : ∃ q, Dc.get L n m = q := ⟨_, rfl⟩
  have HX := Lib.hid hx
  rw [hx] at HG hlen
  simp only at hlen
  have O1 := Lib.hid o1
  have B1 := Lib.hid b1
  clear o1 b1 hx
  go_wp2_with fail
  refine HG.out.mono ?_
  rintro e w2 ⟨u2, rfl, o2, b2⟩
  have HU2 := Lib.hid (rgetL r1 L n m w2 (own_rd O1.out b2) n0 n1 m0 m1)
  rw [HX.out] at HU2
  have O2 := Lib.hid o2
  have B2 := Lib.hid b2
  clear HG o2 b2 HX
  go_wp2_with fail
  refine HU2.out.mono ?_
  rintro e w3 ⟨u3, rfl, o3, b3⟩
  have HS := Lib.hid (eqTexts u2 u3 T T w3 (RdT.later (RdT.of O2.out) b3) (RdT.of o3) (by omega) true (by simp))
  have B3 := Lib.hid (up B2.out b3)
  clear HU2 O2 B2 o3 b3
  go_wp2_with fail
  refine HS.out.mono ?_
  rintro e w4 ⟨rfl, b4⟩
  have B4 := Lib.hid (up B3.out b4)
  have R4 := Lib.hid (own_rd O1.out B4.out)
  have A4 := Lib.hid (HA.out.later (Nat.le_refl _) (up B1.out B4.out))
  clear HS B3 b4 O1
  go_wp2_with fail
  refine (eq_yes _ _ _ _ _ R4.out A4.out rfl).mono ?_
  rintro e w' ⟨rfl, rfl⟩
  go_wp2_with fail
  refine (works _).mono ?_
  rintro e w5 ⟨rfl, b5⟩
  go_wp2_with fail
  go_ret
  exact ⟨by simp, up (up B1.out B4.out) b5⟩
set_option maxHeartbeats 4000000 in
theorem dictOnlyBytes (v : Value) (l : List Nat) (n m : Int) (w : World) (h : Rd w w.heap.size v l) (n0 : -9223372036854775808 ≤ n) (n1 : n ≤ 9223372036854775807) (m0 : -9223372036854775808 ≤ m) (m1 : m ≤ 9223372036854775807) :
    Calls Try.prog 9 #[v, .int .i64 n, .int .i64 m] w fun e w' => e = .returned (.bool true) ∧ Below w.heap.size w w' := by
  have hll := h.len
  unfold maxLen at hll
  obtain ⟨aa, ca, rfl, pa, qa, _⟩ := id h
  unfold maxLen at qa
  obtain ⟨j, hj⟩ : ∃ j, min l.length 300 = j := ⟨_, rfl⟩
  have M := min_is l.length 300 j (by omega)
  obtain ⟨na, n2⟩ : j ≤ l.length ∧ j ≤ 300 := by omega
  have k1 : (j : Int) ≤ (ca : Int) := by omega
  have HA := Lib.hid (h.takes rfl j na)
  have lt1 : (l.take j).length = j := by rw [List.length_take]; omega
  have HL := Lib.hid lt1
  generalize l.take j = L at *
  clear hj h lt1
  go_enter Try.func9, Try.ntmps9
  go_wp2_with fail
  refine (works _).mono ?_
  rintro e w0 ⟨rfl, b0⟩
  have HA0 := Lib.hid (HA.out.later (Nat.le_refl _) b0)
  have B0 := Lib.hid b0
  clear HA b0
  go_wp2_with fail
  refine (copyBytes _ _ _ HA0.out (by rw [HL.out]; omega)).mono ?_
  rintro e w1 ⟨r1, rfl, o1, b1⟩
  have HG := Lib.hid (getL r1 L n m w1 o1.rd n0 n1 m0 m1)
  have hlen := Dc.get_len L n m o1.2
  have HNO := Lib.hid (Dc.get_none L n m)
  have HGO := Lib.hid (Dc.get_good L n m o1.2)
  rw [HL.out] at hlen
  obtain ⟨⟨T, K, E⟩, hx⟩ : ∃ q, Dc.get L n m = q := ⟨_, rfl⟩
  rw [hx] at HG hlen HNO HGO
  simp only at hlen HNO HGO
  obtain ⟨a1, c1, rfl, hc1⟩ := o1.form1
  have O1 := Lib.hid o1
  have B1 := Lib.hid (up B0.out b1)
  clear o1 b1 hx M HA0 B0
  go_wp2_with fail
  refine HG.out.mono ?_
  rintro e w2 ⟨u2, rfl, o2, b2⟩
  obtain ⟨a2, c2, rfl, _⟩ := own_form o2
  have O2 := Lib.hid o2
  have B2 := Lib.hid (up B1.out b2)
  have R1 := Lib.hid (own_rd O1.out b2)
  clear HG o2 b2 O1 B1
  simp only at O2
  by_cases he : E = 0
  · subst he
    obtain ⟨h1, h2, h3⟩ := HGO.out rfl
    subst h1
    have hKL : K ≤ L.length := h2
    have R2 := Lib.hid (R1.out.takes rfl K h2)
    have hel : (Dc.enL T).length ≤ 300 := by have := HL.out; rw [← h3, List.length_take]; omega
    have HP := Lib.hid (fun w3 (hh : RdT w3 w3.heap.size (.slice a2 T.length c2) T) => putL (.slice none 0 0) _ [] T w3 (Rd.nil _ _) hh (by omega) (Dc.enL T) (by simp) (by omega))
    have H3 := Lib.hid h3
    have h5 : (K : Int) ≤ L.length := by omega
    have h6 : (K : Int) ≤ c1 := by omega
    clear HNO HGO h3 R1
    go_wp2_with fail
    go_region_held3 (fun _ => True) (trivial)
      ((first
        | (go_at_call 18; refine (HP.out _ (RdT.later (RdT.of O2.out) (Below.refl _ _).drew)).mono ?_; rintro e w3 ⟨r3, rfl, ho3, hb3⟩)
        | (go_at_call 17; refine (eq_yes _ _ _ _ _ ho3.rd (R2.out.later (Nat.le_refl _) (undrew hb3)) H3.out.symm).mono ?_; rintro e w' ⟨rfl, rfl⟩)))
    go_wp2_with fail
    go_ret
    exact ⟨rfl, up B2.out (undrew hb3)⟩
  · obtain ⟨rfl, rfl⟩ := HNO.out he
    have h4 : ((E : Int) != 0) = true := by simpa using he
    clear HGO HNO he
    go_wp2_with fail
    go_ret
    exact ⟨rfl, B2.out⟩
end Go.Proofs.Ytenfjmdajlhfoaa
