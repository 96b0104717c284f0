/- The walk of DictKnown. -/
import Derived.Test.YtenfjmdajlhfoaaDcLe
namespace Go.Proofs.Ytenfjmdajlhfoaa
open Go.RowKit
set_option linter.unusedVariables false
set_option maxRecDepth 100000

theorem textsIn_lit {w : World} {v : Value} {l : List ByteArray} (h : RdT w w.heap.size v l) (hs : ∀ y ∈ l, y.size ≤ 1000) : TextsIn w v l := ⟨h, fun y hy => by have := hs y hy; unfold maxLen; omega⟩
theorem intsIn_lit {w : World} {v : Value} {l : List Int} (h : RdI w w.heap.size v l) (hs : ∀ y ∈ l, -1000 ≤ y ∧ y ≤ 1000) : IntsIn w v l := ⟨h, fun y hy => by have := hs y hy; omega⟩
/-- Owned bytes, one of them stored. -/
theorem Own.stored {w : World} {base g cap n : Nat} {l : List Nat} (h : Own w base (.slice (some ⟨g, 0, none⟩) n cap) l) (hn : l.length = n) (k x : Nat) (hx : x < 256) :
    Own (w.setCell ⟨g, k, none⟩ (.int .u8 (x : Int))) base (.slice (some ⟨g, 0, none⟩) n cap) (l.set k x) := by
  subst hn
  refine ⟨?_, fun y hy => ?_⟩
  · have := (h.1.stored k (.int .u8 (x : Int))).1
    rw [List.length_set]
    unfold vals at this ⊢
    rw [List.map_set]
    exact this
  · rcases List.mem_or_eq_of_mem_set hy with hy | rfl
    · exact h.2 y hy
    · exact hx
theorem Own.form2 {w : World} {base : Nat} {v : Value} {l : List Nat} (h : Own w base v l) (hn : 0 < l.length) : ∃ g cap, v = .slice (some ⟨g, 0, none⟩) l.length cap ∧ base ≤ g ∧ l.length ≤ cap := by
  obtain ⟨⟨h0, h1⟩, hb⟩ := h
  rcases h1 with ⟨_, h2⟩ | ⟨g, cap, cur, rfl, hg, hh, h2, h3, h4, h5⟩
  · omega
  · exact ⟨g, cap, rfl, hg, h2⟩
theorem Own.cell {w : World} {base g cap n : Nat} {l : List Nat} (h : Own w base (.slice (some ⟨g, 0, none⟩) n cap) l) (hn : l.length = n) (k : Nat) (hk : k < n) :
    w.cell? ⟨g, k, none⟩ = some (.int .u8 (l.getD k 0 : Nat)) := by
  subst hn
  rw [h.1.cellAt k (by omega)]
  simp [vals, List.getElem?_eq_getElem hk]
theorem Own.melt {w : World} {base g cap n : Nat} {l : List Nat} (h : Own w base (.slice (some ⟨g, 0, none⟩) n cap) l) (hn : l.length = n) (k : Nat) : w.frozen? ⟨g, k, none⟩ = false := by
  subst hn
  exact h.1.frozenAt k
theorem k15 : Dc.enL [(⟨#[98]⟩ : ByteArray), ⟨#[]⟩, ⟨#[98]⟩, ⟨#[99, 99]⟩, ⟨#[]⟩] = [3, 1, 98, 0, 2, 99, 99, 0, 1, 0, 2, 1] := by decide +kernel
set_option maxHeartbeats 16000000 in
theorem dictKnown (w : World) : Calls Try.prog 10 #[] w fun e w' => e = .returned (.bool true) ∧ Below w.heap.size w w' := by
  go_enter Try.func10, Try.ntmps10
  go_wp2_with fail
  go_loopw [1] (fun i wr => ∃ k : Nat, k ≤ 64 ∧ i = .int .i64 (k : Nat) ∧ Hid (Below w.heap.size w wr)) (fun i _ => 64 - (intOf i).toNat)
  case atStart => exact ⟨0, by omega, rfl, Lib.hid (Below.refl _ _)⟩
  case round =>
    obtain ⟨k, hk, rfl, HB⟩ := hrel
    by_cases hlt : k < 64
    · have hlt1 : (k : Int) < 64 := by omega
      go_wp2_with fail
      obtain ⟨N, hN⟩ : ∃ N : List Int, [(k : Int) % 4 - 1, (k : Int) / 4 % 4 - 1, (k : Int) / 16 - 1] = N := ⟨_, rfl⟩
      have hNl : N.length = 3 := by rw [← hN]; rfl
      have hNb : ∀ y ∈ N, -1000 ≤ y ∧ y ≤ 1000 := by
        rw [← hN]
        intro y hy
        simp only [List.mem_cons, List.not_mem_nil, or_false] at hy
        omega
      have h0 := rdI_lit wr N #[.int .i64 ((k : Int) % 4 - 1), .int .i64 ((k : Int) / 4 % 4 - 1), .int .i64 ((k : Int) / 16 - 1)] 3 (by rw [← hN]; rfl) hNl.symm (by omega)
      have B0 := Lib.hid (up HB.out (up_new wr (.cells #[.int .i64 ((k : Int) % 4 - 1), .int .i64 ((k : Int) / 4 % 4 - 1), .int .i64 ((k : Int) / 16 - 1)] 3)))
      have HN0 := Lib.hid h0
      have hsz : wr.heap.size + 1 = (wr.alloc (.cells #[.int .i64 ((k : Int) % 4 - 1), .int .i64 ((k : Int) / 4 % 4 - 1), .int .i64 ((k : Int) / 16 - 1)] 3)).heap.size := by rw [World.size_alloc]
      generalize wr.alloc (.cells #[.int .i64 ((k : Int) % 4 - 1), .int .i64 ((k : Int) / 4 % 4 - 1), .int .i64 ((k : Int) / 16 - 1)] 3) = w1 at *
      rw [hsz]
      obtain ⟨g, hg⟩ : ∃ g, wr.heap.size = g := ⟨_, rfl⟩
      rw [hg] at HN0 ⊢
      have HNB := Lib.hid hNb
      clear h0 hN hsz HB hg hNb
      refine (dictJoins _ _ _ _ _ (textsIn_lit (rdT_lit w1 [(⟨#[120]⟩ : ByteArray), ⟨#[]⟩] _ 2 rfl rfl (by simp)) (by decide)) (intsIn_lit (RdI.later HN0.out (up_new _ _)) HNB.out)).mono ?_
      rintro e w2 ⟨rfl, b2⟩
      have B2 := Lib.hid (up B0.out (up (up_new _ _) b2))
      have HN2 := Lib.hid (RdI.later HN0.out (up (up_new _ _) b2))
      clear b2 HN0 B0
      go_wp2_with fail
      refine (dictJoins _ _ _ _ _ (textsIn_lit (rdT_lit w2 [(⟨#[120]⟩ : ByteArray), ⟨#[120]⟩] _ 2 rfl rfl (by simp)) (by decide)) (intsIn_lit (RdI.later HN2.out (up_new _ _)) HNB.out)).mono ?_
      rintro e w3 ⟨rfl, b3⟩
      have B3 := Lib.hid (up B2.out (up (up_new _ _) b3))
      have HN3 := Lib.hid (RdI.later HN2.out (up (up_new _ _) b3))
      clear b3 HN2 B2
      obtain ⟨q, hq⟩ : ∃ q, k % 2 = q := ⟨_, rfl⟩
      have hq1 : (k : Int) % 2 = (q : Int) := by omega
      have hq2 : (q : Int) ≤ 3 := by omega
      have hq3 : q ≤ 3 := by omega
      have HNB2 : Hid (∀ y ∈ N.take 2, -1000 ≤ y ∧ y ≤ 1000) := Lib.hid (fun y hy => HNB.out y (List.mem_of_mem_take hy))
      have HNBq : Hid (∀ y ∈ N.take q, -1000 ≤ y ∧ y ≤ 1000) := Lib.hid (fun y hy => HNB.out y (List.mem_of_mem_take hy))
      have RT := Lib.hid (fun (w : World) (h : RdI w w.heap.size (.slice (some ⟨g, 0, none⟩) 3 3) N) (m : Nat) (hm : m ≤ 3) => rd_to (m := m) (c := 3) (a := some ⟨g, 0, none⟩) (by rw [hNl]; exact h) (by omega))
      clear hq
      go_wp2_with fail
      refine (dictJoins _ _ _ _ _ (textsIn_lit (rdT_lit w3 [(⟨#[120]⟩ : ByteArray)] _ 1 rfl rfl (by simp)) (by decide)) (intsIn_lit (RT.out _ (RdI.later HN3.out (up_new _ _)) 2 (by omega)) HNB2.out)).mono ?_
      rintro e w4 ⟨rfl, b4⟩
      have B4 := Lib.hid (up B3.out (up (up_new _ _) b4))
      have HN4 := Lib.hid (RdI.later HN3.out (up (up_new _ _) b4))
      clear b4 HN3 B3
      go_wp2_with fail
      refine (dictJoins _ [] _ _ _ (textsIn_lit (Gn.Rd.nil _ _) (by simp)) (intsIn_lit (RT.out _ HN4.out q hq3) HNBq.out)).mono ?_
      rintro e w5 ⟨rfl, b5⟩
      have B5 := Lib.hid (up B4.out b5)
      have HN5 := Lib.hid (RdI.later HN4.out b5)
      clear b5 HN4 B4
      go_wp2_with fail
      refine (dictOnly _ _ _ _ _ (textsIn_lit (rdT_lit w5 [(⟨#[120]⟩ : ByteArray), ⟨#[]⟩, ⟨#[121]⟩] _ 3 rfl rfl (by simp)) (by decide)) (intsIn_lit (RdI.later HN5.out (up_new _ _)) HNB.out)).mono ?_
      rintro e w6 ⟨rfl, b6⟩
      have B6 := Lib.hid (up B5.out (up (up_new _ _) b6))
      clear b6 HN5 B5 RT HNB HNB2 HNBq
      go_wp2_with fail
      go_roundw
      case rel => exact ⟨k + 1, by omega, by go_num, B6⟩
      case measure => simp [intOf]; omega
    · obtain rfl : k = 64 := by omega
      have hlt1 : ¬ (64 : Int) < 64 := by omega
      go_wp2_with fail
      refine (putL _ _ [] [(⟨#[98]⟩ : ByteArray), ⟨#[]⟩, ⟨#[98]⟩, ⟨#[99, 99]⟩, ⟨#[]⟩] _ (Rd.nil _ _) (rdT_lit wr [(⟨#[98]⟩ : ByteArray), ⟨#[]⟩, ⟨#[98]⟩, ⟨#[99, 99]⟩, ⟨#[]⟩] _ 5 rfl rfl (by simp)) (by simp) [3, 1, 98, 0, 2, 99, 99, 0, 1, 0, 2, 1] (by rw [k15, List.nil_append]) (by simp)).mono ?_
      rintro e w1 ⟨r1, rfl, o1, b1⟩
      obtain ⟨b, hb⟩ : ∃ b, [3, 1, 98, 0, 2, 99, 99, 0, 1, 0, 2, 1] = b := ⟨_, rfl⟩
      have hbl : b.length = 12 := by rw [← hb]; rfl
      rw [hb] at o1
      obtain ⟨g0, c0, hv0, _, hc0⟩ := o1.form2 (by omega)
      rw [hbl] at hv0 hc0
      subst hv0
      have O1 := Lib.hid o1
      have B1 := Lib.hid (up HB.out (up (up_new _ _) b1))
      have RT := Lib.hid (fun (w : World) (h : Rd w w.heap.size (.slice (some ⟨g0, 0, none⟩) 12 c0) b) (m : Nat) (hm : m ≤ 12) => h.takes hbl m hm)
      clear o1 b1 HB hb
      go_wp2_with fail
      go_loopw [4] (fun i wr => ∃ k : Nat, k ≤ 13 ∧ i = .int .i64 (k : Nat) ∧ Hid (Below w1.heap.size w1 wr)) (fun i _ => 13 - (intOf i).toNat)
      case atStart => exact ⟨0, by omega, rfl, Lib.hid (Below.refl _ _)⟩
      case round =>
        obtain ⟨k, hk, rfl, HB⟩ := hrel
        by_cases hlt : k ≤ 12
        · have hlt1 : (k : Int) ≤ 12 := by omega
          have hkc : (k : Int) ≤ c0 := by omega
          go_wp2_with fail
          refine (dictReads _ _ _ _ _ (RT.out _ (own_rd O1.out HB.out) k hlt) (by omega) (by omega) (by omega) (by omega)).mono ?_
          rintro e w2 ⟨rfl, b2⟩
          have HB2 := Lib.hid (up HB.out b2)
          clear b2 HB
          go_wp2_with fail
          go_loopw [5] (fun j wr => ∃ q : Nat, q ≤ 256 ∧ j = .int .i64 (q : Nat) ∧ Hid (Below w1.heap.size w1 wr)) (fun j _ => 256 - (intOf j).toNat)
          case atStart => exact ⟨0, by omega, rfl, HB2⟩
          case round =>
            clear HB2
            obtain ⟨q, hq, rfl, HB⟩ := hrel
            by_cases hq256 : q < 256
            · have hq1 : (q : Int) < 256 := by omega
              by_cases hk12 : k < 12
              · have hk1 : (k : Int) < 12 := by omega
                have HCP := Lib.hid (copyBytes _ _ _ (own_rd O1.out HB.out) (by omega))
                go_wp2_with fail
                refine HCP.out.mono ?_
                rintro e w3 ⟨r3, rfl, o3, b3⟩
                obtain ⟨g, cp, hv3, hg, hcp⟩ := o3.form2 (by omega)
                rw [hbl] at hv3 hcp
                subst hv3
                have p1 := o3.cell hbl k hk12
                have p2 := o3.melt hbl k
                have HO := Lib.hid (o3.stored hbl k q hq256)
                have HB3 := Lib.hid (up HB.out (b3.setCell (p := ⟨g, k, none⟩) hg (.int .u8 (q : Nat))))
                have hl2 : (b.set k q).length = 12 := by rw [List.length_set]; exact hbl
                generalize b.getD k 0 = old at *
                generalize b.set k q = b' at *
                clear o3 b3 HB HCP
                go_wp2_with fail
                refine (dictReads _ _ _ _ _ HO.out.rd (by omega) (by omega) (by omega) (by omega)).mono ?_
                rintro e w4 ⟨rfl, b4⟩
                have HB4 := Lib.hid (up HB3.out b4)
                have HO4 := Lib.hid (own_rd HO.out b4)
                clear b4 HB3 HO
                by_cases hm : (q : Int) % 16 = 0
                · have hm2 : ((q : Int) % 16 == 0) = true := by simpa using hm
                  go_wp2_with fail
                  refine (dictReads _ _ _ _ _ HO4.out (by omega) (by omega) (by omega) (by omega)).mono ?_
                  rintro e w5 ⟨rfl, b5⟩
                  have HB5 := Lib.hid (up HB4.out b5)
                  clear b5 HB4
                  go_wp2_with fail
                  go_roundw
                  case rel => exact ⟨q + 1, by omega, by go_num, HB5⟩
                  case measure => simp [intOf]; omega
                · have hm2 : ((q : Int) % 16 == 0) = false := by simpa using hm
                  go_wp2_with fail
                  go_roundw
                  case rel => exact ⟨q + 1, by omega, by go_num, HB4⟩
                  case measure => simp [intOf]; omega
              · have hk1 : ¬ (k : Int) < 12 := by omega
                go_wp2_with fail
                go_roundw
                case rel => exact ⟨k + 1, by omega, by go_num, HB⟩
                case measure => simp [intOf]; omega
            · obtain rfl : q = 256 := by omega
              have hq1 : ¬ (256 : Int) < 256 := by omega
              go_wp2_with fail
              go_roundw
              case rel => exact ⟨k + 1, by omega, by go_num, HB⟩
              case measure => simp [intOf]; omega
        · obtain rfl : k = 13 := by omega
          have hlt1 : ¬ (13 : Int) ≤ 12 := by omega
          go_wp2_with fail
          refine (works _).mono ?_
          rintro e w2 ⟨rfl, b2⟩
          have HB2 := Lib.hid (up HB.out b2)
          clear b2 HB
          go_wp2_with fail
          refine (dictReads _ [0] _ _ _ (rd_lit w2 [0] _ 1 rfl rfl (by simp) (by decide)) (by omega) (by omega) (by omega) (by omega)).mono ?_
          rintro e w3 ⟨rfl, b3⟩
          have HB3 := Lib.hid (up HB2.out (up (up_new _ _) b3))
          clear b3 HB2
          go_wp2_with fail
          refine (dictReads _ [255, 255, 255, 255, 255, 255, 255, 255, 255, 1] _ _ _ (rd_lit w3 [255, 255, 255, 255, 255, 255, 255, 255, 255, 1] _ 10 rfl rfl (by simp) (by decide)) (by omega) (by omega) (by omega) (by omega)).mono ?_
          rintro e w4 ⟨rfl, b4⟩
          have HB4 := Lib.hid (up HB3.out (up (up_new _ _) b4))
          clear b4 HB3
          go_wp2_with fail
          refine (dictReads _ [] _ _ _ (Rd.nil _ _) (by omega) (by omega) (by omega) (by omega)).mono ?_
          rintro e w5 ⟨rfl, b5⟩
          go_wp2_with fail
          go_ret
          exact ⟨rfl, up B1.out (up HB4.out b5)⟩
end Go.Proofs.Ytenfjmdajlhfoaa
