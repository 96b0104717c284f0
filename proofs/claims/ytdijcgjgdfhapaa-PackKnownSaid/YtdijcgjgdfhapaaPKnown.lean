/- The walk of PackKnown: it returns true and changes nothing that was there. -/
import Derived.Test.YtdijcgjgdfhapaaPWrites
import Derived.Test.YtdijcgjgdfhapaaPFull
import Derived.Test.YtdijcgjgdfhapaaPReads
namespace Go.Proofs.Ytdijcgjgdfhapaa
open Go.RowKit
set_option linter.unusedVariables false

def pcCells (l : List Pc) : List Value := l.flatMap fun p => [.int .i64 p.k, .int .u64 p.n, .string p.s]
theorem pc_cells : ∀ (l : List Pc) (i : Nat) (p : Pc), l[i]? = some p →
    (pcCells l)[i * 3]? = some (.int .i64 p.k) ∧ (pcCells l)[i * 3 + 1]? = some (.int .u64 p.n) ∧ (pcCells l)[i * 3 + 2]? = some (.string p.s)
  | [], i, p, h => by simp at h
  | q :: l, 0, p, h => by
    simp at h
    subst h
    exact ⟨rfl, rfl, rfl⟩
  | q :: l, i + 1, p, h => by
    simp at h
    have := pc_cells l i p h
    rw [show (i + 1) * 3 = i * 3 + 1 + 1 + 1 by omega]
    exact this
theorem rd_pcs (w : World) (l : List Pc) (cs : Array Value) (n : Nat) (hcs : cs = (pcCells l).toArray) (hn : n = l.length) (hm : l.length ≤ 1000) (hok : ∀ p ∈ l, p.ok) :
    RdPc (w.alloc (.cells cs 30)) (w.alloc (.cells cs 30)).heap.size (.slice (some ⟨w.heap.size, 0, none⟩) n n) l := by
  subst hcs hn
  refine ⟨_, _, rfl, Nat.le_refl _, by simp only [maxLen]; omega, hok, fun _ => ⟨w.heap.size, 0, rfl, by simp, fun i p hp => ?_⟩⟩
  have hc := fun k => cell_of_row (w.alloc (.cells (pcCells l).toArray 30)) w.heap.size k _ 30 (0, 0) (heap_alloc_new w _)
  have := pc_cells l i p hp
  simp only [Nat.zero_add]
  rw [hc, hc, hc]
  simpa using this
def akCells (l : List Ak) : List Value := l.flatMap fun p => [.int .i64 p.k, .int .i64 p.n]
theorem ak_cells : ∀ (l : List Ak) (i : Nat) (p : Ak), l[i]? = some p → (akCells l)[i * 2]? = some (.int .i64 p.k) ∧ (akCells l)[i * 2 + 1]? = some (.int .i64 p.n)
  | [], i, p, h => by simp at h
  | q :: l, 0, p, h => by
    simp at h
    subst h
    exact ⟨rfl, rfl⟩
  | q :: l, i + 1, p, h => by
    simp at h
    have := ak_cells l i p h
    rw [show (i + 1) * 2 = i * 2 + 1 + 1 by omega]
    exact this
theorem rd_aks (w : World) (l : List Ak) (cs : Array Value) (n : Nat) (hcs : cs = (akCells l).toArray) (hn : n = l.length) (hm : l.length ≤ 1000) (hok : ∀ p ∈ l, p.ok) :
    RdAk (w.alloc (.cells cs 52)) (w.alloc (.cells cs 52)).heap.size (.slice (some ⟨w.heap.size, 0, none⟩) n n) l := by
  subst hcs hn
  refine ⟨_, _, rfl, Nat.le_refl _, by simp only [maxLen]; omega, hok, fun _ => ⟨w.heap.size, 0, rfl, by simp, fun i p hp => ?_⟩⟩
  have hc := fun k => cell_of_row (w.alloc (.cells (akCells l).toArray 52)) w.heap.size k _ 52 (0, 0) (heap_alloc_new w _)
  have := ak_cells l i p hp
  simp only [Nat.zero_add]
  rw [hc, hc]
  simpa using this
theorem pc_ok (k n : Int) (s : ByteArray) (k0 : -9223372036854775808 ≤ k) (k1 : k ≤ 9223372036854775807) (n0 : 0 ≤ n) (n1 : n ≤ 18446744073709551615) (hs : s.size ≤ 1000) : Pc.ok ⟨k, n, s⟩ := ⟨⟨k0, k1⟩, ⟨n0, n1⟩, by dsimp only; omega⟩
theorem ak_ok (k n : Int) (k0 : -9223372036854775808 ≤ k) (k1 : k ≤ 9223372036854775807) (n0 : -9223372036854775808 ≤ n) (n1 : n ≤ 9223372036854775807) : Ak.ok ⟨k, n⟩ := ⟨⟨k0, k1⟩, ⟨n0, n1⟩⟩
/-- Rows of bytes that lie in a row. -/
def RowsP (w : World) (g m : Nat) : Prop := ∃ cs : List Value, cs.length = m ∧ Blk w g 32 cs ∧ ∀ (i : Nat) (u : Value), cs[i]? = some u → ∃ L, Rd w w.heap.size u L
theorem RowsP.at {w w' : World} {g m i : Nat} (h : RowsP w g m) (hb : Below w.heap.size w w') (hi : i < m) : ∃ a c L, w'.cell? ⟨g, i, none⟩ = some (.slice a L.length c) ∧ Rd w' w'.heap.size (.slice a L.length c) L := by
  obtain ⟨cs, rfl, hB, hr⟩ := h
  have he := List.getElem?_eq_getElem hi
  obtain ⟨L, hL⟩ := hr i _ he
  obtain ⟨a, c, e, -⟩ := id hL
  refine ⟨a, c, L, ?_, ?_⟩
  · rw [(hB.later hb).cell i, he, e]
  · rw [← e]
    exact hL.later (Nat.le_refl _) hb

theorem RowsP.later {w w' : World} {g m : Nat} (h : RowsP w g m) (hb : Below w.heap.size w w') : RowsP w' g m := by
  obtain ⟨cs, hm, hB, hr⟩ := h
  refine ⟨cs, hm, hB.later hb, fun i u hu => ?_⟩
  obtain ⟨L, hL⟩ := hr i u hu
  exact ⟨L, hL.later (Nat.le_refl _) hb⟩
theorem rd_next {w : World} {v : Value} {l : List Nat} (o : Obj) (h : Rd w w.heap.size v l) : Rd (w.alloc o) (w.alloc o).heap.size v l := h.later (Nat.le_refl _) (new_below _ _)
theorem rd_lit_at (w : World) (l : List Nat) (cs : Array Value) (n b : Nat) (hb' : b = w.heap.size) (hcs : cs = (vals l).toArray) (hn : n = l.length) (hm : l.length ≤ 1000) (hb : ∀ x ∈ l, x < 256) :
    Rd (w.alloc (.cells cs 5)) (w.alloc (.cells cs 5)).heap.size (.slice (some ⟨b, 0, none⟩) n n) l := by
  subst hb'
  exact rd_lit w l cs n hcs hn hm hb
set_option maxRecDepth 100000 in
theorem rows_laid (w : World) : RowsP (((((((((((w.alloc (.cells #[.int .u8 0] 5)).alloc (.cells #[.int .u8 1] 5)).alloc (.cells #[.int .u8 127] 5)).alloc (.cells #[.int .u8 128] 5)).alloc (.cells #[.int .u8 3, .int .u8 97, .int .u8 98] 5)).alloc (.cells #[.int .u8 3, .int .u8 97, .int .u8 98, .int .u8 99] 5)).alloc (.cells #[.int .u8 3, .int .u8 97, .int .u8 98, .int .u8 99, .int .u8 100] 5)).alloc (.cells #[.int .u8 255, .int .u8 255, .int .u8 255, .int .u8 255, .int .u8 255, .int .u8 255, .int .u8 255, .int .u8 255, .int .u8 255, .int .u8 1] 5)).alloc (.cells #[.int .u8 128, .int .u8 128, .int .u8 0] 5)).alloc (.cells #[.int .u8 1, .int .u8 2, .int .u8 3] 5)).alloc (.cells #[.slice none 0 0, .slice (some ⟨w.heap.size, 0, none⟩) 1 1, .slice (some ⟨w.heap.size + 1, 0, none⟩) 1 1, .slice (some ⟨w.heap.size + 1 + 1, 0, none⟩) 1 1, .slice (some ⟨w.heap.size + 1 + 1 + 1, 0, none⟩) 1 1, .slice (some ⟨w.heap.size + 1 + 1 + 1 + 1, 0, none⟩) 3 3, .slice (some ⟨w.heap.size + 1 + 1 + 1 + 1 + 1, 0, none⟩) 4 4, .slice (some ⟨w.heap.size + 1 + 1 + 1 + 1 + 1 + 1, 0, none⟩) 5 5, .slice (some ⟨w.heap.size + 1 + 1 + 1 + 1 + 1 + 1 + 1, 0, none⟩) 10 10, .slice (some ⟨w.heap.size + 1 + 1 + 1 + 1 + 1 + 1 + 1 + 1, 0, none⟩) 3 3, .slice (some ⟨w.heap.size + 1 + 1 + 1 + 1 + 1 + 1 + 1 + 1 + 1, 0, none⟩) 3 3] 32)) (w.heap.size + 1 + 1 + 1 + 1 + 1 + 1 + 1 + 1 + 1 + 1) 11 := by
  refine ⟨[.slice none 0 0, .slice (some ⟨w.heap.size, 0, none⟩) 1 1, .slice (some ⟨w.heap.size + 1, 0, none⟩) 1 1, .slice (some ⟨w.heap.size + 1 + 1, 0, none⟩) 1 1, .slice (some ⟨w.heap.size + 1 + 1 + 1, 0, none⟩) 1 1, .slice (some ⟨w.heap.size + 1 + 1 + 1 + 1, 0, none⟩) 3 3, .slice (some ⟨w.heap.size + 1 + 1 + 1 + 1 + 1, 0, none⟩) 4 4, .slice (some ⟨w.heap.size + 1 + 1 + 1 + 1 + 1 + 1, 0, none⟩) 5 5, .slice (some ⟨w.heap.size + 1 + 1 + 1 + 1 + 1 + 1 + 1, 0, none⟩) 10 10, .slice (some ⟨w.heap.size + 1 + 1 + 1 + 1 + 1 + 1 + 1 + 1, 0, none⟩) 3 3, .slice (some ⟨w.heap.size + 1 + 1 + 1 + 1 + 1 + 1 + 1 + 1 + 1, 0, none⟩) 3 3], rfl, ?_, ?_⟩
  · have h := Blk.new ((((((((((w.alloc (.cells #[.int .u8 0] 5)).alloc (.cells #[.int .u8 1] 5)).alloc (.cells #[.int .u8 127] 5)).alloc (.cells #[.int .u8 128] 5)).alloc (.cells #[.int .u8 3, .int .u8 97, .int .u8 98] 5)).alloc (.cells #[.int .u8 3, .int .u8 97, .int .u8 98, .int .u8 99] 5)).alloc (.cells #[.int .u8 3, .int .u8 97, .int .u8 98, .int .u8 99, .int .u8 100] 5)).alloc (.cells #[.int .u8 255, .int .u8 255, .int .u8 255, .int .u8 255, .int .u8 255, .int .u8 255, .int .u8 255, .int .u8 255, .int .u8 255, .int .u8 1] 5)).alloc (.cells #[.int .u8 128, .int .u8 128, .int .u8 0] 5)).alloc (.cells #[.int .u8 1, .int .u8 2, .int .u8 3] 5)) 32 #[.slice none 0 0, .slice (some ⟨w.heap.size, 0, none⟩) 1 1, .slice (some ⟨w.heap.size + 1, 0, none⟩) 1 1, .slice (some ⟨w.heap.size + 1 + 1, 0, none⟩) 1 1, .slice (some ⟨w.heap.size + 1 + 1 + 1, 0, none⟩) 1 1, .slice (some ⟨w.heap.size + 1 + 1 + 1 + 1, 0, none⟩) 3 3, .slice (some ⟨w.heap.size + 1 + 1 + 1 + 1 + 1, 0, none⟩) 4 4, .slice (some ⟨w.heap.size + 1 + 1 + 1 + 1 + 1 + 1, 0, none⟩) 5 5, .slice (some ⟨w.heap.size + 1 + 1 + 1 + 1 + 1 + 1 + 1, 0, none⟩) 10 10, .slice (some ⟨w.heap.size + 1 + 1 + 1 + 1 + 1 + 1 + 1 + 1, 0, none⟩) 3 3, .slice (some ⟨w.heap.size + 1 + 1 + 1 + 1 + 1 + 1 + 1 + 1 + 1, 0, none⟩) 3 3]
    simp only [World.size_alloc] at h
    exact h
  · intro i u hu
    rcases i with _ | _ | _ | _ | _ | _ | _ | _ | _ | _ | _ | i
    · simp at hu
      subst hu
      exact ⟨[], Rd.nil _ _⟩
    · simp at hu
      subst hu
      exact ⟨_, rd_next _ (rd_next _ (rd_next _ (rd_next _ (rd_next _ (rd_next _ (rd_next _ (rd_next _ (rd_next _ (rd_next _ (rd_lit_at _ [0] _ 1 _ (by first | rfl | simp only [World.size_alloc]) rfl rfl (by decide) (by decide)))))))))))⟩
    · simp at hu
      subst hu
      exact ⟨_, rd_next _ (rd_next _ (rd_next _ (rd_next _ (rd_next _ (rd_next _ (rd_next _ (rd_next _ (rd_next _ (rd_lit_at _ [1] _ 1 _ (by first | rfl | simp only [World.size_alloc]) rfl rfl (by decide) (by decide))))))))))⟩
    · simp at hu
      subst hu
      exact ⟨_, rd_next _ (rd_next _ (rd_next _ (rd_next _ (rd_next _ (rd_next _ (rd_next _ (rd_next _ (rd_lit_at _ [127] _ 1 _ (by first | rfl | simp only [World.size_alloc]) rfl rfl (by decide) (by decide)))))))))⟩
    · simp at hu
      subst hu
      exact ⟨_, rd_next _ (rd_next _ (rd_next _ (rd_next _ (rd_next _ (rd_next _ (rd_next _ (rd_lit_at _ [128] _ 1 _ (by first | rfl | simp only [World.size_alloc]) rfl rfl (by decide) (by decide))))))))⟩
    · simp at hu
      subst hu
      exact ⟨_, rd_next _ (rd_next _ (rd_next _ (rd_next _ (rd_next _ (rd_next _ (rd_lit_at _ [3, 97, 98] _ 3 _ (by first | rfl | simp only [World.size_alloc]) rfl rfl (by decide) (by decide)))))))⟩
    · simp at hu
      subst hu
      exact ⟨_, rd_next _ (rd_next _ (rd_next _ (rd_next _ (rd_next _ (rd_lit_at _ [3, 97, 98, 99] _ 4 _ (by first | rfl | simp only [World.size_alloc]) rfl rfl (by decide) (by decide))))))⟩
    · simp at hu
      subst hu
      exact ⟨_, rd_next _ (rd_next _ (rd_next _ (rd_next _ (rd_lit_at _ [3, 97, 98, 99, 100] _ 5 _ (by first | rfl | simp only [World.size_alloc]) rfl rfl (by decide) (by decide)))))⟩
    · simp at hu
      subst hu
      exact ⟨_, rd_next _ (rd_next _ (rd_next _ (rd_lit_at _ [255, 255, 255, 255, 255, 255, 255, 255, 255, 1] _ 10 _ (by first | rfl | simp only [World.size_alloc]) rfl rfl (by decide) (by decide))))⟩
    · simp at hu
      subst hu
      exact ⟨_, rd_next _ (rd_next _ (rd_lit_at _ [128, 128, 0] _ 3 _ (by first | rfl | simp only [World.size_alloc]) rfl rfl (by decide) (by decide)))⟩
    · simp at hu
      subst hu
      exact ⟨_, rd_next _ (rd_lit_at _ [1, 2, 3] _ 3 _ (by first | rfl | simp only [World.size_alloc]) rfl rfl (by decide) (by decide))⟩
    · simp at hu
set_option maxHeartbeats 4000000 in
set_option maxRecDepth 100000 in
theorem packKnown (w : World) : Calls Try.prog 10 #[] w fun e w' => e = .returned (.bool true) ∧ Below w.heap.size w w' := by
  go_enter Try.func10, Try.ntmps10
  go_wp2
  go_loopw [1] (fun z wr => ∃ m : Int, -1 ≤ m ∧ m ≤ 14 ∧ z = .int .i64 m ∧ Below w.heap.size w wr) (fun z _ => (14 - intOf z).toNat)
  case atStart => exact ⟨-1, by omega, by omega, rfl, Below.refl _ _⟩
  case round =>
    obtain ⟨m, hm0, hm1, rfl, hB⟩ := hrel
    have HB := Lib.hid hB
    clear hB
    obtain ⟨wo, hwo⟩ : ∃ wo, wo = wr := ⟨_, rfl⟩
    subst hwo
    by_cases hlt : m < 14
    · have hd : decide (m < 14) = true := by simp; omega
      go_wp2
      go_loopw [2] (fun z wr => ∃ k : Int, 0 ≤ k ∧ k ≤ 6 ∧ z = .int .i64 k ∧ Below w.heap.size w wr) (fun z _ => (6 - intOf z).toNat)
      case atStart => exact ⟨0, by omega, by omega, rfl, HB.out⟩
      case round =>
        clear HB
        obtain ⟨k, hk0, hk1, rfl, hB⟩ := hrel
        have HB := Lib.hid hB
        clear hB
        by_cases hkt : k < 6
        · have hp1 : ∀ p ∈ [(⟨k, 1099511627776, ⟨#[97, 98, 99]⟩⟩ : Pc), ⟨4, 0, ⟨#[]⟩⟩, ⟨k, 3, ⟨#[]⟩⟩, ⟨0, 0, ⟨#[]⟩⟩], p.ok := by
            intro p hp
            simp at hp
            rcases hp with rfl | rfl | rfl | rfl <;> exact pc_ok _ _ _ (by omega) (by omega) (by omega) (by omega) (by decide)
          have hp2 : ∀ p ∈ [(⟨k, 18446744073709551615, ⟨#[97, 98, 99, 100, 101]⟩⟩ : Pc), ⟨0, 0, ⟨#[]⟩⟩], p.ok := by
            intro p hp
            simp at hp
            rcases hp with rfl | rfl <;> exact pc_ok _ _ _ (by omega) (by omega) (by omega) (by omega) (by decide)
          have HP1 := Lib.hid hp1
          have HP2 := Lib.hid hp2
          clear hp1 hp2
          go_wp2_with fail
          refine (packWrites m _ _ _ (by omega) (by omega) (rd_pcs wr [(⟨k, 1099511627776, ⟨#[97, 98, 99]⟩⟩ : Pc), ⟨4, 0, ⟨#[]⟩⟩, ⟨k, 3, ⟨#[]⟩⟩, ⟨0, 0, ⟨#[]⟩⟩] _ 4 rfl rfl (by simp) HP1.out)).mono ?_
          rintro x w5 ⟨rfl, hb5⟩
          have HB5 := Lib.hid (up (below_alloc HB.out _) hb5)
          clear hb5
          go_wp2_with fail
          refine (packFull m _ _ _ (by omega) (by omega) (rd_pcs w5 [(⟨k, 18446744073709551615, ⟨#[97, 98, 99, 100, 101]⟩⟩ : Pc), ⟨0, 0, ⟨#[]⟩⟩] _ 2 rfl rfl (by simp) HP2.out)).mono ?_
          rintro x w6 ⟨rfl, hb6⟩
          have HB6 := Lib.hid (up (below_alloc HB5.out _) hb6)
          clear hb6
          go_wp2
          go_roundw
          case rel => exact ⟨k + 1, by omega, by omega, rfl, HB6.out⟩
          case measure => simp [intOf]; omega
        · go_wp2
          go_roundw
          case rel => exact ⟨m + 1, by omega, by omega, rfl, HB.out⟩
          case measure => simp [intOf]; omega
    · go_wp2
      go_loopw [4] (fun z wr => ∃ i : Nat, i ≤ 11 ∧ z = .int .i64 (i : Int) ∧ RowsP wr (wo.heap.size + 1 + 1 + 1 + 1 + 1 + 1 + 1 + 1 + 1 + 1) 11 ∧ Below w.heap.size w wr) (fun z _ => 11 - (intOf z).toNat)
      case atStart => exact ⟨0, by omega, rfl, rows_laid wo, below_alloc (below_alloc (below_alloc (below_alloc (below_alloc (below_alloc (below_alloc (below_alloc (below_alloc (below_alloc (below_alloc (HB.out) _) _) _) _) _) _) _) _) _) _) _⟩
      case round =>
        clear HB
        generalize wo.heap.size + 1 + 1 + 1 + 1 + 1 + 1 + 1 + 1 + 1 + 1 = G at *
        obtain ⟨i, hi, rfl, hR, hB⟩ := hrel
        have HR := Lib.hid hR
        have HB := Lib.hid hB
        clear hR hB
        by_cases hit : i < 11
        · have hd : decide ((i : Int) < 11) = true := by simp; omega
          go_wp2
          go_loopw [5] (fun z wr => ∃ k : Int, 0 ≤ k ∧ k ≤ 8 ∧ z = .int .i64 k ∧ RowsP wr G 11 ∧ Below w.heap.size w wr) (fun z _ => (8 - intOf z).toNat)
          case atStart => exact ⟨0, by omega, by omega, rfl, HR.out, HB.out⟩
          case round =>
            clear HR HB
            obtain ⟨k, hk0, hk1, rfl, hR, hB⟩ := hrel
            have HR := Lib.hid hR
            have HB := Lib.hid hB
            clear hR hB
            by_cases hkt : k < 8
            · have hd2 : decide (k < 8) = true := by simp; omega
              go_wp2
              go_loopw [6] (fun z wr => ∃ n : Int, -1 ≤ n ∧ n ≤ 6 ∧ z = .int .i64 n ∧ RowsP wr G 11 ∧ Below w.heap.size w wr) (fun z _ => (6 - intOf z).toNat)
              case atStart => exact ⟨-1, by omega, by omega, rfl, HR.out, HB.out⟩
              case round =>
                clear HR HB
                obtain ⟨n, hn0, hn1, rfl, hR, hB⟩ := hrel
                by_cases hnt : n < 6
                · have ha1 : ∀ p ∈ [(⟨k, n⟩ : Ak), ⟨0, 0⟩, ⟨k, 1⟩, ⟨6, 2⟩, ⟨k, n⟩], p.ok := by
                    intro p hp
                    simp at hp
                    rcases hp with rfl | rfl | rfl | rfl | rfl <;> exact ak_ok _ _ (by omega) (by omega) (by omega) (by omega)
                  have HA1 := Lib.hid ha1
                  obtain ⟨ra, rc, L, hcell, hrd⟩ := hR.at (Below.refl _ _) hit
                  have HRD := Lib.hid hrd
                  have HR := Lib.hid hR
                  have HB := Lib.hid hB
                  clear ha1 hrd hR hB
                  go_wp2_with fail
                  refine (packReads _ L _ _ _ (rd_next _ HRD.out) (rd_aks wr [(⟨k, n⟩ : Ak), ⟨0, 0⟩, ⟨k, 1⟩, ⟨6, 2⟩, ⟨k, n⟩] _ 5 rfl rfl (by simp) HA1.out)).mono ?_
                  rintro x w5 ⟨rfl, hb5⟩
                  have HB5 := Lib.hid (up (below_alloc HB.out _) hb5)
                  have HR5 := Lib.hid (HR.out.later (up (new_below _ _) hb5))
                  clear hb5
                  go_wp2
                  go_roundw
                  case rel => exact ⟨n + 1, by omega, by omega, rfl, HR5.out, HB5.out⟩
                  case measure => simp [intOf]; omega
                · go_wp2
                  go_roundw
                  case rel => exact ⟨k + 1, by omega, by omega, rfl, hR, hB⟩
                  case measure => simp [intOf]; omega
            · have ha1 : ∀ p ∈ [(⟨3, 9223372036854775807⟩ : Ak), ⟨4, 9223372036854775807⟩, ⟨4, -9223372036854775808⟩], p.ok := by
                intro p hp
                simp at hp
                rcases hp with rfl | rfl | rfl <;> exact ak_ok _ _ (by omega) (by omega) (by omega) (by omega)
              have ha2 : ∀ p ∈ [(⟨4, -9223372036854775808⟩ : Ak), ⟨3, -9223372036854775808⟩], p.ok := by
                intro p hp
                simp at hp
                rcases hp with rfl | rfl <;> exact ak_ok _ _ (by omega) (by omega) (by omega) (by omega)
              have HA1 := Lib.hid ha1
              have HA2 := Lib.hid ha2
              obtain ⟨ra, rc, L, hcell, hrd⟩ := HR.out.at (Below.refl _ _) hit
              have HRD := Lib.hid hrd
              clear ha1 ha2 hrd
              go_wp2_with fail
              refine (packReads _ L _ _ _ (rd_next _ HRD.out) (rd_aks wr [(⟨3, 9223372036854775807⟩ : Ak), ⟨4, 9223372036854775807⟩, ⟨4, -9223372036854775808⟩] _ 3 rfl rfl (by simp) HA1.out)).mono ?_
              rintro x w5 ⟨rfl, hb5⟩
              have HB5 := Lib.hid (up (below_alloc HB.out _) hb5)
              have HR5 := Lib.hid (HR.out.later (up (new_below _ _) hb5))
              clear hb5 hcell HRD
              obtain ⟨ra2, rc2, L2, hcell2, hrd2⟩ := HR5.out.at (Below.refl _ _) hit
              have HRD2 := Lib.hid hrd2
              clear hrd2
              go_wp2_with fail
              refine (packReads _ L2 _ _ _ (rd_next _ HRD2.out) (rd_aks w5 [(⟨4, -9223372036854775808⟩ : Ak), ⟨3, -9223372036854775808⟩] _ 2 rfl rfl (by simp) HA2.out)).mono ?_
              rintro x w6 ⟨rfl, hb6⟩
              have HB6 := Lib.hid (up (below_alloc HB5.out _) hb6)
              have HR6 := Lib.hid (HR5.out.later (up (new_below _ _) hb6))
              clear hb6
              go_wp2
              go_roundw
              case rel => exact ⟨i + 1, by omega, by go_num, HR6.out, HB6.out⟩
              case measure => simp [intOf]; omega
        · go_wp2_with fail
          refine (works _).mono ?_
          rintro x w5 ⟨rfl, hb5⟩
          go_wp2_with fail
          refine (ww_made w (-9223372036854775808) 0 _ (up HB.out hb5) (by decide) (by decide) (by decide)).mono ?_
          rintro x w6 ⟨g, rfl, hW⟩
          have HW := Lib.hid hW
          clear hW
          go_wp2_with fail
          refine (ww_len 0 HW.out rfl).mono ?_
          rintro x w7 ⟨rfl, rfl⟩
          go_wp2
          go_ret
          exact ⟨rfl, HW.out.below⟩
end Go.Proofs.Ytdijcgjgdfhapaa
