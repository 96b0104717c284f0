/- unlike: keys, no two the same. -/
import Derived.Test.YteklcfimafplbaaDoorSeed
import Derived.Test.YteklcfimafplbaaDoorJoinL
namespace Go.Proofs.YteklcfimafplbaaDoor
open Go.RowKit
set_option linter.unusedVariables false
set_option maxRecDepth 100000

theorem no_over (s t : ByteArray) (h : s.size + t.size ≤ 9223372036854775807) : ¬ 9223372036854775807 < s.size + t.size := by omega
theorem vld_append {a b : ByteArray} (ha : Utf.vld (bl a) = true) (hb : Utf.vld (bl b) = true) : Utf.vld (bl (a ++ b)) = true := by
  obtain ⟨rs, h1, h2⟩ := Utf.vld_runes _ _ (Nat.le_refl _) (bl_byte a) ha
  rw [bl_append, h2, Utf.vld_encs rs _ h1]
  exact hb
theorem vld_plus : Utf.vld (bl ⟨#[43]⟩) = true := by kernel_rfl
def strOf : Value → ByteArray
  | .string s => s
  | _ => ⟨#[]⟩
/-- How many texts are not shorter. -/
def cnt (zs : List ByteArray) (s : ByteArray) : Nat := zs.countP (fun z => decide (s.size ≤ z.size))
theorem cnt_le (zs : List ByteArray) (s : ByteArray) : cnt zs s ≤ zs.length := List.countP_le_length
theorem cnt_mono (s t : ByteArray) (h : s.size ≤ t.size) : ∀ zs, cnt zs t ≤ cnt zs s
  | [] => by simp [cnt]
  | z :: zs => by
    have ih := cnt_mono s t h zs
    unfold cnt at ih ⊢
    rw [List.countP_cons, List.countP_cons]
    by_cases h1 : t.size ≤ z.size
    · simp only [h1, show s.size ≤ z.size by omega, decide_true, if_true]; omega
    · simp only [h1, decide_false]; simp; omega
theorem cnt_less (s t : ByteArray) (h : s.size < t.size) : ∀ (zs : List ByteArray), s ∈ zs → cnt zs t < cnt zs s
  | [], hm => by simp at hm
  | z :: zs, hm => by
    have im := cnt_mono s t (by omega) zs
    rcases List.mem_cons.1 hm with rfl | hm
    · unfold cnt at im ⊢
      rw [List.countP_cons, List.countP_cons]
      simp only [show ¬ t.size ≤ s.size by omega, decide_false, Nat.le_refl, decide_true, if_true]
      simp; omega
    · have ih := cnt_less s t h zs hm
      unfold cnt at ih ⊢
      rw [List.countP_cons, List.countP_cons]
      by_cases h1 : t.size ≤ z.size
      · simp only [h1, show s.size ≤ z.size by omega, decide_true, if_true]; omega
      · simp only [h1, decide_false]; simp; omega
/-- The first i keys, made unlike. -/
structure Un (ys zs : List ByteArray) (i : Nat) : Prop where
  len : zs.length = i
  nodup : zs.Nodup
  size : ∀ z ∈ zs, z.size ≤ 200
  vld : (∀ y ∈ ys, Utf.vld (bl y) = true) → ∀ z ∈ zs, Utf.vld (bl z) = true
theorem Un.snoc {ys zs : List ByteArray} {i : Nat} {s : ByteArray} (h : Un ys zs i) (hs : s ∉ zs) (hz : s.size ≤ 200) (hv : (∀ y ∈ ys, Utf.vld (bl y) = true) → Utf.vld (bl s) = true) : Un ys (zs ++ [s]) (i + 1) := by
  refine ⟨by simp [h.len], ?_, fun z hz' => ?_, fun ha z hz' => ?_⟩
  · rw [List.nodup_append]
    exact ⟨h.nodup, by simp, fun a ha b hb => by rw [List.mem_singleton.1 hb]; exact fun e => hs (e ▸ ha)⟩
  · rcases List.mem_append.1 hz' with h' | h'
    · exact h.size z h'
    · rw [List.mem_singleton.1 h']; exact hz
  · rcases List.mem_append.1 hz' with h' | h'
    · exact h.vld ha z h'
    · rw [List.mem_singleton.1 h']; exact hv ha
def UPost (w : World) (ys : List ByteArray) (e : Ending) (w' : World) : Prop := ∃ v zs, e = .returned v ∧ OwnT w' w.heap.size v zs ∧ Un ys zs ys.length ∧ Below w.heap.size w w'
def Unseen (s : ByteArray) (l : List ByteArray) : Prop := s ∉ l

set_option maxHeartbeats 8000000 in
theorem unlikeC (kv : Value) (ys : List ByteArray) (w : World) (hK : RdT w w.heap.size kv ys) (hlen : ys.length ≤ 8) (hs : ∀ y ∈ ys, y.size ≤ 100) :
    Calls Tryd.prog 83 #[kv] w fun e w' => UPost w ys e w' := by
  have HK := Lib.hid hK
  have HS := Lib.hid hs
  obtain ⟨kb, kc, rfl, _⟩ := Gn.Rd.form hK
  obtain ⟨N, hN⟩ : ∃ N, ys.length = N := ⟨_, rfl⟩
  rw [hN] at HK ⊢
  have HN := Lib.hid hN
  have hN8 : N ≤ 8 := by omega
  clear hK hs hlen hN
  go_enter Tryd.func83, Tryd.ntmps83
  go_wp2_with fail
  go_loopw [3, 4] (fun o i wr => ∃ (q : Nat) (zs : List ByteArray), i = .int .i64 (q : Nat) ∧ q ≤ N ∧ Hid (OwnT wr w.heap.size o zs) ∧ Hid (Un ys zs q) ∧ Hid (Below w.heap.size w wr)) (fun _ i _ => N - (intOf i).toNat)
  case atStart => exact ⟨0, [], by rfl, by omega, Lib.hid (Gn.Own.nil _ _), Lib.hid ⟨rfl, by simp, by simp, by simp⟩, Lib.hid (Below.refl _ _)⟩
  case round =>
    obtain ⟨q, zs, rfl, hq, HO, HU, HB⟩ := hrel
    by_cases hlt : q < N
    · have hlt1 : (q : Int) < N := by omega
      obtain ⟨y, hy⟩ : ∃ y, ys[q]? = some y := ⟨_, List.getElem?_eq_getElem (by have := HN.out; omega)⟩
      obtain ⟨b2, o2, rfl, c2⟩ := rdT_cell HK.out HB.out hy
      have HYM := Lib.hid (List.mem_of_getElem? hy)
      obtain ⟨za, zc, rfl, _⟩ := Gn.Rd.form (Gn.Own.rd txL HO.out)
      have HZL := Lib.hid HU.out.len
      rw [HU.out.len] at HO ⊢
      have HRZ := Lib.hid (Gn.Own.rd txL HO.out)
      clear hy
      go_wp2_with fail
      go_loopw [5, 6] (fun k n wx => ∃ (s : ByteArray) (j : Nat), k = .string s ∧ n = .int .i64 (j : Nat) ∧ j ≤ q ∧ s.size ≤ 150 ∧ Hid (Unseen s (zs.take j)) ∧ Hid (s.size + cnt zs s ≤ 100 + zs.length) ∧ Hid (Utf.vld (bl y) = true → Utf.vld (bl s) = true) ∧ wx = wr) (fun k n _ => cnt zs (strOf k) * (q + 2) + (q - (intOf n).toNat))
      case atStart => exact ⟨y, 0, by rfl, by rfl, by omega, by have := HS.out y HYM.out; omega, Lib.hid (by unfold Unseen; simp), Lib.hid (by have := HS.out y HYM.out; have := cnt_le zs y; omega), Lib.hid (fun h => h), rfl⟩
      case round =>
        obtain ⟨s, j, rfl, rfl, hj, hs1, HNS, HC, HV, rfl⟩ := hrel
        by_cases hlt2 : j < q
        · have hlt3 : (j : Int) < q := by omega
          obtain ⟨z, hz⟩ : ∃ z, zs[j]? = some z := ⟨_, List.getElem?_eq_getElem (by have := HZL.out; omega)⟩
          obtain ⟨zb, zo, rfl, cz⟩ := rdT_cell HRZ.out (Below.refl _ _) hz
          have HZM := Lib.hid hz
          by_cases heq : z = s
          · have hb : (z.toList == s.toList) = true := by rw [heq]; simp
            have m1 := no_over s ⟨#[43]⟩ (by rw [show (⟨#[43]⟩ : ByteArray).size = 1 from rfl]; omega)
            have hsz : (s ++ (⟨#[43]⟩ : ByteArray)).size = s.size + 1 := by rw [ByteArray.size_append]; rfl
            have hcl := cnt_less s (s ++ ⟨#[43]⟩) (by omega) zs (by rw [← heq]; exact List.mem_of_getElem? hz)
            obtain ⟨s2, hs2⟩ : ∃ s2, s ++ (⟨#[43]⟩ : ByteArray) = s2 := ⟨_, rfl⟩
            have HV2 : Hid (Utf.vld (bl y) = true → Utf.vld (bl s2) = true) := Lib.hid (fun h => by rw [← hs2]; exact vld_append (HV.out h) vld_plus)
            rw [hs2] at hsz hcl
            have HCL := Lib.hid hcl
            have hs150 : s2.size ≤ 150 := by have := HC.out; have := HZL.out; omega
            have HC2 : Hid (s2.size + cnt zs s2 ≤ 100 + zs.length) := Lib.hid (by have := HC.out; omega)
            clear hz heq hsz hcl
            go_wp2_with fail
            go_roundw
            case rel => exact ⟨s2, 0, rfl, by go_num, by omega, hs150, Lib.hid (by unfold Unseen; simp), HC2, HV2, by first | rfl | trivial⟩
            case measure =>
              have h := Nat.mul_le_mul_right (q + 2) HCL.out
              rw [Nat.succ_mul] at h
              simp only [intOf, strOf]
              omega
          · have hb : (z.toList == s.toList) = false := beq_eq_false_iff_ne.2 (fun e => heq (by rw [ByteArray.toList_eq, ByteArray.toList_eq] at e; exact ByteArray.ext (Array.toList_inj.1 e)))
            have HN2 : Hid (Unseen s (zs.take (j + 1))) := Lib.hid (by
              unfold Unseen
              rw [take_at hz]
              intro h
              rcases List.mem_append.1 h with h | h
              · exact HNS.out h
              · exact heq (List.mem_singleton.1 h).symm)
            clear hz heq
            go_wp2_with fail
            go_roundw
            case rel => exact ⟨s, j + 1, rfl, by go_num, by omega, hs1, HN2, HC, HV, by first | rfl | trivial⟩
            case measure => simp [intOf, strOf]; omega
        · have hlt3 : ¬ (j : Int) < q := by omega
          have HNZ : Hid (s ∉ zs) := Lib.hid (by
            have h1 := HNS.out
            unfold Unseen at h1
            rw [List.take_of_length_le (by have := HZL.out; omega)] at h1
            exact h1)
          have HOA := Lib.hid (Gn.Own.later HO.out (up_new wr (.cells #[.string s] 9)))
          have HBA := Lib.hid (HB.out.trans ((up_new wr (.cells #[.string s] 9)).mono HB.out.size))
          have HRA := Lib.hid (rdTx_one wr s)
          go_wp2_with (at_builtin
                       refine Gn.wpList_app txL txY rfl (.tmp 30) (.tmp 32) rfl w.heap.size _ zs rfl HOA.out _ [s] rfl HRA.out (by rw [HZL.out]; simp; omega) HBA.out.size ?_
                       intro v7 w7 ho7 hg7 hl7 hn7
                       have HO7 := Lib.hid ho7
                       have HB7 := Lib.hid (HBA.out.trans (Gn.below_of_own HOA.out hg7 HBA.out.size))
                       clear ho7 hg7 hl7 hn7)
          go_roundw
          case rel => exact ⟨q + 1, zs ++ [s], by go_num, by omega, HO7, Lib.hid (HU.out.snoc HNZ.out (by omega) (fun ha => HV.out (ha y HYM.out))), HB7⟩
          case measure => simp [intOf]; omega
    · have hlt1 : ¬ (q : Int) < N := by omega
      obtain rfl : q = N := by omega
      go_wp2_with fail
      go_ret
      exact ⟨_, zs, rfl, HO.out, by rw [HN.out]; exact HU.out, HB.out⟩
end Go.Proofs.YteklcfimafplbaaDoor
