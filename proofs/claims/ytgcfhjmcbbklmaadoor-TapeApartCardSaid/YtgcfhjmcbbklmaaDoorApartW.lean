/- TapeApart: the walk. -/
import Derived.Test.YtgcfhjmcbbklmaaDoorDrawn
import Derived.Test.YtgcfhjmcbbklmaaDoorGet2
import Derived.Test.YtgcfhjmcbbklmaaDoorWorks
import Derived.Test.YtgcfhjmcbbklmaaDoorFrameS
import Derived.Deep.RegionHeld3
namespace Go.Proofs.YtgcfhjmcbbklmaaDoor
open Go.RowKit
set_option linter.unusedVariables false
set_option maxRecDepth 100000

theorem mk_split : ∀ (ys : List ByteArray) (Fs : List Fo) (i : Nat), ys.length = Fs.length → (∀ F ∈ Fs, Root F) → i < Fs.length → ∃ k n s c y, Fs[i]? = some (.node k ⟨#[]⟩ n s c .nil) ∧ ys[i]? = some y ∧ mkC ys Fs = Tp.app (mkC (ys.take i) (Fs.take i)) (.node k y n s c (mkC (ys.drop (i + 1)) (Fs.drop (i + 1))))
  | [], [], i, _, _, h => by simp at h
  | y :: ys, F :: Fs, 0, _, hR, _ => by
    obtain ⟨k, n, s, c, rfl⟩ := hR F (List.mem_cons_self ..)
    exact ⟨k, n, s, c, y, rfl, rfl, rfl⟩
  | y :: ys, F :: Fs, i + 1, hl, hR, hi => by
    obtain ⟨k, n, s, c, rfl⟩ := hR F (List.mem_cons_self ..)
    obtain ⟨k2, n2, s2, c2, y2, h1, h2, h3⟩ := mk_split ys Fs i (by simpa using hl) (fun G hG => hR G (List.mem_cons_of_mem _ hG)) (by simpa using hi)
    refine ⟨k2, n2, s2, c2, y2, by simpa using h1, by simpa using h2, ?_⟩
    show Tp.Fo.node k y n s c (mkC ys Fs) = _
    rw [h3]
    rfl
  | [], _ :: _, _, h, _, _ => by simp at h
  | _ :: _, [], _, h, _, _ => by simp at h
theorem mk_keys (ys : List ByteArray) (Fs : List Fo) (h : ys.length = Fs.length) (hR : ∀ F ∈ Fs, Root F) : Tp.keys (mkC ys Fs) = ys := (mk_is ys Fs h hR).keys
theorem mk_plcs : ∀ (ys zs : List ByteArray) (Fs : List Fo) (o : Nat), ys.length = Fs.length → zs.length = Fs.length → (∀ F ∈ Fs, Root F) → plcs o (mkC ys Fs) = plcs o (mkC zs Fs)
  | [], [], _, o, _, _, _ => rfl
  | y :: ys, z :: zs, [], o, h, _, _ => by simp at h
  | y :: ys, z :: zs, F :: Fs, o, h1, h2, hR => by
    obtain ⟨k, n, s, c, rfl⟩ := hR F (List.mem_cons_self ..)
    show (o : Int) :: plcs _ (mkC ys Fs) = (o : Int) :: plcs _ (mkC zs Fs)
    rw [mk_plcs ys zs Fs _ (by simpa using h1) (by simpa using h2) (fun G hG => hR G (List.mem_cons_of_mem _ hG))]
  | [], z :: zs, Fs, o, h1, h2, _ => by simp at h1 h2; omega
  | y :: ys, [], Fs, o, h1, h2, _ => by simp at h1 h2; omega
/-- A list, or an object, of drawn values. -/
def catF (K : Int) (ys : List ByteArray) (Fs : List Fo) : Fo := .node K ⟨#[]⟩ 0 ⟨#[]⟩ (mkC ys Fs) .nil
structure Cat (K : Int) (ys : List ByteArray) (Fs : List Fo) : Prop where
  kind : K = 6 ∨ K = 7
  len : ys.length = Fs.length
  few : Fs.length ≤ 6
  all : ∀ F ∈ Fs, DOk F
  ko : Tp.ko K ys
  ks : ∀ y ∈ ys, y.size ≤ 100
theorem sum_bound : ∀ (Fs : List Fo) (d : Nat), (∀ F ∈ Fs, Tp.sz F ≤ d) → (Fs.map Tp.sz).sum ≤ Fs.length * d
  | [], d, _ => by simp
  | F :: Fs, d, h => by
    have h1 := h F (List.mem_cons_self ..)
    have h2 := sum_bound Fs d (fun G hG => h G (List.mem_cons_of_mem _ hG))
    simp only [List.map_cons, List.sum_cons, List.length_cons, Nat.add_mul]
    omega
namespace Cat
variable {K : Int} {ys : List ByteArray} {Fs : List Fo}
theorem roots (h : Cat K ys Fs) : ∀ F ∈ Fs, Root F := fun F hF => (h.all F hF).root
theorem mki (h : Cat K ys Fs) : MkIs ys Fs (mkC ys Fs) := mk_is ys Fs h.len h.roots
theorem dep (h : Cat K ys Fs) : Tp.dep (mkC ys Fs) ≤ 7 := (h.mki.dep 7).2 (fun F hF => (h.all F hF).dep)
theorem sz (h : Cat K ys Fs) : Tp.sz (mkC ys Fs) ≤ 1806 := by
  have h1 := sum_bound Fs 301 (fun F hF => (h.all F hF).sz)
  have h2 := h.few
  rw [h.mki.sz]
  have : Fs.length * 301 ≤ 6 * 301 := Nat.mul_le_mul_right 301 h2
  omega
theorem good (h : Cat K ys Fs) : Tp.good (catF K ys Fs) :=
  ⟨.inr (.inr (.inr ⟨h.kind, rfl, rfl⟩)), fun hk => by have := h.kind; omega, by rw [h.mki.keys]; exact h.ko, h.mki.good (fun F hF => (h.all F hF).good), trivial⟩
theorem size (h : Cat K ys Fs) : Tp.sz (catF K ys Fs) = 1 + (Fs.map Tp.sz).sum := by
  unfold catF
  rw [Tp.sz_node, Tp.sz_nil, h.mki.sz, Nat.add_zero]
theorem deep (h : Cat K ys Fs) : Tp.dep (catF K ys Fs) ≤ 8 := by
  have := h.dep
  show max (1 + Tp.dep (mkC ys Fs)) 0 ≤ 8
  omega
theorem small (h : Cat K ys Fs) : Tp.sz (catF K ys Fs) ≤ 1807 := by
  have := h.sz
  unfold catF
  rw [Tp.sz_node, Tp.sz_nil]; omega
theorem may (h : Cat K ys Fs) : May (Tp.flat (catF K ys Fs)) (catF K ys Fs) :=
  ⟨by have := h.small; rw [flat_sz]; omega, ⟨⟨K, ⟨#[]⟩, 0, ⟨#[]⟩, _, rfl, rfl⟩, h.good, rfl⟩, by have := h.deep; omega⟩
theorem join (h : Cat K ys Fs) : JoinIs K ys (Fs.map Tp.flat) (Tp.flat (catF K ys Fs)) 0 := by
  have h1 := h.sz
  have h2 := h.dep
  have := join_is h.kind (h.mki.good (fun F hF => (h.all F hF).good)) (by rw [h.mki.keys]; exact h.ko) (by omega) (by omega) (r := Tp.flat (catF K ys Fs)) (x := 0) (.inl ⟨by omega, by omega, rfl, rfl⟩)
  rw [h.mki.keys, h.mki.cks] at this
  exact this
theorem ok (h : Cat K ys Fs) : ∀ x ∈ Tp.flat (catF K ys Fs), Nok x := by
  intro x hx
  have hk := h.kind
  have hs := h.sz
  unfold catF at hx
  rw [Tp.flat_node] at hx
  rcases List.mem_cons.1 hx with rfl | hx
  · exact ⟨by simp only; omega, Nat.zero_le _, by simp only; omega, Nat.zero_le _, by simp only; omega⟩
  · rw [Tp.flat_nil, List.append_nil] at hx
    exact mk_ok ys Fs (fun y hy => by have := h.ks y hy; unfold maxLen; omega) (fun F hF => (h.all F hF).ok) x hx
theorem kids (h : Cat K ys Fs) : KidsIs (Tp.flat (catF K ys Fs)) (plcs 1 (mkC ys Fs)) := .inl ⟨K, ⟨#[]⟩, 0, ⟨#[]⟩, _, h.may, rfl⟩
theorem kids_len (h : Cat K ys Fs) : (plcs 1 (mkC ys Fs)).length = Fs.length := by rw [plcs_keys, h.mki.keys, h.len]
/-- The part at the i-th place is the i-th value. -/
theorem part (h : Cat K ys Fs) {i : Nat} {F : Fo} (hi : Fs[i]? = some F) : ∃ p : Nat, (plcs 1 (mkC ys Fs))[i]? = some (p : Int) ∧ p ≤ 4000 ∧ PartIs (Tp.flat (catF K ys Fs)) (p : Int) (Tp.flat F) := by
  have hlt := (List.getElem?_eq_some_iff.1 hi).1
  obtain ⟨k, n, s, c, y, h1, h2, h3⟩ := mk_split ys Fs i h.len h.roots hlt
  rw [hi] at h1
  obtain rfl : F = .node k ⟨#[]⟩ n s c .nil := by injection h1
  have hD : (mkC (ys.take i) (Fs.take i)) = mkC (ys.take i) (Fs.take i) := rfl
  have hk : (Tp.keys (mkC (ys.take i) (Fs.take i))).length = i := by
    rw [mk_keys _ _ (by simp [h.len]) (fun G hG => h.roots G (List.mem_of_mem_take hG)), List.length_take, h.len]; omega
  have hp := plcs_at 1 (mkC (ys.take i) (Fs.take i)) k y n s c (mkC (ys.drop (i + 1)) (Fs.drop (i + 1)))
  rw [← h3, hk] at hp
  have hm := h.may
  have hz := h.sz
  refine ⟨1 + Tp.sz (mkC (ys.take i) (Fs.take i)), hp, ?_, .inl ⟨_, k, y, n, s, c, rfl, (may_chk hm).1, hm.1, ?_, rfl⟩⟩
  · rw [h3, Tp.sz_app] at hz; omega
  · have hA := Tp.at_flat (catF K ys Fs)
    have h4 := (Tp.at_node.1 hA).2.1
    rw [h3, app_step, Tp.at_app, Tp.at_app] at h4
    have h5 := h4.1.2
    rw [Nat.zero_add] at h5
    exact h5
/-- What stands beside the i-th key is the i-th value. -/
theorem get (h : Cat 7 ys Fs) {i : Nat} {F : Fo} {y : ByteArray} (hi : Fs[i]? = some F) (hy : ys[i]? = some y) : GetIs (Tp.flat (catF 7 ys Fs)) y (Tp.flat F) true := by
  have hlt := (List.getElem?_eq_some_iff.1 hi).1
  obtain ⟨k, n, s, c, y', h1, h2, h3⟩ := mk_split ys Fs i h.len h.roots hlt
  rw [hi] at h1
  rw [hy] at h2
  obtain rfl : F = .node k ⟨#[]⟩ n s c .nil := by injection h1
  obtain rfl : y = y' := by injection h2
  refine .inl ⟨⟨#[]⟩, 0, ⟨#[]⟩, _, _, k, n, s, c, _, h.may, h3, ?_, rfl, rfl⟩
  rw [mk_keys _ _ (by simp [h.len]) (fun G hG => h.roots G (List.mem_of_mem_take hG))]
  have hnd : ys.Nodup := by have := h.ko; unfold Tp.ko at this; rw [if_pos rfl] at this; exact this.2
  intro hm
  obtain ⟨j, hj, e⟩ := List.getElem_of_mem hm
  have hji : j < i := by have := hj; simp at this; omega
  rw [List.getElem_take] at e
  have hil : i < ys.length := (List.getElem?_eq_some_iff.1 hy).1
  have e2 := (List.getElem?_eq_some_iff.1 hy).2
  exact List.pairwise_iff_getElem.1 hnd j i (by omega) hil hji (by rw [e, e2])
end Cat
/-- Letters, one by one. -/
def let6 (j : Nat) : ByteArray := (⟨#[97, 98, 99, 100, 101, 102]⟩ : ByteArray).extract j (j + 1)
def lets (n : Nat) : List ByteArray := (List.range n).map let6
theorem let6_run (j : Nat) (h : j ≤ 5) (w : World) : (Instr.slice 9 (.string ⟨#[97, 98, 99, 100, 101, 102]⟩) (some (.int .i64 (j : Nat))) (some (.int .i64 ((j : Nat) + 1))) none).run Tryd.prog w = .ok (.string (let6 j)) w := by
  rcases (show j = 0 ∨ j = 1 ∨ j = 2 ∨ j = 3 ∨ j = 4 ∨ j = 5 by omega) with rfl | rfl | rfl | rfl | rfl | rfl <;> rfl
theorem lets_succ (n : Nat) : lets (n + 1) = lets n ++ [let6 n] := by unfold lets; rw [List.range_succ, List.map_append]; rfl
theorem lets_len (n : Nat) : (lets n).length = n := by simp [lets]
theorem lets_ok : ∀ n, n ≤ 6 → Tp.ko 7 (lets n) ∧ ∀ y ∈ lets n, y.size ≤ 100 := by
  intro n hn
  rcases (show n = 0 ∨ n = 1 ∨ n = 2 ∨ n = 3 ∨ n = 4 ∨ n = 5 ∨ n = 6 by omega) with rfl | rfl | rfl | rfl | rfl | rfl | rfl <;>
    (refine ⟨?_, by decide⟩; unfold Tp.ko; rw [if_pos rfl]; refine ⟨?_, by decide⟩; intro y hy; simp only [lets, List.range, List.range.loop, List.map, List.mem_cons, List.not_mem_nil, or_false] at hy)
  · rcases hy with rfl; kernel_rfl
  · rcases hy with rfl | rfl <;> kernel_rfl
  · rcases hy with rfl | rfl | rfl <;> kernel_rfl
  · rcases hy with rfl | rfl | rfl | rfl <;> kernel_rfl
  · rcases hy with rfl | rfl | rfl | rfl | rfl <;> kernel_rfl
  · rcases hy with rfl | rfl | rfl | rfl | rfl | rfl <;> kernel_rfl
/-- Values that were drawn, and what holds them. -/
structure AL (W wx : World) (B : Nat) (pv kv : Value) (ss : List Sl) (Fs : List Fo) (q Z : Nat) : Prop where
  row : OwnS wx B pv ss
  each : EachO wx ss (Fs.map Tp.flat)
  keys : OwnT wx B kv (lets q)
  all : ∀ F ∈ Fs, DOk F
  len : Fs.length = q
  sum : Z = 1 + (Fs.map Tp.sz).sum
  below : Below W.heap.size W wx
theorem AL.few {W wx : World} {B : Nat} {pv kv : Value} {ss : List Sl} {Fs : List Fo} {q Z : Nat} (h : AL W wx B pv kv ss Fs q Z) (hq : q ≤ 6) : Z ≤ 2000 ∧ ss.length = q := by
  have h1 := sum_bound Fs 301 (fun F hF => (h.all F hF).sz)
  have h2 := h.len
  have h3 := h.sum
  have h4 := h.each.1
  rw [h2] at h1
  have : q * 301 ≤ 6 * 301 := Nat.mul_le_mul_right 301 hq
  refine ⟨by omega, ?_⟩
  rw [h4, List.length_map, h2]
theorem cat6 {Fs : List Fo} (hq : Fs.length ≤ 6) (ha : ∀ F ∈ Fs, DOk F) : Cat 6 (List.replicate Fs.length ⟨#[]⟩) Fs :=
  ⟨.inl rfl, by simp, hq, ha, by unfold Tp.ko; rw [if_neg (by omega)]; intro z hz; rw [(List.mem_replicate.1 hz).2]; rfl, by intro z hz; rw [(List.mem_replicate.1 hz).2]; exact Nat.zero_le _⟩
theorem cat7 {Fs : List Fo} (hq : Fs.length ≤ 6) (ha : ∀ F ∈ Fs, DOk F) : Cat 7 (lets Fs.length) Fs :=
  ⟨.inr rfl, lets_len _, hq, ha, (lets_ok _ hq).1, (lets_ok _ hq).2⟩

set_option maxHeartbeats 40000000 in
theorem tapeApart (v : Value) (ss0 : List Sl) (nss : List (List Int)) (W : World) (hS : SeedsIn W v ss0 nss) (T : Tab W) :
    Calls Tryd.prog 5 #[v] W fun e w' => e = .returned (.bool true) ∧ Below W.heap.size W w' := by
  obtain ⟨va, vc, rfl, _⟩ := Gn.Rd.form hS.rd
  have HS := Lib.hid hS
  have HT := Lib.hid T
  have hl0 := hS.rd.len'
  obtain ⟨L, hL⟩ : ∃ L, ss0.length = L := ⟨_, rfl⟩
  have HL := Lib.hid hL
  have KW := Lib.hid (works W T)
  rw [hL] at HS hl0 ⊢
  clear hS T hL
  go_enter Tryd.func5, Tryd.ntmps5
  go_wp2_with fail
  ((with_reducible refine (KW.out).mono ?_); rintro e w1 ⟨rfl, b⟩)
  have HB1 := Lib.hid b
  clear b KW
  go_wp2_with fail
  have HST : Hid (AL W w1 w1.heap.size (.slice none 0 0) (.slice none 0 0) [] [] 0 1) := Lib.hid ⟨Gn.Own.nil _ _, EachO.nil _, Gn.Own.nil _ _, by simp, rfl, rfl, HB1.out⟩
  go_loopw [3, 4, 5, 6] (fun pv kv z i wx => ∃ (q Z : Nat) (ss : List Sl) (Fs : List Fo), z = .int .i64 (Z : Nat) ∧ i = .int .i64 (q : Nat) ∧ q ≤ 6 ∧ q ≤ L ∧ Hid (AL W wx w1.heap.size pv kv ss Fs q Z ∧ Below w1.heap.size w1 wx)) (fun _ _ _ i _ => 6 - (intOf i).toNat)
  case atStart => exact ⟨0, 1, [], [], by rfl, by rfl, by omega, by omega, Lib.hid ⟨HST.out, Below.refl _ _⟩⟩
  case round =>
    obtain ⟨q, Z, ss, Fs, rfl, rfl, hq, hqL, HA⟩ := hrel
    have hZ := (HA.out.1.few hq).1
    have HQS := Lib.hid (HA.out.1.few hq).2
    by_cases hlt : q < L ∧ q < 6
    · have hlt1 : (q : Int) < L := by omega
      have hlt2 : (q : Int) < 6 := by omega
      obtain ⟨s, hs⟩ : ∃ s, ss0[q]? = some s := ⟨_, List.getElem?_eq_getElem (by have := HL.out; omega)⟩
      obtain ⟨ns, hn⟩ : ∃ ns, nss[q]? = some ns := ⟨_, List.getElem?_eq_getElem (by have := HL.out; have := HS.out.len; omega)⟩
      have hsd := HS.out.each q s ns hs hn
      obtain ⟨sb, so, rfl, _, hc⟩ := Gn.Rd.at HS.out.rd HA.out.1.below (by have := HL.out; omega : q < ss0.length)
      have hs2 := (List.getElem?_eq_some_iff.1 hs).2
      have c0 : wr.cell? ⟨sb, so + q, none⟩ = some (.slice s.a s.n s.c) := by
        have := hc 0 (.slice s.a s.n s.c) (by rw [hs2]; rfl)
        simpa using this
      obtain ⟨sa, sn, sc⟩ := s
      have CD := Lib.hid (drawnC (.slice sa sn sc) ns wr (Gn.Rd.later hsd.1 HA.out.1.below) hsd.2 (HT.out.later HA.out.1.below))
      simp only at c0
      clear hs hn hsd hc hs2
      go_wp2_with fail
      ((with_reducible refine (CD.out).mono ?_); rintro e w3 ⟨v, F, rfl, ho, hd, b⟩)
      obtain ⟨n, hn⟩ : ∃ n, (Tp.flat F).length = n := ⟨_, rfl⟩
      obtain ⟨xa, xc, rfl⟩ := form_n (Gn.Own.rd ndL ho) n hn
      have HN := Lib.hid hn
      have HD := Lib.hid hd
      have bu := up_new w3 (.cells #[.slice xa n xc] 22)
      have HS4 := Lib.hid (Gn.Own.later HA.out.1.row (up b bu))
      have HE4 := Lib.hid (((HA.out.1.each.later b).snoc (s := ⟨xa, n, xc⟩) (own_low ho) hd.ok).later bu)
      have HK4 := Lib.hid (Gn.Own.later HA.out.1.keys (up b bu))
      have HB4 := Lib.hid (up HA.out.1.below (up b bu))
      have HW4 := Lib.hid (up HA.out.2 (up b bu))
      have HR4 := Lib.hid (rdSl_one w3 xa n xc)
      obtain ⟨lt, hltr⟩ : ∃ t, let6 q = t := ⟨_, rfl⟩
      have hrun := let6_run q (by omega)
      rw [hltr] at hrun
      have HLT := Lib.hid hltr
      have hn301 : n ≤ 301 := by have := hd.sz; rw [← hn]; exact this
      clear b ho hd hn bu CD hltr
      go_wp2_with (at_builtin
                   first
                   | (refine Gn.wpList_app slL slY rfl (.tmp 40) (.tmp 42) rfl w1.heap.size _ ss rfl HS4.out _ [(⟨xa, n, xc⟩ : Sl)] rfl HR4.out (by rw [HQS.out]; simp; omega) HW4.out.size ?_
                      intro v5 w5 ho5 hg5 hl5 hn5
                      have bu := up_new w5 (.cells #[.string lt] 9)
                      have h5 := Gn.below_of_own HS4.out hg5 HW4.out.size
                      have HS5 := Lib.hid (Gn.Own.later ho5 bu)
                      have HE5 := Lib.hid ((EachO.kept HE4.out HS4.out node_ne_sl hg5).later bu)
                      have HK5 := Lib.hid (Gn.Own.later (Gn.Own.kept HK4.out hg5 (own_apart HK4.out HS4.out tx_ne_sl)) bu)
                      have HW5 := Lib.hid ((HW4.out.trans h5).trans (bu.mono (HW4.out.trans h5).size))
                      have HB5 := Lib.hid ((HB4.out.trans (h5.mono HB1.out.size)).trans (bu.mono (HB4.out.trans (h5.mono HB1.out.size)).size))
                      have HR5 := Lib.hid (rdTx_one w5 lt)
                      clear ho5 hg5 hl5 hn5 bu h5)
                   | (refine Gn.wpList_app txL txY rfl (.tmp 44) (.tmp 49) rfl w1.heap.size _ (lets q) rfl HK5.out _ [lt] rfl HR5.out (by rw [lets_len]; simp; omega) HW5.out.size ?_
                      intro v7 w7 ho7 hg7 hl7 hn7
                      have h7 := Gn.below_of_own HK5.out hg7 HW5.out.size
                      have HK7 := Lib.hid ho7
                      have HS7 := Lib.hid (Gn.Own.kept HS5.out hg7 (own_apart HS5.out HK5.out sl_ne_tx))
                      have HE7 := Lib.hid (EachO.kept HE5.out HK5.out node_ne_tx hg7)
                      have HW7 := Lib.hid (HW5.out.trans h7)
                      have HB7 := Lib.hid (HB5.out.trans (h7.mono HB1.out.size))
                      clear ho7 hg7 hl7 hn7 h7))
      have HAN : Hid (AL W w7 w1.heap.size v5 v7 (ss ++ [(⟨xa, n, xc⟩ : Sl)]) (Fs ++ [F]) (q + 1) (Z + n) ∧ Below w1.heap.size w1 w7) := Lib.hid ⟨⟨HS7.out, by rw [List.map_append]; exact HE7.out, by rw [lets_succ, HLT.out]; exact HK7.out, fun G hG => by
          rcases List.mem_append.1 hG with hG | hG
          · exact HA.out.1.all G hG
          · rw [List.mem_singleton.1 hG]; exact HD.out, by rw [List.length_append, HA.out.1.len]; rfl, by
          have h1 := HA.out.1.sum
          have h2 := HN.out
          rw [flat_sz] at h2
          rw [List.map_append, List.sum_append]
          simp only [List.map_cons, List.map_nil, List.sum_cons, List.sum_nil]
          omega, HB7.out⟩, HW7.out⟩
      clear HA HS7 HE7 HK7 HB7 HW7
      go_roundw
      case rel => exact ⟨q + 1, Z + n, _, _, by go_num, by go_num, by omega, by omega, HAN⟩
      case measure => simp [intOf]; omega
    · have hfew := Lib.hid (show Fs.length ≤ 6 by rw [HA.out.1.len]; exact hq)
      have HC6 := Lib.hid (cat6 hfew.out HA.out.1.all)
      have HC7 := Lib.hid (cat7 hfew.out HA.out.1.all)
      have hlq := HA.out.1.len
      have HTB := Lib.hid (HT.out.later HA.out.1.below)
      obtain ⟨pa, pc, rfl, _⟩ := Gn.Rd.form (Gn.Own.rd slL HA.out.1.row)
      obtain ⟨ka, kc, rfl, _⟩ := Gn.Rd.form (Gn.Own.rd txL HA.out.1.keys)
      have hsq : ss.length = q := HQS.out
      have hyq : (lets q).length = q := lets_len q
      have HRS := Lib.hid (HA.out.1.each.rdS HA.out.1.row)
      have HRK : Hid (RdT wr wr.heap.size _ (lets q)) := Lib.hid (Gn.Own.rd txL HA.out.1.keys)
      have HZS := Lib.hid HA.out.1.sum
      have HBW := Lib.hid HA.out.1.below
      have HAL := Lib.hid HA.out.1.all
      have HLQ := Lib.hid hlq
      rw [hsq] at HRS ⊢
      rw [hyq] at HRK ⊢
      have CL := Lib.hid (mkList _ ss (Fs.map Tp.flat) wr HRS.out (by rw [List.length_map]; omega) HTB.out (Tp.flat (catF 6 (List.replicate Fs.length ⟨#[]⟩) Fs)) 0 (by unfold ListIs; rw [List.length_map]; exact HC6.out.join))
      have CO := Lib.hid (fun (wb : World) (hb : Below wr.heap.size wr wb) => mkObj _ _ (lets q) ss (Fs.map Tp.flat) wb (Gn.Rd.later HRK.out hb) ((HRS.out.below hb (Nat.le_refl _)).more hb.size) (fun y hy => by have := (lets_ok q hq).2 y hy; unfold maxLen; omega) (by rw [List.length_map]; omega) (HTB.out.later hb) (Tp.flat (catF 7 (lets Fs.length) Fs)) 0 (.inr ⟨by rw [lets_len, List.length_map, HLQ.out], by rw [← HLQ.out]; exact HC7.out.join⟩))
      obtain ⟨A, hAe⟩ : ∃ A, A = Tp.flat (catF 6 (List.replicate Fs.length ⟨#[]⟩) Fs) := ⟨_, rfl⟩
      obtain ⟨Bb, hBe⟩ : ∃ B, B = Tp.flat (catF 7 (lets Fs.length) Fs) := ⟨_, rfl⟩
      have hAl : A.length = Z := by rw [hAe, flat_sz, HC6.out.size, HZS.out]
      have hBl : Bb.length = Z := by rw [hBe, flat_sz, HC7.out.size, HZS.out]
      have okA : ∀ x ∈ A, Nok x := by rw [hAe]; exact HC6.out.ok
      have okB : ∀ x ∈ Bb, Nok x := by rw [hBe]; exact HC7.out.ok
      have chA : chk A = 0 := by rw [hAe]; exact (may_chk HC6.out.may).1
      have chB : chk Bb = 0 := by rw [hBe]; exact (may_chk HC7.out.may).1
      obtain ⟨ps, hps⟩ : ∃ ps, ps = plcs 1 (mkC (List.replicate Fs.length ⟨#[]⟩) Fs) := ⟨_, rfl⟩
      have kiA : KidsIs A ps := by rw [hAe, hps]; exact HC6.out.kids
      have kiB : KidsIs Bb ps := by
        rw [hBe, hps, mk_plcs _ (lets Fs.length) Fs 1 (by simp) (lets_len _) HC6.out.roots]; exact HC7.out.kids
      have hpl : ps.length = q := by rw [hps, HC6.out.kids_len, HLQ.out]
      have PA := Lib.hid (fun (i : Nat) (F : Fo) (hi : Fs[i]? = some F) => (show ∃ p : Nat, ps[i]? = some (p : Int) ∧ p ≤ 4000 ∧ PartIs A (p : Int) (Tp.flat F) ∧ PartIs Bb (p : Int) (Tp.flat F) by
        obtain ⟨p, h1, h2, h3⟩ := HC6.out.part hi
        obtain ⟨p', h1', h2', h3'⟩ := HC7.out.part hi
        have e : plcs 1 (mkC (lets Fs.length) Fs) = plcs 1 (mkC (List.replicate Fs.length ⟨#[]⟩) Fs) := mk_plcs _ _ Fs 1 (lets_len _) (by simp) HC6.out.roots
        rw [e, h1] at h1'
        have e2 : p = p' := by injection h1' with h1'; omega
        subst e2
        exact ⟨p, by rw [hps]; exact h1, h2, by rw [hAe]; exact h3, by rw [hBe]; exact h3'⟩))
      have GA := Lib.hid (fun (i : Nat) (F : Fo) (y : ByteArray) (hi : Fs[i]? = some F) (hy : (lets Fs.length)[i]? = some y) => (show GetIs Bb y (Tp.flat F) true by rw [hBe]; exact HC7.out.get hi hy))
      rw [← hAe] at CL
      rw [← hBe] at CO
      have HOA := Lib.hid okA
      have HOB := Lib.hid okB
      have HPL := Lib.hid hpl
      have HAl := Lib.hid hAl
      have HBl := Lib.hid hBl
      have KA := Lib.hid (And.intro kiA kiB)
      have CH := Lib.hid (And.intro chA chB)
      have qz : ((Z : Int) != (Z : Int)) = false := by simp
      have qq : ((q : Int) != (q : Int)) = false := by simp
      clear HC6 HC7 hfew hlq hsq hyq hAe hBe hAl hBl okA okB chA chB hps kiA kiB hpl HA HZS
      have hcase : ¬ (q : Int) < L ∨ ((q : Int) < L ∧ ¬ (q : Int) < 6) := by
        rcases Nat.lt_or_ge q L with h | h
        · exact .inr ⟨by omega, by omega⟩
        · exact .inl (by omega)
      clear hlt
      rcases hcase with hc1 | ⟨hc1, hc2⟩
      all_goals
        go_wp2_with fail
        ((with_reducible refine (CL.out).mono ?_); rintro e w3 ⟨a, rfl, ho, b⟩)
        have HX3 := Lib.hid b
        have HRA := Lib.hid (Gn.Own.rd ndL ho)
        obtain ⟨aa, ac, rfl⟩ := form_n HRA.out Z HAl.out
        clear b ho CL
        go_wp2_with fail
        ((with_reducible refine (CO.out _ HX3.out).mono ?_); rintro e w4 ⟨o, rfl, ho, b⟩)
        have HX4 := Lib.hid (up HX3.out b)
        have HRB := Lib.hid (Gn.Own.rd ndL ho)
        replace HRA := Lib.hid (Gn.Rd.later HRA.out b)
        obtain ⟨oa, oc, rfl⟩ := form_n HRB.out Z HBl.out
        have HT4 := Lib.hid (HTB.out.later HX4.out)
        have C1 := Lib.hid (check _ A w4 HRA.out HOA.out HT4.out 0 CH.out.1)
        clear b ho CO
        go_wp2_with fail
        ((with_reducible refine (C1.out).mono ?_); rintro e w5 ⟨rfl, b⟩)
        have HY5 := Lib.hid b
        have C2 := Lib.hid (check _ Bb w5 (Gn.Rd.later HRB.out b) HOB.out (HT4.out.later b) 0 CH.out.2)
        clear b C1
        go_wp2_with fail
        ((with_reducible refine (C2.out).mono ?_); rintro e w6 ⟨rfl, b⟩)
        have HY6 := Lib.hid (up HY5.out b)
        have C3 := Lib.hid (kids _ A w6 (Gn.Rd.later HRA.out HY6.out) HOA.out (HT4.out.later HY6.out) ps KA.out.1)
        clear b C2
        go_wp2_with fail
        ((with_reducible refine (C3.out).mono ?_); rintro e w7 ⟨vp, rfl, hop, b⟩)
        have HY7 := Lib.hid (up HY6.out b)
        have HRP := Lib.hid (Gn.Own.rd inL hop)
        have C4 := Lib.hid (kids _ Bb w7 (Gn.Rd.later HRB.out HY7.out) HOB.out (HT4.out.later HY7.out) ps KA.out.2)
        clear b C3 hop
        go_wp2_with fail
        ((with_reducible refine (C4.out).mono ?_); rintro e w8 ⟨vq, rfl, hoq, b⟩)
        have HY8 := Lib.hid (up HY7.out b)
        have HRQ := Lib.hid (Gn.Own.rd inL hoq)
        replace HRP := Lib.hid (Gn.Rd.later HRP.out b)
        obtain ⟨pba, pbc, rfl⟩ : ∃ a c, vp = .slice a q c := by
          obtain ⟨a, c, e', _⟩ := Gn.Rd.form HRP.out
          exact ⟨a, c, by rw [← HPL.out]; exact e'⟩
        obtain ⟨qba, qbc, rfl⟩ : ∃ a c, vq = .slice a q c := by
          obtain ⟨a, c, e', _⟩ := Gn.Rd.form HRQ.out
          exact ⟨a, c, by rw [← HPL.out]; exact e'⟩
        have C5 := Lib.hid (eqInts _ _ ps ps w8 HRP.out HRQ.out (by rw [HPL.out]; omega) true ⟨fun _ => rfl, fun _ => rfl⟩)
        clear b C4 hoq
        go_wp2_with fail
        ((with_reducible refine (C5.out).mono ?_); rintro e w9 ⟨rfl, b⟩)
        have HY9 := Lib.hid (up HY8.out b)
        have HRP9 := Lib.hid (Gn.Rd.later HRP.out b)
        have HRQ9 := Lib.hid (Gn.Rd.later HRQ.out b)
        have HRA9 := Lib.hid (Gn.Rd.later HRA.out HY9.out)
        have HRB9 := Lib.hid (Gn.Rd.later HRB.out HY9.out)
        have HX9 := Lib.hid (up HX4.out HY9.out)
        have HT9 := Lib.hid (HT4.out.later HY9.out)
        have HRS9 := Lib.hid ((HRS.out.below HX9.out (Nat.le_refl _)).more HX9.out.size)
        have HRK9 := Lib.hid (Gn.Rd.later HRK.out HX9.out)
        have HW9 := Lib.hid (up HBW.out HX9.out)
        clear b C5 HRP HRQ HRA HRB HX3 HX4 HY5 HY6 HY7 HY8 HY9 HRS HRK
        go_wp2_with fail
        go_loopw [15] (fun i wx => ∃ (j : Nat), i = .int .i64 (j : Nat) ∧ j ≤ q ∧ Hid (Below w9.heap.size w9 wx)) (fun i _ => q - (intOf i).toNat)
        case atStart => exact ⟨0, by rfl, by omega, Lib.hid (Below.refl _ _)⟩
        case round =>
          obtain ⟨j, rfl, hj, HG⟩ := hrel
          by_cases hlt : j < q
          · have hlt1 : (j : Int) < q := by omega
            obtain ⟨F, hF⟩ : ∃ F, Fs[j]? = some F := ⟨_, List.getElem?_eq_getElem (by rw [HLQ.out]; exact hlt)⟩
            obtain ⟨s, hs⟩ : ∃ s, ss[j]? = some s := ⟨_, List.getElem?_eq_getElem (by rw [HQS.out]; exact hlt)⟩
            obtain ⟨y, hy⟩ : ∃ y, (lets q)[j]? = some y := ⟨_, List.getElem?_eq_getElem (by rw [lets_len]; exact hlt)⟩
            obtain ⟨p, hp, hp4, hpa, hpb⟩ := PA.out j F hF
            have hfl : (Fs.map Tp.flat)[j]? = some (Tp.flat F) := by rw [List.getElem?_map, hF]; rfl
            obtain ⟨b2, o2, rfl, c2⟩ := rdT_cell HRK9.out HG.out hy
            have hgt := GA.out j F y hF (by rw [HLQ.out]; exact hy)
            have hrs := (HRS9.out.each j s _ hs hfl).1
            obtain ⟨sa, sn, sc⟩ := s
            have hFl : (Tp.flat F).length ≤ 1000000 := by have := (HAL.out F (List.mem_of_getElem? hF)).sz; rw [flat_sz]; omega
            have CG := Lib.hid (get _ Bb y wr (Gn.Rd.later HRB9.out HG.out) HOB.out (HT9.out.later HG.out) (Tp.flat F) true hgt)
            have HSQ := Lib.hid hs
            have HPQ := Lib.hid hp
            have HFL := Lib.hid hFl
            have HRX := Lib.hid hrs
            have HPB := Lib.hid (And.intro hpa (And.intro hpb hp4))
            unfold Sl.val at HRX
            clear hF hs hy hp hp4 hpa hpb hfl hgt hrs hFl
            go_wp2_with fail
            ((with_reducible refine (CG.out).mono ?_); rintro e wg ⟨x, rfl, ho, b⟩)
            have HGG := Lib.hid (up HG.out b)
            have HRG := Lib.hid (Gn.Own.rd ndL ho)
            clear b ho CG c2
            go_wp2_with fail
            obtain ⟨b1, o1, rfl, _⟩ := rdS_cell HRS9.out HGG.out HSQ.out
            obtain ⟨b3, o3, rfl, _⟩ := rdI_cell HRP9.out HGG.out HPQ.out
            obtain ⟨b4, o4, rfl, _⟩ := rdI_cell HRQ9.out HGG.out HPQ.out
            have SK := Lib.hid (fun (w' : World) (hb : Below wg.heap.size wg w') => (show Below wg.heap.size wg w' ∧ (w'.cell? ⟨b1, o1 + j, none⟩ = some (.slice sa sn sc) ∧ w'.cell? ⟨b3, o3 + j, none⟩ = some (.int .i64 (p : Int)) ∧ w'.cell? ⟨b4, o4 + j, none⟩ = some (.int .i64 (p : Int))) by
              obtain ⟨_, _, e1, d1⟩ := rdS_cell HRS9.out (up HGG.out hb) HSQ.out
              obtain ⟨_, _, e3, d3⟩ := rdI_cell HRP9.out (up HGG.out hb) HPQ.out
              obtain ⟨_, _, e4, d4⟩ := rdI_cell HRQ9.out (up HGG.out hb) HPQ.out
              injection e1 with e1; injection e1 with e1 e1'; subst e1 e1'
              injection e3 with e3; injection e3 with e3 e3'; subst e3 e3'
              injection e4 with e4; injection e4 with e4 e4'; subst e4 e4'
              exact ⟨hb, d1, d3, d4⟩))
            have CPA := Lib.hid (fun (wb : World) (hb : Below wg.heap.size wg wb) => part _ A wb (Gn.Rd.later HRA9.out (up HGG.out hb)) HOA.out (HT9.out.later (up HGG.out hb)) (p : Int) (by have := HPB.out.2.2; omega) (Tp.flat F) HPB.out.1)
            have CPB := Lib.hid (fun (wb : World) (hb : Below wg.heap.size wg wb) => part _ Bb wb (Gn.Rd.later HRB9.out (up HGG.out hb)) HOB.out (HT9.out.later (up HGG.out hb)) (p : Int) (by have := HPB.out.2.2; omega) (Tp.flat F) HPB.out.2.1)
            have CEQ := Lib.hid (fun (wb : World) (hb : Below wg.heap.size wg wb) (v : Value) (hv : RdN wb wb.heap.size v (Tp.flat F)) => lawEq v _ (Tp.flat F) (Tp.flat F) wb hv (Gn.Rd.later HRX.out (up HGG.out hb)) HFL.out true ⟨fun _ => rfl, fun _ => rfl⟩)
            go_region_held3 (fun w' => Below wg.heap.size wg w' ∧ (w'.cell? ⟨b1, o1 + j, none⟩ = some (.slice sa sn sc) ∧ w'.cell? ⟨b3, o3 + j, none⟩ = some (.int .i64 (p : Int)) ∧ w'.cell? ⟨b4, o4 + j, none⟩ = some (.int .i64 (p : Int))))
              (first | exact SK.out _ (Below.refl _ _).drew | exact SK.out _ (Below.refl _ _) | exact SK.out _ HA1.out | exact SK.out _ HA2.out | exact SK.out _ HA3.out | exact SK.out _ HA4.out | exact SK.out _ HA5.out)
              ((first
                | (go_at_call 44; (with_reducible refine (CE3.out).mono ?_); rintro e a5 ⟨rfl, b⟩; have HA5 := Lib.hid (up HA4.out b); clear b)
                | (go_at_call 44; (with_reducible refine (CE2.out).mono ?_); rintro e a4 ⟨rfl, b⟩; have HA4 := Lib.hid (up HA3.out b); have CE3 := Lib.hid (CEQ.out a4 HA4.out _ (Gn.Rd.later HRG.out HA4.out)); clear b)
                | (go_at_call 22; (with_reducible refine (CP2.out).mono ?_); rintro e a3 ⟨v, rfl, ho, b⟩; have HA3 := Lib.hid (up HA2.out b); have CE2 := Lib.hid (CEQ.out a3 HA3.out _ (Gn.Own.rd ndL ho)); clear b ho)
                | (go_at_call 44; (with_reducible refine (CE1.out).mono ?_); rintro e a2 ⟨rfl, b⟩; have HA2 := Lib.hid (up HA1.out b); have CP2 := Lib.hid (CPB.out a2 HA2.out); clear b)
                | (go_at_call 22; (with_reducible refine (CPA.out _ (by first | exact Below.refl _ _ | exact (Below.refl _ _).drew)).mono ?_); rintro e a1 ⟨v, rfl, ho, b⟩; have HA1 : Hid (Below wg.heap.size wg a1) := Lib.hid (by first | exact b | exact (Below.refl _ _).drew.trans b); have CE1 := Lib.hid (CEQ.out a1 HA1.out _ (Gn.Own.rd ndL ho)); clear b ho)))
            have HGN := Lib.hid (up HGG.out HA5.out)
            go_wp2_with fail
            go_roundw
            case rel => exact ⟨j + 1, by go_num, by omega, HGN⟩
            case measure => simp [intOf]; omega
          · have hlt1 : ¬ (j : Int) < q := by omega
            have HEND := Lib.hid (up HW9.out HG.out)
            go_wp2_with fail
            go_ret
            exact ⟨rfl, HEND.out⟩
end Go.Proofs.YtgcfhjmcbbklmaaDoor
