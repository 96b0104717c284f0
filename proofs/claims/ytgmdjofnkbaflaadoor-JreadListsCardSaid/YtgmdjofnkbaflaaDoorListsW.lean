/- JreadLists: the walk. -/
import Derived.Test.YtgmdjofnkbaflaaDoorListsP
import Derived.Test.YtgmdjofnkbaflaaDoorZk
import Derived.Test.YtgmdjofnkbaflaaDoorZj
import Derived.Test.YtgmdjofnkbaflaaDoorOpa
namespace Go.Proofs.YtgmdjofnkbaflaaDoor
open Go.RowKit
set_option linter.unusedVariables false
set_option linter.unusedSimpArgs false
set_option maxRecDepth 100000

theorem ROk.dep50 {F : Fo} (h : ROk F 100) : Tp.dep F ≤ 50 := by
  have h1 := h.len
  have h2 := Jr.shp_ge F 6 true h.good
  obtain ⟨k, n, s, c, e⟩ := h.one
  have e2 : Jr.shp 6 true F = Jr.shv F := by rw [e]; exact Jr.shp_shv
  rw [e2] at h2
  omega
theorem mk_ok : ∀ (ys : List ByteArray) (Fs : List Fo), (∀ y ∈ ys, y.size ≤ maxLen) → (∀ F ∈ Fs, ∀ x ∈ Tp.flat F, Nok x) → ∀ x ∈ Tp.flat (mkC ys Fs), Nok x
  | [], _, _, _, x, hx => by simp [mkC] at hx
  | _ :: _, [], _, _, x, hx => by simp [mkC] at hx
  | y :: ys, .nil :: Fs, _, _, x, hx => by simp [mkC] at hx
  | y :: ys, .node k y' n s c r :: Fs, h1, h2, x, hx => by
    rw [mkC, Tp.flat_node] at hx
    have h3 := h2 _ (List.mem_cons_self ..)
    rw [Tp.flat_node] at h3
    rcases List.mem_cons.1 hx with rfl | hx
    · have := h3 _ (List.mem_cons_self ..)
      exact ⟨this.1, h1 y (List.mem_cons_self ..), this.2.2⟩
    · rcases List.mem_append.1 hx with hx | hx
      · exact h3 x (List.mem_cons_of_mem _ (List.mem_append_left _ hx))
      · exact mk_ok ys Fs (fun z hz => h1 z (List.mem_cons_of_mem _ hz)) (fun F hF => h2 F (List.mem_cons_of_mem _ hF)) x hx
/-- A list, or an object, of drawn values. -/
def catF (K : Int) (ys : List ByteArray) (Fs : List Fo) : Fo := .node K ⟨#[]⟩ 0 ⟨#[]⟩ (mkC ys Fs) .nil
structure Cat (K : Int) (ys : List ByteArray) (Fs : List Fo) : Prop where
  kind : K = 6 ∨ K = 7
  len : ys.length = Fs.length
  few : Fs.length ≤ 6
  all : ∀ F ∈ Fs, ROk F 100
  ko : Tp.ko K ys
  ks : ∀ y ∈ ys, y.size ≤ 100
theorem sum_bound : ∀ (Fs : List Fo) (d : Nat), (∀ F ∈ Fs, Tp.sz F ≤ d) → (Fs.map Tp.sz).sum ≤ Fs.length * d
  | [], d, _ => by simp
  | F :: Fs, d, h => by
    have h1 := h F (List.mem_cons_self ..)
    have h2 := sum_bound Fs d (fun G hG => h G (List.mem_cons_of_mem _ hG))
    simp only [List.map_cons, List.sum_cons, List.length_cons, Nat.add_mul]
    omega
namespace Cat
variable {K : Int} {ys : List ByteArray} {Fs : List Fo}
theorem roots (h : Cat K ys Fs) : ∀ F ∈ Fs, Root F := fun F hF => (h.all F hF).one
theorem mki (h : Cat K ys Fs) : MkIs ys Fs (mkC ys Fs) := mk_is ys Fs h.len h.roots
theorem dep (h : Cat K ys Fs) : Tp.dep (mkC ys Fs) ≤ 50 := (h.mki.dep 50).2 (fun F hF => (h.all F hF).dep50)
theorem sz (h : Cat K ys Fs) : Tp.sz (mkC ys Fs) ≤ 600 := by
  have h1 := sum_bound Fs 100 (fun F hF => (h.all F hF).sz)
  have h2 := h.few
  rw [h.mki.sz]
  have : Fs.length * 100 ≤ 6 * 100 := Nat.mul_le_mul_right 100 h2
  omega
theorem good (h : Cat K ys Fs) : Tp.good (catF K ys Fs) :=
  ⟨.inr (.inr (.inr ⟨h.kind, rfl, rfl⟩)), fun hk => by have := h.kind; omega, by rw [h.mki.keys]; exact h.ko, h.mki.good (fun F hF => (h.all F hF).good), trivial⟩
theorem size (h : Cat K ys Fs) : Tp.sz (catF K ys Fs) = 1 + (Fs.map Tp.sz).sum := by
  unfold catF
  rw [Tp.sz_node, Tp.sz_nil, h.mki.sz, Nat.add_zero]
theorem deep (h : Cat K ys Fs) : Tp.dep (catF K ys Fs) ≤ 51 := by
  have := h.dep
  show max (1 + Tp.dep (mkC ys Fs)) 0 ≤ 51
  omega
theorem small (h : Cat K ys Fs) : Tp.sz (catF K ys Fs) ≤ 601 := by
  have := h.sz
  unfold catF
  rw [Tp.sz_node, Tp.sz_nil]; omega
theorem may (h : Cat K ys Fs) : May (Tp.flat (catF K ys Fs)) (catF K ys Fs) :=
  ⟨by have := h.small; rw [flat_sz]; omega, ⟨⟨K, ⟨#[]⟩, 0, ⟨#[]⟩, _, rfl, rfl⟩, h.good, rfl⟩, by have := h.deep; omega⟩
theorem join (h : Cat K ys Fs) : JoinIs K ys (Fs.map Tp.flat) (Tp.flat (catF K ys Fs)) 0 := by
  have h1 := h.sz
  have h2 := h.dep
  have := join_is h.kind (h.mki.good (fun F hF => (h.all F hF).good)) (by rw [h.mki.keys]; exact h.ko) (by omega) (by omega) (r := Tp.flat (catF K ys Fs)) (x := 0) (.inl ⟨by omega, by omega, rfl, rfl⟩)
  rw [h.mki.keys, h.mki.cks] at this
  exact this
theorem ok (h : Cat K ys Fs) : ∀ x ∈ Tp.flat (catF K ys Fs), Nok x := by
  intro x hx
  have hk := h.kind
  have hs := h.sz
  unfold catF at hx
  rw [Tp.flat_node] at hx
  rcases List.mem_cons.1 hx with rfl | hx
  · exact ⟨by simp only; omega, Nat.zero_le _, by simp only; omega, Nat.zero_le _, by simp only; omega⟩
  · rw [Tp.flat_nil, List.append_nil] at hx
    exact mk_ok ys Fs (fun y hy => by have := h.ks y hy; unfold maxLen; omega) (fun F hF => (h.all F hF).ok) x hx
end Cat
theorem cat6 {Fs : List Fo} (hq : Fs.length ≤ 6) (ha : ∀ F ∈ Fs, ROk F 100) : Cat 6 (List.replicate Fs.length ⟨#[]⟩) Fs :=
  ⟨.inl rfl, by simp, hq, ha, by unfold Tp.ko; rw [if_neg (by omega)]; intro z hz; rw [(List.mem_replicate.1 hz).2]; rfl, by intro z hz; rw [(List.mem_replicate.1 hz).2]; exact Nat.zero_le _⟩
theorem cat7 {Fs : List Fo} (hq : Fs.length ≤ 6) (ha : ∀ F ∈ Fs, ROk F 100) : Cat 7 (lets Fs.length) Fs :=
  ⟨.inr rfl, lets_len _, hq, ha, (lets_ok _ hq).1, (lets_ok _ hq).2⟩
theorem Cat.reads {K : Int} {ys : List ByteArray} {Fs : List Fo} (h : Cat K ys Fs) {P : List Nat} (hP : Jr.Parts K P (mkC ys Fs)) (hl : P.length ≤ 100000) : Jr.Reads ((if K = 7 then 123 else 91) :: (P ++ [Jr.endOf K])) (.ok (catF K ys Fs)) := by
  have hV := Jr.val_open h.kind hP
  have := Jr.reads_val (b1 := []) (b2 := []) hV (by simp) (by simp) (by have := h.small; exact Nat.le_trans this (by omega)) (by have := h.deep; exact Nat.le_trans this (by omega)) (by simp; omega)
  have h2 : Jr.Reads ((if K = 7 then 123 else 91) :: (P ++ [Jr.endOf K])) (.ok (Jr.nd1 K ⟨#[]⟩ 0 ⟨#[]⟩ (mkC ys Fs))) := by simpa using this
  exact h2
/-- What was read, what holds it, and the texts so far. -/
structure LL (W wx : World) (B : Nat) (pv kv : Value) (l o : ByteArray) (t : Bool) (ss : List Sl) (Fs : List Fo) (q : Nat) : Prop where
  row : OwnS wx B pv ss
  slen : ss.length = q
  keys : OwnT wx B kv (lets q)
  tx : t = true → Tx (bl l) (bl o) Fs ∧ Fs.length = q ∧ EachO wx ss (Fs.map Tp.flat)
  ls : l.size ≤ 200 * (q + 1)
  os : o.size ≤ 200 * (q + 1)
  below : Below W.heap.size W wx

set_option maxHeartbeats 40000000 in
theorem jreadLists (v : Value) (l0 : List ByteArray) (W : World) (h0 : RdT W W.heap.size v l0) (hm : ∀ y ∈ l0, y.size ≤ maxLen) (T : Tab W) (TE : TabE W) (TP : TabP W) :
    Calls Tryd.prog 3 #[v] W fun e w' => e = .returned (.bool true) ∧ Below W.heap.size W w' := by
  obtain ⟨va, vc, rfl, _⟩ := Gn.Rd.form h0
  have HS := Lib.hid h0
  have HM := Lib.hid hm
  have HT := Lib.hid T
  have HTE := Lib.hid TE
  have hl0 := h0.len'
  obtain ⟨L, hL⟩ : ∃ L, l0.length = L := ⟨_, rfl⟩
  have HL := Lib.hid hL
  rw [hL] at HS hl0 ⊢
  clear h0 hm T TE TP hL
  have HST : Hid (LL W W W.heap.size (.slice none 0 0) (.slice none 0 0) ⟨#[91]⟩ ⟨#[123]⟩ true [] [] 0) := Lib.hid ⟨Gn.Own.nil _ _, rfl, Gn.Own.nil _ _, fun _ => ⟨tx_nil, rfl, EachO.nil _⟩, by decide, by decide, Below.refl _ _⟩
  go_enter Tryd.func3, Tryd.ntmps3
  go_wp2_with fail
  go_loopw [3, 4, 5, 6, 7, 8] (fun lv ov pv kv av i wx => ∃ (q : Nat) (t : Bool) (l o : ByteArray) (ss : List Sl) (Fs : List Fo), lv = .string l ∧ ov = .string o ∧ av = .bool t ∧ i = .int .i64 (q : Nat) ∧ q ≤ 6 ∧ q ≤ L ∧ Hid (LL W wx W.heap.size pv kv l o t ss Fs q)) (fun _ _ _ _ _ i _ => 6 - (intOf i).toNat)
  case atStart => exact ⟨0, _, _, _, [], [], by rfl, by rfl, by rfl, by rfl, by omega, by omega, HST⟩
  case round =>
    clear HST
    obtain ⟨q, t, l, o, ss, Fs, rfl, rfl, rfl, rfl, hq, hqL, HA⟩ := hrel
    have HQS := Lib.hid HA.out.slen
    have hls := HA.out.ls
    have hos := HA.out.os
    by_cases hlt : q < L ∧ q < 6
    · have hlt1 : (q : Int) < L := by omega
      have hlt2 : (q : Int) < 6 := by omega
      obtain ⟨s0, hs⟩ : ∃ s, l0[q]? = some s := ⟨_, List.getElem?_eq_getElem (by have := HL.out; omega)⟩
      have hs0 := HM.out s0 (List.mem_of_getElem? hs)
      obtain ⟨sb, so, rfl, _, hc⟩ := Gn.Rd.at HS.out HA.out.below (by have := HL.out; omega : q < l0.length)
      have hs2 := (List.getElem?_eq_some_iff.1 hs).2
      have c0 : wr.cell? ⟨sb, so + q, none⟩ = some (.string s0) := by
        have := hc 0 (.string s0) (by rw [hs2]; rfl)
        simpa using this
      have c0d : wr.drew.cell? ⟨sb, so + q, none⟩ = some (.string s0) := c0
      obtain ⟨s, hse⟩ : ∃ s, s0.extract 0 (min (s0.size : Int) 100).toNat = s := ⟨_, rfl⟩
      have hsm : s.size ≤ 100 := by rw [← hse, ByteArray.size_extract]; omega
      unfold maxLen at hs0
      have hsl : ∀ w, (Instr.slice 9 (.string s0) none (some (.int .i64 (min (s0.size : Int) 100))) none).run Tryd.prog w = .ok (.string s) w := fun w => by
        rw [run_slice_string_to_if w 9 s0 .i64 _ Tryd.underlying9, if_pos (by omega), hse]
      have CP := Lib.hid (fun (wx : World) (hb : Below wr.heap.size wr wx) => jparse (w := wx) s (HT.out.later (up HA.out.below hb)) (HTE.out.later (up HA.out.below hb)) (.inl (by omega)))
      obtain ⟨lt, hltr⟩ : ∃ t, let6 q = t := ⟨_, rfl⟩
      have hrun := let6_run q (by omega)
      have hl1 := let6_size q (by omega)
      have hlb := let6_bl q (by omega)
      rw [hltr] at hrun hl1 hlb
      have HLT := Lib.hid hltr
      have HLB := Lib.hid hlb
      clear hs hc hs2 hse hltr hlb
      go_wp2_with fail
      go_region
      all_goals
        go_wp2_with fail
        ((with_reducible refine (CP.out _ (by first | exact (Below.refl _ _).drew | exact Below.refl _ _)).mono ?_); rintro e w3 ⟨r, hr, hp⟩)
        clear CP hsl c0 c0d
        cases r
        · skip
          rename_i F
          obtain ⟨v, rfl, ho, b⟩ := hp
          have b3 : Below wr.heap.size wr w3 := by first | exact (Below.refl _ _).drew.trans b | exact b
          have HB3 := Lib.hid (up HA.out.below b3)
          have HS3 := Lib.hid (Gn.Own.later HA.out.row b3)
          have HK3 := Lib.hid (Gn.Own.later HA.out.keys b3)
          obtain ⟨n, hn⟩ : ∃ n, (Tp.flat F).length = n := ⟨_, rfl⟩
          obtain ⟨xa, xc, rfl⟩ := rdv (Gn.Own.rd ndL ho) n hn
          have hro := rok_of (by rw [bl_length]; omega) (bl_byte s) hr
          have HRO : Hid (ROk F 100) := Lib.hid (by
            rw [bl_length] at hro
            exact ⟨hro.one, hro.good, hro.nfit, Nat.le_trans hro.sz hsm, hro.dep, Nat.le_trans hro.len hsm, hro.ok, hro.tok, hro.may⟩)
          have HRD := Lib.hid hr
          have HO := Lib.hid (own_low ho)
          clear hr hro
          cases t
          · skip
            clear ho b b3 hn
            by_cases hq0 : q = 0
            · skip
              have hq0' : ¬ (0 : Int) < (q : Nat) := by omega
              have HQ0 := Lib.hid hq0
              clear hq0
              have n1 : ¬ 9223372036854775807 < l.size + s.size := by omega
              have n2 : ¬ 9223372036854775807 < o.size + 1 := by omega
              have n3 : ¬ 9223372036854775807 < o.size + 1 + lt.size := by omega
              have n4 : ¬ 9223372036854775807 < o.size + 1 + lt.size + 2 := by omega
              have n5 : ¬ 9223372036854775807 < o.size + 1 + lt.size + 2 + s.size := by omega
              have hqq : (q : Int) < ((q + 1 : Nat) : Int) := by omega
              have hqq' : (q : Int) < (q : Int) + 1 := by omega
              have bu := up_new w3 (.cells #[.slice xa n xc] 24)
              have HS4 := Lib.hid (Gn.Own.later HS3.out bu)
              have HK4 := Lib.hid (Gn.Own.later HK3.out bu)
              have HB4 := Lib.hid (up HB3.out bu)
              have HR4 := Lib.hid (rdSl_one w3 xa n xc)
              clear bu HS3 HK3
              go_wp2_with (at_builtin
                           first
                           | (refine Gn.wpList_app slL slY rfl (.tmp 49) (.tmp 51) rfl W.heap.size _ ss rfl HS4.out _ [(⟨xa, n, xc⟩ : Sl)] rfl HR4.out (by rw [HQS.out]; simp; omega) HB4.out.size ?_
                              intro v5 w5 ho5 hg5 hl5 hn5
                              have bu := up_new w5 (.cells #[.string lt] 9)
                              have h5 := Gn.below_of_own HS4.out hg5 HB4.out.size
                              have HS5 := Lib.hid (Gn.Own.later ho5 bu)
                              have HK5 := Lib.hid (Gn.Own.later (Gn.Own.kept HK4.out hg5 (own_apart HK4.out HS4.out tx_ne_sl)) bu)
                              have HB5 := Lib.hid ((HB4.out.trans h5).trans (bu.mono (HB4.out.trans h5).size))
                              have HR5 := Lib.hid (rdTx_one w5 lt)
                              clear ho5 hg5 hl5 hn5 bu h5)
                           | (refine Gn.wpList_app txL txY rfl (.tmp 53) (.tmp 58) rfl W.heap.size _ (lets q) rfl HK5.out _ [lt] rfl HR5.out (by rw [lets_len]; simp; omega) HB5.out.size ?_
                              intro v7 w7 ho7 hg7 hl7 hn7
                              have h7 := Gn.below_of_own HK5.out hg7 HB5.out.size
                              have HS7 := Lib.hid (Gn.Own.kept HS5.out hg7 (own_apart HS5.out HK5.out sl_ne_tx))
                              have HB7 := Lib.hid (HB5.out.trans h7)
                              have e7 : (lets q ++ [lt]).length = q + 1 := by rw [List.length_append, lets_len]; rfl
                              obtain ⟨k7a, k7c, rfl, _⟩ := Gn.Rd.form (Gn.Own.rd txL ho7)
                              obtain ⟨kb, ko, rfl, _, hc7⟩ := Gn.Rd.at (Gn.Own.rd txL ho7) (Below.refl _ _) (by rw [e7]; omega : q < (lets q ++ [lt]).length)
                              have c7 : w7.cell? ⟨kb, ko + q, none⟩ = some (.string lt) := by
                                have := hc7 0 (.string lt) (by
                                  have e8 : (lets q ++ [lt])[q]'(by rw [e7]; omega) = lt := by rw [List.getElem_append_right (by rw [lets_len]; omega)]; simp [lets_len]
                                  rw [e8]; rfl)
                                simpa using this
                              have HK7 := Lib.hid ho7
                              rw [e7] at HK7 ⊢
                              clear ho7 hg7 hl7 hn7 h7 hc7 e7))
              have HAN : Hid (LL W w7 W.heap.size v5 _ (l ++ s) (o ++ ⟨#[34]⟩ ++ lt ++ ⟨#[34, 58]⟩ ++ s) false (ss ++ [(⟨xa, n, xc⟩ : Sl)]) [] (q + 1)) := Lib.hid ⟨HS7.out, by rw [List.length_append, HQS.out]; rfl, by rw [lets_succ, HLT.out]; exact HK7.out, (fun e => by cases e), by simp only [ByteArray.size_append]; have e44 : (⟨#[44]⟩ : ByteArray).size = 1 := rfl; have e34 : (⟨#[34]⟩ : ByteArray).size = 1 := rfl; have e58 : (⟨#[34, 58]⟩ : ByteArray).size = 2 := rfl; omega, by simp only [ByteArray.size_append]; have e44 : (⟨#[44]⟩ : ByteArray).size = 1 := rfl; have e34 : (⟨#[34]⟩ : ByteArray).size = 1 := rfl; have e58 : (⟨#[34, 58]⟩ : ByteArray).size = 2 := rfl; omega, HB7.out⟩
              clear HA HS7 HK7 HB7 HS5 HK5 HB5
              go_roundw
              case rel => exact ⟨q + 1, _, _, _, _, _, by rfl, by rfl, by rfl, by go_num, by omega, by omega, HAN⟩
              case measure => simp [intOf]; omega
            · skip
              have hq0' : (0 : Int) < (q : Nat) := by omega
              have HQ0 := Lib.hid hq0
              clear hq0
              have n0 : ¬ 9223372036854775807 < l.size + 1 := by omega
              have n00 : ¬ 9223372036854775807 < o.size + 1 := by omega
              have n1 : ¬ 9223372036854775807 < l.size + 1 + s.size := by omega
              have n2 : ¬ 9223372036854775807 < o.size + 1 + 1 := by omega
              have n3 : ¬ 9223372036854775807 < o.size + 1 + 1 + lt.size := by omega
              have n4 : ¬ 9223372036854775807 < o.size + 1 + 1 + lt.size + 2 := by omega
              have n5 : ¬ 9223372036854775807 < o.size + 1 + 1 + lt.size + 2 + s.size := by omega
              have hqq : (q : Int) < ((q + 1 : Nat) : Int) := by omega
              have hqq' : (q : Int) < (q : Int) + 1 := by omega
              have bu := up_new w3 (.cells #[.slice xa n xc] 24)
              have HS4 := Lib.hid (Gn.Own.later HS3.out bu)
              have HK4 := Lib.hid (Gn.Own.later HK3.out bu)
              have HB4 := Lib.hid (up HB3.out bu)
              have HR4 := Lib.hid (rdSl_one w3 xa n xc)
              clear bu HS3 HK3
              go_wp2_with (at_builtin
                           first
                           | (refine Gn.wpList_app slL slY rfl (.tmp 49) (.tmp 51) rfl W.heap.size _ ss rfl HS4.out _ [(⟨xa, n, xc⟩ : Sl)] rfl HR4.out (by rw [HQS.out]; simp; omega) HB4.out.size ?_
                              intro v5 w5 ho5 hg5 hl5 hn5
                              have bu := up_new w5 (.cells #[.string lt] 9)
                              have h5 := Gn.below_of_own HS4.out hg5 HB4.out.size
                              have HS5 := Lib.hid (Gn.Own.later ho5 bu)
                              have HK5 := Lib.hid (Gn.Own.later (Gn.Own.kept HK4.out hg5 (own_apart HK4.out HS4.out tx_ne_sl)) bu)
                              have HB5 := Lib.hid ((HB4.out.trans h5).trans (bu.mono (HB4.out.trans h5).size))
                              have HR5 := Lib.hid (rdTx_one w5 lt)
                              clear ho5 hg5 hl5 hn5 bu h5)
                           | (refine Gn.wpList_app txL txY rfl (.tmp 53) (.tmp 58) rfl W.heap.size _ (lets q) rfl HK5.out _ [lt] rfl HR5.out (by rw [lets_len]; simp; omega) HB5.out.size ?_
                              intro v7 w7 ho7 hg7 hl7 hn7
                              have h7 := Gn.below_of_own HK5.out hg7 HB5.out.size
                              have HS7 := Lib.hid (Gn.Own.kept HS5.out hg7 (own_apart HS5.out HK5.out sl_ne_tx))
                              have HB7 := Lib.hid (HB5.out.trans h7)
                              have e7 : (lets q ++ [lt]).length = q + 1 := by rw [List.length_append, lets_len]; rfl
                              obtain ⟨k7a, k7c, rfl, _⟩ := Gn.Rd.form (Gn.Own.rd txL ho7)
                              obtain ⟨kb, ko, rfl, _, hc7⟩ := Gn.Rd.at (Gn.Own.rd txL ho7) (Below.refl _ _) (by rw [e7]; omega : q < (lets q ++ [lt]).length)
                              have c7 : w7.cell? ⟨kb, ko + q, none⟩ = some (.string lt) := by
                                have := hc7 0 (.string lt) (by
                                  have e8 : (lets q ++ [lt])[q]'(by rw [e7]; omega) = lt := by rw [List.getElem_append_right (by rw [lets_len]; omega)]; simp [lets_len]
                                  rw [e8]; rfl)
                                simpa using this
                              have HK7 := Lib.hid ho7
                              rw [e7] at HK7 ⊢
                              clear ho7 hg7 hl7 hn7 h7 hc7 e7))
              have HAN : Hid (LL W w7 W.heap.size v5 _ (l ++ ⟨#[44]⟩ ++ s) (o ++ ⟨#[44]⟩ ++ ⟨#[34]⟩ ++ lt ++ ⟨#[34, 58]⟩ ++ s) false (ss ++ [(⟨xa, n, xc⟩ : Sl)]) [] (q + 1)) := Lib.hid ⟨HS7.out, by rw [List.length_append, HQS.out]; rfl, by rw [lets_succ, HLT.out]; exact HK7.out, (fun e => by cases e), by simp only [ByteArray.size_append]; have e44 : (⟨#[44]⟩ : ByteArray).size = 1 := rfl; have e34 : (⟨#[34]⟩ : ByteArray).size = 1 := rfl; have e58 : (⟨#[34, 58]⟩ : ByteArray).size = 2 := rfl; omega, by simp only [ByteArray.size_append]; have e44 : (⟨#[44]⟩ : ByteArray).size = 1 := rfl; have e34 : (⟨#[34]⟩ : ByteArray).size = 1 := rfl; have e58 : (⟨#[34, 58]⟩ : ByteArray).size = 2 := rfl; omega, HB7.out⟩
              clear HA HS7 HK7 HB7 HS5 HK5 HB5
              go_roundw
              case rel => exact ⟨q + 1, _, _, _, _, _, by rfl, by rfl, by rfl, by go_num, by omega, by omega, HAN⟩
              case measure => simp [intOf]; omega
          · skip
            obtain ⟨htx, hfl, hea⟩ := HA.out.tx rfl
            have HTX := Lib.hid htx
            have HFL := Lib.hid hfl
            have HE3 := Lib.hid ((hea.later b3).snoc (s := ⟨xa, n, xc⟩) HO.out HRO.out.ok)
            clear ho b b3 hn htx hfl hea
            by_cases hq0 : q = 0
            · skip
              have hq0' : ¬ (0 : Int) < (q : Nat) := by omega
              have HQ0 := Lib.hid hq0
              clear hq0
              have n1 : ¬ 9223372036854775807 < l.size + s.size := by omega
              have n2 : ¬ 9223372036854775807 < o.size + 1 := by omega
              have n3 : ¬ 9223372036854775807 < o.size + 1 + lt.size := by omega
              have n4 : ¬ 9223372036854775807 < o.size + 1 + lt.size + 2 := by omega
              have n5 : ¬ 9223372036854775807 < o.size + 1 + lt.size + 2 + s.size := by omega
              have hqq : (q : Int) < ((q + 1 : Nat) : Int) := by omega
              have hqq' : (q : Int) < (q : Int) + 1 := by omega
              have bu := up_new w3 (.cells #[.slice xa n xc] 24)
              have HS4 := Lib.hid (Gn.Own.later HS3.out bu)
              have HE4 := Lib.hid ((HE3.out).later bu)
              have HK4 := Lib.hid (Gn.Own.later HK3.out bu)
              have HB4 := Lib.hid (up HB3.out bu)
              have HR4 := Lib.hid (rdSl_one w3 xa n xc)
              clear bu HS3 HK3 HE3
              go_wp2_with (at_builtin
                           first
                           | (refine Gn.wpList_app slL slY rfl (.tmp 49) (.tmp 51) rfl W.heap.size _ ss rfl HS4.out _ [(⟨xa, n, xc⟩ : Sl)] rfl HR4.out (by rw [HQS.out]; simp; omega) HB4.out.size ?_
                              intro v5 w5 ho5 hg5 hl5 hn5
                              have bu := up_new w5 (.cells #[.string lt] 9)
                              have h5 := Gn.below_of_own HS4.out hg5 HB4.out.size
                              have HS5 := Lib.hid (Gn.Own.later ho5 bu)
                              have HE5 := Lib.hid ((EachO.kept HE4.out HS4.out node_ne_sl hg5).later bu)
                              have HK5 := Lib.hid (Gn.Own.later (Gn.Own.kept HK4.out hg5 (own_apart HK4.out HS4.out tx_ne_sl)) bu)
                              have HB5 := Lib.hid ((HB4.out.trans h5).trans (bu.mono (HB4.out.trans h5).size))
                              have HR5 := Lib.hid (rdTx_one w5 lt)
                              clear ho5 hg5 hl5 hn5 bu h5)
                           | (refine Gn.wpList_app txL txY rfl (.tmp 53) (.tmp 58) rfl W.heap.size _ (lets q) rfl HK5.out _ [lt] rfl HR5.out (by rw [lets_len]; simp; omega) HB5.out.size ?_
                              intro v7 w7 ho7 hg7 hl7 hn7
                              have h7 := Gn.below_of_own HK5.out hg7 HB5.out.size
                              have HS7 := Lib.hid (Gn.Own.kept HS5.out hg7 (own_apart HS5.out HK5.out sl_ne_tx))
                              have HE7 := Lib.hid (EachO.kept HE5.out HK5.out node_ne_tx hg7)
                              have HB7 := Lib.hid (HB5.out.trans h7)
                              have e7 : (lets q ++ [lt]).length = q + 1 := by rw [List.length_append, lets_len]; rfl
                              obtain ⟨k7a, k7c, rfl, _⟩ := Gn.Rd.form (Gn.Own.rd txL ho7)
                              obtain ⟨kb, ko, rfl, _, hc7⟩ := Gn.Rd.at (Gn.Own.rd txL ho7) (Below.refl _ _) (by rw [e7]; omega : q < (lets q ++ [lt]).length)
                              have c7 : w7.cell? ⟨kb, ko + q, none⟩ = some (.string lt) := by
                                have := hc7 0 (.string lt) (by
                                  have e8 : (lets q ++ [lt])[q]'(by rw [e7]; omega) = lt := by rw [List.getElem_append_right (by rw [lets_len]; omega)]; simp [lets_len]
                                  rw [e8]; rfl)
                                simpa using this
                              have HK7 := Lib.hid ho7
                              rw [e7] at HK7 ⊢
                              clear ho7 hg7 hl7 hn7 h7 hc7 e7))
              have HAN : Hid (LL W w7 W.heap.size v5 _ (l ++ s) (o ++ ⟨#[34]⟩ ++ lt ++ ⟨#[34, 58]⟩ ++ s) true (ss ++ [(⟨xa, n, xc⟩ : Sl)]) (Fs ++ [F]) (q + 1)) := Lib.hid ⟨HS7.out, by rw [List.length_append, HQS.out]; rfl, by rw [lets_succ, HLT.out]; exact HK7.out, fun _ => ⟨by
                  have h1 := tx_snoc HTX.out (by rw [HFL.out]; omega) HRO.out (bl_byte s) HRD.out
                  rw [HFL.out] at h1
                  simp only [bl_append, HLB.out, show bl ⟨#[44]⟩ = [44] from rfl, show bl ⟨#[34]⟩ = [34] from rfl, show bl ⟨#[34, 58]⟩ = [34, 58] from rfl]
                  simpa [HQ0.out] using h1, by rw [List.length_append, HFL.out]; rfl, by rw [List.map_append]; exact HE7.out⟩, by simp only [ByteArray.size_append]; have e44 : (⟨#[44]⟩ : ByteArray).size = 1 := rfl; have e34 : (⟨#[34]⟩ : ByteArray).size = 1 := rfl; have e58 : (⟨#[34, 58]⟩ : ByteArray).size = 2 := rfl; omega, by simp only [ByteArray.size_append]; have e44 : (⟨#[44]⟩ : ByteArray).size = 1 := rfl; have e34 : (⟨#[34]⟩ : ByteArray).size = 1 := rfl; have e58 : (⟨#[34, 58]⟩ : ByteArray).size = 2 := rfl; omega, HB7.out⟩
              clear HA HS7 HK7 HB7 HE7 HE5 HS5 HK5 HB5
              go_roundw
              case rel => exact ⟨q + 1, _, _, _, _, _, by rfl, by rfl, by rfl, by go_num, by omega, by omega, HAN⟩
              case measure => simp [intOf]; omega
            · skip
              have hq0' : (0 : Int) < (q : Nat) := by omega
              have HQ0 := Lib.hid hq0
              clear hq0
              have n0 : ¬ 9223372036854775807 < l.size + 1 := by omega
              have n00 : ¬ 9223372036854775807 < o.size + 1 := by omega
              have n1 : ¬ 9223372036854775807 < l.size + 1 + s.size := by omega
              have n2 : ¬ 9223372036854775807 < o.size + 1 + 1 := by omega
              have n3 : ¬ 9223372036854775807 < o.size + 1 + 1 + lt.size := by omega
              have n4 : ¬ 9223372036854775807 < o.size + 1 + 1 + lt.size + 2 := by omega
              have n5 : ¬ 9223372036854775807 < o.size + 1 + 1 + lt.size + 2 + s.size := by omega
              have hqq : (q : Int) < ((q + 1 : Nat) : Int) := by omega
              have hqq' : (q : Int) < (q : Int) + 1 := by omega
              have bu := up_new w3 (.cells #[.slice xa n xc] 24)
              have HS4 := Lib.hid (Gn.Own.later HS3.out bu)
              have HE4 := Lib.hid ((HE3.out).later bu)
              have HK4 := Lib.hid (Gn.Own.later HK3.out bu)
              have HB4 := Lib.hid (up HB3.out bu)
              have HR4 := Lib.hid (rdSl_one w3 xa n xc)
              clear bu HS3 HK3 HE3
              go_wp2_with (at_builtin
                           first
                           | (refine Gn.wpList_app slL slY rfl (.tmp 49) (.tmp 51) rfl W.heap.size _ ss rfl HS4.out _ [(⟨xa, n, xc⟩ : Sl)] rfl HR4.out (by rw [HQS.out]; simp; omega) HB4.out.size ?_
                              intro v5 w5 ho5 hg5 hl5 hn5
                              have bu := up_new w5 (.cells #[.string lt] 9)
                              have h5 := Gn.below_of_own HS4.out hg5 HB4.out.size
                              have HS5 := Lib.hid (Gn.Own.later ho5 bu)
                              have HE5 := Lib.hid ((EachO.kept HE4.out HS4.out node_ne_sl hg5).later bu)
                              have HK5 := Lib.hid (Gn.Own.later (Gn.Own.kept HK4.out hg5 (own_apart HK4.out HS4.out tx_ne_sl)) bu)
                              have HB5 := Lib.hid ((HB4.out.trans h5).trans (bu.mono (HB4.out.trans h5).size))
                              have HR5 := Lib.hid (rdTx_one w5 lt)
                              clear ho5 hg5 hl5 hn5 bu h5)
                           | (refine Gn.wpList_app txL txY rfl (.tmp 53) (.tmp 58) rfl W.heap.size _ (lets q) rfl HK5.out _ [lt] rfl HR5.out (by rw [lets_len]; simp; omega) HB5.out.size ?_
                              intro v7 w7 ho7 hg7 hl7 hn7
                              have h7 := Gn.below_of_own HK5.out hg7 HB5.out.size
                              have HS7 := Lib.hid (Gn.Own.kept HS5.out hg7 (own_apart HS5.out HK5.out sl_ne_tx))
                              have HE7 := Lib.hid (EachO.kept HE5.out HK5.out node_ne_tx hg7)
                              have HB7 := Lib.hid (HB5.out.trans h7)
                              have e7 : (lets q ++ [lt]).length = q + 1 := by rw [List.length_append, lets_len]; rfl
                              obtain ⟨k7a, k7c, rfl, _⟩ := Gn.Rd.form (Gn.Own.rd txL ho7)
                              obtain ⟨kb, ko, rfl, _, hc7⟩ := Gn.Rd.at (Gn.Own.rd txL ho7) (Below.refl _ _) (by rw [e7]; omega : q < (lets q ++ [lt]).length)
                              have c7 : w7.cell? ⟨kb, ko + q, none⟩ = some (.string lt) := by
                                have := hc7 0 (.string lt) (by
                                  have e8 : (lets q ++ [lt])[q]'(by rw [e7]; omega) = lt := by rw [List.getElem_append_right (by rw [lets_len]; omega)]; simp [lets_len]
                                  rw [e8]; rfl)
                                simpa using this
                              have HK7 := Lib.hid ho7
                              rw [e7] at HK7 ⊢
                              clear ho7 hg7 hl7 hn7 h7 hc7 e7))
              have HAN : Hid (LL W w7 W.heap.size v5 _ (l ++ ⟨#[44]⟩ ++ s) (o ++ ⟨#[44]⟩ ++ ⟨#[34]⟩ ++ lt ++ ⟨#[34, 58]⟩ ++ s) true (ss ++ [(⟨xa, n, xc⟩ : Sl)]) (Fs ++ [F]) (q + 1)) := Lib.hid ⟨HS7.out, by rw [List.length_append, HQS.out]; rfl, by rw [lets_succ, HLT.out]; exact HK7.out, fun _ => ⟨by
                  have h1 := tx_snoc HTX.out (by rw [HFL.out]; omega) HRO.out (bl_byte s) HRD.out
                  rw [HFL.out] at h1
                  simp only [bl_append, HLB.out, show bl ⟨#[44]⟩ = [44] from rfl, show bl ⟨#[34]⟩ = [34] from rfl, show bl ⟨#[34, 58]⟩ = [34, 58] from rfl]
                  simpa [HQ0.out] using h1, by rw [List.length_append, HFL.out]; rfl, by rw [List.map_append]; exact HE7.out⟩, by simp only [ByteArray.size_append]; have e44 : (⟨#[44]⟩ : ByteArray).size = 1 := rfl; have e34 : (⟨#[34]⟩ : ByteArray).size = 1 := rfl; have e58 : (⟨#[34, 58]⟩ : ByteArray).size = 2 := rfl; omega, by simp only [ByteArray.size_append]; have e44 : (⟨#[44]⟩ : ByteArray).size = 1 := rfl; have e34 : (⟨#[34]⟩ : ByteArray).size = 1 := rfl; have e58 : (⟨#[34, 58]⟩ : ByteArray).size = 2 := rfl; omega, HB7.out⟩
              clear HA HS7 HK7 HB7 HE7 HE5 HS5 HK5 HB5
              go_roundw
              case rel => exact ⟨q + 1, _, _, _, _, _, by rfl, by rfl, by rfl, by go_num, by omega, by omega, HAN⟩
              case measure => simp [intOf]; omega
        · skip
          rename_i a m
          obtain ⟨rfl, b⟩ := hp
          have b3 : Below wr.heap.size wr w3 := by first | exact (Below.refl _ _).drew.trans b | exact b
          have HB3 := Lib.hid (up HA.out.below b3)
          have HS3 := Lib.hid (Gn.Own.later HA.out.row b3)
          have HK3 := Lib.hid (Gn.Own.later HA.out.keys b3)
          have hm := reads_ne8 (by rw [bl_length]; omega) (bl_byte s) hr
          have hm1 : (m == 0) = false := by rw [beq_eq_false_iff_ne]; exact hm
          clear b b3 hr hm
          cases t
          · skip
            by_cases hq0 : q = 0
            · skip
              have hq0' : ¬ (0 : Int) < (q : Nat) := by omega
              have HQ0 := Lib.hid hq0
              clear hq0
              have n1 : ¬ 9223372036854775807 < l.size + s.size := by omega
              have n2 : ¬ 9223372036854775807 < o.size + 1 := by omega
              have n3 : ¬ 9223372036854775807 < o.size + 1 + lt.size := by omega
              have n4 : ¬ 9223372036854775807 < o.size + 1 + lt.size + 2 := by omega
              have n5 : ¬ 9223372036854775807 < o.size + 1 + lt.size + 2 + s.size := by omega
              have hqq : (q : Int) < ((q + 1 : Nat) : Int) := by omega
              have hqq' : (q : Int) < (q : Int) + 1 := by omega
              have bu := up_new w3 (.cells #[.slice none 0 0] 24)
              have HS4 := Lib.hid (Gn.Own.later HS3.out bu)
              have HK4 := Lib.hid (Gn.Own.later HK3.out bu)
              have HB4 := Lib.hid (up HB3.out bu)
              have HR4 := Lib.hid (rdSl_one w3 none 0 0)
              clear bu HS3 HK3
              go_wp2_with (at_builtin
                           first
                           | (refine Gn.wpList_app slL slY rfl (.tmp 49) (.tmp 51) rfl W.heap.size _ ss rfl HS4.out _ [(⟨none, 0, 0⟩ : Sl)] rfl HR4.out (by rw [HQS.out]; simp; omega) HB4.out.size ?_
                              intro v5 w5 ho5 hg5 hl5 hn5
                              have bu := up_new w5 (.cells #[.string lt] 9)
                              have h5 := Gn.below_of_own HS4.out hg5 HB4.out.size
                              have HS5 := Lib.hid (Gn.Own.later ho5 bu)
                              have HK5 := Lib.hid (Gn.Own.later (Gn.Own.kept HK4.out hg5 (own_apart HK4.out HS4.out tx_ne_sl)) bu)
                              have HB5 := Lib.hid ((HB4.out.trans h5).trans (bu.mono (HB4.out.trans h5).size))
                              have HR5 := Lib.hid (rdTx_one w5 lt)
                              clear ho5 hg5 hl5 hn5 bu h5)
                           | (refine Gn.wpList_app txL txY rfl (.tmp 53) (.tmp 58) rfl W.heap.size _ (lets q) rfl HK5.out _ [lt] rfl HR5.out (by rw [lets_len]; simp; omega) HB5.out.size ?_
                              intro v7 w7 ho7 hg7 hl7 hn7
                              have h7 := Gn.below_of_own HK5.out hg7 HB5.out.size
                              have HS7 := Lib.hid (Gn.Own.kept HS5.out hg7 (own_apart HS5.out HK5.out sl_ne_tx))
                              have HB7 := Lib.hid (HB5.out.trans h7)
                              have e7 : (lets q ++ [lt]).length = q + 1 := by rw [List.length_append, lets_len]; rfl
                              obtain ⟨k7a, k7c, rfl, _⟩ := Gn.Rd.form (Gn.Own.rd txL ho7)
                              obtain ⟨kb, ko, rfl, _, hc7⟩ := Gn.Rd.at (Gn.Own.rd txL ho7) (Below.refl _ _) (by rw [e7]; omega : q < (lets q ++ [lt]).length)
                              have c7 : w7.cell? ⟨kb, ko + q, none⟩ = some (.string lt) := by
                                have := hc7 0 (.string lt) (by
                                  have e8 : (lets q ++ [lt])[q]'(by rw [e7]; omega) = lt := by rw [List.getElem_append_right (by rw [lets_len]; omega)]; simp [lets_len]
                                  rw [e8]; rfl)
                                simpa using this
                              have HK7 := Lib.hid ho7
                              rw [e7] at HK7 ⊢
                              clear ho7 hg7 hl7 hn7 h7 hc7 e7))
              have HAN : Hid (LL W w7 W.heap.size v5 _ (l ++ s) (o ++ ⟨#[34]⟩ ++ lt ++ ⟨#[34, 58]⟩ ++ s) false (ss ++ [(⟨none, 0, 0⟩ : Sl)]) [] (q + 1)) := Lib.hid ⟨HS7.out, by rw [List.length_append, HQS.out]; rfl, by rw [lets_succ, HLT.out]; exact HK7.out, (fun e => by cases e), by simp only [ByteArray.size_append]; have e44 : (⟨#[44]⟩ : ByteArray).size = 1 := rfl; have e34 : (⟨#[34]⟩ : ByteArray).size = 1 := rfl; have e58 : (⟨#[34, 58]⟩ : ByteArray).size = 2 := rfl; omega, by simp only [ByteArray.size_append]; have e44 : (⟨#[44]⟩ : ByteArray).size = 1 := rfl; have e34 : (⟨#[34]⟩ : ByteArray).size = 1 := rfl; have e58 : (⟨#[34, 58]⟩ : ByteArray).size = 2 := rfl; omega, HB7.out⟩
              clear HA HS7 HK7 HB7 HS5 HK5 HB5
              go_roundw
              case rel => exact ⟨q + 1, _, _, _, _, _, by rfl, by rfl, by rfl, by go_num, by omega, by omega, HAN⟩
              case measure => simp [intOf]; omega
            · skip
              have hq0' : (0 : Int) < (q : Nat) := by omega
              have HQ0 := Lib.hid hq0
              clear hq0
              have n0 : ¬ 9223372036854775807 < l.size + 1 := by omega
              have n00 : ¬ 9223372036854775807 < o.size + 1 := by omega
              have n1 : ¬ 9223372036854775807 < l.size + 1 + s.size := by omega
              have n2 : ¬ 9223372036854775807 < o.size + 1 + 1 := by omega
              have n3 : ¬ 9223372036854775807 < o.size + 1 + 1 + lt.size := by omega
              have n4 : ¬ 9223372036854775807 < o.size + 1 + 1 + lt.size + 2 := by omega
              have n5 : ¬ 9223372036854775807 < o.size + 1 + 1 + lt.size + 2 + s.size := by omega
              have hqq : (q : Int) < ((q + 1 : Nat) : Int) := by omega
              have hqq' : (q : Int) < (q : Int) + 1 := by omega
              have bu := up_new w3 (.cells #[.slice none 0 0] 24)
              have HS4 := Lib.hid (Gn.Own.later HS3.out bu)
              have HK4 := Lib.hid (Gn.Own.later HK3.out bu)
              have HB4 := Lib.hid (up HB3.out bu)
              have HR4 := Lib.hid (rdSl_one w3 none 0 0)
              clear bu HS3 HK3
              go_wp2_with (at_builtin
                           first
                           | (refine Gn.wpList_app slL slY rfl (.tmp 49) (.tmp 51) rfl W.heap.size _ ss rfl HS4.out _ [(⟨none, 0, 0⟩ : Sl)] rfl HR4.out (by rw [HQS.out]; simp; omega) HB4.out.size ?_
                              intro v5 w5 ho5 hg5 hl5 hn5
                              have bu := up_new w5 (.cells #[.string lt] 9)
                              have h5 := Gn.below_of_own HS4.out hg5 HB4.out.size
                              have HS5 := Lib.hid (Gn.Own.later ho5 bu)
                              have HK5 := Lib.hid (Gn.Own.later (Gn.Own.kept HK4.out hg5 (own_apart HK4.out HS4.out tx_ne_sl)) bu)
                              have HB5 := Lib.hid ((HB4.out.trans h5).trans (bu.mono (HB4.out.trans h5).size))
                              have HR5 := Lib.hid (rdTx_one w5 lt)
                              clear ho5 hg5 hl5 hn5 bu h5)
                           | (refine Gn.wpList_app txL txY rfl (.tmp 53) (.tmp 58) rfl W.heap.size _ (lets q) rfl HK5.out _ [lt] rfl HR5.out (by rw [lets_len]; simp; omega) HB5.out.size ?_
                              intro v7 w7 ho7 hg7 hl7 hn7
                              have h7 := Gn.below_of_own HK5.out hg7 HB5.out.size
                              have HS7 := Lib.hid (Gn.Own.kept HS5.out hg7 (own_apart HS5.out HK5.out sl_ne_tx))
                              have HB7 := Lib.hid (HB5.out.trans h7)
                              have e7 : (lets q ++ [lt]).length = q + 1 := by rw [List.length_append, lets_len]; rfl
                              obtain ⟨k7a, k7c, rfl, _⟩ := Gn.Rd.form (Gn.Own.rd txL ho7)
                              obtain ⟨kb, ko, rfl, _, hc7⟩ := Gn.Rd.at (Gn.Own.rd txL ho7) (Below.refl _ _) (by rw [e7]; omega : q < (lets q ++ [lt]).length)
                              have c7 : w7.cell? ⟨kb, ko + q, none⟩ = some (.string lt) := by
                                have := hc7 0 (.string lt) (by
                                  have e8 : (lets q ++ [lt])[q]'(by rw [e7]; omega) = lt := by rw [List.getElem_append_right (by rw [lets_len]; omega)]; simp [lets_len]
                                  rw [e8]; rfl)
                                simpa using this
                              have HK7 := Lib.hid ho7
                              rw [e7] at HK7 ⊢
                              clear ho7 hg7 hl7 hn7 h7 hc7 e7))
              have HAN : Hid (LL W w7 W.heap.size v5 _ (l ++ ⟨#[44]⟩ ++ s) (o ++ ⟨#[44]⟩ ++ ⟨#[34]⟩ ++ lt ++ ⟨#[34, 58]⟩ ++ s) false (ss ++ [(⟨none, 0, 0⟩ : Sl)]) [] (q + 1)) := Lib.hid ⟨HS7.out, by rw [List.length_append, HQS.out]; rfl, by rw [lets_succ, HLT.out]; exact HK7.out, (fun e => by cases e), by simp only [ByteArray.size_append]; have e44 : (⟨#[44]⟩ : ByteArray).size = 1 := rfl; have e34 : (⟨#[34]⟩ : ByteArray).size = 1 := rfl; have e58 : (⟨#[34, 58]⟩ : ByteArray).size = 2 := rfl; omega, by simp only [ByteArray.size_append]; have e44 : (⟨#[44]⟩ : ByteArray).size = 1 := rfl; have e34 : (⟨#[34]⟩ : ByteArray).size = 1 := rfl; have e58 : (⟨#[34, 58]⟩ : ByteArray).size = 2 := rfl; omega, HB7.out⟩
              clear HA HS7 HK7 HB7 HS5 HK5 HB5
              go_roundw
              case rel => exact ⟨q + 1, _, _, _, _, _, by rfl, by rfl, by rfl, by go_num, by omega, by omega, HAN⟩
              case measure => simp [intOf]; omega
          · skip
            by_cases hq0 : q = 0
            · skip
              have hq0' : ¬ (0 : Int) < (q : Nat) := by omega
              have HQ0 := Lib.hid hq0
              clear hq0
              have n1 : ¬ 9223372036854775807 < l.size + s.size := by omega
              have n2 : ¬ 9223372036854775807 < o.size + 1 := by omega
              have n3 : ¬ 9223372036854775807 < o.size + 1 + lt.size := by omega
              have n4 : ¬ 9223372036854775807 < o.size + 1 + lt.size + 2 := by omega
              have n5 : ¬ 9223372036854775807 < o.size + 1 + lt.size + 2 + s.size := by omega
              have hqq : (q : Int) < ((q + 1 : Nat) : Int) := by omega
              have hqq' : (q : Int) < (q : Int) + 1 := by omega
              have bu := up_new w3 (.cells #[.slice none 0 0] 24)
              have HS4 := Lib.hid (Gn.Own.later HS3.out bu)
              have HK4 := Lib.hid (Gn.Own.later HK3.out bu)
              have HB4 := Lib.hid (up HB3.out bu)
              have HR4 := Lib.hid (rdSl_one w3 none 0 0)
              clear bu HS3 HK3
              go_wp2_with (at_builtin
                           first
                           | (refine Gn.wpList_app slL slY rfl (.tmp 49) (.tmp 51) rfl W.heap.size _ ss rfl HS4.out _ [(⟨none, 0, 0⟩ : Sl)] rfl HR4.out (by rw [HQS.out]; simp; omega) HB4.out.size ?_
                              intro v5 w5 ho5 hg5 hl5 hn5
                              have bu := up_new w5 (.cells #[.string lt] 9)
                              have h5 := Gn.below_of_own HS4.out hg5 HB4.out.size
                              have HS5 := Lib.hid (Gn.Own.later ho5 bu)
                              have HK5 := Lib.hid (Gn.Own.later (Gn.Own.kept HK4.out hg5 (own_apart HK4.out HS4.out tx_ne_sl)) bu)
                              have HB5 := Lib.hid ((HB4.out.trans h5).trans (bu.mono (HB4.out.trans h5).size))
                              have HR5 := Lib.hid (rdTx_one w5 lt)
                              clear ho5 hg5 hl5 hn5 bu h5)
                           | (refine Gn.wpList_app txL txY rfl (.tmp 53) (.tmp 58) rfl W.heap.size _ (lets q) rfl HK5.out _ [lt] rfl HR5.out (by rw [lets_len]; simp; omega) HB5.out.size ?_
                              intro v7 w7 ho7 hg7 hl7 hn7
                              have h7 := Gn.below_of_own HK5.out hg7 HB5.out.size
                              have HS7 := Lib.hid (Gn.Own.kept HS5.out hg7 (own_apart HS5.out HK5.out sl_ne_tx))
                              have HB7 := Lib.hid (HB5.out.trans h7)
                              have e7 : (lets q ++ [lt]).length = q + 1 := by rw [List.length_append, lets_len]; rfl
                              obtain ⟨k7a, k7c, rfl, _⟩ := Gn.Rd.form (Gn.Own.rd txL ho7)
                              obtain ⟨kb, ko, rfl, _, hc7⟩ := Gn.Rd.at (Gn.Own.rd txL ho7) (Below.refl _ _) (by rw [e7]; omega : q < (lets q ++ [lt]).length)
                              have c7 : w7.cell? ⟨kb, ko + q, none⟩ = some (.string lt) := by
                                have := hc7 0 (.string lt) (by
                                  have e8 : (lets q ++ [lt])[q]'(by rw [e7]; omega) = lt := by rw [List.getElem_append_right (by rw [lets_len]; omega)]; simp [lets_len]
                                  rw [e8]; rfl)
                                simpa using this
                              have HK7 := Lib.hid ho7
                              rw [e7] at HK7 ⊢
                              clear ho7 hg7 hl7 hn7 h7 hc7 e7))
              have HAN : Hid (LL W w7 W.heap.size v5 _ (l ++ s) (o ++ ⟨#[34]⟩ ++ lt ++ ⟨#[34, 58]⟩ ++ s) false (ss ++ [(⟨none, 0, 0⟩ : Sl)]) [] (q + 1)) := Lib.hid ⟨HS7.out, by rw [List.length_append, HQS.out]; rfl, by rw [lets_succ, HLT.out]; exact HK7.out, (fun e => by cases e), by simp only [ByteArray.size_append]; have e44 : (⟨#[44]⟩ : ByteArray).size = 1 := rfl; have e34 : (⟨#[34]⟩ : ByteArray).size = 1 := rfl; have e58 : (⟨#[34, 58]⟩ : ByteArray).size = 2 := rfl; omega, by simp only [ByteArray.size_append]; have e44 : (⟨#[44]⟩ : ByteArray).size = 1 := rfl; have e34 : (⟨#[34]⟩ : ByteArray).size = 1 := rfl; have e58 : (⟨#[34, 58]⟩ : ByteArray).size = 2 := rfl; omega, HB7.out⟩
              clear HA HS7 HK7 HB7 HS5 HK5 HB5
              go_roundw
              case rel => exact ⟨q + 1, _, _, _, _, _, by rfl, by rfl, by rfl, by go_num, by omega, by omega, HAN⟩
              case measure => simp [intOf]; omega
            · skip
              have hq0' : (0 : Int) < (q : Nat) := by omega
              have HQ0 := Lib.hid hq0
              clear hq0
              have n0 : ¬ 9223372036854775807 < l.size + 1 := by omega
              have n00 : ¬ 9223372036854775807 < o.size + 1 := by omega
              have n1 : ¬ 9223372036854775807 < l.size + 1 + s.size := by omega
              have n2 : ¬ 9223372036854775807 < o.size + 1 + 1 := by omega
              have n3 : ¬ 9223372036854775807 < o.size + 1 + 1 + lt.size := by omega
              have n4 : ¬ 9223372036854775807 < o.size + 1 + 1 + lt.size + 2 := by omega
              have n5 : ¬ 9223372036854775807 < o.size + 1 + 1 + lt.size + 2 + s.size := by omega
              have hqq : (q : Int) < ((q + 1 : Nat) : Int) := by omega
              have hqq' : (q : Int) < (q : Int) + 1 := by omega
              have bu := up_new w3 (.cells #[.slice none 0 0] 24)
              have HS4 := Lib.hid (Gn.Own.later HS3.out bu)
              have HK4 := Lib.hid (Gn.Own.later HK3.out bu)
              have HB4 := Lib.hid (up HB3.out bu)
              have HR4 := Lib.hid (rdSl_one w3 none 0 0)
              clear bu HS3 HK3
              go_wp2_with (at_builtin
                           first
                           | (refine Gn.wpList_app slL slY rfl (.tmp 49) (.tmp 51) rfl W.heap.size _ ss rfl HS4.out _ [(⟨none, 0, 0⟩ : Sl)] rfl HR4.out (by rw [HQS.out]; simp; omega) HB4.out.size ?_
                              intro v5 w5 ho5 hg5 hl5 hn5
                              have bu := up_new w5 (.cells #[.string lt] 9)
                              have h5 := Gn.below_of_own HS4.out hg5 HB4.out.size
                              have HS5 := Lib.hid (Gn.Own.later ho5 bu)
                              have HK5 := Lib.hid (Gn.Own.later (Gn.Own.kept HK4.out hg5 (own_apart HK4.out HS4.out tx_ne_sl)) bu)
                              have HB5 := Lib.hid ((HB4.out.trans h5).trans (bu.mono (HB4.out.trans h5).size))
                              have HR5 := Lib.hid (rdTx_one w5 lt)
                              clear ho5 hg5 hl5 hn5 bu h5)
                           | (refine Gn.wpList_app txL txY rfl (.tmp 53) (.tmp 58) rfl W.heap.size _ (lets q) rfl HK5.out _ [lt] rfl HR5.out (by rw [lets_len]; simp; omega) HB5.out.size ?_
                              intro v7 w7 ho7 hg7 hl7 hn7
                              have h7 := Gn.below_of_own HK5.out hg7 HB5.out.size
                              have HS7 := Lib.hid (Gn.Own.kept HS5.out hg7 (own_apart HS5.out HK5.out sl_ne_tx))
                              have HB7 := Lib.hid (HB5.out.trans h7)
                              have e7 : (lets q ++ [lt]).length = q + 1 := by rw [List.length_append, lets_len]; rfl
                              obtain ⟨k7a, k7c, rfl, _⟩ := Gn.Rd.form (Gn.Own.rd txL ho7)
                              obtain ⟨kb, ko, rfl, _, hc7⟩ := Gn.Rd.at (Gn.Own.rd txL ho7) (Below.refl _ _) (by rw [e7]; omega : q < (lets q ++ [lt]).length)
                              have c7 : w7.cell? ⟨kb, ko + q, none⟩ = some (.string lt) := by
                                have := hc7 0 (.string lt) (by
                                  have e8 : (lets q ++ [lt])[q]'(by rw [e7]; omega) = lt := by rw [List.getElem_append_right (by rw [lets_len]; omega)]; simp [lets_len]
                                  rw [e8]; rfl)
                                simpa using this
                              have HK7 := Lib.hid ho7
                              rw [e7] at HK7 ⊢
                              clear ho7 hg7 hl7 hn7 h7 hc7 e7))
              have HAN : Hid (LL W w7 W.heap.size v5 _ (l ++ ⟨#[44]⟩ ++ s) (o ++ ⟨#[44]⟩ ++ ⟨#[34]⟩ ++ lt ++ ⟨#[34, 58]⟩ ++ s) false (ss ++ [(⟨none, 0, 0⟩ : Sl)]) [] (q + 1)) := Lib.hid ⟨HS7.out, by rw [List.length_append, HQS.out]; rfl, by rw [lets_succ, HLT.out]; exact HK7.out, (fun e => by cases e), by simp only [ByteArray.size_append]; have e44 : (⟨#[44]⟩ : ByteArray).size = 1 := rfl; have e34 : (⟨#[34]⟩ : ByteArray).size = 1 := rfl; have e58 : (⟨#[34, 58]⟩ : ByteArray).size = 2 := rfl; omega, by simp only [ByteArray.size_append]; have e44 : (⟨#[44]⟩ : ByteArray).size = 1 := rfl; have e34 : (⟨#[34]⟩ : ByteArray).size = 1 := rfl; have e58 : (⟨#[34, 58]⟩ : ByteArray).size = 2 := rfl; omega, HB7.out⟩
              clear HA HS7 HK7 HB7 HS5 HK5 HB5
              go_roundw
              case rel => exact ⟨q + 1, _, _, _, _, _, by rfl, by rfl, by rfl, by go_num, by omega, by omega, HAN⟩
              case measure => simp [intOf]; omega
    · have HBW := Lib.hid HA.out.below
      have HTB := Lib.hid (HT.out.later HA.out.below)
      have HEB := Lib.hid (HTE.out.later HA.out.below)
      have KX := Lib.hid (fun (wb : World) (hb : Below wr.heap.size wr wb) => jworks wb (HTB.out.later hb) (HEB.out.later hb))
      have hcase : ¬ (q : Int) < L ∨ ((q : Int) < L ∧ ¬ (q : Int) < 6) := by
        rcases Nat.lt_or_ge q L with h | h
        · exact .inr ⟨by omega, by omega⟩
        · exact .inl (by omega)
      clear hlt
      cases t with
      | false =>
        have C3 := Lib.hid (KX.out wr (Below.refl _ _))
        clear HA KX
        rcases hcase with hc1 | ⟨hc1, hc2⟩
        all_goals
          go_wp2_with fail
          ((with_reducible refine (C3.out).mono ?_); rintro e w7 ⟨rfl, b⟩)
          have HX7 := Lib.hid b
          clear b C3
          go_wp2_with fail
          go_ret
          exact ⟨rfl, up HBW.out HX7.out⟩
      | true =>
        obtain ⟨htx, hfl, hea⟩ := HA.out.tx rfl
        have hfew := Lib.hid (show Fs.length ≤ 6 by rw [hfl]; exact hq)
        have HC6 := Lib.hid (cat6 hfew.out htx.all)
        have HC7 := Lib.hid (cat7 hfew.out htx.all)
        have HLQ := Lib.hid hfl
        obtain ⟨pa, pc, rfl, _⟩ := Gn.Rd.form (Gn.Own.rd slL HA.out.row)
        obtain ⟨ka, kc, rfl, _⟩ := Gn.Rd.form (Gn.Own.rd txL HA.out.keys)
        have hsq : ss.length = q := HQS.out
        have hyq : (lets q).length = q := lets_len q
        have HRS := Lib.hid (hea.rdS HA.out.row)
        have HRK : Hid (RdT wr wr.heap.size _ (lets q)) := Lib.hid (Gn.Own.rd txL HA.out.keys)
        rw [hsq] at HRS ⊢
        rw [hyq] at HRK ⊢
        have HRD6 : Hid (Jr.Reads (bl (l ++ ⟨#[93]⟩)) (.ok (catF 6 (List.replicate Fs.length ⟨#[]⟩) Fs))) := Lib.hid (by
          obtain ⟨P, e1, hP⟩ := htx.list
          have h1 : (bl l).length ≤ 2000 := by rw [bl_length]; omega
          have := HC6.out.reads hP (by rw [e1] at h1; simp at h1; omega)
          rw [bl_append, e1]
          exact this)
        have HRD7 : Hid (Jr.Reads (bl (o ++ ⟨#[125]⟩)) (.ok (catF 7 (lets Fs.length) Fs))) := Lib.hid (by
          obtain ⟨P, e1, hP⟩ := htx.obj
          have h1 : (bl o).length ≤ 2000 := by rw [bl_length]; omega
          have := HC7.out.reads hP (by rw [e1] at h1; simp at h1; omega)
          rw [bl_append, e1]
          exact this)
        have CL := Lib.hid (mkList _ ss (Fs.map Tp.flat) wr HRS.out (by rw [List.length_map]; have := hfew.out; omega) HTB.out (Tp.flat (catF 6 (List.replicate Fs.length ⟨#[]⟩) Fs)) 0 (by unfold ListIs; rw [List.length_map]; exact HC6.out.join))
        have CO := Lib.hid (fun (wb : World) (hb : Below wr.heap.size wr wb) => mkObj _ _ (lets q) ss (Fs.map Tp.flat) wb (Gn.Rd.later HRK.out hb) ((HRS.out.below hb (Nat.le_refl _)).more hb.size) (fun y hy => by have := (lets_ok q hq).2 y hy; unfold maxLen; omega) (by rw [List.length_map]; have := hfew.out; omega) (HTB.out.later hb) (Tp.flat (catF 7 (lets Fs.length) Fs)) 0 (.inr ⟨by rw [hyq, List.length_map, HLQ.out], by rw [← HLQ.out]; exact HC7.out.join⟩))
        have hla : (l ++ ⟨#[93]⟩).size ≤ 2000 := by rw [ByteArray.size_append, show (⟨#[93]⟩ : ByteArray).size = 1 from rfl]; omega
        have hoa : (o ++ ⟨#[125]⟩).size ≤ 2000 := by rw [ByteArray.size_append, show (⟨#[125]⟩ : ByteArray).size = 1 from rfl]; omega
        have hz6 : ∀ (K : Int) (ys : List ByteArray), 0 < (Tp.flat (catF K ys Fs)).length := fun K ys => by rw [flat_sz]; unfold catF; rw [Tp.sz_node]; omega
        have V6 := Lib.hid (fun (v : Value) (wb : World) (hb : Below wr.heap.size wr wb) (h : RdN wb wb.heap.size v (Tp.flat (catF 6 (List.replicate Fs.length ⟨#[]⟩) Fs))) => jreads (l ++ ⟨#[93]⟩) _ v wb (HTB.out.later hb) (HEB.out.later hb) (.inl (by omega)) HRD6.out h (hz6 _ _) (by have := HC6.out.small; rw [flat_sz]; omega))
        have V7 := Lib.hid (fun (v : Value) (wb : World) (hb : Below wr.heap.size wr wb) (h : RdN wb wb.heap.size v (Tp.flat (catF 7 (lets Fs.length) Fs))) => jreads (o ++ ⟨#[125]⟩) _ v wb (HTB.out.later hb) (HEB.out.later hb) (.inl (by omega)) HRD7.out h (hz6 _ _) (by have := HC7.out.small; rw [flat_sz]; omega))
        obtain ⟨A, hAe⟩ : ∃ A, A = Tp.flat (catF 6 (List.replicate Fs.length ⟨#[]⟩) Fs) := ⟨_, rfl⟩
        obtain ⟨Bb, hBe⟩ : ∃ B, B = Tp.flat (catF 7 (lets Fs.length) Fs) := ⟨_, rfl⟩
        rw [← hAe] at CL V6
        rw [← hBe] at CO V7
        have n1 : ¬ 9223372036854775807 < l.size + 1 := by omega
        have n2 : ¬ 9223372036854775807 < o.size + 1 := by omega
        clear HC6 HC7 hfew hsq hyq hAe hBe HA HLQ HRS HRK HRD6 HRD7 htx hfl hea hla hoa hz6 HQS
        rcases hcase with hc1 | ⟨hc1, hc2⟩
        all_goals
          go_wp2_with fail
          ((with_reducible refine (CL.out).mono ?_); rintro e w3 ⟨a, rfl, ho, b⟩)
          have HX3 := Lib.hid b
          have HRA := Lib.hid (Gn.Own.rd ndL ho)
          clear b ho CL
          go_wp2_with fail
          ((with_reducible refine (CO.out _ HX3.out).mono ?_); rintro e w4 ⟨u, rfl, ho, b⟩)
          have HX4 := Lib.hid (up HX3.out b)
          have HRB := Lib.hid (Gn.Own.rd ndL ho)
          have C1 := Lib.hid (V6.out a w4 HX4.out (Gn.Rd.later HRA.out b))
          clear b ho CO V6 HRA
          go_wp2_with fail
          ((with_reducible refine (C1.out).mono ?_); rintro e w5 ⟨rfl, b⟩)
          have HX5 := Lib.hid (up HX4.out b)
          have C2 := Lib.hid (V7.out u w5 HX5.out (Gn.Rd.later HRB.out b))
          clear b C1 V7 HRB
          go_wp2_with fail
          ((with_reducible refine (C2.out).mono ?_); rintro e w6 ⟨rfl, b⟩)
          have HX6 := Lib.hid (up HX5.out b)
          have C3 := Lib.hid (KX.out w6 HX6.out)
          clear b C2 KX
          go_wp2_with fail
          ((with_reducible refine (C3.out).mono ?_); rintro e w7 ⟨rfl, b⟩)
          have HX7 := Lib.hid (up HX6.out b)
          clear b C3
          go_wp2_with fail
          go_ret
          exact ⟨rfl, up HBW.out HX7.out⟩
end Go.Proofs.YtgmdjofnkbaflaaDoor
