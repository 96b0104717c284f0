/- JshowParts: the walk. -/
import Derived.Test.YtgmdjofnkbaflaaDoorDfact
import Derived.Test.YtgmdjofnkbaflaaDoorShall
import Derived.Test.YtgmdjofnkbaflaaDoorOpb
namespace Go.Proofs.YtgmdjofnkbaflaaDoor.S8
open Go.RowKit
set_option linter.unusedVariables false
set_option maxRecDepth 100000

/-- A list, or an object, of drawn values. -/
def catF (K : Int) (ys : List ByteArray) (Fs : List Fo) : Fo := .node K ⟨#[]⟩ 0 ⟨#[]⟩ (mkC ys Fs) .nil
structure Cat (K : Int) (ys : List ByteArray) (Fs : List Fo) : Prop where
  kind : K = 6 ∨ K = 7
  len : ys.length = Fs.length
  few : Fs.length ≤ 6
  all : ∀ F ∈ Fs, DOk F
  ko : Tp.ko K ys
  ks : ∀ y ∈ ys, y.size ≤ 5
theorem sum_bound : ∀ (Fs : List Fo) (d : Nat), (∀ F ∈ Fs, Tp.sz F ≤ d) → (Fs.map Tp.sz).sum ≤ Fs.length * d
  | [], d, _ => by simp
  | F :: Fs, d, h => by
    have h1 := h F (List.mem_cons_self ..)
    have h2 := sum_bound Fs d (fun G hG => h G (List.mem_cons_of_mem _ hG))
    simp only [List.map_cons, List.sum_cons, List.length_cons, Nat.add_mul]
    omega
namespace Cat
variable {K : Int} {ys : List ByteArray} {Fs : List Fo}
theorem roots (h : Cat K ys Fs) : ∀ F ∈ Fs, Root F := fun F hF => (h.all F hF).root
theorem mki (h : Cat K ys Fs) : MkIs ys Fs (mkC ys Fs) := mk_is ys Fs h.len h.roots
theorem dep (h : Cat K ys Fs) : Tp.dep (mkC ys Fs) ≤ 7 := (h.mki.dep 7).2 (fun F hF => (h.all F hF).dep)
theorem sz (h : Cat K ys Fs) : Tp.sz (mkC ys Fs) ≤ 1806 := by
  have h1 := sum_bound Fs 301 (fun F hF => (h.all F hF).sz)
  have h2 := h.few
  rw [h.mki.sz]
  have : Fs.length * 301 ≤ 6 * 301 := Nat.mul_le_mul_right 301 h2
  omega
theorem good (h : Cat K ys Fs) : Tp.good (catF K ys Fs) :=
  ⟨.inr (.inr (.inr ⟨h.kind, rfl, rfl⟩)), fun hk => by have := h.kind; omega, by rw [h.mki.keys]; exact h.ko, h.mki.good (fun F hF => (h.all F hF).good), trivial⟩
theorem size (h : Cat K ys Fs) : Tp.sz (catF K ys Fs) = 1 + (Fs.map Tp.sz).sum := by
  unfold catF
  rw [Tp.sz_node, Tp.sz_nil, h.mki.sz, Nat.add_zero]
theorem deep (h : Cat K ys Fs) : Tp.dep (catF K ys Fs) ≤ 8 := by
  have := h.dep
  show max (1 + Tp.dep (mkC ys Fs)) 0 ≤ 8
  omega
theorem small (h : Cat K ys Fs) : Tp.sz (catF K ys Fs) ≤ 1807 := by
  have := h.sz
  unfold catF
  rw [Tp.sz_node, Tp.sz_nil]; omega
theorem may (h : Cat K ys Fs) : May (Tp.flat (catF K ys Fs)) (catF K ys Fs) :=
  ⟨by have := h.small; rw [flat_sz]; omega, ⟨⟨K, ⟨#[]⟩, 0, ⟨#[]⟩, _, rfl, rfl⟩, h.good, rfl⟩, by have := h.deep; omega⟩
theorem join (h : Cat K ys Fs) : JoinIs K ys (Fs.map Tp.flat) (Tp.flat (catF K ys Fs)) 0 := by
  have h1 := h.sz
  have h2 := h.dep
  have := join_is h.kind (h.mki.good (fun F hF => (h.all F hF).good)) (by rw [h.mki.keys]; exact h.ko) (by omega) (by omega) (r := Tp.flat (catF K ys Fs)) (x := 0) (.inl ⟨by omega, by omega, rfl, rfl⟩)
  rw [h.mki.keys, h.mki.cks] at this
  exact this
theorem ok (h : Cat K ys Fs) : ∀ x ∈ Tp.flat (catF K ys Fs), Nok x := by
  intro x hx
  have hk := h.kind
  have hs := h.sz
  unfold catF at hx
  rw [Tp.flat_node] at hx
  rcases List.mem_cons.1 hx with rfl | hx
  · exact ⟨by simp only; omega, Nat.zero_le _, by simp only; omega, Nat.zero_le _, by simp only; omega⟩
  · rw [Tp.flat_nil, List.append_nil] at hx
    exact mk_ok ys Fs (fun y hy => by have := h.ks y hy; unfold maxLen; omega) (fun F hF => (h.all F hF).ok) x hx
end Cat
theorem mk_snoc : ∀ (ys : List ByteArray) (Fs : List Fo) (y : ByteArray) (k n : Int) (s : ByteArray) (c : Fo), ys.length = Fs.length → (∀ F ∈ Fs, Root F) → mkC (ys ++ [y]) (Fs ++ [.node k ⟨#[]⟩ n s c .nil]) = Tp.app (mkC ys Fs) (.node k y n s c .nil)
  | [], [], y, k, n, s, c, _, _ => rfl
  | z :: ys, F :: Fs, y, k, n, s, c, hl, hR => by
    obtain ⟨k1, n1, s1, c1, rfl⟩ := hR F (List.mem_cons_self ..)
    show Tp.Fo.node k1 z n1 s1 c1 (mkC (ys ++ [y]) (Fs ++ [_])) = _
    rw [mk_snoc ys Fs y k n s c (by simpa using hl) (fun G hG => hR G (List.mem_cons_of_mem _ hG))]
    rfl
  | [], _ :: _, _, _, _, _, _, h, _ => by simp at h
  | _ :: _, [], _, _, _, _, _, h, _ => by simp at h
theorem mk_nil : ∀ (ys : List ByteArray) (Fs : List Fo), ys.length = Fs.length → (∀ F ∈ Fs, Root F) → Jr.isNil (mkC ys Fs) = decide (Fs.length = 0)
  | [], [], _, _ => rfl
  | z :: ys, F :: Fs, hl, hR => by
    obtain ⟨k1, n1, s1, c1, rfl⟩ := hR F (List.mem_cons_self ..)
    simp [mkC, Jr.isNil]
  | [], _ :: _, h, _ => by simp at h
  | _ :: _, [], h, _ => by simp at h
/-- What is shown of parts, and of parts and one more. -/
theorem text_snoc (k : Int) (ys : List ByteArray) (Fs : List Fo) (y : ByteArray) (F : Fo) (hl : ys.length = Fs.length) (hR : ∀ G ∈ Fs, Root G) (hF : Root F) :
    Jr.shp k true (mkC (ys ++ [y]) (Fs ++ [F])) = Jr.shp k true (mkC ys Fs) ++ (Jr.comma (decide (Fs.length = 0)) ++ (Jr.keyT k y ++ Jr.shv F)) := by
  obtain ⟨k1, n, s, c, rfl⟩ := hF
  rw [mk_snoc ys Fs y k1 n s c hl hR, Jr.shp_app, mk_nil ys Fs hl hR]
  simp [Jr.shp, Jr.shv]
def kw6 : List ByteArray := [⟨#[98]⟩, ⟨#[34]⟩, ⟨#[97]⟩, ⟨#[1]⟩, ⟨#[]⟩, ⟨#[195, 164]⟩]
def kat (q : Nat) : ByteArray := kw6.getD q ⟨#[]⟩
def pk (q : Nat) : List ByteArray := kw6.take q
theorem pk_len (q : Nat) (h : q ≤ 6) : (pk q).length = q := by simp [pk, kw6]; omega
theorem pk_succ (q : Nat) (h : q ≤ 5) : pk (q + 1) = pk q ++ [kat q] := by
  rcases (show q = 0 ∨ q = 1 ∨ q = 2 ∨ q = 3 ∨ q = 4 ∨ q = 5 by omega) with rfl | rfl | rfl | rfl | rfl | rfl <;> rfl
theorem kw6_ok : (∀ y ∈ kw6, Utf.vld (bl y) = true) ∧ kw6.Nodup ∧ ∀ y ∈ kw6, y.size ≤ 2 := by
  refine ⟨?_, by decide, by decide⟩
  intro y hy
  simp only [kw6, List.mem_cons, List.not_mem_nil, or_false] at hy
  rcases hy with rfl | rfl | rfl | rfl | rfl | rfl <;> kernel_rfl
theorem pk_ok (q : Nat) : Tp.ko 7 (pk q) ∧ ∀ y ∈ pk q, y.size ≤ 5 := by
  obtain ⟨h1, h2, h3⟩ := kw6_ok
  refine ⟨?_, fun y hy => by have := h3 y (List.mem_of_mem_take hy); omega⟩
  unfold Tp.ko
  rw [if_pos rfl]
  exact ⟨fun y hy => h1 y (List.mem_of_mem_take hy), List.Sublist.nodup (List.take_sublist ..) h2⟩
theorem kat_mem (q : Nat) (h : q ≤ 5) : kat q ∈ kw6 := by
  rcases (show q = 0 ∨ q = 1 ∨ q = 2 ∨ q = 3 ∨ q = 4 ∨ q = 5 by omega) with rfl | rfl | rfl | rfl | rfl | rfl <;> simp [kat, kw6]
/-- Values that were drawn, what holds them, and the texts so far. -/
structure AL (W wx : World) (B : Nat) (pv kv : Value) (l o : ByteArray) (ss : List Sl) (Fs : List Fo) (q : Nat) : Prop where
  row : OwnS wx B pv ss
  each : EachO wx ss (Fs.map Tp.flat)
  keys : OwnT wx B kv (pk q)
  all : ∀ F ∈ Fs, DOk F
  len : Fs.length = q
  lt : bl l = 91 :: Jr.shp 6 true (mkC (List.replicate Fs.length ⟨#[]⟩) Fs)
  ot : bl o = 123 :: Jr.shp 7 true (mkC (pk q) Fs)
  ls : l.size ≤ 50000 * (q + 1)
  os : o.size ≤ 50000 * (q + 1)
  below : Below W.heap.size W wx
theorem AL.few {W wx : World} {B : Nat} {pv kv : Value} {l o : ByteArray} {ss : List Sl} {Fs : List Fo} {q : Nat} (h : AL W wx B pv kv l o ss Fs q) : ss.length = q := by
  rw [h.each.1, List.length_map, h.len]
theorem cat6 {Fs : List Fo} (hq : Fs.length ≤ 6) (ha : ∀ F ∈ Fs, DOk F) : Cat 6 (List.replicate Fs.length ⟨#[]⟩) Fs :=
  ⟨.inl rfl, by simp, hq, ha, by unfold Tp.ko; rw [if_neg (by omega)]; intro z hz; rw [(List.mem_replicate.1 hz).2]; rfl, by intro z hz; rw [(List.mem_replicate.1 hz).2]; exact Nat.zero_le _⟩
theorem cat7 {Fs : List Fo} (hq : Fs.length ≤ 6) (ha : ∀ F ∈ Fs, DOk F) : Cat 7 (pk Fs.length) Fs :=
  ⟨.inr rfl, pk_len _ hq, hq, ha, (pk_ok _).1, (pk_ok _).2⟩
theorem Cat.tok {K : Int} {ys : List ByteArray} {Fs : List Fo} (h : Cat K ys Fs) : TOk (Tp.flat (catF K ys Fs)) := by
  intro x hx
  unfold catF at hx
  rw [Tp.flat_node] at hx
  rcases List.mem_cons.1 hx with rfl | hx
  · exact ⟨Nat.zero_le _, Nat.zero_le _⟩
  · rw [Tp.flat_nil, List.append_nil] at hx
    have := mk_small ys Fs (fun y hy => by have := h.ks y hy; omega) (fun F hF => (h.all F hF).small) x hx
    exact ⟨by omega, by omega⟩
theorem shv_cat (K : Int) (ys : List ByteArray) (Fs : List Fo) (hK : K = 6 ∨ K = 7) : Jr.shv (catF K ys Fs) = (if K = 7 then 123 else 91) :: (Jr.shp K true (mkC ys Fs) ++ [Jr.endOf K]) := by
  show Jr.one K 0 ⟨#[]⟩ (Jr.shp K true (mkC ys Fs)) = _
  unfold Jr.one
  rw [if_neg (by omega), if_neg (by omega), if_neg (by omega), if_neg (by omega), if_neg (by omega)]

end Go.Proofs.YtgmdjofnkbaflaaDoor.S8
namespace Go.Proofs.YtgmdjofnkbaflaaDoor
open Go.RowKit S8
set_option linter.unusedVariables false
set_option linter.unusedSimpArgs false
set_option maxRecDepth 100000
theorem kat_cell (w : World) (q : Nat) (h : q ≤ 5) : (w.alloc (.cells #[.string ⟨#[98]⟩, .string ⟨#[34]⟩, .string ⟨#[97]⟩, .string ⟨#[1]⟩, .string ⟨#[]⟩, .string ⟨#[195, 164]⟩] 9)).cell? ⟨w.heap.size, q, none⟩ = some (.string (kat q)) := by
  have := (Blk.new w 9 #[.string ⟨#[98]⟩, .string ⟨#[34]⟩, .string ⟨#[97]⟩, .string ⟨#[1]⟩, .string ⟨#[]⟩, .string ⟨#[195, 164]⟩]).cell q
  rw [this]
  rcases (show q = 0 ∨ q = 1 ∨ q = 2 ∨ q = 3 ∨ q = 4 ∨ q = 5 by omega) with rfl | rfl | rfl | rfl | rfl | rfl <;> rfl

set_option maxHeartbeats 40000000 in
theorem jshowParts (v : Value) (ss0 : List Sl) (nss : List (List Int)) (W : World) (hS : SeedsIn W v ss0 nss) (T : Tab W) (TP : TabP W) :
    Calls Tryd.prog 5 #[v] W fun e w' => e = .returned (.bool true) ∧ Below W.heap.size W w' := by
  obtain ⟨va, vc, rfl, _⟩ := Gn.Rd.form hS.rd
  have HS := Lib.hid hS
  have HT := Lib.hid T
  have HTP := Lib.hid TP
  have hl0 := hS.rd.len'
  obtain ⟨L, hL⟩ : ∃ L, ss0.length = L := ⟨_, rfl⟩
  have HL := Lib.hid hL
  rw [hL] at HS hl0 ⊢
  clear hS T TP hL
  have HST : Hid (AL W W W.heap.size (.slice none 0 0) (.slice none 0 0) ⟨#[91]⟩ ⟨#[123]⟩ [] [] 0) := Lib.hid ⟨Gn.Own.nil _ _, EachO.nil _, Gn.Own.nil _ _, by simp, rfl, rfl, rfl, by decide, by decide, Below.refl _ _⟩
  go_enter Tryd.func5, Tryd.ntmps5
  go_wp2_with fail
  go_loopw [3, 4, 5, 6, 7] (fun pv kv lv ov i wx => ∃ (q : Nat) (l o : ByteArray) (ss : List Sl) (Fs : List Fo), lv = .string l ∧ ov = .string o ∧ i = .int .i64 (q : Nat) ∧ q ≤ 6 ∧ q ≤ L ∧ Hid (AL W wx W.heap.size pv kv l o ss Fs q)) (fun _ _ _ _ i _ => 6 - (intOf i).toNat)
  case atStart => exact ⟨0, _, _, [], [], by rfl, by rfl, by rfl, by omega, by omega, HST⟩
  case round =>
    clear HST
    obtain ⟨q, l, o, ss, Fs, rfl, rfl, rfl, hq, hqL, HA⟩ := hrel
    have HQS := Lib.hid HA.out.few
    have hls := HA.out.ls
    have hos := HA.out.os
    by_cases hlt : q < L ∧ q < 6
    · have hlt1 : (q : Int) < L := by omega
      have hlt2 : (q : Int) < 6 := by omega
      obtain ⟨s, hs⟩ : ∃ s, ss0[q]? = some s := ⟨_, List.getElem?_eq_getElem (by have := HL.out; omega)⟩
      obtain ⟨ns, hn⟩ : ∃ ns, nss[q]? = some ns := ⟨_, List.getElem?_eq_getElem (by have := HL.out; have := HS.out.len; omega)⟩
      have hsd := HS.out.each q s ns hs hn
      obtain ⟨sb, so, rfl, _, hc⟩ := Gn.Rd.at HS.out.rd HA.out.below (by have := HL.out; omega : q < ss0.length)
      have hs2 := (List.getElem?_eq_some_iff.1 hs).2
      have c0 : wr.cell? ⟨sb, so + q, none⟩ = some (.slice s.a s.n s.c) := by
        have := hc 0 (.slice s.a s.n s.c) (by rw [hs2]; rfl)
        simpa using this
      obtain ⟨sa, sn, sc⟩ := s
      have CD := Lib.hid (drawnC (.slice sa sn sc) ns wr (Gn.Rd.later hsd.1 HA.out.below) hsd.2 (HT.out.later HA.out.below))
      simp only at c0
      clear hs hn hsd hc hs2
      go_wp2_with fail
      ((with_reducible refine (CD.out).mono ?_); rintro e w3 ⟨v, F, rfl, ho, hd, b⟩)
      obtain ⟨n, hn⟩ : ∃ n, (Tp.flat F).length = n := ⟨_, rfl⟩
      obtain ⟨xa, xc, rfl⟩ := rd_form (Gn.Own.rd ndL ho) n hn
      have HD := Lib.hid hd
      have HO := Lib.hid ho
      have HB3 := Lib.hid (up HA.out.below b)
      have HS3 := Lib.hid (Gn.Own.later HA.out.row b)
      have HE3 := Lib.hid ((HA.out.each.later b).snoc (s := ⟨xa, n, xc⟩) (own_low ho) hd.ok)
      have HK3 := Lib.hid (Gn.Own.later HA.out.keys b)
      have CS := Lib.hid (showC _ _ w3 (Gn.Own.rd ndL ho) hd.ok hd.tok (HT.out.later HB3.out) (HTP.out.later HB3.out) _ 0 hd.sh)
      have HXB : Hid (bl (str (Jr.shv F)) = Jr.shv F) := Lib.hid (bl_str _ hd.byte)
      have hxs : (str (Jr.shv F)).size ≤ 43344 := by have := hd.short; rw [str_size]; omega
      clear b ho hd hn CD c0
      generalize str (Jr.shv F) = x at *
      go_wp2_with fail
      ((with_reducible refine (CS.out).mono ?_); rintro e w4 ⟨rfl, b⟩)
      have bk := up_new w4 (.cells #[.string ⟨#[98]⟩, .string ⟨#[34]⟩, .string ⟨#[97]⟩, .string ⟨#[1]⟩, .string ⟨#[]⟩, .string ⟨#[195, 164]⟩] 9)
      have hcell := kat_cell w4 q (by omega)
      have hkm := kat_mem q (by omega)
      obtain ⟨y, hy⟩ : ∃ y, kat q = y := ⟨_, rfl⟩
      rw [hy] at hcell hkm
      have HY := Lib.hid hy
      obtain ⟨wk, hwk⟩ : ∃ wk, wk = w4.alloc (.cells #[.string ⟨#[98]⟩, .string ⟨#[34]⟩, .string ⟨#[97]⟩, .string ⟨#[1]⟩, .string ⟨#[]⟩, .string ⟨#[195, 164]⟩] 9) := ⟨_, rfl⟩
      have CQ := Lib.hid (quote_big y wk (HT.out.later (by rw [hwk]; exact up HB3.out (up b bk))) (by have := kw6_ok.2.2 y hkm; omega) (kw6_ok.1 y hkm))
      have HTB : Hid (bl (str (Utf.tidy (bl y))) = Utf.tidy (bl y)) := Lib.hid (bl_str _ (Utf.tidy_byte _ (bl_byte y)))
      have hts : (str (Utf.tidy (bl y))).size ≤ 14 := by
        have h1 := Jr.tidy_le (bl y)
        have h2 := kw6_ok.2.2 y hkm
        rw [bl_length] at h1
        rw [str_size]; omega
      have HBK : Hid (Below w3.heap.size w3 wk) := Lib.hid (by rw [hwk]; exact up b bk)
      rw [hwk] at CQ
      clear b bk hkm CS hy
      generalize str (Utf.tidy (bl y)) = t at *
      go_wp2_with fail
      ((with_reducible refine (CQ.out).mono ?_); rintro e w6 ⟨rfl, b⟩)
      rw [← hwk] at b
      have b6 : Below w3.heap.size w3 w6 := up HBK.out b
      have bu := up_new w6 (.cells #[.slice xa n xc] 24)
      have HS4 := Lib.hid (Gn.Own.later HS3.out (up b6 bu))
      have HE4 := Lib.hid (HE3.out.later (up b6 bu))
      have HK4 := Lib.hid (Gn.Own.later HK3.out (up b6 bu))
      have HB4 := Lib.hid (up HB3.out (up b6 bu))
      have HR4 := Lib.hid (rdSl_one w6 xa n xc)
      clear b b6 bu CQ hwk HBK HS3 HE3 HK3 HO hcell
      have hLQ := HA.out.len
      have HFL := Lib.hid hLQ
      have TL := Lib.hid (text_snoc 6 (List.replicate Fs.length ⟨#[]⟩) Fs ⟨#[]⟩ F (by simp) (fun G hG => (HA.out.all G hG).root) HD.out.root)
      have TO := Lib.hid (text_snoc 7 (pk q) Fs y F (by rw [pk_len q hq]; exact hLQ.symm) (fun G hG => (HA.out.all G hG).root) HD.out.root)
      clear hLQ
      by_cases hq0 : q = 0
      · skip
        have hq0' : ¬ (0 : Int) < (q : Nat) := by omega
        have n1 : ¬ 9223372036854775807 < l.size + x.size := by omega
        have n2 : ¬ 9223372036854775807 < o.size + t.size := by omega
        have n3 : ¬ 9223372036854775807 < o.size + t.size + 1 := by omega
        have n4 : ¬ 9223372036854775807 < o.size + t.size + 1 + x.size := by omega
        go_wp2_with (at_builtin
                     first
                     | (refine Gn.wpList_app slL slY rfl (.tmp 53) (.tmp 55) rfl W.heap.size _ ss rfl HS4.out _ [(⟨xa, n, xc⟩ : Sl)] rfl HR4.out (by rw [HQS.out]; simp; omega) HB4.out.size ?_
                        intro v5 w5 ho5 hg5 hl5 hn5
                        have bu := up_new w5 (.cells #[.string y] 9)
                        have h5 := Gn.below_of_own HS4.out hg5 HB4.out.size
                        have HS5 := Lib.hid (Gn.Own.later ho5 bu)
                        have HE5 := Lib.hid ((EachO.kept HE4.out HS4.out node_ne_sl hg5).later bu)
                        have HK5 := Lib.hid (Gn.Own.later (Gn.Own.kept HK4.out hg5 (own_apart HK4.out HS4.out tx_ne_sl)) bu)
                        have HB5 := Lib.hid ((HB4.out.trans h5).trans (bu.mono (HB4.out.trans h5).size))
                        have HR5 := Lib.hid (rdTx_one w5 y)
                        clear ho5 hg5 hl5 hn5 bu h5)
                     | (refine Gn.wpList_app txL txY rfl (.tmp 57) (.tmp 59) rfl W.heap.size _ (pk q) rfl HK5.out _ [y] rfl HR5.out (by rw [pk_len q hq]; simp; omega) HB5.out.size ?_
                        intro v7 w7 ho7 hg7 hl7 hn7
                        have h7 := Gn.below_of_own HK5.out hg7 HB5.out.size
                        have HK7 := Lib.hid ho7
                        have HS7 := Lib.hid (Gn.Own.kept HS5.out hg7 (own_apart HS5.out HK5.out sl_ne_tx))
                        have HE7 := Lib.hid (EachO.kept HE5.out HK5.out node_ne_tx hg7)
                        have HB7 := Lib.hid (HB5.out.trans h7)
                        clear ho7 hg7 hl7 hn7 h7))
        have HAN : Hid (AL W w7 W.heap.size v5 v7 (l ++ x) (o ++ t ++ ⟨#[58]⟩ ++ x) (ss ++ [(⟨xa, n, xc⟩ : Sl)]) (Fs ++ [F]) (q + 1)) := Lib.hid ⟨HS7.out, by rw [List.map_append]; exact HE7.out, by rw [pk_succ q (by omega), HY.out]; exact HK7.out, fun G hG => by
            rcases List.mem_append.1 hG with hG | hG
            · exact HA.out.all G hG
            · rw [List.mem_singleton.1 hG]; exact HD.out, by rw [List.length_append, HFL.out]; rfl, by
            have h1 := TL.out
            have h2 := HA.out.lt
            rw [HFL.out] at h1
            rw [List.length_append, List.length_singleton, List.replicate_succ', HFL.out, h1]
            rw [HFL.out] at h2
            simp only [bl_append, h2, HXB.out, Jr.comma, Jr.keyT]
            simp [hq0, show bl ⟨#[58]⟩ = [58] from rfl], by
            have h1 := TO.out
            have h2 := HA.out.ot
            rw [HFL.out] at h1
            rw [pk_succ q (by omega), HY.out, h1]
            simp only [bl_append, h2, HXB.out, HTB.out, Jr.comma, Jr.keyT]
            simp [hq0, show bl ⟨#[58]⟩ = [58] from rfl], by simp only [ByteArray.size_append]; have c44 : (⟨#[44]⟩ : ByteArray).size = 1 := rfl; have c58 : (⟨#[58]⟩ : ByteArray).size = 1 := rfl; omega, by simp only [ByteArray.size_append]; have c44 : (⟨#[44]⟩ : ByteArray).size = 1 := rfl; have c58 : (⟨#[58]⟩ : ByteArray).size = 1 := rfl; omega, HB7.out⟩
        clear HA HS7 HE7 HK7 HB7 HE5 HS5 HK5 HB5
        go_roundw
        case rel => exact ⟨q + 1, _, _, _, _, by rfl, by rfl, by go_num, by omega, by omega, HAN⟩
        case measure => simp [intOf]; omega
      · skip
        have hq0' : (0 : Int) < (q : Nat) := by omega
        have n0 : ¬ 9223372036854775807 < l.size + 1 := by omega
        have n0' : ¬ 9223372036854775807 < o.size + 1 := by omega
        have n1 : ¬ 9223372036854775807 < l.size + 1 + x.size := by omega
        have n2 : ¬ 9223372036854775807 < o.size + 1 + t.size := by omega
        have n3 : ¬ 9223372036854775807 < o.size + 1 + t.size + 1 := by omega
        have n4 : ¬ 9223372036854775807 < o.size + 1 + t.size + 1 + x.size := by omega
        go_wp2_with (at_builtin
                     first
                     | (refine Gn.wpList_app slL slY rfl (.tmp 53) (.tmp 55) rfl W.heap.size _ ss rfl HS4.out _ [(⟨xa, n, xc⟩ : Sl)] rfl HR4.out (by rw [HQS.out]; simp; omega) HB4.out.size ?_
                        intro v5 w5 ho5 hg5 hl5 hn5
                        have bu := up_new w5 (.cells #[.string y] 9)
                        have h5 := Gn.below_of_own HS4.out hg5 HB4.out.size
                        have HS5 := Lib.hid (Gn.Own.later ho5 bu)
                        have HE5 := Lib.hid ((EachO.kept HE4.out HS4.out node_ne_sl hg5).later bu)
                        have HK5 := Lib.hid (Gn.Own.later (Gn.Own.kept HK4.out hg5 (own_apart HK4.out HS4.out tx_ne_sl)) bu)
                        have HB5 := Lib.hid ((HB4.out.trans h5).trans (bu.mono (HB4.out.trans h5).size))
                        have HR5 := Lib.hid (rdTx_one w5 y)
                        clear ho5 hg5 hl5 hn5 bu h5)
                     | (refine Gn.wpList_app txL txY rfl (.tmp 57) (.tmp 59) rfl W.heap.size _ (pk q) rfl HK5.out _ [y] rfl HR5.out (by rw [pk_len q hq]; simp; omega) HB5.out.size ?_
                        intro v7 w7 ho7 hg7 hl7 hn7
                        have h7 := Gn.below_of_own HK5.out hg7 HB5.out.size
                        have HK7 := Lib.hid ho7
                        have HS7 := Lib.hid (Gn.Own.kept HS5.out hg7 (own_apart HS5.out HK5.out sl_ne_tx))
                        have HE7 := Lib.hid (EachO.kept HE5.out HK5.out node_ne_tx hg7)
                        have HB7 := Lib.hid (HB5.out.trans h7)
                        clear ho7 hg7 hl7 hn7 h7))
        have HAN : Hid (AL W w7 W.heap.size v5 v7 (l ++ ⟨#[44]⟩ ++ x) (o ++ ⟨#[44]⟩ ++ t ++ ⟨#[58]⟩ ++ x) (ss ++ [(⟨xa, n, xc⟩ : Sl)]) (Fs ++ [F]) (q + 1)) := Lib.hid ⟨HS7.out, by rw [List.map_append]; exact HE7.out, by rw [pk_succ q (by omega), HY.out]; exact HK7.out, fun G hG => by
            rcases List.mem_append.1 hG with hG | hG
            · exact HA.out.all G hG
            · rw [List.mem_singleton.1 hG]; exact HD.out, by rw [List.length_append, HFL.out]; rfl, by
            have h1 := TL.out
            have h2 := HA.out.lt
            rw [HFL.out] at h1
            rw [List.length_append, List.length_singleton, List.replicate_succ', HFL.out, h1]
            rw [HFL.out] at h2
            simp only [bl_append, h2, HXB.out, Jr.comma, Jr.keyT]
            simp [hq0, show bl ⟨#[58]⟩ = [58] from rfl, show bl ⟨#[44]⟩ = [44] from rfl], by
            have h1 := TO.out
            have h2 := HA.out.ot
            rw [HFL.out] at h1
            rw [pk_succ q (by omega), HY.out, h1]
            simp only [bl_append, h2, HXB.out, HTB.out, Jr.comma, Jr.keyT]
            simp [hq0, show bl ⟨#[58]⟩ = [58] from rfl, show bl ⟨#[44]⟩ = [44] from rfl], by simp only [ByteArray.size_append]; have c44 : (⟨#[44]⟩ : ByteArray).size = 1 := rfl; have c58 : (⟨#[58]⟩ : ByteArray).size = 1 := rfl; omega, by simp only [ByteArray.size_append]; have c44 : (⟨#[44]⟩ : ByteArray).size = 1 := rfl; have c58 : (⟨#[58]⟩ : ByteArray).size = 1 := rfl; omega, HB7.out⟩
        clear HA HS7 HE7 HK7 HB7 HE5 HS5 HK5 HB5
        go_roundw
        case rel => exact ⟨q + 1, _, _, _, _, by rfl, by rfl, by go_num, by omega, by omega, HAN⟩
        case measure => simp [intOf]; omega
    · have hfew := Lib.hid (show Fs.length ≤ 6 by rw [HA.out.len]; exact hq)
      have HC6 := Lib.hid (cat6 hfew.out HA.out.all)
      have HC7 := Lib.hid (cat7 hfew.out HA.out.all)
      have HLQ := Lib.hid HA.out.len
      have HTB := Lib.hid (HT.out.later HA.out.below)
      have HPB := Lib.hid (HTP.out.later HA.out.below)
      have HBW := Lib.hid HA.out.below
      have HLT : Hid (Jr.shv (catF 6 (List.replicate Fs.length ⟨#[]⟩) Fs) = bl l ++ [93]) := Lib.hid (by rw [shv_cat _ _ _ (.inl rfl), HA.out.lt]; rfl)
      have HOT : Hid (Jr.shv (catF 7 (pk Fs.length) Fs) = bl o ++ [125]) := Lib.hid (by rw [shv_cat _ _ _ (.inr rfl), HA.out.ot, HA.out.len]; rfl)
      obtain ⟨pa, pc, rfl, _⟩ := Gn.Rd.form (Gn.Own.rd slL HA.out.row)
      obtain ⟨ka, kc, rfl, _⟩ := Gn.Rd.form (Gn.Own.rd txL HA.out.keys)
      have hsq : ss.length = q := HQS.out
      have hyq : (pk q).length = q := pk_len q hq
      have HRS := Lib.hid (HA.out.each.rdS HA.out.row)
      have HRK : Hid (RdT wr wr.heap.size _ (pk q)) := Lib.hid (Gn.Own.rd txL HA.out.keys)
      rw [hsq] at HRS ⊢
      rw [hyq] at HRK ⊢
      have CL := Lib.hid (mkList _ ss (Fs.map Tp.flat) wr HRS.out (by rw [List.length_map]; have := hfew.out; omega) HTB.out (Tp.flat (catF 6 (List.replicate Fs.length ⟨#[]⟩) Fs)) 0 (by unfold ListIs; rw [List.length_map]; exact HC6.out.join))
      have CO := Lib.hid (fun (wb : World) (hb : Below wr.heap.size wr wb) => mkObj _ _ (pk q) ss (Fs.map Tp.flat) wb (Gn.Rd.later HRK.out hb) ((HRS.out.below hb (Nat.le_refl _)).more hb.size) (fun y hy => by have := (pk_ok q).2 y hy; unfold maxLen; omega) (by rw [List.length_map]; have := hfew.out; omega) (HTB.out.later hb) (Tp.flat (catF 7 (pk Fs.length) Fs)) 0 (.inr ⟨by rw [hyq, List.length_map, HLQ.out], by rw [← HLQ.out]; exact HC7.out.join⟩))
      have hl1 : (bl l).length ≤ 350000 := by rw [bl_length]; omega
      have ho1 : (bl o).length ≤ 350000 := by rw [bl_length]; omega
      have V6 := Lib.hid (fun (v : Value) (wb : World) (hb : Below wr.heap.size wr wb) (h : RdN wb wb.heap.size v (Tp.flat (catF 6 (List.replicate Fs.length ⟨#[]⟩) Fs))) => lshows v _ (l ++ ⟨#[93]⟩) wb h HC6.out.ok HC6.out.tok (HTB.out.later hb) (HPB.out.later hb) _ 0 (sh_ok HC6.out.may (by rw [HLT.out, List.length_append]; simp; omega)) true (by rw [HLT.out, bl_append]; simp [show bl ⟨#[93]⟩ = [93] from rfl]))
      have V7 := Lib.hid (fun (v : Value) (wb : World) (hb : Below wr.heap.size wr wb) (h : RdN wb wb.heap.size v (Tp.flat (catF 7 (pk Fs.length) Fs))) => lshows v _ (o ++ ⟨#[125]⟩) wb h HC7.out.ok HC7.out.tok (HTB.out.later hb) (HPB.out.later hb) _ 0 (sh_ok HC7.out.may (by rw [HOT.out, List.length_append]; simp; omega)) true (by rw [HOT.out, bl_append]; simp [show bl ⟨#[125]⟩ = [125] from rfl]))
      have KX := Lib.hid (fun (wb : World) (hb : Below wr.heap.size wr wb) => works8 wb (HTB.out.later hb) (HPB.out.later hb))
      obtain ⟨A, hAe⟩ : ∃ A, A = Tp.flat (catF 6 (List.replicate Fs.length ⟨#[]⟩) Fs) := ⟨_, rfl⟩
      obtain ⟨Bb, hBe⟩ : ∃ B, B = Tp.flat (catF 7 (pk Fs.length) Fs) := ⟨_, rfl⟩
      rw [← hAe] at CL V6
      rw [← hBe] at CO V7
      have n1 : ¬ 9223372036854775807 < l.size + 1 := by omega
      have n2 : ¬ 9223372036854775807 < o.size + 1 := by omega
      clear HC6 HC7 hfew hsq hyq hAe hBe HA HLQ HRS HRK HLT HOT hl1 ho1 HQS
      have hcase : ¬ (q : Int) < L ∨ ((q : Int) < L ∧ ¬ (q : Int) < 6) := by
        rcases Nat.lt_or_ge q L with h | h
        · exact .inr ⟨by omega, by omega⟩
        · exact .inl (by omega)
      clear hlt
      rcases hcase with hc1 | ⟨hc1, hc2⟩
      all_goals
        go_wp2_with fail
        ((with_reducible refine (CL.out).mono ?_); rintro e w3 ⟨a, rfl, ho, b⟩)
        have HX3 := Lib.hid b
        have HRA := Lib.hid (Gn.Own.rd ndL ho)
        clear b ho CL
        go_wp2_with fail
        ((with_reducible refine (CO.out _ HX3.out).mono ?_); rintro e w4 ⟨u, rfl, ho, b⟩)
        have HX4 := Lib.hid (up HX3.out b)
        have HRB := Lib.hid (Gn.Own.rd ndL ho)
        have C1 := Lib.hid (V6.out a w4 HX4.out (Gn.Rd.later HRA.out b))
        clear b ho CO V6 HRA
        go_wp2_with fail
        ((with_reducible refine (C1.out).mono ?_); rintro e w5 ⟨rfl, b⟩)
        have HX5 := Lib.hid (up HX4.out b)
        have C2 := Lib.hid (V7.out u w5 HX5.out (Gn.Rd.later HRB.out b))
        clear b C1 V7 HRB
        go_wp2_with fail
        ((with_reducible refine (C2.out).mono ?_); rintro e w6 ⟨rfl, b⟩)
        have HX6 := Lib.hid (up HX5.out b)
        have C3 := Lib.hid (KX.out w6 HX6.out)
        clear b C2 KX
        go_wp2_with fail
        ((with_reducible refine (C3.out).mono ?_); rintro e w7 ⟨rfl, b⟩)
        have HX7 := Lib.hid (up HX6.out b)
        clear b C3
        go_wp2_with fail
        go_ret
        exact ⟨rfl, up HBW.out HX7.out⟩
end Go.Proofs.YtgmdjofnkbaflaaDoor
