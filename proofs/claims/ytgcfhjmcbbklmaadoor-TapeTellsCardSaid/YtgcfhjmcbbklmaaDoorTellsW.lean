/- TapeTells: the walk. -/
import Derived.Test.YtgcfhjmcbbklmaaDoorWorks
import Derived.Test.YtgcfhjmcbbklmaaDoorFew2
import Derived.Test.YtgcfhjmcbbklmaaDoorRsame
import Derived.Test.YtgcfhjmcbbklmaaDoorRget
namespace Go.Proofs.YtgcfhjmcbbklmaaDoor
open Go.RowKit
set_option linter.unusedVariables false
set_option maxRecDepth 100000

theorem bool_of (P : Prop) : ∃ b : Bool, b = true ↔ P := by
  rcases Classical.em P with h | h
  · exact ⟨true, fun _ => h, fun _ => rfl⟩
  · exact ⟨false, fun e => (Bool.noConfusion e), fun e => absurd e h⟩
theorem ownN_touch {S : Nat → Prop} {w w' : World} {base : Nat} {v : Value} {l : List Nd} (h : OwnN w base v l) (ht : Touch S w w') (hn : ∀ g, v.ownBlock = some g → ¬ S g) : OwnN w' base v l := by
  obtain ⟨h0, h1⟩ := h
  refine ⟨h0, ?_⟩
  rcases h1 with h1 | ⟨g, cap, cur, rfl, hg, hh, r⟩
  · exact .inl h1
  · have hlt : g < w.heap.size := by
      rcases Nat.lt_or_ge g w.heap.size with hlt | hge
      · exact hlt
      · rw [Array.getElem?_eq_none hge] at hh; cases hh
    exact .inr ⟨g, cap, cur, rfl, hg, (ht.block g hlt (hn g rfl)).trans hh, r⟩
/-- A number of an owned row is written. -/
theorem ownI_put {w : World} {base : Nat} {g n cap : Nat} {l : List Int} {i : Nat} {u : Int} (h : OwnI w base (.slice (some ⟨g, 0, none⟩) n cap) l) (hn : l.length = n) :
    OwnI (w.setCell ⟨g, i, none⟩ (.int .i64 u)) base (.slice (some ⟨g, 0, none⟩) n cap) (l.set i u) := by
  subst hn
  have h' : w.ownsRow base 3 1 (.slice (some ⟨g, 0, none⟩) l.length cap) l.length (Gn.cells inc l) := h
  have := (h'.stored i (.int .i64 u)).1
  unfold OwnI Gn.Own
  have e : Gn.cells inc (l.set i u) = (Gn.cells inc l).set i (.int .i64 u) := by
    have : ∀ l : List Int, Gn.cells inc l = l.map (fun x => .int .i64 x) := by
      intro l; induction l with
      | nil => rfl
      | cons x l ih => rw [Gn.cells_cons, ih]; rfl
    rw [this, this, List.map_set]
  rw [e, List.length_set]
  exact this
theorem ownI_melt {w : World} {base : Nat} {g n cap : Nat} {l : List Int} (h : OwnI w base (.slice (some ⟨g, 0, none⟩) n cap) l) (hn : l.length = n) (j : Nat) : w.frozen? ⟨g, j, none⟩ = false := by
  subst hn
  have h' : w.ownsRow base 3 1 (.slice (some ⟨g, 0, none⟩) l.length cap) l.length (Gn.cells inc l) := h
  exact h'.frozenAt j
theorem ownI_addr {w : World} {base n cap : Nat} {ad : Option Addr} {l : List Int} (h : OwnI w base (.slice ad n cap) l) (h0 : 0 < l.length) : ∃ g, ad = some ⟨g, 0, none⟩ := by
  rcases h.2 with ⟨_, e⟩ | ⟨g, c, cur, e, _⟩
  · omega
  · injection e with e
    exact ⟨g, e⟩

theorem part_len {l : List Nd} {i : Int} {r : List Nd} (h : PartIs l i r) : r.length ≤ 4000 := by
  rcases h with ⟨p, k, y, n, s, c, rfl, _, hl, hA, rfl⟩ | ⟨_, rfl⟩
  · have := Tp.At.len hA
    show (Tp.flat _).length ≤ 4000
    have e : (Tp.flat (.node k ⟨#[]⟩ n s c .nil)).length = Tp.sz (.node k y n s c .nil) := by rw [Tp.sz_node]; show Tp.sz _ = _; rw [Tp.sz_node]
    rw [e]; omega
  · simp
theorem kids_len {l : List Nd} {ks : List Int} (h : KidsIs l ks) : ks.length ≤ 4000 := by
  rcases h with ⟨k, y, n, s, c, hM, rfl⟩ | ⟨_, rfl⟩
  · have h1 := plcs_len 1 c
    have h2 := hM.1
    rw [← hM.2.1.2.2] at h2
    have e : (Tp.flat (.node k y n s c .nil)).length = Tp.sz (.node k y n s c .nil) := rfl
    rw [e, Tp.sz_node] at h2
    omega
  · simp
theorem get_len {l : List Nd} {key : ByteArray} {r : List Nd} {b : Bool} (h : GetIs l key r b) : r.length ≤ 4000 := by
  rcases h with ⟨y, n, s, c, D, k2, n2, s2, c2, R, hM, rfl, _, rfl, _⟩ | ⟨rfl, _⟩
  · have h2 := hM.1
    rw [← hM.2.1.2.2] at h2
    have e : (Tp.flat (.node 7 y n s (Tp.app D (.node k2 key n2 s2 c2 R)) .nil)).length = Tp.sz (.node 7 y n s (Tp.app D (.node k2 key n2 s2 c2 R)) .nil) := rfl
    rw [e, Tp.sz_node, Tp.sz_app, Tp.sz_node] at h2
    show (Tp.flat _).length ≤ 4000
    have e2 : (Tp.flat (.node k2 ⟨#[]⟩ n2 s2 c2 .nil)).length = 1 + Tp.sz c2 := by show Tp.sz _ = _; rw [Tp.sz_node, Tp.sz_nil]; omega
    rw [e2]; omega
  · simp

set_option maxHeartbeats 40000000 in
theorem tapeTells (v1 : Value) (l1 : List Nd) (v2 : Value) (l2 : List Nd) (key : ByteArray) (W : World) (h1 : RdN W W.heap.size v1 l1) (ok1 : ∀ x ∈ l1, Nok x) (h2 : RdN W W.heap.size v2 l2) (ok2 : ∀ x ∈ l2, Nok x) (hk : key.size ≤ 9223372036854775807) (T : Tab W) :
    Calls Tryd.prog 3 #[v1, v2, .string key] W fun e w' => e = .returned (.bool true) ∧ Below W.heap.size W w' := by
  have C1 := Lib.hid (few v1 l1 W h1 ok1)
  have C2 := Lib.hid (fun (wb : World) (hb : Below W.heap.size W wb) => few v2 l2 wb (h2.later hb) ok2)
  obtain ⟨A, hA⟩ : ∃ A, A = fewL l1 := ⟨_, rfl⟩
  obtain ⟨B, hB⟩ : ∃ B, B = fewL l2 := ⟨_, rfl⟩
  have okA : ∀ x ∈ A, Nok x := by rw [hA]; exact fewL_ok l1 ok1
  have okB : ∀ x ∈ B, Nok x := by rw [hB]; exact fewL_ok l2 ok2
  have lA : A.length ≤ 60 := by rw [hA]; exact fewL_len l1
  have HT := Lib.hid T
  rw [← hA] at C1
  rw [← hB] at C2
  clear hA hB h1 h2 ok1 ok2 T hk
  go_enter Tryd.func3, Tryd.ntmps3
  go_wp2_with fail
  ((with_reducible refine (C1.out).mono ?_); rintro e w1 ⟨t, rfl, ho1, b1⟩)
  have HB1 := Lib.hid b1
  have H1 := Lib.hid (Gn.Own.rd ndL ho1)
  clear b1 ho1
  go_wp2_with fail
  ((with_reducible refine (C2.out _ HB1.out).mono ?_); rintro e w2 ⟨u, rfl, ho2, b2⟩)
  have HB2 := Lib.hid (up HB1.out b2)
  have H2 := Lib.hid (Gn.Own.rd ndL ho2)
  replace H1 := Lib.hid (Gn.Rd.later H1.out b2)
  clear b2 ho2
  have C3 := Lib.hid (rcopy t A w2 H1.out (by omega))
  go_wp2_with fail
  ((with_reducible refine (C3.out).mono ?_); rintro e w3 ⟨s, rfl, ho3, b3⟩)
  have HB3 := Lib.hid (up HB2.out b3)
  have H3 := Lib.hid (Gn.Own.rd ndL ho3)
  replace H1 := Lib.hid (Gn.Rd.later H1.out b3)
  replace H2 := Lib.hid (Gn.Rd.later H2.out b3)
  replace HT := Lib.hid (HT.out.later HB3.out)
  obtain ⟨n, hn⟩ : ∃ n, A.length = n := ⟨_, rfl⟩
  obtain ⟨ta, tc, rfl⟩ : ∃ a c, t = .slice a n c := form_n H1.out n hn
  clear b3 ho3 C1 C2 C3 HB1 HB2
  have HLA := Lib.hid lA
  have HN := Lib.hid hn
  have hn60 : n ≤ 60 := by omega
  clear hn lA
  obtain ⟨ce, hce⟩ : ∃ x, chk A = x := ⟨_, rfl⟩
  obtain ⟨dd, hdd⟩ : ∃ x, dpt A = x := ⟨_, rfl⟩
  obtain ⟨ks, hks⟩ := kids_ex A
  obtain ⟨ra, hra⟩ := sort_ex A
  obtain ⟨rb, hrb⟩ := sort_ex B
  obtain ⟨x1, hx1⟩ := bool_of (ra ≠ [] ∧ ra = rb)
  obtain ⟨x2, hx2⟩ := bool_of (rb ≠ [] ∧ rb = ra)
  have HKS := Lib.hid hks
  have HRA := Lib.hid hra
  have HRB := Lib.hid hrb
  have HKL : Hid (ks.length ≤ 4000) := Lib.hid (kids_len hks)
  have HRL : Hid (ra.length ≤ 4000) := Lib.hid (sort_len hra)
  have K1 := Lib.hid (fun (wb : World) (hb : Below w3.heap.size w3 wb) => check _ A wb (Gn.Rd.later H1.out hb) okA (HT.out.later hb) ce hce)
  have K2 := Lib.hid (fun (wb : World) (hb : Below w3.heap.size w3 wb) => rcheck _ A wb (Gn.Rd.later H3.out hb) okA ce hce)
  have K3 := Lib.hid (fun (wb : World) (hb : Below w3.heap.size w3 wb) => kids _ A wb (Gn.Rd.later H1.out hb) okA (HT.out.later hb) ks hks)
  have K4 := Lib.hid (fun (wb : World) (hb : Below w3.heap.size w3 wb) => rkids _ A wb (Gn.Rd.later H3.out hb) okA ks hks)
  have K5 := Lib.hid (fun (wb : World) (hb : Below w3.heap.size w3 wb) => deepOf _ A wb (Gn.Rd.later H1.out hb) okA (HT.out.later hb) dd hdd)
  have K6 := Lib.hid (fun (wb : World) (hb : Below w3.heap.size w3 wb) => rdeepOf _ A wb (Gn.Rd.later H3.out hb) okA dd hdd)
  have K7 := Lib.hid (fun (wb : World) (hb : Below w3.heap.size w3 wb) => same _ _ A B wb (Gn.Rd.later H1.out hb) (Gn.Rd.later H2.out hb) okA okB (HT.out.later hb) ra rb hra hrb x1 hx1)
  have K8 := Lib.hid (fun (wb : World) (hb : Below w3.heap.size w3 wb) => rsame _ _ A B wb (Gn.Rd.later H3.out hb) (Gn.Rd.later H2.out hb) okA okB ra rb hra hrb x1 hx1)
  have K9 := Lib.hid (fun (wb : World) (hb : Below w3.heap.size w3 wb) => same _ _ B A wb (Gn.Rd.later H2.out hb) (Gn.Rd.later H1.out hb) okB okA (HT.out.later hb) rb ra hrb hra x2 hx2)
  have K10 := Lib.hid (fun (wb : World) (hb : Below w3.heap.size w3 wb) => rsame _ _ B A wb (Gn.Rd.later H2.out hb) (Gn.Rd.later H3.out hb) okB okA rb ra hrb hra x2 hx2)
  have KP := Lib.hid (fun (wb : World) (hb : Below w3.heap.size w3 wb) (i : Int) (hi : -9223372036854775808 ≤ i ∧ i ≤ 9223372036854775807) (r : List Nd) (hr : PartIs A i r) => part _ A wb (Gn.Rd.later H1.out hb) okA (HT.out.later hb) i hi r hr)
  have KR := Lib.hid (fun (wb : World) (hb : Below w3.heap.size w3 wb) (i : Int) (hi : -9223372036854775808 ≤ i ∧ i ≤ 9223372036854775807) (r : List Nd) (hr : PartIs A i r) => rpart _ A wb (Gn.Rd.later H3.out hb) okA i hi r hr)
  obtain ⟨rg, bg, hg⟩ := get_ex A key
  have KG := Lib.hid (fun (wb : World) (hb : Below w3.heap.size w3 wb) => get _ A key wb (Gn.Rd.later H1.out hb) okA (HT.out.later hb) rg bg hg)
  have KH := Lib.hid (fun (wb : World) (hb : Below w3.heap.size w3 wb) => rget _ A key wb (Gn.Rd.later H3.out hb) okA rg bg hg)
  have HGL : Hid (rg.length ≤ 4000) := Lib.hid (get_len hg)
  have KS := Lib.hid (fun (wb : World) (hb : Below w3.heap.size w3 wb) => sorted _ A wb (Gn.Rd.later H1.out hb) okA (HT.out.later hb) ra hra)
  have KT := Lib.hid (fun (wb : World) (hb : Below w3.heap.size w3 wb) => rsortedC _ A wb (Gn.Rd.later H3.out hb) okA ra hra)
  have KE := Lib.hid (fun (wb : World) (hb : Below w3.heap.size w3 wb) => rEq _ _ A A wb (Gn.Rd.later H1.out hb) (Gn.Rd.later H3.out hb) (by have := HLA.out; omega) true ⟨fun _ => rfl, fun _ => rfl⟩)
  have KW := Lib.hid (fun (wb : World) (hb : Below w3.heap.size w3 wb) => works wb (HT.out.later hb))
  have q1 : ((ce : Int) != ce) = false := by simp
  have q2 : ((dd : Int) != (dd : Int)) = false := by simp
  have q3 : (x1 != x1) = false := by simp
  have q4 : (x2 != x2) = false := by simp
  have q5 : (bg != bg) = false := by simp
  clear hce hdd hks hra hrb hx1 hx2 hg okA okB
  have HX := Lib.hid (Below.refl w3.heap.size w3)
  go_wp2_with fail
  ((with_reducible refine (K1.out _ HX.out).mono ?_); rintro e w4 ⟨rfl, b⟩)
  replace HX := Lib.hid (up HX.out b)
  clear b
  go_wp2_with fail
  ((with_reducible refine (K2.out _ HX.out).mono ?_); rintro e w5 ⟨rfl, b⟩)
  replace HX := Lib.hid (up HX.out b)
  clear b
  go_wp2_with fail
  ((with_reducible refine (K3.out _ HX.out).mono ?_); rintro e w6 ⟨va, rfl, hoa, b⟩)
  have HI1 := Lib.hid (Gn.Own.rd inL hoa)
  replace HX := Lib.hid (up HX.out b)
  clear b hoa
  go_wp2_with fail
  ((with_reducible refine (K4.out _ HX.out).mono ?_); rintro e w7 ⟨vb, rfl, hob, b⟩)
  have CI := Lib.hid (eqInts va vb ks ks w7 (Gn.Rd.later HI1.out b) (Gn.Own.rd inL hob) (by have := HKL.out; omega) true ⟨fun _ => rfl, fun _ => rfl⟩)
  replace HX := Lib.hid (up HX.out b)
  clear b hob
  go_wp2_with fail
  ((with_reducible refine (CI.out).mono ?_); rintro e w8 ⟨rfl, b⟩)
  replace HX := Lib.hid (up HX.out b)
  clear b CI HI1
  go_wp2_with fail
  ((with_reducible refine (K5.out _ HX.out).mono ?_); rintro e w9 ⟨rfl, b⟩)
  replace HX := Lib.hid (up HX.out b)
  clear b
  go_wp2_with fail
  ((with_reducible refine (K6.out _ HX.out).mono ?_); rintro e w10 ⟨rfl, b⟩)
  replace HX := Lib.hid (up HX.out b)
  clear b
  go_wp2_with fail
  ((with_reducible refine (K7.out _ HX.out).mono ?_); rintro e w11 ⟨rfl, b⟩)
  replace HX := Lib.hid (up HX.out b)
  clear b
  go_wp2_with fail
  ((with_reducible refine (K8.out _ HX.out).mono ?_); rintro e w12 ⟨rfl, b⟩)
  replace HX := Lib.hid (up HX.out b)
  clear b
  go_wp2_with fail
  ((with_reducible refine (K9.out _ HX.out).mono ?_); rintro e w13 ⟨rfl, b⟩)
  replace HX := Lib.hid (up HX.out b)
  clear b
  go_wp2_with fail
  ((with_reducible refine (K10.out _ HX.out).mono ?_); rintro e w14 ⟨rfl, b⟩)
  replace HX := Lib.hid (up HX.out b)
  clear b
  clear K1 K2 K5 K6 K7 K8 K9 K10
  go_wp2_with fail
  go_loopw [8] (fun i wx => ∃ (k : Nat), i = .int .i64 ((k : Nat) - 1) ∧ k ≤ n + 3 ∧ Hid (Below w3.heap.size w3 wx)) (fun i _ => (n + 3) - (intOf i + 1).toNat)
  case atStart => exact ⟨0, by rfl, by omega, HX⟩
  case round =>
    obtain ⟨k, rfl, hk, HX⟩ := hrel
    by_cases hlt : k < n + 3
    · have hlt1 : (k : Int) - 1 < (n : Int) + 2 := by omega
      obtain ⟨r, hr⟩ := part_ex A ((k : Int) - 1)
      have HPL : Hid (r.length ≤ 4000) := Lib.hid (part_len hr)
      have CP := Lib.hid (KP.out wr HX.out ((k : Int) - 1) (by omega) r hr)
      have CR := Lib.hid (fun wb hb => KR.out wb hb ((k : Int) - 1) (by omega) r hr)
      clear hr
      go_wp2_with fail
      ((with_reducible refine (CP.out).mono ?_); rintro e a1 ⟨v, rfl, ho, b⟩)
      have HO := Lib.hid ho
      have HA1 := Lib.hid b
      have HX1 := Lib.hid (up HX.out b)
      clear b ho
      go_wp2_with fail
      ((with_reducible refine (CR.out _ HX1.out).mono ?_); rintro e a2 ⟨v', rfl, ho, b⟩)
      replace HO := Lib.hid (Gn.Own.later HO.out b)
      have HA2 := Lib.hid (up HA1.out b)
      have CE := Lib.hid (rEq v v' r r a2 (Gn.Own.rd ndL HO.out) (Gn.Own.rd ndL ho) (by have := HPL.out; omega) true ⟨fun _ => rfl, fun _ => rfl⟩)
      clear b ho
      go_wp2_with fail
      ((with_reducible refine (CE.out).mono ?_); rintro e a3 ⟨rfl, b⟩)
      replace HO := Lib.hid (Gn.Own.later HO.out b)
      have HA3 := Lib.hid (up HA2.out b)
      have CSP := Lib.hid (spoil v r a3 wr.heap.size HO.out (by have := HPL.out; omega))
      clear b
      go_wp2_with fail
      ((with_reducible refine (CSP.out).mono ?_); rintro e a4 ⟨rfl, ht⟩)
      have HA4 := Lib.hid (up HX.out (HA3.out.trans (ht.below HA3.out.size (fun i hi => (HO.out.lt i hi).1))))
      clear ht
      go_wp2_with fail
      go_roundw
      case rel => exact ⟨k + 1, by go_num, by omega, HA4⟩
      case measure => simp [intOf]; omega
    · have hlt1 : ¬ (k : Int) - 1 < (n : Int) + 2 := by omega
      go_wp2_with fail
      ((with_reducible refine (KG.out _ HX.out).mono ?_); rintro e a1 ⟨vg, rfl, hog, b⟩)
      have HOG := Lib.hid hog
      have HA1 := Lib.hid b
      have HX1 := Lib.hid (up HX.out b)
      clear b hog
      go_wp2_with fail
      ((with_reducible refine (KH.out _ HX1.out).mono ?_); rintro e a2 ⟨vh, rfl, hoh, b⟩)
      replace HOG := Lib.hid (Gn.Own.later HOG.out b)
      have HRH := Lib.hid (Gn.Own.rd ndL hoh)
      have HA2 := Lib.hid (up HA1.out b)
      have HX2 := Lib.hid (up HX1.out b)
      clear b hoh
      go_wp2_with fail
      ((with_reducible refine (KS.out _ HX2.out).mono ?_); rintro e a3 ⟨vs, rfl, hos, b⟩)
      have HDJ : Hid (∀ g, vs.ownBlock = some g → ¬ vg.ownBlock = some g) := Lib.hid (fun g hg hg2 => by have := (HOG.out.lt g hg2).2; have := (hos.lt g hg).1; omega)
      replace HOG := Lib.hid (Gn.Own.later HOG.out b)
      have HOS := Lib.hid (Gn.Own.lower hos HA2.out.size)
      have HRH2 := Lib.hid (Gn.Rd.later HRH.out b)
      have HA3 := Lib.hid (up HA2.out b)
      have HX3 := Lib.hid (up HX2.out b)
      have CE := Lib.hid (rEq vg vh rg rg a3 (Gn.Own.rd ndL HOG.out) HRH2.out (by have := HGL.out; omega) true ⟨fun _ => rfl, fun _ => rfl⟩)
      clear b hos HRH
      go_wp2_with fail
      ((with_reducible refine (CE.out).mono ?_); rintro e a4 ⟨rfl, b⟩)
      replace HOG := Lib.hid (Gn.Own.later HOG.out b)
      replace HOS := Lib.hid (Gn.Own.later HOS.out b)
      have HA4 := Lib.hid (up HA3.out b)
      have HX4 := Lib.hid (up HX3.out b)
      clear b
      go_wp2_with fail
      ((with_reducible refine (KT.out _ HX4.out).mono ?_); rintro e a5 ⟨vt, rfl, hot, b⟩)
      replace HOG := Lib.hid (Gn.Own.later HOG.out b)
      replace HOS := Lib.hid (Gn.Own.later HOS.out b)
      have HA5 := Lib.hid (up HA4.out b)
      have CE2 := Lib.hid (rEq vs vt ra ra a5 (Gn.Own.rd ndL HOS.out) (Gn.Own.rd ndL hot) (by have := HRL.out; omega) true ⟨fun _ => rfl, fun _ => rfl⟩)
      clear b hot
      go_wp2_with fail
      ((with_reducible refine (CE2.out).mono ?_); rintro e a6 ⟨rfl, b⟩)
      replace HOG := Lib.hid (Gn.Own.later HOG.out b)
      replace HOS := Lib.hid (Gn.Own.later HOS.out b)
      have HA6 := Lib.hid (up HA5.out b)
      have CSP := Lib.hid (spoil vg rg a6 wr.heap.size HOG.out (by have := HGL.out; omega))
      clear b CE CE2
      go_wp2_with fail
      ((with_reducible refine (CSP.out).mono ?_); rintro e a7 ⟨rfl, ht⟩)
      have HA7 := Lib.hid (HA6.out.trans (ht.below HA6.out.size (fun i hi => (HOG.out.lt i hi).1)))
      replace HOS := Lib.hid (ownN_touch HOS.out ht HDJ.out)
      have CSQ := Lib.hid (spoil vs ra a7 wr.heap.size HOS.out (by have := HRL.out; omega))
      clear ht CSP
      go_wp2_with fail
      ((with_reducible refine (CSQ.out).mono ?_); rintro e a8 ⟨rfl, ht⟩)
      have HA8 := Lib.hid (up HX.out (HA7.out.trans (ht.below HA7.out.size (fun i hi => (HOS.out.lt i hi).1))))
      clear ht CSQ
      go_wp2_with fail
      ((with_reducible refine (K3.out _ HA8.out).mono ?_); rintro e a9 ⟨vk, rfl, hok, b⟩)
      obtain ⟨m, hm⟩ : ∃ m, ks.length = m := ⟨_, rfl⟩
      have HOK := Lib.hid hok
      have HM := Lib.hid hm
      have hm4 : m ≤ 4000 := by have := HKL.out; omega
      have HX9 := Lib.hid b
      obtain ⟨ka, kc, rfl⟩ : ∃ a c, vk = .slice a m c := by
        obtain ⟨a, c, e', _⟩ := Gn.Rd.form (Gn.Own.rd inL hok)
        exact ⟨a, c, by rw [← hm]; exact e'⟩
      clear b hok hm
      go_wp2_with fail
      go_loopw [16] (fun i wx => ∃ (k : Nat) (lk : List Int), i = .int .i64 (k : Nat) ∧ k ≤ m ∧ Hid (lk.length = m ∧ OwnI wx a8.heap.size (.slice ka m kc) lk) ∧ Hid (Below a8.heap.size a8 wx)) (fun i _ => m - (intOf i).toNat)
      case atStart => exact ⟨0, ks, by rfl, by omega, Lib.hid ⟨HM.out, HOK.out⟩, HX9⟩
      case round =>
        obtain ⟨k, lk, rfl, hk, HK, HY⟩ := hrel
        by_cases hlt : k < m
        · have hlt1 : (k : Int) < m := by omega
          have hkl : k < lk.length := by rw [HK.out.1]; exact hlt
          obtain ⟨g, rfl⟩ := ownI_addr HK.out.2 (by omega)
          obtain ⟨b', o', e', y⟩ := rdI_cell (HK.out.1 ▸ Gn.Own.rd inL HK.out.2) (Below.refl _ _) (List.getElem?_eq_getElem hkl)
          obtain ⟨rfl, rfl⟩ : g = b' ∧ 0 = o' := by injection e' with e'; injection e' with e1 e2; exact ⟨e1, e2⟩
          simp only [Nat.zero_add] at y
          have hf := ownI_melt HK.out.2 HK.out.1
          have HW := Lib.hid (ownI_put (i := k) (u := -1) HK.out.2 HK.out.1)
          have HL : Hid ((lk.set k (-1)).length = m) := Lib.hid (by rw [List.length_set]; exact HK.out.1)
          have HY2 := Lib.hid (HY.out.setCell (p := ⟨g, k, none⟩) (HK.out.2.lt g rfl).1 (.int .i64 (-1)))
          clear e'
          go_wp2_with fail
          go_roundw
          case rel => exact ⟨k + 1, _, by go_num, by omega, Lib.hid ⟨HL.out, HW.out⟩, HY2⟩
          case measure => simp [intOf]; omega
        · have hlt1 : ¬ (k : Int) < m := by omega
          have HX9 := Lib.hid (up HA8.out HY.out)
          clear HY HK
          go_wp2_with fail
          ((with_reducible refine (KE.out _ HX9.out).mono ?_); rintro e a10 ⟨rfl, b⟩)
          have HX10 := Lib.hid (up HX9.out b)
          clear b
          go_wp2_with fail
          ((with_reducible refine (K3.out _ HX10.out).mono ?_); rintro e a11 ⟨va', rfl, hoa, b⟩)
          have HI1 := Lib.hid (Gn.Own.rd inL hoa)
          have HX11 := Lib.hid (up HX10.out b)
          clear b hoa
          go_wp2_with fail
          ((with_reducible refine (K4.out _ HX11.out).mono ?_); rintro e a12 ⟨vb', rfl, hob, b⟩)
          have CI := Lib.hid (eqInts va' vb' ks ks a12 (Gn.Rd.later HI1.out b) (Gn.Own.rd inL hob) (by have := HKL.out; omega) true ⟨fun _ => rfl, fun _ => rfl⟩)
          have HX12 := Lib.hid (up HX11.out b)
          clear b hob
          go_wp2_with fail
          ((with_reducible refine (CI.out).mono ?_); rintro e a13 ⟨rfl, b⟩)
          have HX13 := Lib.hid (up HX12.out b)
          clear b
          go_wp2_with fail
          ((with_reducible refine (KW.out _ HX13.out).mono ?_); rintro e a14 ⟨rfl, b⟩)
          have HX14 := Lib.hid (up HB3.out (up HX13.out b))
          clear b
          go_wp2_with fail
          go_ret
          exact ⟨rfl, HX14.out⟩
end Go.Proofs.YtgcfhjmcbbklmaaDoor
