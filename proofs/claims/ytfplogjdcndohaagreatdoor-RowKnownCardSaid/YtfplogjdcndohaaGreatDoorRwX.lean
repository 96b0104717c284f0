/- The law's works: the chapter's examples. -/
import Derived.Test.YtfplogjdcndohaaGreatDoorRa
import Derived.Deep.RegionHeld3
namespace Go.Proofs.YtfplogjdcndohaaGreatDoor
open Go.RowKit Go.Sort
set_option linter.unusedVariables false
set_option maxRecDepth 100000

theorem rowLit (w : World) (l : List Cl.C) (cs : Array Value) (n g : Nat) (h : cs = (Gn.cells clc l).toArray) (hn : n = l.length) (hm : l.length ≤ 100) (hg : g = w.heap.size) : RdC (w.alloc (.cells cs 34)) (w.alloc (.cells cs 34)).heap.size (.slice (some ⟨g, 0, none⟩) n n) l := by
  subst hg
  exact Gn.Own.rd clL (Gn.Own.lit (T := 34) clL w 0 l cs n n h hn rfl (by simp only [maxLen]; omega) (Nat.zero_le _))
theorem intLit (w : World) (l : List Int) (cs : Array Value) (n g : Nat) (h : cs = (Gn.cells inc l).toArray) (hn : n = l.length) (hm : l.length ≤ 100) (hg : g = w.heap.size) : RdI (w.alloc (.cells cs 3)) (w.alloc (.cells cs 3)).heap.size (.slice (some ⟨g, 0, none⟩) n n) l := by
  subst hg
  exact Gn.Own.rd inL (Gn.Own.lit (T := 3) inL w 0 l cs n n h hn rfl (by simp only [maxLen]; omega) (Nat.zero_le _))
theorem rdC_to {w : World} {B n c m : Nat} {a : Option Addr} {l : List Cl.C} (h : RdC w B (.slice a n c) l) (hn : n = l.length) (hm : m ≤ n) : RdC w B (.slice a m c) (l.take m) := by
  subst hn
  exact rd_to h hm
theorem rdC_nil (w : World) : RdC w w.heap.size (.slice none 0 0) [] := Gn.Rd.nil _ _
theorem up_box {W w : World} (h : Below W.heap.size W w) (o : Obj) : Below W.heap.size W (w.alloc o) := up h (box_new w o)
/-- Of a few cells. -/
def Few (r : List Cl.C) : Prop := r.length ≤ 100 ∧ (∀ c ∈ r, Cl.I64 c.n) ∧ (∀ c ∈ r, c.s.size ≤ 1000000)
theorem few_ck {r : List Cl.C} (h : Few r) (d : Int) (hd : Rw.chkR (tys k3) r = d) (W : World) (T : ∀ w1, Below W.heap.size W w1 → TA w1) (w1 : World) (v rv : Value) (hb : Below W.heap.size W w1) (hk : RdK w1 w1.heap.size v k3) (hr : RdC w1 w1.heap.size rv r) :
    Calls Tryz.prog 19 #[v, rv] w1 fun e w2 => e = .returned (.int .i64 d) ∧ Below W.heap.size W w2 ∧ Below w1.heap.size w1 w2 :=
  (rowCheck v rv k3 r w1 (T w1 hb) hk hr (by have := h.1; omega) h.2.1 h.2.2 d hd).mono fun e w2 h => ⟨h.1, up hb h.2, h.2⟩
theorem three_at (W w1 : World) (hb : Below W.heap.size W w1) : Calls Tryz.prog 30 #[] w1 fun e w2 => ∃ a c, e = .returned (.slice a 3 c) ∧ RdK w2 w2.heap.size (.slice a 3 c) k3 ∧ Below W.heap.size W w2 ∧ Below w1.heap.size w1 w2 :=
  (lThree w1).mono fun e w2 ⟨a, c, h1, h2, h3⟩ => ⟨a, c, h1, h2, up hb h3, h3⟩
theorem few_of {r : List Cl.C} (h1 : r.length ≤ 100) (h2 : (r.all fun c => decide (-9223372036854775808 ≤ c.n ∧ c.n ≤ 9223372036854775807) && decide (c.s.size ≤ 1000000)) = true) : Few r := by
  rw [List.all_eq_true] at h2
  refine ⟨h1, fun c hc => ?_, fun c hc => ?_⟩
  · have := h2 c hc; simp at this; exact this.1
  · have := h2 c hc; simp at this; exact this.2
def r1 : List Cl.C := [⟨false,  5, ⟨#[]⟩⟩, ⟨true,  0, ⟨#[]⟩⟩, ⟨false,  1, ⟨#[]⟩⟩]
theorem few1 : Few r1 := few_of (by decide) (by decide +kernel)
def r3 : List Cl.C := [⟨false,  5, ⟨#[]⟩⟩, ⟨false,  1, ⟨#[]⟩⟩, ⟨false,  1, ⟨#[]⟩⟩]
theorem few3 : Few r3 := few_of (by decide) (by decide +kernel)
def r4 : List Cl.C := [⟨false,  2147483648, ⟨#[]⟩⟩, ⟨true,  0, ⟨#[]⟩⟩, ⟨false,  2, ⟨#[]⟩⟩]
theorem few4 : Few r4 := few_of (by decide) (by decide +kernel)
def rA : List Cl.C := [⟨false,  5, ⟨#[]⟩⟩, ⟨false,  0, ⟨#[97]⟩⟩, ⟨false,  0, ⟨#[]⟩⟩]
theorem fewA : Few rA := few_of (by decide) (by decide +kernel)
def rK : List Cl.C := [⟨false,  5, ⟨#[]⟩⟩, ⟨false,  0, ⟨#[97]⟩⟩, ⟨false,  1, ⟨#[]⟩⟩]
theorem fewK : Few rK := few_of (by decide) (by decide +kernel)
def rP : List Cl.C := [⟨false,  1, ⟨#[]⟩⟩, ⟨false,  5, ⟨#[]⟩⟩, ⟨false,  1, ⟨#[]⟩⟩]
theorem fewP : Few rP := few_of (by decide) (by decide +kernel)
def rN : List Cl.C := [⟨false,  1, ⟨#[]⟩⟩, ⟨true,  0, ⟨#[]⟩⟩]
theorem fewN : Few rN := few_of (by decide) (by decide +kernel)
theorem drewI {w : World} {v : Value} {l : List Int} (h : RdI w w.heap.size v l) : RdI w.drew w.drew.heap.size v l := h
theorem drewR {w : World} {v : Value} {l : List Cl.C} (h : RdC w w.heap.size v l) : RdC w.drew w.drew.heap.size v l := h
theorem pick_at (rv pv : Value) (r : List Cl.C) (ps : List Int) (w : World) (hr : RdC w w.heap.size rv r) (hp : RdI w w.heap.size pv ps) (hl : ps.length ≤ 100000) (n e0 : Nat) (l : List Cl.C) (ha : Rw.pickR r ps = (e0, l)) (hn : n = l.length) :
    Calls Tryz.prog 16 #[rv, pv] w fun e w' => ∃ a c, e = .returned (.tuple #[.slice a n c, .int .i64 (e0 : Nat)]) ∧ RdC w' w'.heap.size (.slice a n c) l ∧ Below w.heap.size w w' := by
  subst hn
  exact (rowPick rv pv r ps w hr hp hl _ ha).mono fun e w' h => h.form
theorem unkeys_at (pv wv : Value) (ps : List Int) (s : ByteArray) (e0 : Nat) (want : List Cl.C) (w : World) (T : TA w) (hp : RdI w w.heap.size pv ps) (hw : RdC w w.heap.size wv want) (hl : ps.length ≤ 100) (hm : s.size ≤ 100000)
    (ha : Rw.unkR (tys k3) ps (bl s) = (e0, want)) (z : Int) (hz : ((e0 : Nat) : Int) = z) : Calls Tryz.prog 41 #[pv, .string s, .int .i64 z, wv] w fun e w' => e = .returned (.bool true) ∧ Below w.heap.size w w' := by
  subst hz
  exact lUnkeys pv wv ps s e0 want w T hp hw hl hm ha
theorem key_at (W : World) (T : ∀ w1, Below W.heap.size W w1 → TA w1) (w1 : World) (v pv rv : Value) (hb : Below W.heap.size W w1) (hk : RdK w1 w1.heap.size v k3) (hp : RdI w1 w1.heap.size pv [2, 1]) (hr : RdC w1 w1.heap.size rv rK) :
    Calls Tryz.prog 25 #[v, pv, rv] w1 fun e w2 => e = .returned (.tuple #[.string ⟨#[1, 1, 97, 0, 0]⟩, .int .i64 0]) ∧ Below W.heap.size W w2 :=
  (rowKey v pv rv k3 [2, 1] rK w1 (T w1 hb) hk hp hr (by decide) (by decide) fewK.2.1 fewK.2.2 (by decide +kernel) (0, [1, 1, 97, 0, 0]) (by decide +kernel) _ (by decide +kernel)).mono fun e w2 h => ⟨h.1, up hb h.2⟩
set_option maxHeartbeats 16000000 in
theorem works (w : World) (T : TA w) : Calls Tryz.prog 21 #[] w fun e w' => e = .returned (.bool true) ∧ Below w.heap.size w w' := by
  have b1 := box_new w (.cells #[.bool true, .int .i64 0, .string ⟨#[]⟩] 34)
  have b2 := box_new (w.alloc (.cells #[.bool true, .int .i64 0, .string ⟨#[]⟩] 34)) (.cells #[.bool false, .int .i64 1, .string ⟨#[]⟩] 34)
  have b3 := box_new ((w.alloc (.cells #[.bool true, .int .i64 0, .string ⟨#[]⟩] 34)).alloc (.cells #[.bool false, .int .i64 1, .string ⟨#[]⟩] 34)) (.cells #[.bool false, .int .i64 5, .string ⟨#[]⟩, .bool true, .int .i64 0, .string ⟨#[]⟩, .bool false, .int .i64 1, .string ⟨#[]⟩] 34)
  have HB := Lib.hid (up (up b1 b2) b3)
  have HN := Lib.hid (((CV.new w true 0 ⟨#[]⟩).later b2).later b3)
  have HY := (CV.new (w.alloc (.cells #[.bool true, .int .i64 0, .string ⟨#[]⟩] 34)) false 1 ⟨#[]⟩).later b3
  rw [show (w.alloc (.cells #[.bool true, .int .i64 0, .string ⟨#[]⟩] 34)).heap.size = w.heap.size + 1 by simp] at HY
  have HY := Lib.hid HY
  have HR := Lib.hid (rowLit ((w.alloc (.cells #[.bool true, .int .i64 0, .string ⟨#[]⟩] 34)).alloc (.cells #[.bool false, .int .i64 1, .string ⟨#[]⟩] 34)) r1 #[.bool false, .int .i64 5, .string ⟨#[]⟩, .bool true, .int .i64 0, .string ⟨#[]⟩, .bool false, .int .i64 1, .string ⟨#[]⟩] 3 (w.heap.size + 1 + 1) rfl rfl (by decide) (by simp))
  have HT := Lib.hid (fun (w1 : World) (hb : Below (((w.alloc (.cells #[.bool true, .int .i64 0, .string ⟨#[]⟩] 34)).alloc (.cells #[.bool false, .int .i64 1, .string ⟨#[]⟩] 34)).alloc (.cells #[.bool false, .int .i64 5, .string ⟨#[]⟩, .bool true, .int .i64 0, .string ⟨#[]⟩, .bool false, .int .i64 1, .string ⟨#[]⟩] 34)).heap.size (((w.alloc (.cells #[.bool true, .int .i64 0, .string ⟨#[]⟩] 34)).alloc (.cells #[.bool false, .int .i64 1, .string ⟨#[]⟩] 34)).alloc (.cells #[.bool false, .int .i64 5, .string ⟨#[]⟩, .bool true, .int .i64 0, .string ⟨#[]⟩, .bool false, .int .i64 1, .string ⟨#[]⟩] 34)) w1) => T.later (up HB.out hb))
  clear b1 b2 b3 T
  go_enter Tryz.func21, Tryz.ntmps21
  go_wp2_with fail
  generalize (((w.alloc (.cells #[.bool true, .int .i64 0, .string ⟨#[]⟩] 34)).alloc (.cells #[.bool false, .int .i64 1, .string ⟨#[]⟩] 34)).alloc (.cells #[.bool false, .int .i64 5, .string ⟨#[]⟩, .bool true, .int .i64 0, .string ⟨#[]⟩, .bool false, .int .i64 1, .string ⟨#[]⟩] 34)) = wb at *
  obtain ⟨gn, hgn⟩ : ∃ g, w.heap.size = g := ⟨_, rfl⟩
  obtain ⟨gy, hgy⟩ : ∃ g, w.heap.size + 1 = g := ⟨_, rfl⟩
  obtain ⟨gr, hgr⟩ : ∃ g, w.heap.size + 1 + 1 = g := ⟨_, rfl⟩
  simp only [hgr]
  simp only [hgy]
  simp only [hgn]
  rw [hgn] at HN
  rw [hgy] at HY
  rw [hgr] at HR
  clear hgr
  have SK := Lib.hid (fun (w' : World) (hb : Below wb.heap.size wb w') => And.intro hb (And.intro (HN.out.later hb).lie (HY.out.later hb).lie))
  have TH := Lib.hid (fun (w1 : World) (hb : Below wb.heap.size wb w1) => three_at wb w1 hb)
  have HR2 := Lib.hid (show RdC wb wb.heap.size (.slice (some ⟨gr, 0, none⟩) 2 3) (r1.take 2) from rdC_to (m := 2) HR.out (by decide) (by decide))
  have few2 : Few (r1.take 2) := few_of (by decide) (by decide +kernel)
  have CK1 := Lib.hid (fun (w1 : World) (a : Option Addr) (c : Nat) (hb : Below wb.heap.size wb w1) (hk : RdK w1 w1.heap.size (.slice a 3 c) k3) => few_ck few1 0 (by decide +kernel) wb HT.out w1 _ _ hb hk (HR.out.later hb))
  have CK2 := Lib.hid (fun (w1 : World) (a : Option Addr) (c : Nat) (hb : Below wb.heap.size wb w1) (hk : RdK w1 w1.heap.size (.slice a 3 c) k3) => few_ck few2 100 (by decide +kernel) wb HT.out w1 _ _ hb hk (HR2.out.later hb))
  have CK3 := Lib.hid (fun (w1 : World) (a : Option Addr) (c : Nat) (rv : Value) (hb : Below wb.heap.size wb w1) (hk : RdK w1 w1.heap.size (.slice a 3 c) k3) (hr : RdC w1 w1.heap.size rv r3) => few_ck few3 90 (by decide +kernel) wb HT.out w1 _ _ hb hk hr)
  have CK4 := Lib.hid (fun (w1 : World) (a : Option Addr) (c : Nat) (rv : Value) (hb : Below wb.heap.size wb w1) (hk : RdK w1 w1.heap.size (.slice a 3 c) k3) (hr : RdC w1 w1.heap.size rv r4) => few_ck few4 90 (by decide +kernel) wb HT.out w1 _ _ hb hk hr)
  go_region_held3 (fun w' => Below wb.heap.size wb w' ∧ ((w'.cell? ⟨gn, 0, none⟩ = some (.bool true) ∧ w'.cell? ⟨gn, 1, none⟩ = some (.int .i64 0) ∧ w'.cell? ⟨gn, 2, none⟩ = some (.string ⟨#[]⟩)) ∧ (w'.cell? ⟨gy, 0, none⟩ = some (.bool false) ∧ w'.cell? ⟨gy, 1, none⟩ = some (.int .i64 1) ∧ w'.cell? ⟨gy, 2, none⟩ = some (.string ⟨#[]⟩))))
    (first | exact SK.out _ (Below.refl _ _).drew | exact SK.out _ (Below.refl _ _) | exact SK.out _ HA8.out | exact SK.out _ (up_box HA7.out _) | exact SK.out _ HA7.out | exact SK.out _ (up_box HA6.out _) | exact SK.out _ HA6.out | exact SK.out _ (up_box HA5.out _) | exact SK.out _ HA5.out | exact SK.out _ (up_box HA4.out _) | exact SK.out _ HA4.out | exact SK.out _ HA3.out | exact SK.out _ HA2.out | exact SK.out _ HA1.out | fail "keep")
    ((first
      | (go_at_call 19; (with_reducible refine (CK4.out _ _ _ _ HA7.out HK7.out HR7.out).mono ?_); rintro e a8 ⟨rfl, h, b⟩; have HA8 := Lib.hid h; clear h b)
      | (go_at_call 19; (with_reducible refine (CK4.out (a7.alloc (.cells #[.bool false, .int .i64 2147483648, .string ⟨#[]⟩, .bool true, .int .i64 0, .string ⟨#[]⟩, .bool false, .int .i64 2, .string ⟨#[]⟩] 34)) _ _ _ (up_box HA7.out _) (HK7.out.later (box_new _ _)) (rowLit a7 r4 #[.bool false, .int .i64 2147483648, .string ⟨#[]⟩, .bool true, .int .i64 0, .string ⟨#[]⟩, .bool false, .int .i64 2, .string ⟨#[]⟩] 3 _ rfl rfl (by decide) rfl)).mono ?_); rintro e a8 ⟨rfl, h, b⟩; have HA8 := Lib.hid h; clear h b)
      | (go_at_call 30; (with_reducible refine (TH.out (a6.alloc (.cells #[.bool false, .int .i64 2147483648, .string ⟨#[]⟩, .bool true, .int .i64 0, .string ⟨#[]⟩, .bool false, .int .i64 2, .string ⟨#[]⟩] 34)) (up_box HA6.out _)).mono ?_); rintro e a7 ⟨t7, u7, rfl, hk, h, b⟩; have HA7 := Lib.hid h; have HK7 := Lib.hid hk; have HR7 := Lib.hid ((rowLit a6 r4 #[.bool false, .int .i64 2147483648, .string ⟨#[]⟩, .bool true, .int .i64 0, .string ⟨#[]⟩, .bool false, .int .i64 2, .string ⟨#[]⟩] 3 _ rfl rfl (by decide) rfl).later b); clear h b hk)
      | (go_at_call 30; (with_reducible refine (TH.out _ HA6.out).mono ?_); rintro e a7 ⟨t7, u7, rfl, hk, h, b⟩; have HA7 := Lib.hid h; have HK7 := Lib.hid hk; clear h b hk)
      | (go_at_call 19; (with_reducible refine (CK3.out _ _ _ _ HA5.out HK5.out HR5.out).mono ?_); rintro e a6 ⟨rfl, h, b⟩; have HA6 := Lib.hid h; clear h b)
      | (go_at_call 19; (with_reducible refine (CK3.out (a5.alloc (.cells #[.bool false, .int .i64 5, .string ⟨#[]⟩, .bool false, .int .i64 1, .string ⟨#[]⟩, .bool false, .int .i64 1, .string ⟨#[]⟩] 34)) _ _ _ (up_box HA5.out _) (HK5.out.later (box_new _ _)) (rowLit a5 r3 #[.bool false, .int .i64 5, .string ⟨#[]⟩, .bool false, .int .i64 1, .string ⟨#[]⟩, .bool false, .int .i64 1, .string ⟨#[]⟩] 3 _ rfl rfl (by decide) rfl)).mono ?_); rintro e a6 ⟨rfl, h, b⟩; have HA6 := Lib.hid h; clear h b)
      | (go_at_call 30; (with_reducible refine (TH.out (a4.alloc (.cells #[.bool false, .int .i64 5, .string ⟨#[]⟩, .bool false, .int .i64 1, .string ⟨#[]⟩, .bool false, .int .i64 1, .string ⟨#[]⟩] 34)) (up_box HA4.out _)).mono ?_); rintro e a5 ⟨t5, u5, rfl, hk, h, b⟩; have HA5 := Lib.hid h; have HK5 := Lib.hid hk; have HR5 := Lib.hid ((rowLit a4 r3 #[.bool false, .int .i64 5, .string ⟨#[]⟩, .bool false, .int .i64 1, .string ⟨#[]⟩, .bool false, .int .i64 1, .string ⟨#[]⟩] 3 _ rfl rfl (by decide) rfl).later b); clear h b hk)
      | (go_at_call 30; (with_reducible refine (TH.out _ HA4.out).mono ?_); rintro e a5 ⟨t5, u5, rfl, hk, h, b⟩; have HA5 := Lib.hid h; have HK5 := Lib.hid hk; clear h b hk)
      | (go_at_call 19; (with_reducible refine (CK2.out _ _ _ HA3.out HK3.out).mono ?_); rintro e a4 ⟨rfl, h, b⟩; have HA4 := Lib.hid h; clear h b)
      | (go_at_call 30; (with_reducible refine (TH.out _ HA2.out).mono ?_); rintro e a3 ⟨t3, u3, rfl, hk, h, b⟩; have HA3 := Lib.hid h; have HK3 := Lib.hid hk; clear h b hk)
      | (go_at_call 19; (with_reducible refine (CK1.out _ _ _ HA1.out HK1.out).mono ?_); rintro e a2 ⟨rfl, h, b⟩; have HA2 := Lib.hid h; clear h b)
      | (go_at_call 30; (with_reducible refine (TH.out _ (Below.refl _ _).drew).mono ?_); rintro e a1 ⟨t1, u1, rfl, hk, h, b⟩; have HA1 := Lib.hid h; have HK1 := Lib.hid hk; clear h b hk)))
  all_goals
    have HN8 := Lib.hid (HN.out.later HA8.out)
    have HY8 := Lib.hid (HY.out.later HA8.out)
    have HR8 := Lib.hid (HR.out.later HA8.out)
    have HB8 := Lib.hid (up HB.out HA8.out)
    have HT8 := Lib.hid (fun (w1 : World) (hb : Below a8.heap.size a8 w1) => HT.out w1 (up HA8.out hb))
    clear SK TH CK1 CK2 CK3 CK4 HN HY HR HT HB HR2
    go_wp2_with fail
    ((with_reducible refine (pick_at _ _ r1 [2, 0, 2] _ (HR8.out.later (box_new _ _)) (intLit a8 [2, 0, 2] #[.int .i64 2, .int .i64 0, .int .i64 2] 3 a8.heap.size rfl rfl (by decide) rfl) (by decide) 3 0 rP (by kernel_rfl) rfl).mono ?_); rintro e a9 ⟨p1, c1, rfl, hr, b⟩)
    have HP9 := Lib.hid hr
    have HB9 := Lib.hid (up (box_new a8 _) b)
    clear hr b
    have HR9 := Lib.hid (HR8.out.later HB9.out)
    go_wp2_with fail
    ((with_reducible refine (pick_at _ _ (r1.take 1) [1] _ (show RdC (a9.alloc (.cells #[.int .i64 1] 3)) (a9.alloc (.cells #[.int .i64 1] 3)).heap.size (.slice (some ⟨gr, 0, none⟩) 1 3) (r1.take 1) from rdC_to (m := 1) (HR9.out.later (box_new _ _)) (by decide) (by decide)) (intLit a9 [1] #[.int .i64 1] 1 a9.heap.size rfl rfl (by decide) rfl) (by decide) 0 6 [] (by kernel_rfl) rfl).mono ?_); rintro e a10 ⟨p2, c2, rfl, hr, b⟩)
    have HB10 := Lib.hid (up HB9.out (up (box_new a9 _) b))
    have HP10 := Lib.hid (HP9.out.later (up (box_new a9 _) b))
    clear hr b HP9 HR9
    have HR10 := Lib.hid (HR8.out.later HB10.out)
    go_wp2_with fail
    ((with_reducible refine (rowCompare _ _ r1 rA _ (HR10.out.later (box_new _ _)) (rowLit a10 rA #[.bool false, .int .i64 5, .string ⟨#[]⟩, .bool false, .int .i64 0, .string ⟨#[97]⟩, .bool false, .int .i64 0, .string ⟨#[]⟩] 3 a10.heap.size rfl rfl (by decide) rfl) (by decide) (-1) (by decide +kernel)).mono ?_); rintro e a11 ⟨rfl, b⟩)
    have HB11 := Lib.hid (up HB10.out (up (box_new a10 _) b))
    have HP11 := Lib.hid (HP10.out.later (up (box_new a10 _) b))
    clear b HP10 HR10
    have HR11 := Lib.hid (HR8.out.later HB11.out)
    go_wp2_with fail
    ((with_reducible refine (rowCompare _ _ [] (r1.take 1) _ (rdC_nil _) (show RdC a11 a11.heap.size (.slice (some ⟨gr, 0, none⟩) 1 3) (r1.take 1) from rdC_to (m := 1) HR11.out (by decide) (by decide)) (by decide) (-1) (by decide +kernel)).mono ?_); rintro e a12 ⟨rfl, b⟩)
    have HB12 := Lib.hid (up HB11.out b)
    have HP12 := Lib.hid (HP11.out.later b)
    clear b HP11 HR11
    obtain ⟨y0, y1, y2⟩ := (HY8.out.later HB12.out).lie
    simp only at y0 y1 y2
    go_wp2_with fail
    ((with_reducible refine (eqRow _ _ rP rP _ (HP12.out.later (box_new _ _)) (rowLit a12 rP #[.bool false, .int .i64 1, .string ⟨#[]⟩, .bool false, .int .i64 5, .string ⟨#[]⟩, .bool false, .int .i64 1, .string ⟨#[]⟩] 3 a12.heap.size rfl rfl (by decide) rfl) (by decide) true (by simp)).mono ?_); rintro e a13 ⟨rfl, b⟩)
    have HB13 := Lib.hid (up HB12.out (up (box_new a12 _) b))
    clear b HP12 y0 y1 y2
    go_wp2_with fail
    have HY13 := Lib.hid (HY8.out.later HB13.out)
    have HT13 := Lib.hid (fun (w1 : World) (hb : Below a13.heap.size a13 w1) => HT8.out w1 (up HB13.out hb))
    have SK9 := Lib.hid (fun (w' : World) (hb : Below a13.heap.size a13 w') => And.intro hb (HY13.out.later hb).lie)
    have TH9 := Lib.hid (fun (w1 : World) (hb : Below a13.heap.size a13 w1) => three_at a13 w1 hb)
    have KE := Lib.hid (fun (w1 : World) (v pv rv : Value) (hb : Below a13.heap.size a13 w1) (hk : RdK w1 w1.heap.size v k3) (hp : RdI w1 w1.heap.size pv [2, 1]) (hr : RdC w1 w1.heap.size rv rK) => key_at a13 HT13.out w1 v pv rv hb hk hp hr)
    go_region_held3 (fun w' => Below a13.heap.size a13 w' ∧ (w'.cell? ⟨gy, 0, none⟩ = some (.bool false) ∧ w'.cell? ⟨gy, 1, none⟩ = some (.int .i64 1) ∧ w'.cell? ⟨gy, 2, none⟩ = some (.string ⟨#[]⟩)))
      (first | exact SK9.out _ (Below.refl a13.heap.size a13) | exact SK9.out _ (Below.refl a13.heap.size a13).drew | exact SK9.out _ (up_box (Below.refl a13.heap.size a13) _) | exact SK9.out _ (up_box (Below.refl a13.heap.size a13) _).drew | exact SK9.out _ (up_box (up_box (Below.refl a13.heap.size a13) _) _) | exact SK9.out _ (up_box (up_box (Below.refl a13.heap.size a13) _) _).drew | exact SK9.out _ HA15.out | exact SK9.out _ (up_box (up_box HA14.out _) _) | exact SK9.out _ (up_box HA14.out _) | exact SK9.out _ HA14.out | fail "keep")
      ((first
        | (go_at_call 25; (with_reducible refine (KE.out ((a14.alloc (.cells #[.int .i64 2, .int .i64 1] 3)).alloc (.cells #[.bool false, .int .i64 5, .string ⟨#[]⟩, .bool false, .int .i64 0, .string ⟨#[97]⟩, .bool false, .int .i64 1, .string ⟨#[]⟩] 34)) _ _ _ (up_box (up_box HA14.out _) _) ((HK14.out.later (box_new _ _)).later (box_new _ _)) ((intLit a14 [2, 1] #[.int .i64 2, .int .i64 1] 2 a14.heap.size rfl rfl (by decide) (by simp)).later (box_new _ _)) ((rowLit (a14.alloc (.cells #[.int .i64 2, .int .i64 1] 3)) rK #[.bool false, .int .i64 5, .string ⟨#[]⟩, .bool false, .int .i64 0, .string ⟨#[97]⟩, .bool false, .int .i64 1, .string ⟨#[]⟩] 3 (a14.heap.size + 1) rfl rfl (by decide) (by simp)))).mono ?_); rintro e a15 ⟨rfl, h⟩; have HA15 := Lib.hid h; clear h)
        | (go_at_call 25; (with_reducible refine (KE.out ((a14.alloc (.cells #[.bool false, .int .i64 5, .string ⟨#[]⟩, .bool false, .int .i64 0, .string ⟨#[97]⟩, .bool false, .int .i64 1, .string ⟨#[]⟩] 34)).alloc (.cells #[.int .i64 2, .int .i64 1] 3)) _ _ _ (up_box (up_box HA14.out _) _) ((HK14.out.later (box_new _ _)).later (box_new _ _)) ((intLit (a14.alloc (.cells #[.bool false, .int .i64 5, .string ⟨#[]⟩, .bool false, .int .i64 0, .string ⟨#[97]⟩, .bool false, .int .i64 1, .string ⟨#[]⟩] 34)) [2, 1] #[.int .i64 2, .int .i64 1] 2 (a14.heap.size + 1) rfl rfl (by decide) (by simp))) ((rowLit a14 rK #[.bool false, .int .i64 5, .string ⟨#[]⟩, .bool false, .int .i64 0, .string ⟨#[97]⟩, .bool false, .int .i64 1, .string ⟨#[]⟩] 3 a14.heap.size rfl rfl (by decide) (by simp)).later (box_new _ _))).mono ?_); rintro e a15 ⟨rfl, h⟩; have HA15 := Lib.hid h; clear h)
        | (go_at_call 25; (with_reducible refine (KE.out (a14.alloc (.cells #[.bool false, .int .i64 5, .string ⟨#[]⟩, .bool false, .int .i64 0, .string ⟨#[97]⟩, .bool false, .int .i64 1, .string ⟨#[]⟩] 34)) _ _ _ (up_box HA14.out _) (HK14.out.later (box_new _ _)) (HI14.out.later (box_new _ _)) ((rowLit a14 rK #[.bool false, .int .i64 5, .string ⟨#[]⟩, .bool false, .int .i64 0, .string ⟨#[97]⟩, .bool false, .int .i64 1, .string ⟨#[]⟩] 3 a14.heap.size rfl rfl (by decide) (by simp)))).mono ?_); rintro e a15 ⟨rfl, h⟩; have HA15 := Lib.hid h; clear h)
        | (go_at_call 25; (with_reducible refine (KE.out (a14.alloc (.cells #[.int .i64 2, .int .i64 1] 3)) _ _ _ (up_box HA14.out _) (HK14.out.later (box_new _ _)) ((intLit a14 [2, 1] #[.int .i64 2, .int .i64 1] 2 a14.heap.size rfl rfl (by decide) (by simp))) (HR14.out.later (box_new _ _))).mono ?_); rintro e a15 ⟨rfl, h⟩; have HA15 := Lib.hid h; clear h)
        | (go_at_call 25; (with_reducible refine (KE.out a14 _ _ _ (HA14.out) (HK14.out) (HI14.out) (HR14.out)).mono ?_); rintro e a15 ⟨rfl, h⟩; have HA15 := Lib.hid h; clear h)
        | (go_at_call 30; (with_reducible refine (TH9.out (((a13.alloc (.cells #[.int .i64 2, .int .i64 1] 3)).alloc (.cells #[.bool false, .int .i64 5, .string ⟨#[]⟩, .bool false, .int .i64 0, .string ⟨#[97]⟩, .bool false, .int .i64 1, .string ⟨#[]⟩] 34)).drew) ((up_box (up_box (Below.refl a13.heap.size a13) _) _).drew)).mono ?_); rintro e a14 ⟨t14, u14, rfl, hk, h, b⟩; have HA14 := Lib.hid h; have HK14 := Lib.hid hk; have HI14 := Lib.hid ((drewI ((intLit a13 [2, 1] #[.int .i64 2, .int .i64 1] 2 a13.heap.size rfl rfl (by decide) (by simp)).later (box_new _ _))).later b); have HR14 := Lib.hid ((drewR (rowLit (a13.alloc (.cells #[.int .i64 2, .int .i64 1] 3)) rK #[.bool false, .int .i64 5, .string ⟨#[]⟩, .bool false, .int .i64 0, .string ⟨#[97]⟩, .bool false, .int .i64 1, .string ⟨#[]⟩] 3 (a13.heap.size + 1) rfl rfl (by decide) (by simp))).later b); clear h b hk)
        | (go_at_call 30; (with_reducible refine (TH9.out (((a13.alloc (.cells #[.bool false, .int .i64 5, .string ⟨#[]⟩, .bool false, .int .i64 0, .string ⟨#[97]⟩, .bool false, .int .i64 1, .string ⟨#[]⟩] 34)).alloc (.cells #[.int .i64 2, .int .i64 1] 3)).drew) ((up_box (up_box (Below.refl a13.heap.size a13) _) _).drew)).mono ?_); rintro e a14 ⟨t14, u14, rfl, hk, h, b⟩; have HA14 := Lib.hid h; have HK14 := Lib.hid hk; have HI14 := Lib.hid ((drewI (intLit (a13.alloc (.cells #[.bool false, .int .i64 5, .string ⟨#[]⟩, .bool false, .int .i64 0, .string ⟨#[97]⟩, .bool false, .int .i64 1, .string ⟨#[]⟩] 34)) [2, 1] #[.int .i64 2, .int .i64 1] 2 (a13.heap.size + 1) rfl rfl (by decide) (by simp))).later b); have HR14 := Lib.hid ((drewR ((rowLit a13 rK #[.bool false, .int .i64 5, .string ⟨#[]⟩, .bool false, .int .i64 0, .string ⟨#[97]⟩, .bool false, .int .i64 1, .string ⟨#[]⟩] 3 a13.heap.size rfl rfl (by decide) (by simp)).later (box_new _ _))).later b); clear h b hk)
        | (go_at_call 30; (with_reducible refine (TH9.out ((a13.alloc (.cells #[.int .i64 2, .int .i64 1] 3)).drew) ((up_box (Below.refl a13.heap.size a13) _).drew)).mono ?_); rintro e a14 ⟨t14, u14, rfl, hk, h, b⟩; have HA14 := Lib.hid h; have HK14 := Lib.hid hk; have HI14 := Lib.hid ((drewI (intLit a13 [2, 1] #[.int .i64 2, .int .i64 1] 2 a13.heap.size rfl rfl (by decide) (by simp))).later b); clear h b hk)
        | (go_at_call 30; (with_reducible refine (TH9.out ((a13.alloc (.cells #[.bool false, .int .i64 5, .string ⟨#[]⟩, .bool false, .int .i64 0, .string ⟨#[97]⟩, .bool false, .int .i64 1, .string ⟨#[]⟩] 34)).drew) ((up_box (Below.refl a13.heap.size a13) _).drew)).mono ?_); rintro e a14 ⟨t14, u14, rfl, hk, h, b⟩; have HA14 := Lib.hid h; have HK14 := Lib.hid hk; have HR14 := Lib.hid ((drewR (rowLit a13 rK #[.bool false, .int .i64 5, .string ⟨#[]⟩, .bool false, .int .i64 0, .string ⟨#[97]⟩, .bool false, .int .i64 1, .string ⟨#[]⟩] 3 a13.heap.size rfl rfl (by decide) (by simp))).later b); clear h b hk)
        | (go_at_call 30; (with_reducible refine (TH9.out (a13.drew) ((Below.refl a13.heap.size a13).drew)).mono ?_); rintro e a14 ⟨t14, u14, rfl, hk, h, b⟩; have HA14 := Lib.hid h; have HK14 := Lib.hid hk; clear h b hk)
      ))
    all_goals
      have HB15 := Lib.hid (up HB13.out HA15.out)
      have HN15 := Lib.hid ((HN8.out.later HB15.out).later (box_new a15 (.cells #[.int .i64 2, .int .i64 1] 3)))
      have HY15 := Lib.hid ((HY8.out.later HB15.out).later (box_new a15 (.cells #[.int .i64 2, .int .i64 1] 3)))
      clear SK9 TH9 KE HY13 HT13 HB13 HB12 HB11 HB10 HB9 HA8 HR8 HN8 HY8
      obtain ⟨m0, m1, m2⟩ := HN15.out.lie
      obtain ⟨y0, y1, y2⟩ := HY15.out.lie
      simp only at m0 m1 m2 y0 y1 y2
      go_wp2_with fail
      ((with_reducible refine (unkeys_at _ _ [2, 1] ⟨#[1, 0]⟩ 0 rN _ (HT8.out _ (up_box (up_box HB15.out (.cells #[.int .i64 2, .int .i64 1] 3)) (.cells #[.bool false, .int .i64 1, .string ⟨#[]⟩, .bool true, .int .i64 0, .string ⟨#[]⟩] 34))) ((intLit a15 [2, 1] #[.int .i64 2, .int .i64 1] 2 a15.heap.size rfl rfl (by decide) rfl).later (box_new _ (.cells #[.bool false, .int .i64 1, .string ⟨#[]⟩, .bool true, .int .i64 0, .string ⟨#[]⟩] 34))) (rowLit (a15.alloc (.cells #[.int .i64 2, .int .i64 1] 3)) rN #[.bool false, .int .i64 1, .string ⟨#[]⟩, .bool true, .int .i64 0, .string ⟨#[]⟩] 2 (a15.heap.size + 1) rfl rfl (by decide) (by simp)) (by decide) (by decide) (by kernel_rfl) (0 : Int) rfl).mono ?_); rintro e a16 ⟨rfl, b⟩)
      have HB16 := Lib.hid (up (up_box (up_box HB15.out (.cells #[.int .i64 2, .int .i64 1] 3)) (.cells #[.bool false, .int .i64 1, .string ⟨#[]⟩, .bool true, .int .i64 0, .string ⟨#[]⟩] 34)) b)
      clear b
      go_wp2_with fail
      ((with_reducible refine (unkeys_at _ _ [2, 1] ⟨#[1, 0, 0]⟩ 30 [] _ (HT8.out _ (up_box HB16.out (.cells #[.int .i64 2, .int .i64 1] 3))) (intLit a16 [2, 1] #[.int .i64 2, .int .i64 1] 2 a16.heap.size rfl rfl (by decide) rfl) (rdC_nil _) (by decide) (by decide) (by kernel_rfl) (30 : Int) rfl).mono ?_); rintro e a17 ⟨rfl, b⟩)
      have HB17 := Lib.hid (up (up_box HB16.out (.cells #[.int .i64 2, .int .i64 1] 3)) b)
      clear b
      go_wp2_with fail
      ((with_reducible refine (unkeys_at _ _ [2, 1] ⟨#[1, 2]⟩ 4 [] _ (HT8.out _ (up_box HB17.out (.cells #[.int .i64 2, .int .i64 1] 3))) (intLit a17 [2, 1] #[.int .i64 2, .int .i64 1] 2 a17.heap.size rfl rfl (by decide) rfl) (rdC_nil _) (by decide) (by decide) (by kernel_rfl) (4 : Int) rfl).mono ?_); rintro e a18 ⟨rfl, b⟩)
      have HB18 := Lib.hid (up (up_box HB17.out (.cells #[.int .i64 2, .int .i64 1] 3)) b)
      clear b
      go_wp2_with fail
      ((with_reducible refine (unkeys_at _ _ [3] ⟨#[]⟩ 6 [] _ (HT8.out _ (up_box HB18.out (.cells #[.int .i64 3] 3))) (intLit a18 [3] #[.int .i64 3] 1 a18.heap.size rfl rfl (by decide) rfl) (rdC_nil _) (by decide) (by decide) (by kernel_rfl) (6 : Int) rfl).mono ?_); rintro e a19 ⟨rfl, b⟩)
      have HB19 := Lib.hid (up (up_box HB18.out (.cells #[.int .i64 3] 3)) b)
      clear b
      go_wp2_with fail
      go_ret
      exact ⟨rfl, up HB8.out HB19.out⟩
end Go.Proofs.YtfplogjdcndohaaGreatDoor
