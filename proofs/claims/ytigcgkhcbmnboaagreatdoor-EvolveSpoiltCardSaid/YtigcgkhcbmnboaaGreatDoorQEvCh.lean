/- QEvCh. -/
import Derived.Test.YtigcgkhcbmnboaaGreatDoorQEvd
import Derived.Test.YtigcgkhcbmnboaaGreatDoorQEva
/- The law's seeds of chains: chain. -/
namespace Go.Proofs.YtigcgkhcbmnboaaGreatDoor
open Go.RowKit Go.Sort
set_option linter.unusedVariables false
set_option linter.unusedSimpArgs false
set_option maxRecDepth 100000


def v3c (x : Ev.V3) : List Value := [.int .i64 x.a, .int .i64 x.b, .int .i64 x.c]
def RdV (w : World) (B : Nat) (v : Value) (l : List Ev.V3) : Prop := Gn.Rd v3c 3 w B v l
/-- The chain's first version, or the one that is the last so far, in its variable. -/
structure QW (w : World) (cv vv : Value) (gs : Nat) (sv kv : Value) (s : List Co) (W : World) : Prop where
  x : Blk W w.heap.size 45 [cv, vv]
  sb : Blk W gs 25 [sv, kv]
  oc : OwnK W w.heap.size sv s
  ok : OwnI W w.heap.size kv [0]
  b : Below w.heap.size w W
  g : w.heap.size < gs
theorem QW.later {w W W' : World} {cv vv : Value} {gs : Nat} {sv kv : Value} {s : List Co} (h : QW w cv vv gs sv kv s W) (hb : Below W.heap.size W W') : QW w cv vv gs sv kv s W' :=
  ⟨h.x.later hb, h.sb.later hb, Gn.Own.later h.oc hb, Gn.Own.later h.ok hb, up h.b hb, h.g⟩
theorem QW.app {w W W' : World} {cv vv : Value} {gs : Nat} {sv kv v : Value} {s s' : List Co} (h : QW w cv vv gs sv kv s W) (ho : OwnK W' w.heap.size v s') (hg : W.grownBy W' sv.ownBlock) :
    Blk W' gs 25 [sv, kv] ∧ QW w cv vv gs v kv s' (W'.setCell ⟨gs, 0, none⟩ v) := by
  have h3 : Blk W' gs 25 [sv, kv] := h.sb.app2 hg h.oc (by decide)
  have hk := Gn.Own.kept h.ok hg (own_apart2 h.ok h.oc (by decide))
  have hgs := h.g
  refine ⟨h3, (h.x.app2 hg h.oc (by decide)).far (by simp only; omega) v, Blk.put h3 0 v, own_oth ho (p := ⟨gs, 0, none⟩) (blkS_ne ho h3 (by decide)) v, own_oth hk (p := ⟨gs, 0, none⟩) (blkS_ne hk h3 (by decide)) v, ?_, h.g⟩
  exact (h.b.trans (Gn.below_of_own h.oc hg h.b.size)).setCell (by simp only; omega) v
theorem own_tch3 {α : Type} {enc : α → List Value} {k : Nat} {T : TypeId} {S : Nat → Prop} {w w' : World} {B : Nat} {v : Value} {l : List α} (h : Gn.Own enc k T w B v l) (ht : Touch S w w') (hn : ∀ g, v.ownBlock = some g → ¬ S g) : Gn.Own enc k T w' B v l := by
  obtain ⟨h0, h1⟩ := h
  refine ⟨h0, ?_⟩
  rcases h1 with h1 | ⟨g, cap, cur, rfl, hg, hh, r⟩
  · exact .inl h1
  · have hlt : g < w.heap.size := by
      rcases Nat.lt_or_ge g w.heap.size with hlt | hge
      · exact hlt
      · rw [Array.getElem?_eq_none hge] at hh; cases hh
    exact .inr ⟨g, cap, cur, rfl, hg, (ht.block g hlt (hn g rfl)).trans hh, r⟩
theorem own_frmE {α : Type} {enc : α → List Value} {k : Nat} {T : TypeId} {W : World} {B : Nat} {v : Value} {l : List α} (h : Gn.Own enc k T W B v l) : ∃ (a : Option Addr) (c : Nat), v = .slice a l.length c := by
  rcases h.2 with ⟨rfl, hn⟩ | ⟨g, cap, cur, rfl, _⟩
  · exact ⟨none, 0, by rw [hn]⟩
  · exact ⟨_, _, rfl⟩
theorem QW.touch {w W W' : World} {cv vv : Value} {gs gb : Nat} {sv kv : Value} {s : List Co} (h : QW w cv vv gs sv kv s W) (ht : Touch (fun q => q = gb) W W') (h1 : gs < gb) (h2 : ∀ g, sv.ownBlock = some g → g < gb) (h3 : ∀ g, kv.ownBlock = some g → g < gb) : QW w cv vv gs sv kv s W' := by
  have hg := h.g
  exact ⟨h.x.touch ht (by show ¬ _ = gb; omega), h.sb.touch ht (by show ¬ _ = gb; omega), own_tch3 h.oc ht (fun g hg e => by have := h2 g hg; have e : g = gb := e; omega), own_tch3 h.ok ht (fun g hg e => by have := h3 g hg; have e : g = gb := e; omega), h.b.trans (ht.below h.b.size (fun q hq => by have hq : q = gb := hq; omega)), hg⟩
/-- Between two versions. -/
structure CW (w : World) (cv vv : Value) (gs : Nat) (sv kv : Value) (s : List Co) (ov : Value) (L : List Sx) (W : World) : Prop where
  q : QW w cv vv gs sv kv s W
  el : ∀ y ∈ L, OwnK W w.heap.size y.v y.s.1 ∧ OwnI W w.heap.size y.kv y.s.2
  oo : Gn.Own sxc 2 25 W w.heap.size ov L
  ne : ∀ g, ov.ownBlock = some g → g ≠ gs
theorem CW.later {w W W' : World} {cv vv : Value} {gs : Nat} {sv kv : Value} {s : List Co} {ov : Value} {L : List Sx} (h : CW w cv vv gs sv kv s ov L W) (hb : Below W.heap.size W W') : CW w cv vv gs sv kv s ov L W' :=
  ⟨h.q.later hb, fun y hy => ⟨Gn.Own.later (h.el y hy).1 hb, Gn.Own.later (h.el y hy).2 hb⟩, Gn.Own.later h.oo hb, h.ne⟩
theorem CW.start {w W : World} {cv vv : Value} {gs sc kc n : Nat} {sa ka : Option Addr} {s : List Co} (h : QW w cv vv gs (.slice sa n sc) (.slice ka 1 kc) s W) (hn : s.length = n) :
    CW w cv vv gs (.slice sa n sc) (.slice ka 1 kc) s (.slice (some ⟨W.heap.size, 0, none⟩) 1 1) [⟨sa, sc, ka, kc, (s, [0])⟩] (W.alloc (.cells #[.slice sa n sc, .slice ka 1 kc] 25)) := by
  subst hn
  have hb := box_new W (.cells #[.slice sa s.length sc, .slice ka 1 kc] 25)
  refine ⟨h.later hb, fun y hy => ?_, Gn.Own.lit sxL W w.heap.size [⟨sa, sc, ka, kc, (s, [0])⟩] _ 1 1 rfl rfl rfl (by simp [maxLen]) h.b.size, fun g hg e => ?_⟩
  · simp at hy
    subst hy
    exact ⟨Gn.Own.later h.oc hb, Gn.Own.later h.ok hb⟩
  · have := h.sb.lt
    have hg : some W.heap.size = some g := hg
    injection hg with hg
    omega
/-- The next version, while it is made. -/
structure NW (W0 : World) (gn : Nat) (nv nk : Value) (s : List Co) (u : World) : Prop where
  sb : Blk u gn 25 [nv, nk]
  oc : OwnK u W0.heap.size nv s
  ok : OwnI u W0.heap.size nk [0]
  b : Below W0.heap.size W0 u
  g : W0.heap.size ≤ gn
theorem NW.later {W0 : World} {gn : Nat} {nv nk : Value} {s : List Co} {u u' : World} (h : NW W0 gn nv nk s u) (hb : Below u.heap.size u u') : NW W0 gn nv nk s u' :=
  ⟨h.sb.later hb, Gn.Own.later h.oc hb, Gn.Own.later h.ok hb, up h.b hb, h.g⟩
theorem NW.app {W0 : World} {gn : Nat} {nv nk v : Value} {s s' : List Co} {u u' : World} (h : NW W0 gn nv nk s u) (ho : OwnK u' W0.heap.size v s') (hg : u.grownBy u' nv.ownBlock) :
    Blk u' gn 25 [nv, nk] ∧ NW W0 gn v nk s' (u'.setCell ⟨gn, 0, none⟩ v) := by
  have h3 : Blk u' gn 25 [nv, nk] := h.sb.app2 hg h.oc (by decide)
  have hk := Gn.Own.kept h.ok hg (own_apart2 h.ok h.oc (by decide))
  have hgs := h.g
  exact ⟨h3, Blk.put h3 0 v, own_oth ho (p := ⟨gn, 0, none⟩) (blkS_ne ho h3 (by decide)) v, own_oth hk (p := ⟨gn, 0, none⟩) (blkS_ne hk h3 (by decide)) v, (h.b.trans (Gn.below_of_own h.oc hg h.b.size)).setCell hgs v, h.g⟩
theorem NW.touch {W0 : World} {gn gb : Nat} {nv nk : Value} {s : List Co} {u u' : World} (h : NW W0 gn nv nk s u) (ht : Touch (fun q => q = gb) u u') (h1 : gn < gb) (h2 : ∀ g, nv.ownBlock = some g → g < gb) (h3 : ∀ g, nk.ownBlock = some g → g < gb) : NW W0 gn nv nk s u' := by
  have hg := h.g
  exact ⟨h.sb.touch ht (by show ¬ _ = gb; omega), own_tch3 h.oc ht (fun g hg e => by have := h2 g hg; have e : g = gb := e; omega), own_tch3 h.ok ht (fun g hg e => by have := h3 g hg; have e : g = gb := e; omega), h.b.trans (ht.below h.b.size (fun q hq => by have hq : q = gb := hq; omega)), hg⟩
theorem NW.start (W0 : World) : NW W0 (W0.heap.size + 1) (.slice none 0 0) (.slice (some ⟨W0.heap.size, 0, none⟩) 1 1) [] ((W0.alloc (.cells #[.int .i64 0] 3)).alloc (.cells #[.slice none 0 0, .slice (some ⟨W0.heap.size, 0, none⟩) 1 1] 25)) := by
  refine ⟨?_, Gn.Own.nil _ _, ?_, up_box (box_new _ _) _, by omega⟩
  · have := Blk.new (W0.alloc (.cells #[.int .i64 0] 3)) 25 #[.slice none 0 0, .slice (some ⟨W0.heap.size, 0, none⟩) 1 1]
    rw [show (W0.alloc (.cells #[.int .i64 0] 3)).heap.size = W0.heap.size + 1 by simp] at this
    exact this
  · exact Gn.Own.later (Gn.Own.lit inL W0 W0.heap.size [0] #[.int .i64 0] 1 1 rfl rfl rfl (by simp [maxLen]) (Nat.le_refl _)) (box_new _ _)
theorem rdV_cells {W w : World} {B n c : Nat} {ad : Option Addr} {l : List Ev.V3} (h : RdV W B (.slice ad n c) l) (hb : Below B W w) {i : Nat} {x : Ev.V3} (hi : l[i]? = some x) :
    ∃ b off, ad = some ⟨b, off, none⟩ ∧ w.cell? ⟨b, off + i * 3, none⟩ = some (.int .i64 x.a) ∧ w.cell? ⟨b, off + i * 3 + 1, none⟩ = some (.int .i64 x.b) ∧ w.cell? ⟨b, off + i * 3 + 2, none⟩ = some (.int .i64 x.c) := by
  obtain ⟨hl, e⟩ := List.getElem?_eq_some_iff.1 hi
  obtain ⟨b, off, rfl, _, hc⟩ := Gn.Rd.at h hb hl
  rw [e] at hc
  exact ⟨b, off, rfl, hc 0 _ rfl, hc 1 _ rfl, hc 2 _ rfl⟩
theorem CW.next {w u : World} {cv vv : Value} {gs B : Nat} {sv kv nv nk : Value} {s s' : List Co} {ov : Value} {L : List Sx} (h : CW w cv vv gs sv kv s ov L u) (oc : OwnK u B nv s') (ok : OwnI u B nk [0]) (hB : w.heap.size ≤ B) :
    CW w cv vv gs nv nk s' ov L ((u.setCell ⟨gs, 0, none⟩ nv).setCell ⟨gs, 1, none⟩ nk) := by
  have hb := h.q.sb
  have hg := h.q.g
  have e : ∀ {α : Type} {enc : α → List Value} {k : Nat} {T : TypeId} {B : Nat} {v : Value} {l : List α}, Gn.Own enc k T u B v l → (∀ g, v.ownBlock = some g → g ≠ gs) → Gn.Own enc k T ((u.setCell ⟨gs, 0, none⟩ nv).setCell ⟨gs, 1, none⟩ nk) B v l := fun ho hn => own_oth (own_oth ho (p := ⟨gs, 0, none⟩) hn nv) (p := ⟨gs, 1, none⟩) hn nk
  refine ⟨⟨(h.q.x.far (by simp only; omega) nv).far (by simp only; omega) nk, Blk.put (Blk.put hb 0 nv) 1 nk, Gn.Own.lower (e oc (blkS_ne oc hb (by decide))) hB, Gn.Own.lower (e ok (blkS_ne ok hb (by decide))) hB, (h.q.b.setCell (by simp only; omega) nv).setCell (by simp only; omega) nk, hg⟩, fun y hy => ⟨e (h.el y hy).1 (blkS_ne (h.el y hy).1 hb (by decide)), e (h.el y hy).2 (blkS_ne (h.el y hy).2 hb (by decide))⟩, e h.oo h.ne, h.ne⟩
theorem CW.push {w u u' : World} {cv vv : Value} {gs sc kc : Nat} {sa ka : Option Addr} {s : List Co} {ov v : Value} {L : List Sx} (h : CW w cv vv gs (.slice sa s.length sc) (.slice ka 1 kc) s ov L u) (ho : Gn.Own sxc 2 25 u' w.heap.size v (L ++ [⟨sa, sc, ka, kc, (s, [0])⟩])) (hg : u.grownBy u' ov.ownBlock) (hl : v.ownBlock = ov.ownBlock ∨ v.ownBlock = some u.heap.size) :
    CW w cv vv gs (.slice sa s.length sc) (.slice ka 1 kc) s v (L ++ [⟨sa, sc, ka, kc, (s, [0])⟩]) u' := by
  have hgs := h.q.sb.lt
  have hx : Blk u' w.heap.size 45 [cv, vv] := h.q.x.app2 hg h.oo (by decide)
  have hs : Blk u' gs 25 [.slice sa s.length sc, .slice ka 1 kc] := (hg.block gs hgs (fun e => h.ne gs e.symm rfl)).trans h.q.sb
  have ek : ∀ {B : Nat} {v : Value} {l : List Co}, OwnK u B v l → OwnK u' B v l := fun ho => Gn.Own.kept ho hg (own_apart2 ho h.oo (by decide))
  have ei : ∀ {B : Nat} {v : Value} {l : List Int}, OwnI u B v l → OwnI u' B v l := fun ho => Gn.Own.kept ho hg (own_apart2 ho h.oo (by decide))
  refine ⟨⟨hx, hs, ek h.q.oc, ei h.q.ok, h.q.b.trans (Gn.below_of_own h.oo hg h.q.b.size), h.q.g⟩, fun y hy => ?_, ho, fun g e => ?_⟩
  · rcases List.mem_append.1 hy with hy | hy
    · exact ⟨ek (h.el y hy).1, ei (h.el y hy).2⟩
    · simp at hy
      subst hy
      exact ⟨ek h.q.oc, ei h.q.ok⟩
  · rcases hl with hl | hl
    · exact h.ne g (hl ▸ e)
    · rw [hl] at e
      injection e with e
      omega
theorem i64_and1E (n : Int) : bits .and .i64 n 1 = n % 2 := by
  have h127 : (BitVec.ofInt 64 1).toNat = 2 ^ 1 - 1 := by decide
  have key : (BitVec.ofInt 64 n &&& BitVec.ofInt 64 1).toNat = (n % ((2 ^ 64 : Nat) : Int)).toNat % 2 ^ 1 := by
    rw [BitVec.toNat_and, BitVec.toNat_ofInt, h127, Nat.and_two_pow_sub_one_eq_mod]
  show IntKind.i64.wrap ((BitVec.ofInt 64 n &&& BitVec.ofInt 64 1).toNat : Nat) = n % 2
  rw [key, IntKind.wrap_i64]
  omega
theorem bitE (G q : Nat) : (bits BinOp.and IntKind.i64 ((G : Int) / 2 ^ q) 1 == 1) = Ev.bit G q := by
  rw [i64_and1E]
  unfold Ev.bit
  have e : ((G : Int) / 2 ^ q) = ((G / 2 ^ q : Nat) : Int) := by rw [Int.natCast_ediv]; norm_cast
  rw [e]
  by_cases h : G / 2 ^ q % 2 = 1
  · have h2 : ((G / 2 ^ q : Nat) : Int) % 2 = 1 := by omega
    rw [h2]; simp [h]
  · have h2 : ((G / 2 ^ q : Nat) : Int) % 2 = 0 := by omega
    rw [h2]; simp [h]
/-- What chain answers, in memory. -/
def ChPost (w : World) (l : List Ev.Sm) (e : Ending) (w' : World) : Prop := ∃ v L, e = .returned v ∧ RdSm w' w'.heap.size v L ∧ sms L = l ∧ Below w.heap.size w w'
theorem start_q (w : World) (cv vv : Value) : QW w cv vv (w.heap.size + 1 + 1 + 1 + 1) (.slice (some ⟨w.heap.size + 1 + 1, 0, none⟩) 1 1) (.slice (some ⟨w.heap.size + 1 + 1 + 1, 0, none⟩) 1 1) [Ev.key0]
    (((((w.alloc (.cells #[cv, vv] 45)).alloc (.cells #[.int .i64 1, .string ⟨#[107]⟩, .int .i64 2, .bool false, .bool false, .int .i64 0, .string ⟨#[]⟩] 63)).alloc (.cells #[.int .i64 1, .string ⟨#[107]⟩, .int .i64 2, .bool false, .bool false, .int .i64 0, .string ⟨#[]⟩] 63)).alloc (.cells #[.int .i64 0] 3)).alloc (.cells #[.slice (some ⟨w.heap.size + 1 + 1, 0, none⟩) 1 1, .slice (some ⟨w.heap.size + 1 + 1 + 1, 0, none⟩) 1 1] 25)) := by
  have e1 : ∀ (u : World) (o : Obj), (u.alloc o).heap.size = u.heap.size + 1 := fun u o => by simp
  refine ⟨?_, ?_, ?_, ?_, ?_, by omega⟩
  · exact ((((Blk.new w _ _).later (box_new _ _)).later (box_new _ _)).later (box_new _ _)).later (box_new _ _)
  · have := Blk.new ((((w.alloc (.cells #[cv, vv] 45)).alloc (.cells #[.int .i64 1, .string ⟨#[107]⟩, .int .i64 2, .bool false, .bool false, .int .i64 0, .string ⟨#[]⟩] 63)).alloc (.cells #[.int .i64 1, .string ⟨#[107]⟩, .int .i64 2, .bool false, .bool false, .int .i64 0, .string ⟨#[]⟩] 63)).alloc (.cells #[.int .i64 0] 3)) 25 #[.slice (some ⟨w.heap.size + 1 + 1, 0, none⟩) 1 1, .slice (some ⟨w.heap.size + 1 + 1 + 1, 0, none⟩) 1 1]
    simp only [e1] at this
    exact this
  · have : OwnK _ w.heap.size _ [Ev.key0] := Gn.Own.lower (Gn.Own.later (Gn.Own.later (Gn.Own.lit coL ((w.alloc (.cells #[cv, vv] 45)).alloc (.cells #[.int .i64 1, .string ⟨#[107]⟩, .int .i64 2, .bool false, .bool false, .int .i64 0, .string ⟨#[]⟩] 63)) w.heap.size [Ev.key0] #[.int .i64 1, .string ⟨#[107]⟩, .int .i64 2, .bool false, .bool false, .int .i64 0, .string ⟨#[]⟩] 1 1 rfl rfl rfl (by simp [maxLen]) (by simp only [e1]; omega)) (box_new _ (.cells #[.int .i64 0] 3))) (box_new _ (.cells #[.slice (some ⟨w.heap.size + 1 + 1, 0, none⟩) 1 1, .slice (some ⟨w.heap.size + 1 + 1 + 1, 0, none⟩) 1 1] 25))) (Nat.le_refl _)
    simp only [e1] at this
    exact this
  · have : OwnI _ w.heap.size _ [0] := Gn.Own.later (Gn.Own.lit inL (((w.alloc (.cells #[cv, vv] 45)).alloc (.cells #[.int .i64 1, .string ⟨#[107]⟩, .int .i64 2, .bool false, .bool false, .int .i64 0, .string ⟨#[]⟩] 63)).alloc (.cells #[.int .i64 1, .string ⟨#[107]⟩, .int .i64 2, .bool false, .bool false, .int .i64 0, .string ⟨#[]⟩] 63)) w.heap.size [0] #[.int .i64 0] 1 1 rfl rfl rfl (by simp [maxLen]) (by simp only [e1]; omega)) (box_new _ (.cells #[.slice (some ⟨w.heap.size + 1 + 1, 0, none⟩) 1 1, .slice (some ⟨w.heap.size + 1 + 1 + 1, 0, none⟩) 1 1] 25))
    simp only [e1] at this
    exact this
  · exact up_box (up_box (up_box (up_box (box_new _ _) _) _) _) _
set_option maxHeartbeats 16000000 in
theorem lChain (cv vv : Value) (C : List Int) (V : List Ev.V3) (w : World) (hC : RdI w w.heap.size cv C) (hV : RdV w w.heap.size vv V) (hci : ∀ x ∈ C, Cl.I64 x) (hvi : ∀ x ∈ V, Cl.I64 x.a ∧ Cl.I64 x.b ∧ Cl.I64 x.c) :
    Calls Tryz.prog 27 #[.agg #[cv, vv]] w fun e w' => ChPost w (Ev.mkch C V) e w' := by
  have hcl := Gn.Rd.len' hC
  have hvl := Gn.Rd.len' hV
  have HC := Lib.hid hC
  have HV := Lib.hid hV
  have HCI := Lib.hid hci
  have HVI := Lib.hid hvi
  obtain ⟨ca, cc, rfl, _⟩ := Gn.Rd.form hC
  obtain ⟨va, vc, rfl, _⟩ := Gn.Rd.form hV
  clear hC hV hci hvi
  have HQ := Lib.hid (start_q w (.slice ca C.length cc) (.slice va V.length vc))
  go_enter Tryz.func27, Tryz.ntmps27
  go_upto_block 0 with fail
  generalize (((((w.alloc (.cells #[.slice ca C.length cc, .slice va V.length vc] 45)).alloc (.cells #[.int .i64 1, .string ⟨#[107]⟩, .int .i64 2, .bool false, .bool false, .int .i64 0, .string ⟨#[]⟩] 63)).alloc (.cells #[.int .i64 1, .string ⟨#[107]⟩, .int .i64 2, .bool false, .bool false, .int .i64 0, .string ⟨#[]⟩] 63)).alloc (.cells #[.int .i64 0] 3)).alloc (.cells #[.slice (some ⟨w.heap.size + 1 + 1, 0, none⟩) 1 1, .slice (some ⟨w.heap.size + 1 + 1 + 1, 0, none⟩) 1 1] 25)) = W0 at *
  obtain ⟨gs, hgs⟩ : ∃ g, w.heap.size + 1 + 1 + 1 + 1 = g := ⟨_, rfl⟩
  rw [hgs] at HQ
  simp only [hgs]
  obtain ⟨sv0, hsv0⟩ : ∃ v, (Value.slice (some ⟨w.heap.size + 1 + 1, 0, none⟩) 1 1) = v := ⟨_, rfl⟩
  obtain ⟨kv0, hkv0⟩ : ∃ v, (Value.slice (some ⟨w.heap.size + 1 + 1 + 1, 0, none⟩) 1 1) = v := ⟨_, rfl⟩
  rw [hsv0, hkv0] at HQ
  clear hgs hsv0 hkv0
  go_cut [5, 6, 7] from 22 to 54 (fun d i u wx => d = .int .i64 (1 + (min C.length 6 : Nat)) ∧ Hid (∃ sv, QW w (.slice ca C.length cc) (.slice va V.length vc) gs sv kv0 (Ev.base C (min C.length 6)) wx))
  case first =>
    go_wp2_with fail
    go_loopw [5, 6] (fun d i wr => ∃ (k : Nat) (sv : Value), k ≤ min C.length 6 ∧ d = .int .i64 (1 + (k : Nat)) ∧ i = .int .i64 (k : Nat) ∧ Hid (QW w (.slice ca C.length cc) (.slice va V.length vc) gs sv kv0 (Ev.base C k) wr)) (fun _ i _ => min C.length 6 - (intOf i).toNat)
    case atStart => exact ⟨0, sv0, by omega, by rfl, by rfl, HQ⟩
    case round =>
      obtain ⟨k, sv, hk, rfl, rfl, HQK⟩ := hrel
      have q0 := HQK.out.x.cell 0
      simp only [List.getElem?_cons_succ, List.getElem?_cons_zero] at q0
      by_cases hlt : k < min C.length 6
      · have hlt1 : (k : Int) < C.length := by omega
        have hlt2 : (k : Int) < 6 := by omega
        obtain ⟨z, hz⟩ : ∃ z, C[k]? = some z := ⟨_, List.getElem?_eq_getElem (by omega)⟩
        obtain ⟨gc, oc, rfl, p0⟩ := rdI_cell HC.out HQK.out.b hz
        have HKI := Lib.hid (fun w1 => lKind z (HCI.out z (List.mem_of_getElem? hz)) w1)
        have HBS : Hid (Ev.base C (k + 1) = Ev.base C k ++ [Ev.kcol z ((k : Int) + 2) (Ev.cn k)]) := Lib.hid (by
          show Ev.base C k ++ [Ev.kcol (C.getD k 0) _ _] = _
          rw [List.getD_eq_getElem?_getD, hz]; rfl)
        have HSL : Hid (∀ w1 : World, (Instr.slice 9 (.string ⟨#[97, 98, 99, 100, 101, 102]⟩) (some (.int .i64 (k : Nat))) (some (.int .i64 ((k : Int) + 1))) none).run Tryz.prog w1 = .ok (.string ((⟨#[97, 98, 99, 100, 101, 102]⟩ : ByteArray).extract k (k + 1))) w1) := Lib.hid (fun w1 => by
          rw [run_slice_string w1 9 _ .i64 .i64 _ _ Tryz.underlying9 (by omega) (by omega) (by show _ ≤ ((6 : Nat) : Int); omega)]
          rw [show ((k : Nat) : Int).toNat = k by omega, show ((k : Int) + 1).toNat = k + 1 by omega])
        obtain ⟨K, U, D, hkc⟩ : ∃ K U D, ∀ id nm, Ev.kcol z id nm = ⟨id, nm, K, U, D⟩ := ⟨_, _, _, fun _ _ => rfl⟩
        rw [hkc] at HKI HBS
        obtain ⟨da, dn, ds⟩ := D
        unfold kov at HKI
        simp only at HKI
        clear hz hkc
        have e7 : IntKind.i64.wrap (1 + (k : Int) + 1) = (k : Int) + 2 := by rw [IntWalk.i64_in _ ⟨by omega, by omega⟩]; omega
        have e8 : IntKind.i64.wrap ((k : Int) + 1) = (k : Int) + 1 := by rw [IntWalk.i64_in _ ⟨by omega, by omega⟩]
        go_wp2_with fail
        ((with_reducible refine (HKI.out wr).mono ?_); rintro e wa ⟨rfl, b⟩)
        have b2 := Below.trans b ((box_new wa (.cells #[.int .i64 0, .string ⟨#[]⟩, .int .i64 K, .bool U, .bool da, .int .i64 dn, .string ds] 63)).mono b.size)
        have HQ2 := Lib.hid (HQK.out.later b2)
        have HNE : Hid (gs < wa.heap.size ∧ (∀ g, sv.ownBlock = some g → g < wa.heap.size) ∧ (∀ g, kv0.ownBlock = some g → g < wa.heap.size)) := Lib.hid ⟨by have := HQK.out.sb.lt; have := b.size; omega, fun g hg => by have := (HQK.out.oc.lt g hg).2; have := b.size; omega, fun g hg => by have := (HQK.out.ok.lt g hg).2; have := b.size; omega⟩
        have HB0 := Lib.hid (Blk.new wa 63 #[.int .i64 0, .string ⟨#[]⟩, .int .i64 K, .bool U, .bool da, .int .i64 dn, .string ds])
        clear b b2 HQK q0 p0 HKI
        go_upto_region 9 with fail
        obtain ⟨gb, hgb⟩ : ∃ g, wa.heap.size = g := ⟨_, rfl⟩
        simp only [hgb] at HB0 HNE ⊢
        generalize wa.alloc (.cells #[.int .i64 0, .string ⟨#[]⟩, .int .i64 K, .bool U, .bool da, .int .i64 dn, .string ds] 63) = wb at *
        refine region_growI_merge (fun u v => Touch (fun q => q = gb) u v) (fun d u => Blk u gb 63 [bif d 7 then .int .i64 ((k : Int) + 2) else .int .i64 0, bif d 9 then .string (Ev.cn k) else .string ⟨#[]⟩, .int .i64 K, .bool U, .bool da, .int .i64 dn, .string ds]) (fun _ _ _ => True) (fun u => Touch.refl _ _) (fun _ _ _ h k => h.trans k (fun _ h => .inl h)) (kjI #[Spc.eq (.int .i64 ((k : Int) + 2)), Spc.eq (.int .i64 (k : Int)), Spc.eq (.int .i64 (k : Int)), Spc.eq (.int .i64 ((k : Int) + 1)), Spc.eq (.string ((⟨#[97, 98, 99, 100, 101, 102]⟩ : ByteArray).extract k (k + 1))), Spc.eq (.string (Ev.cn k)), Spc.eq (.pointer (some ⟨gb, 0, none⟩)), Spc.any, Spc.eq (.pointer (some ⟨gb, 1, none⟩)), Spc.any]) [41, 42, 43, 44, 45, 46, 47, 48] (fun ts W => Blk W gb 63 [.int .i64 ((k : Int) + 2), .string (Ev.cn k), .int .i64 K, .bool U, .bool da, .int .i64 dn, .string ds] ∧ Touch (fun q => q = gb) wb.drew W) (by kernel_rfl) (by kernel_rfl) (by kernel_rfl) kjI_later (HB0.out.later (Below.refl _ _).drew) ?_ ?_ ?_
        · intro QQ fd jo o a w1 ho hfd hdd hI hb hs hold hdep
          have hjo : jo < 10 := (Array.getElem?_eq_some_iff.1 ho).1
          skip
          have e5 : a.eval (.tmp 5) = .int .i64 ((k : Int) + 2) := by
            show a.tmps.getD 5 undef = _
            rw [Array.getD_eq_getD_getElem?, hold 5 (by decide +kernel)]; rfl
          have e6 : a.eval (.tmp 6) = .int .i64 (k : Int) := by
            show a.tmps.getD 6 undef = _
            rw [Array.getD_eq_getD_getElem?, hold 6 (by decide +kernel)]; rfl
          have e7 : a.eval (.tmp 7) = .pointer (some ⟨gb, 0, none⟩) := by
            show a.tmps.getD 7 undef = _
            rw [Array.getD_eq_getD_getElem?, hold 7 (by decide +kernel)]; rfl
          have ec : ∀ v, a.eval (.const v) = v := fun _ => rfl
          clear hold hs
          rcases (show jo = 0 ∨ jo = 1 ∨ jo = 2 ∨ jo = 3 ∨ jo = 4 ∨ jo = 5 ∨ jo = 6 ∨ jo = 7 ∨ jo = 8 ∨ jo = 9 by omega) with rfl | rfl | rfl | rfl | rfl | rfl | rfl | rfl | rfl | rfl
          · have ho2 := ho; simp only [List.getElem?_toArray, List.getElem?_cons_succ, List.getElem?_cons_zero, Option.some.injEq] at ho2; subst ho2
            refine growI_val (I := (fun d u => Blk u gb 63 [bif d 7 then .int .i64 ((k : Int) + 2) else .int .i64 0, bif d 9 then .string (Ev.cn k) else .string ⟨#[]⟩, .int .i64 K, .bool U, .bool da, .int .i64 dn, .string ds])) (X := (fun _ _ _ => True)) (d := fd) (a := a) (w := w1) (.int .i64 ((k : Int) + 2)) w1 ho rfl ?_ ((fun u => Touch.refl _ _) w1) hI trivial rfl
            unfold execOp
            simp only [List.map_toArray, List.map_cons, List.map_nil, e5, ec]
            first | rfl | (go_simp; done) | (go_simp; rfl) | (go_simp; omega)
          · have ho2 := ho; simp only [List.getElem?_toArray, List.getElem?_cons_succ, List.getElem?_cons_zero, Option.some.injEq] at ho2; subst ho2
            refine growI_val (I := (fun d u => Blk u gb 63 [bif d 7 then .int .i64 ((k : Int) + 2) else .int .i64 0, bif d 9 then .string (Ev.cn k) else .string ⟨#[]⟩, .int .i64 K, .bool U, .bool da, .int .i64 dn, .string ds])) (X := (fun _ _ _ => True)) (d := fd) (a := a) (w := w1) (.int .i64 (k : Int)) w1 ho rfl ?_ ((fun u => Touch.refl _ _) w1) hI trivial rfl
            unfold execOp
            simp only [List.map_toArray, List.map_cons, List.map_nil, e6, ec]
            first | rfl | (go_simp; done) | (go_simp; rfl) | (go_simp; omega)
          · have ho2 := ho; simp only [List.getElem?_toArray, List.getElem?_cons_succ, List.getElem?_cons_zero, Option.some.injEq] at ho2; subst ho2
            refine growI_val (I := (fun d u => Blk u gb 63 [bif d 7 then .int .i64 ((k : Int) + 2) else .int .i64 0, bif d 9 then .string (Ev.cn k) else .string ⟨#[]⟩, .int .i64 K, .bool U, .bool da, .int .i64 dn, .string ds])) (X := (fun _ _ _ => True)) (d := fd) (a := a) (w := w1) (.int .i64 (k : Int)) w1 ho rfl ?_ ((fun u => Touch.refl _ _) w1) hI trivial rfl
            unfold execOp
            simp only [List.map_toArray, List.map_cons, List.map_nil, e6, ec]
            first | rfl | (go_simp; done) | (go_simp; rfl) | (go_simp; omega)
          · have ho2 := ho; simp only [List.getElem?_toArray, List.getElem?_cons_succ, List.getElem?_cons_zero, Option.some.injEq] at ho2; subst ho2
            have d0 : a.eval (.tmp 43) = .int .i64 (k : Int) := hdep ⟨2, .data⟩ (by simp) rfl
            refine growI_val (I := (fun d u => Blk u gb 63 [bif d 7 then .int .i64 ((k : Int) + 2) else .int .i64 0, bif d 9 then .string (Ev.cn k) else .string ⟨#[]⟩, .int .i64 K, .bool U, .bool da, .int .i64 dn, .string ds])) (X := (fun _ _ _ => True)) (d := fd) (a := a) (w := w1) (.int .i64 ((k : Int) + 1)) w1 ho rfl ?_ ((fun u => Touch.refl _ _) w1) hI trivial rfl
            unfold execOp
            simp only [List.map_toArray, List.map_cons, List.map_nil, d0, ec]
            go_simp
            first | done | rfl | (rw [e8]) | (simp only [e8])
          · have ho2 := ho; simp only [List.getElem?_toArray, List.getElem?_cons_succ, List.getElem?_cons_zero, Option.some.injEq] at ho2; subst ho2
            have d0 : a.eval (.tmp 42) = .int .i64 (k : Int) := hdep ⟨1, .data⟩ (by simp) rfl
            have d1 : a.eval (.tmp 44) = .int .i64 ((k : Int) + 1) := hdep ⟨3, .data⟩ (by simp) rfl
            refine growI_val (I := (fun d u => Blk u gb 63 [bif d 7 then .int .i64 ((k : Int) + 2) else .int .i64 0, bif d 9 then .string (Ev.cn k) else .string ⟨#[]⟩, .int .i64 K, .bool U, .bool da, .int .i64 dn, .string ds])) (X := (fun _ _ _ => True)) (d := fd) (a := a) (w := w1) (.string ((⟨#[97, 98, 99, 100, 101, 102]⟩ : ByteArray).extract k (k + 1))) w1 ho rfl ?_ ((fun u => Touch.refl _ _) w1) hI trivial rfl
            unfold execOp
            simp only [Option.map_some, Option.map_none, d0, d1, ec]
            rw [Sem.run_bind, run_sliceAt_string w1 9 _ _ _ _ Tryz.underlying9, HSL.out w1]
            rfl
          · have ho2 := ho; simp only [List.getElem?_toArray, List.getElem?_cons_succ, List.getElem?_cons_zero, Option.some.injEq] at ho2; subst ho2
            have d0 : a.eval (.tmp 45) = .string ((⟨#[97, 98, 99, 100, 101, 102]⟩ : ByteArray).extract k (k + 1)) := hdep ⟨4, .data⟩ (by simp) rfl
            refine growI_val (I := (fun d u => Blk u gb 63 [bif d 7 then .int .i64 ((k : Int) + 2) else .int .i64 0, bif d 9 then .string (Ev.cn k) else .string ⟨#[]⟩, .int .i64 K, .bool U, .bool da, .int .i64 dn, .string ds])) (X := (fun _ _ _ => True)) (d := fd) (a := a) (w := w1) (.string (Ev.cn k)) w1 ho rfl ?_ ((fun u => Touch.refl _ _) w1) hI trivial rfl
            unfold execOp
            simp only [List.map_toArray, List.map_cons, List.map_nil, d0, ec]
            go_simp
            rw [if_neg (by omega)]
            rfl
          · have ho2 := ho; simp only [List.getElem?_toArray, List.getElem?_cons_succ, List.getElem?_cons_zero, Option.some.injEq] at ho2; subst ho2
            refine growI_val (I := (fun d u => Blk u gb 63 [bif d 7 then .int .i64 ((k : Int) + 2) else .int .i64 0, bif d 9 then .string (Ev.cn k) else .string ⟨#[]⟩, .int .i64 K, .bool U, .bool da, .int .i64 dn, .string ds])) (X := (fun _ _ _ => True)) (d := fd) (a := a) (w := w1) (.pointer (some ⟨gb, 0, none⟩)) w1 ho rfl ?_ ((fun u => Touch.refl _ _) w1) hI trivial rfl
            unfold execOp
            simp only [List.map_toArray, List.map_cons, List.map_nil, e7, ec]
            first | rfl | (go_simp; done) | (go_simp; rfl) | (go_simp; omega)
          · have ho2 := ho; simp only [List.getElem?_toArray, List.getElem?_cons_succ, List.getElem?_cons_zero, Option.some.injEq] at ho2; subst ho2
            have d0 : a.eval (.tmp 47) = .pointer (some ⟨gb, 0, none⟩) := hdep ⟨6, .data⟩ (by simp) rfl
            have d1 : a.eval (.tmp 41) = .int .i64 ((k : Int) + 2) := hdep ⟨0, .data⟩ (by simp) rfl
            have c0 := hI.cell 0
            have f0 := hI.frozen 0
            simp only [List.getElem?_cons_succ, List.getElem?_cons_zero] at c0
            have hp := Blk.put hI 0 (.int .i64 ((k : Int) + 2))
            simp only [List.set_cons_succ, List.set_cons_zero] at hp
            refine growI_skip (I := (fun d u => Blk u gb 63 [bif d 7 then .int .i64 ((k : Int) + 2) else .int .i64 0, bif d 9 then .string (Ev.cn k) else .string ⟨#[]⟩, .int .i64 K, .bool U, .bool da, .int .i64 dn, .string ds])) (X := (fun _ _ _ => True)) (d := fd) (a := a) (w := w1) (w1.setCell ⟨gb, 0, none⟩ (.int .i64 ((k : Int) + 2))) ho rfl rfl ?_ ((Touch.refl (fun q => q = gb) w1).setCell (p := ⟨gb, 0, none⟩) rfl (.int .i64 ((k : Int) + 2))) (by simp only [upd, if_pos, if_neg]; exact hp) trivial trivial
            unfold execOp
            simp only [d0, d1, ec]
            go_simp
          · have ho2 := ho; simp only [List.getElem?_toArray, List.getElem?_cons_succ, List.getElem?_cons_zero, Option.some.injEq] at ho2; subst ho2
            refine growI_val (I := (fun d u => Blk u gb 63 [bif d 7 then .int .i64 ((k : Int) + 2) else .int .i64 0, bif d 9 then .string (Ev.cn k) else .string ⟨#[]⟩, .int .i64 K, .bool U, .bool da, .int .i64 dn, .string ds])) (X := (fun _ _ _ => True)) (d := fd) (a := a) (w := w1) (.pointer (some ⟨gb, 1, none⟩)) w1 ho rfl ?_ ((fun u => Touch.refl _ _) w1) hI trivial rfl
            unfold execOp
            simp only [List.map_toArray, List.map_cons, List.map_nil, e7, ec]
            first | rfl | (go_simp; done) | (go_simp; rfl) | (go_simp; omega)
          · have ho2 := ho; simp only [List.getElem?_toArray, List.getElem?_cons_succ, List.getElem?_cons_zero, Option.some.injEq] at ho2; subst ho2
            have d0 : a.eval (.tmp 48) = .pointer (some ⟨gb, 1, none⟩) := hdep ⟨8, .data⟩ (by simp) rfl
            have d1 : a.eval (.tmp 46) = .string (Ev.cn k) := hdep ⟨5, .data⟩ (by simp) rfl
            have c0 := hI.cell 1
            have f0 := hI.frozen 1
            simp only [List.getElem?_cons_succ, List.getElem?_cons_zero] at c0
            have hp := Blk.put hI 1 (.string (Ev.cn k))
            simp only [List.set_cons_succ, List.set_cons_zero] at hp
            refine growI_skip (I := (fun d u => Blk u gb 63 [bif d 7 then .int .i64 ((k : Int) + 2) else .int .i64 0, bif d 9 then .string (Ev.cn k) else .string ⟨#[]⟩, .int .i64 K, .bool U, .bool da, .int .i64 dn, .string ds])) (X := (fun _ _ _ => True)) (d := fd) (a := a) (w := w1) (w1.setCell ⟨gb, 1, none⟩ (.string (Ev.cn k))) ho rfl rfl ?_ ((Touch.refl (fun q => q = gb) w1).setCell (p := ⟨gb, 1, none⟩) rfl (.string (Ev.cn k))) (by simp only [upd, if_pos, if_neg]; exact hp) trivial trivial
            unfold execOp
            simp only [d0, d1, ec]
            go_simp
        · intro a w1 hI hb hj
          exact ⟨hI, hb⟩
        rintro ts9 wc ⟨h9, ht9⟩
        simp only [fill, List.setIfInBounds_toArray, List.set_cons_succ, List.set_cons_zero]
        have HQ3 := Lib.hid (HQ2.out.touch ht9.undrew HNE.out.1 HNE.out.2.1 HNE.out.2.2)
        have b3 := box_new wc (.cells #[.int .i64 ((k : Int) + 2), .string (Ev.cn k), .int .i64 K, .bool U, .bool da, .int .i64 dn, .string ds] 63)
        have HQ4 := Lib.hid (HQ3.out.later b3)
        have HR1 := Lib.hid (rd_one 63 coL wc ⟨(k : Int) + 2, Ev.cn k, K, U, ⟨da, dn, ds⟩⟩ #[.int .i64 ((k : Int) + 2), .string (Ev.cn k), .int .i64 K, .bool U, .bool da, .int .i64 dn, .string ds] rfl)
        have HLN : Hid ((Ev.base C k).length + 1 ≤ 100000000) := Lib.hid (by have := (Ev.base_cl C k (by omega)).2; omega)
        have v0 := h9.cell 0
        have v1 := h9.cell 1
        have v2 := h9.cell 2
        have v3 := h9.cell 3
        have v4 := h9.cell 4
        have v5 := h9.cell 5
        have v6 := h9.cell 6
        have s0 := HQ3.out.sb.cell 0
        simp only [List.getElem?_cons_succ, List.getElem?_cons_zero] at v0 v1 v2 v3 v4 v5 v6 s0
        clear h9 ht9 HB0 HQ2 HNE e7 HSL b3
        go_wp2_with (at_builtin
                     refine Gn.wpList_app coL coY rfl (.tmp 50) (.tmp 52) rfl w.heap.size _ _ rfl HQ4.out.oc _ [(⟨(k : Int) + 2, Ev.cn k, K, U, ⟨da, dn, ds⟩⟩ : Co)] rfl HR1.out HLN.out HQ4.out.b.size ?_
                     intro y1 w2 ho1 hg1 hl1 hn1
                     obtain ⟨hq1, hq2⟩ := HQ4.out.app ho1 hg1
                     have HQ5 := Lib.hid hq2
                     have u0 := hq1.cell 0
                     have f0 := hq1.frozen 0
                     simp only [List.getElem?_cons_succ, List.getElem?_cons_zero] at u0
                     obtain ⟨ya, yc, rfl⟩ := own_frmE ho1
                     simp only [List.length_append, List.length_cons, List.length_nil, Nat.zero_add] at HQ5
                     clear hq1 hq2 ho1 hg1 hl1 hn1)
        go_roundw
        case rel => exact ⟨k + 1, _, by omega, by go_num, by go_num, by rw [HBS.out]; exact HQ5⟩
        case measure => simp [intOf]; omega
      · obtain rfl : k = min C.length 6 := by omega
        have HQE := Lib.hid (⟨sv, HQK.out⟩ : ∃ sv, QW w (.slice ca C.length cc) (.slice va V.length vc) gs sv kv0 (Ev.base C (min C.length 6)) wr)
        clear HQK
        by_cases hlen : ((min C.length 6 : Nat) : Int) < C.length
        · have h6 : ¬ ((min C.length 6 : Nat) : Int) < 6 := by omega
          go_wp2_with fail
          go_meet
          exact ⟨rfl, HQE⟩
        · go_wp2_with fail
          go_meet
          exact ⟨rfl, HQE⟩
  case rest =>
    obtain ⟨rfl, hcq⟩ := hcut
    obtain ⟨sv, hq⟩ := hcq.out
    obtain ⟨n, hn⟩ : ∃ n, min C.length 6 = n := ⟨_, rfl⟩
    rw [hn] at hq
    simp only [hn]
    obtain ⟨sa, sc, rfl⟩ := own_frmE hq.oc
    obtain ⟨ka, kc, rfl⟩ := own_frmE hq.ok
    obtain ⟨bs, hbs⟩ : ∃ b, Ev.base C n = b := ⟨_, rfl⟩
    rw [hbs] at hq
    have hcw := CW.start hq rfl
    have HCW := Lib.hid hcw
    have s0 := hq.sb.cell 0
    have s1 := hq.sb.cell 1
    simp only [List.getElem?_cons_succ, List.getElem?_cons_zero, List.length_cons, List.length_nil, Nat.zero_add, Nat.reduceAdd] at s0 s1
    have HN := Lib.hid (And.intro hn hbs)
    clear hcq hcw hq HQ W0 HC
    go_wp2_with fail
    clear s0 s1 hn hbs
    go_loopw [5, 8, 9] (fun d ov i wr => ∃ (k : Nat) (x : Ev.VO) (sv kv : Value) (L : List Sx), k ≤ min V.length 7 ∧ d = .int .i64 x.x.id ∧ i = .int .i64 (k : Nat) ∧ Hid (Ev.vers bs (1 + (n : Nat)) V k = x) ∧ Hid (CW w (.slice ca C.length cc) (.slice va V.length vc) gs sv kv x.x.s ov L wr) ∧ Hid (sms L = x.out)) (fun _ _ i _ => min V.length 7 - (intOf i).toNat)
    case atStart => exact ⟨0, ⟨⟨bs, 1 + (n : Nat)⟩, [(bs, [0])]⟩, _, _, _, by omega, by rfl, by rfl, Lib.hid rfl, HCW, Lib.hid rfl⟩
    case round =>
      obtain ⟨k, x, sv, kv, L, hk, rfl, rfl, HX, HCK, HL⟩ := hrel
      clear HCW
      have q1 := HCK.out.q.x.cell 1
      simp only [List.getElem?_cons_succ, List.getElem?_cons_zero] at q1
      by_cases hlt : k < min V.length 7
      · obtain ⟨wo, hwo⟩ : ∃ z, z = wr := ⟨_, rfl⟩
        subst hwo
        have hlt1 : (k : Int) < V.length := by omega
        have hlt2 : (k : Int) < 7 := by omega
        obtain ⟨v, hv⟩ : ∃ v, V[k]? = some v := ⟨_, List.getElem?_eq_getElem (by omega)⟩
        obtain ⟨gv, fv, rfl, p0, p1, p2⟩ := rdV_cells HV.out HCK.out.q.b hv
        have HVX := Lib.hid (HVI.out v (List.mem_of_getElem? hv))
        have HGV := Lib.hid hv
        have b15 := up_box (box_new wo (.cells #[.int .i64 0] 3)) (.cells #[.slice none 0 0, .slice (some ⟨wo.heap.size, 0, none⟩) 1 1] 25)
        have HNW := Lib.hid (NW.start wo)
        have e16a : v.a % 65536 = (Ev.b16 v.a : Nat) := by unfold Ev.b16; omega
        have e16b : v.b % 65536 = (Ev.b16 v.b : Nat) := by unfold Ev.b16; omega
        have HBA := Lib.hid (fun w1 => bringAtE v.a 65536 _ HVX.out.1 (by omega) (by omega) e16a w1)
        have HBB := Lib.hid (fun w1 => bringAtE v.b 65536 _ HVX.out.2.1 (by omega) (by omega) e16b w1)
        have q1' := (b15.cell (cell_lt q1)).trans q1
        have p0' := (b15.cell (cell_lt p0)).trans p0
        have p1' := (b15.cell (cell_lt p1)).trans p1
        have p2' := (b15.cell (cell_lt p2)).trans p2
        have P2 := Lib.hid p2
        have Q1 := Lib.hid q1
        clear p0 p1 p2 p2' e16a e16b hv
        go_upto_region 16 with fail
        clear q1
        obtain ⟨gn, hgn⟩ : ∃ g, wo.heap.size + 1 = g := ⟨_, rfl⟩
        simp only [hgn] at HNW ⊢
        generalize (wo.alloc (.cells #[.int .i64 0] 3)).alloc (.cells #[.slice none 0 0, .slice (some ⟨wo.heap.size, 0, none⟩) 1 1] 25) = wn at *
        clear hgn b15
        refine region_growI_merge (fun u v : World => Below u.heap.size u v) (fun _ _ => True) (fun _ _ _ => True) (fun u => Below.refl _ _) (fun _ _ _ h k => up h k) (kjI #[Spc.eq (.pointer (some ⟨w.heap.size, 1, none⟩)), Spc.eq (.slice (some ⟨gv, fv, none⟩) V.length vc), Spc.eq (.int .i64 (k : Nat)), Spc.eq (.pointer (some ⟨gv, fv + k * 3, none⟩)), Spc.eq (.pointer (some ⟨gv, fv + k * 3, none⟩)), Spc.eq (.int .i64 v.a), Spc.eq (.int .i64 (Ev.b16 v.a : Nat)), Spc.eq (.pointer (some ⟨w.heap.size, 1, none⟩)), Spc.eq (.slice (some ⟨gv, fv, none⟩) V.length vc), Spc.eq (.int .i64 (k : Nat)), Spc.eq (.pointer (some ⟨gv, fv + k * 3, none⟩)), Spc.eq (.pointer (some ⟨gv, fv + k * 3 + 1, none⟩)), Spc.eq (.int .i64 v.b), Spc.eq (.int .i64 (Ev.b16 v.b : Nat)), Spc.eq (.int .i64 (Ev.b16 v.a : Nat)), Spc.eq (.int .i64 (Ev.b16 v.b : Nat))]) [70, 71, 72, 73, 74, 75, 76, 77, 78, 79, 80, 81, 82, 83, 11, 12] (fun ts W => ts.getD 11 undef = .int .i64 (Ev.b16 v.a : Nat) ∧ ts.getD 12 undef = .int .i64 (Ev.b16 v.b : Nat) ∧ Below wn.heap.size wn W) (by kernel_rfl) (by kernel_rfl) (by kernel_rfl) kjI_later trivial ?_ ?_ ?_
        · intro QQ fd jo o a w1 ho hfd hdd hI hb hs hold hdep
          have hjo : jo < 16 := (Array.getElem?_eq_some_iff.1 ho).1
          have hb' : Below wn.heap.size wn w1 := up (Below.refl _ _).drew hb
          have q1'x' : w1.cell? ⟨w.heap.size, 1, none⟩ = some (.slice (some ⟨gv, fv, none⟩) V.length vc) := (hb'.cell (p := ⟨w.heap.size, 1, none⟩) (cell_lt q1')).trans q1'
          have p0'x' : w1.cell? ⟨gv, fv + k * 3, none⟩ = some (.int .i64 v.a) := (hb'.cell (p := ⟨gv, fv + k * 3, none⟩) (cell_lt p0')).trans p0'
          have p1'x' : w1.cell? ⟨gv, fv + k * 3 + 1, none⟩ = some (.int .i64 v.b) := (hb'.cell (p := ⟨gv, fv + k * 3 + 1, none⟩) (cell_lt p1')).trans p1'
          clear q1' p0' p1'
          have e1 : a.eval (.tmp 1) = .pointer (some ⟨w.heap.size, 0, none⟩) := by
            show a.tmps.getD 1 undef = _
            rw [Array.getD_eq_getD_getElem?, hold 1 (by decide +kernel)]; rfl
          have e9 : a.eval (.tmp 9) = .int .i64 (k : Nat) := by
            show a.tmps.getD 9 undef = _
            rw [Array.getD_eq_getD_getElem?, hold 9 (by decide +kernel)]; rfl
          have ec : ∀ v, a.eval (.const v) = v := fun _ => rfl
          clear hold hs
          rcases (show jo = 0 ∨ jo = 1 ∨ jo = 2 ∨ jo = 3 ∨ jo = 4 ∨ jo = 5 ∨ jo = 6 ∨ jo = 7 ∨ jo = 8 ∨ jo = 9 ∨ jo = 10 ∨ jo = 11 ∨ jo = 12 ∨ jo = 13 ∨ jo = 14 ∨ jo = 15 by omega) with rfl | rfl | rfl | rfl | rfl | rfl | rfl | rfl | rfl | rfl | rfl | rfl | rfl | rfl | rfl | rfl
          · have ho2 := ho; simp only [List.getElem?_toArray, List.getElem?_cons_succ, List.getElem?_cons_zero, Option.some.injEq] at ho2; subst ho2
            refine growI_val (I := (fun _ _ => True)) (X := (fun _ _ _ => True)) (d := fd) (a := a) (w := w1) (.pointer (some ⟨w.heap.size, 1, none⟩)) w1 ho rfl ?_ ((fun u => Below.refl _ _) w1) trivial trivial rfl
            unfold execOp
            simp only [List.map_toArray, List.map_cons, List.map_nil, e1, ec]
            first | rfl | (go_simp; done) | (go_simp; rfl) | (go_simp; omega)
          · have ho2 := ho; simp only [List.getElem?_toArray, List.getElem?_cons_succ, List.getElem?_cons_zero, Option.some.injEq] at ho2; subst ho2
            have d0 : a.eval (.tmp 70) = .pointer (some ⟨w.heap.size, 1, none⟩) := hdep ⟨0, .data⟩ (by simp) rfl
            refine growI_val (I := (fun _ _ => True)) (X := (fun _ _ _ => True)) (d := fd) (a := a) (w := w1) (.slice (some ⟨gv, fv, none⟩) V.length vc) w1 ho rfl ?_ ((fun u => Below.refl _ _) w1) trivial trivial rfl
            unfold execOp
            simp only [List.map_toArray, List.map_cons, List.map_nil, d0, ec]
            first | rfl | (go_simp; done) | (go_simp; rfl) | (go_simp; omega)
          · have ho2 := ho; simp only [List.getElem?_toArray, List.getElem?_cons_succ, List.getElem?_cons_zero, Option.some.injEq] at ho2; subst ho2
            refine growI_val (I := (fun _ _ => True)) (X := (fun _ _ _ => True)) (d := fd) (a := a) (w := w1) (.int .i64 (k : Nat)) w1 ho rfl ?_ ((fun u => Below.refl _ _) w1) trivial trivial rfl
            unfold execOp
            simp only [List.map_toArray, List.map_cons, List.map_nil, e9, ec]
            first | rfl | (go_simp; done) | (go_simp; rfl) | (go_simp; omega)
          · have ho2 := ho; simp only [List.getElem?_toArray, List.getElem?_cons_succ, List.getElem?_cons_zero, Option.some.injEq] at ho2; subst ho2
            have d0 : a.eval (.tmp 71) = .slice (some ⟨gv, fv, none⟩) V.length vc := hdep ⟨1, .data⟩ (by simp) rfl
            have d1 : a.eval (.tmp 72) = .int .i64 (k : Nat) := hdep ⟨2, .data⟩ (by simp) rfl
            refine growI_val (I := (fun _ _ => True)) (X := (fun _ _ _ => True)) (d := fd) (a := a) (w := w1) (.pointer (some ⟨gv, fv + k * 3, none⟩)) w1 ho rfl ?_ ((fun u => Below.refl _ _) w1) trivial trivial rfl
            unfold execOp
            simp only [List.map_toArray, List.map_cons, List.map_nil, d0, d1, ec]
            first | rfl | (go_simp; done) | (go_simp; rfl) | (go_simp; omega)
          · have ho2 := ho; simp only [List.getElem?_toArray, List.getElem?_cons_succ, List.getElem?_cons_zero, Option.some.injEq] at ho2; subst ho2
            have d0 : a.eval (.tmp 73) = .pointer (some ⟨gv, fv + k * 3, none⟩) := hdep ⟨3, .data⟩ (by simp) rfl
            refine growI_val (I := (fun _ _ => True)) (X := (fun _ _ _ => True)) (d := fd) (a := a) (w := w1) (.pointer (some ⟨gv, fv + k * 3, none⟩)) w1 ho rfl ?_ ((fun u => Below.refl _ _) w1) trivial trivial rfl
            unfold execOp
            simp only [List.map_toArray, List.map_cons, List.map_nil, d0, ec]
            first | rfl | (go_simp; done) | (go_simp; rfl) | (go_simp; omega)
          · have ho2 := ho; simp only [List.getElem?_toArray, List.getElem?_cons_succ, List.getElem?_cons_zero, Option.some.injEq] at ho2; subst ho2
            have d0 : a.eval (.tmp 74) = .pointer (some ⟨gv, fv + k * 3, none⟩) := hdep ⟨4, .data⟩ (by simp) rfl
            refine growI_val (I := (fun _ _ => True)) (X := (fun _ _ _ => True)) (d := fd) (a := a) (w := w1) (.int .i64 v.a) w1 ho rfl ?_ ((fun u => Below.refl _ _) w1) trivial trivial rfl
            unfold execOp
            simp only [List.map_toArray, List.map_cons, List.map_nil, d0, ec]
            first | rfl | (go_simp; done) | (go_simp; rfl) | (go_simp; omega)
          · have ho2 := ho; simp only [List.getElem?_toArray, List.getElem?_cons_succ, List.getElem?_cons_zero, Option.some.injEq] at ho2; subst ho2
            have d0 : a.eval (.tmp 75) = .int .i64 v.a := hdep ⟨5, .data⟩ (by simp) rfl
            refine growI_call (I := (fun _ _ => True)) (X := (fun _ _ _ => True)) (d := fd) (a := a) (w := w1) 28 #[.int .i64 v.a, .int .i64 65536] ho rfl ?_ ((HBA.out w1).mono ?_)
            · unfold execOp resolve
              simp only [List.map_toArray, List.map_cons, List.map_nil, d0, ec]
              rfl
            · rintro e c1 ⟨rfl, rfl⟩
              exact ⟨_, rfl, rfl, (Below.refl _ _), trivial, trivial⟩
          · have ho2 := ho; simp only [List.getElem?_toArray, List.getElem?_cons_succ, List.getElem?_cons_zero, Option.some.injEq] at ho2; subst ho2
            refine growI_val (I := (fun _ _ => True)) (X := (fun _ _ _ => True)) (d := fd) (a := a) (w := w1) (.pointer (some ⟨w.heap.size, 1, none⟩)) w1 ho rfl ?_ ((fun u => Below.refl _ _) w1) trivial trivial rfl
            unfold execOp
            simp only [List.map_toArray, List.map_cons, List.map_nil, e1, ec]
            first | rfl | (go_simp; done) | (go_simp; rfl) | (go_simp; omega)
          · have ho2 := ho; simp only [List.getElem?_toArray, List.getElem?_cons_succ, List.getElem?_cons_zero, Option.some.injEq] at ho2; subst ho2
            have d0 : a.eval (.tmp 77) = .pointer (some ⟨w.heap.size, 1, none⟩) := hdep ⟨7, .data⟩ (by simp) rfl
            refine growI_val (I := (fun _ _ => True)) (X := (fun _ _ _ => True)) (d := fd) (a := a) (w := w1) (.slice (some ⟨gv, fv, none⟩) V.length vc) w1 ho rfl ?_ ((fun u => Below.refl _ _) w1) trivial trivial rfl
            unfold execOp
            simp only [List.map_toArray, List.map_cons, List.map_nil, d0, ec]
            first | rfl | (go_simp; done) | (go_simp; rfl) | (go_simp; omega)
          · have ho2 := ho; simp only [List.getElem?_toArray, List.getElem?_cons_succ, List.getElem?_cons_zero, Option.some.injEq] at ho2; subst ho2
            refine growI_val (I := (fun _ _ => True)) (X := (fun _ _ _ => True)) (d := fd) (a := a) (w := w1) (.int .i64 (k : Nat)) w1 ho rfl ?_ ((fun u => Below.refl _ _) w1) trivial trivial rfl
            unfold execOp
            simp only [List.map_toArray, List.map_cons, List.map_nil, e9, ec]
            first | rfl | (go_simp; done) | (go_simp; rfl) | (go_simp; omega)
          · have ho2 := ho; simp only [List.getElem?_toArray, List.getElem?_cons_succ, List.getElem?_cons_zero, Option.some.injEq] at ho2; subst ho2
            have d0 : a.eval (.tmp 78) = .slice (some ⟨gv, fv, none⟩) V.length vc := hdep ⟨8, .data⟩ (by simp) rfl
            have d1 : a.eval (.tmp 79) = .int .i64 (k : Nat) := hdep ⟨9, .data⟩ (by simp) rfl
            refine growI_val (I := (fun _ _ => True)) (X := (fun _ _ _ => True)) (d := fd) (a := a) (w := w1) (.pointer (some ⟨gv, fv + k * 3, none⟩)) w1 ho rfl ?_ ((fun u => Below.refl _ _) w1) trivial trivial rfl
            unfold execOp
            simp only [List.map_toArray, List.map_cons, List.map_nil, d0, d1, ec]
            first | rfl | (go_simp; done) | (go_simp; rfl) | (go_simp; omega)
          · have ho2 := ho; simp only [List.getElem?_toArray, List.getElem?_cons_succ, List.getElem?_cons_zero, Option.some.injEq] at ho2; subst ho2
            have d0 : a.eval (.tmp 80) = .pointer (some ⟨gv, fv + k * 3, none⟩) := hdep ⟨10, .data⟩ (by simp) rfl
            refine growI_val (I := (fun _ _ => True)) (X := (fun _ _ _ => True)) (d := fd) (a := a) (w := w1) (.pointer (some ⟨gv, fv + k * 3 + 1, none⟩)) w1 ho rfl ?_ ((fun u => Below.refl _ _) w1) trivial trivial rfl
            unfold execOp
            simp only [List.map_toArray, List.map_cons, List.map_nil, d0, ec]
            first | rfl | (go_simp; done) | (go_simp; rfl) | (go_simp; omega)
          · have ho2 := ho; simp only [List.getElem?_toArray, List.getElem?_cons_succ, List.getElem?_cons_zero, Option.some.injEq] at ho2; subst ho2
            have d0 : a.eval (.tmp 81) = .pointer (some ⟨gv, fv + k * 3 + 1, none⟩) := hdep ⟨11, .data⟩ (by simp) rfl
            refine growI_val (I := (fun _ _ => True)) (X := (fun _ _ _ => True)) (d := fd) (a := a) (w := w1) (.int .i64 v.b) w1 ho rfl ?_ ((fun u => Below.refl _ _) w1) trivial trivial rfl
            unfold execOp
            simp only [List.map_toArray, List.map_cons, List.map_nil, d0, ec]
            first | rfl | (go_simp; done) | (go_simp; rfl) | (go_simp; omega)
          · have ho2 := ho; simp only [List.getElem?_toArray, List.getElem?_cons_succ, List.getElem?_cons_zero, Option.some.injEq] at ho2; subst ho2
            have d0 : a.eval (.tmp 82) = .int .i64 v.b := hdep ⟨12, .data⟩ (by simp) rfl
            refine growI_call (I := (fun _ _ => True)) (X := (fun _ _ _ => True)) (d := fd) (a := a) (w := w1) 28 #[.int .i64 v.b, .int .i64 65536] ho rfl ?_ ((HBB.out w1).mono ?_)
            · unfold execOp resolve
              simp only [List.map_toArray, List.map_cons, List.map_nil, d0, ec]
              rfl
            · rintro e c1 ⟨rfl, rfl⟩
              exact ⟨_, rfl, rfl, (Below.refl _ _), trivial, trivial⟩
          · have ho2 := ho; simp only [List.getElem?_toArray, List.getElem?_cons_succ, List.getElem?_cons_zero, Option.some.injEq] at ho2; subst ho2
            have d0 : a.eval (.tmp 76) = .int .i64 (Ev.b16 v.a : Nat) := hdep ⟨6, .data⟩ (by simp) rfl
            refine growI_val (I := (fun _ _ => True)) (X := (fun _ _ _ => True)) (d := fd) (a := a) (w := w1) (.int .i64 (Ev.b16 v.a : Nat)) w1 ho rfl ?_ ((fun u => Below.refl _ _) w1) trivial trivial rfl
            unfold execOp
            simp only [List.map_toArray, List.map_cons, List.map_nil, d0, ec]
            first | rfl | (go_simp; done) | (go_simp; rfl) | (go_simp; omega)
          · have ho2 := ho; simp only [List.getElem?_toArray, List.getElem?_cons_succ, List.getElem?_cons_zero, Option.some.injEq] at ho2; subst ho2
            have d0 : a.eval (.tmp 83) = .int .i64 (Ev.b16 v.b : Nat) := hdep ⟨13, .data⟩ (by simp) rfl
            refine growI_val (I := (fun _ _ => True)) (X := (fun _ _ _ => True)) (d := fd) (a := a) (w := w1) (.int .i64 (Ev.b16 v.b : Nat)) w1 ho rfl ?_ ((fun u => Below.refl _ _) w1) trivial trivial rfl
            unfold execOp
            simp only [List.map_toArray, List.map_cons, List.map_nil, d0, ec]
            first | rfl | (go_simp; done) | (go_simp; rfl) | (go_simp; omega)
        · intro a w1 hI hb hj
          have hb' : Below wn.heap.size wn w1 := up (Below.refl _ _).drew hb
          exact ⟨hj 14 (by decide), hj 15 (by decide), hb'⟩
        rintro ts16 wp ⟨h11, h12, hb16⟩
        simp only [fill, List.setIfInBounds_toArray, List.set_cons_succ, List.set_cons_zero]
        rw [h11, h12]
        have HN2 := Lib.hid (HNW.out.later hb16)
        obtain ⟨s2, c2, rfl⟩ := own_frmE HCK.out.q.oc
        obtain ⟨k2, d2, rfl⟩ := own_frmE HCK.out.q.ok
        have HRC := Lib.hid (RdK.of HCK.out.q.oc)
        obtain ⟨cs, hcs⟩ : ∃ cs, x.x.s = cs := ⟨_, rfl⟩
        rw [hcs] at HRC HCK
        have HCS := Lib.hid hcs
        have hcsl : (cs.length : Int) ≤ 9223372036854775807 := by have := Gn.Rd.len' HRC.out; omega
        have S0 := Lib.hid (HCK.out.q.sb.cell 0)
        obtain ⟨G, hG⟩ : ∃ G, Ev.b16 v.a = G := ⟨_, rfl⟩
        obtain ⟨D, hD⟩ : ∃ D, Ev.b16 v.b = D := ⟨_, rfl⟩
        have HGD : Hid (Ev.b16 v.a = G ∧ Ev.b16 v.b = D ∧ G < 65536 ∧ D < 65536) := Lib.hid ⟨hG, hD, by rw [← hG]; unfold Ev.b16; omega, by rw [← hD]; unfold Ev.b16; omega⟩
        simp only [hG, hD]
        clear h11 h12 hb16 HNW HBA HBB hG hD hcs q1' p0' p1'
        simp only [Array.getD_eq_getD_getElem?]
        go_upto_block 4 with fail
        go_cut [13, 14] from 84 to 127 (fun j u wx => Hid (∃ nv, NW wo gn nv (.slice (some ⟨wo.heap.size, 0, none⟩) 1 1) (Ev.keepF G D 0 (cs.take 14)) wx))
        case first =>
          go_wp2_with fail
          go_loopw [13] (fun j wr => ∃ (q : Nat) (nv : Value), q ≤ min cs.length 14 ∧ j = .int .i64 (q : Nat) ∧ Hid (NW wo gn nv (.slice (some ⟨wo.heap.size, 0, none⟩) 1 1) (Ev.keepF G D 0 (cs.take q)) wr)) (fun j _ => min cs.length 14 - (intOf j).toNat)
          case atStart => exact ⟨0, _, by omega, by rfl, HN2⟩
          case round =>
            obtain ⟨q, nv, hq, rfl, HNQ⟩ := hrel
            have s0 := (HNQ.out.b.cell (cell_lt S0.out)).trans S0.out
            simp only [List.getElem?_cons_succ, List.getElem?_cons_zero] at s0
            by_cases hlq : q < min cs.length 14
            · have hq1 : (q : Int) < cs.length := by omega
              have hq2 : (q : Int) < 14 := by omega
              obtain ⟨c, hx⟩ : ∃ c, cs[q]? = some c := ⟨_, List.getElem?_eq_getElem (by omega)⟩
              obtain ⟨ga, fa, rfl, r0, r1, r2, r3, r4, r5, r6⟩ := rdK_cells HRC.out HNQ.out.b hx
              obtain ⟨ci, cm, ck, cu, ⟨du, dn, ds⟩⟩ := c
              simp only at r0 r1 r2 r3 r4 r5 r6
              have HTK : Hid (Ev.keepF G D 0 (cs.take (q + 1)) = Ev.keepF G D 0 (cs.take q) ++ (if Ev.gone G q = true then [] else [Ev.wid D q ⟨ci, cm, ck, cu, ⟨du, dn, ds⟩⟩])) := Lib.hid (by
                rw [List.take_add_one, hx]
                show Ev.keepF G D 0 (cs.take q ++ [_]) = _
                rw [Ev.keepF_snoc, Nat.zero_add, List.length_take, Nat.min_eq_left (by omega)])
              have bb := box_new wr (.cells #[.int .i64 ci, .string cm, .int .i64 ck, .bool cu, .bool du, .int .i64 dn, .string ds] 63)
              have HNB := Lib.hid (HNQ.out.later bb)
              have HCB := Lib.hid (Blk.new wr 63 #[.int .i64 ci, .string cm, .int .i64 ck, .bool cu, .bool du, .int .i64 dn, .string ds])
              have HNE : Hid (gn < wr.heap.size ∧ (∀ g, nv.ownBlock = some g → g < wr.heap.size) ∧ (∀ g, (Value.slice (some ⟨wo.heap.size, 0, none⟩) 1 1).ownBlock = some g → g < wr.heap.size)) := Lib.hid ⟨HNQ.out.sb.lt, fun g hg => (HNQ.out.oc.lt g hg).2, fun g hg => (HNQ.out.ok.lt g hg).2⟩
              clear hx HNQ bb
              go_upto_region 21 with fail
              clear s0 r0 r1 r2 r3 r4 r5 r6
              obtain ⟨gb, hgb⟩ : ∃ g, wr.heap.size = g := ⟨_, rfl⟩
              simp only [hgb] at HCB HNE ⊢
              generalize wr.alloc (.cells #[.int .i64 ci, .string cm, .int .i64 ck, .bool cu, .bool du, .int .i64 dn, .string ds] 63) = wb at *
              clear hgb
              have v0 := HCB.out.cell 0
              have v1 := HCB.out.cell 1
              have v2 := HCB.out.cell 2
              have v3 := HCB.out.cell 3
              have v4 := HCB.out.cell 4
              have v5 := HCB.out.cell 5
              have v6 := HCB.out.cell 6
              have f2 := HCB.out.frozen 2
              simp only [List.getElem?_cons_succ, List.getElem?_cons_zero] at v0 v1 v2 v3 v4 v5 v6
              by_cases hq0 : (q : Int) > 0
              · by_cases hg : Ev.bit G q = true
                · have eG := (bitE G q).trans hg
                  have HKP : Hid (Ev.keepF G D 0 (cs.take (q + 1)) = Ev.keepF G D 0 (cs.take q)) := Lib.hid (by rw [HTK.out, show Ev.gone G q = true by unfold Ev.gone; rw [hg]; simp; omega, if_pos rfl, List.append_nil])
                  go_wp2_with fail
                  go_roundw
                  case rel => exact ⟨q + 1, _, by omega, by go_num, by rw [HKP.out]; exact HNB⟩
                  case measure => simp [intOf]; omega
                · have eG := (bitE G q).trans (show Ev.bit G q = false by simpa using hg)
                  have hgo : Ev.gone G q = false := by unfold Ev.gone; rw [show Ev.bit G q = false by simpa using hg]; simp
                  have HLN : Hid ((Ev.keepF G D 0 (cs.take q)).length + 1 ≤ 100000000) := Lib.hid (by have := Ev.keepF_len G D (cs.take q) 0; rw [List.length_take] at this; omega)
                  obtain ⟨na, nc, rfl⟩ := own_frmE HNB.out.oc
                  have n0 := HNB.out.sb.cell 0
                  simp only [List.getElem?_cons_succ, List.getElem?_cons_zero] at n0
                  by_cases hw : Ev.bit D q = true
                  · have eD := (bitE D q).trans hw
                    by_cases hk2 : ck = 2
                    · subst hk2
                      have HKP : Hid (Ev.keepF G D 0 (cs.take (q + 1)) = Ev.keepF G D 0 (cs.take q) ++ [⟨ci, cm, 3, cu, ⟨du, dn, ds⟩⟩]) := Lib.hid (by rw [HTK.out, hgo, if_neg (by decide)]; unfold Ev.wid; rw [hw]; rfl)
                      go_upto_region 24 with fail
                      have HP2 := Lib.hid (Blk.put HCB.out 2 (.int .i64 3))
                      have HN3 := Lib.hid (HNB.out.touch ((Touch.refl (fun z => z = gb) wb).setCell (p := ⟨gb, 2, none⟩) rfl (.int .i64 3)) HNE.out.1 HNE.out.2.1 HNE.out.2.2)
                      simp only [List.set_cons_succ, List.set_cons_zero] at HP2
                      generalize wb.setCell ⟨gb, 2, none⟩ (.int .i64 3) = wc3 at *
                      clear v0 v1 v2 v3 v4 v5 v6 n0
                      have v0 := HP2.out.cell 0
                      have v1 := HP2.out.cell 1
                      have v2 := HP2.out.cell 2
                      have v3 := HP2.out.cell 3
                      have v4 := HP2.out.cell 4
                      have v5 := HP2.out.cell 5
                      have v6 := HP2.out.cell 6
                      have n0 := HN3.out.sb.cell 0
                      simp only [List.getElem?_cons_succ, List.getElem?_cons_zero] at v0 v1 v2 v3 v4 v5 v6 n0
                      have b3 := box_new wc3 (.cells #[.int .i64 ci, .string cm, .int .i64 3, .bool cu, .bool du, .int .i64 dn, .string ds] 63)
                      have HN4 := Lib.hid (HN3.out.later b3)
                      have HR1 := Lib.hid (rd_one 63 coL wc3 ⟨ci, cm, 3, cu, ⟨du, dn, ds⟩⟩ #[.int .i64 ci, .string cm, .int .i64 3, .bool cu, .bool du, .int .i64 dn, .string ds] rfl)
                      clear b3
                      go_wp2_with (at_builtin
                                   refine Gn.wpList_app coL coY rfl (.tmp 123) (.tmp 125) rfl wo.heap.size _ _ rfl HN4.out.oc _ [(⟨ci, cm, 3, cu, ⟨du, dn, ds⟩⟩ : Co)] rfl HR1.out HLN.out HN4.out.b.size ?_
                                   intro y1 w2 ho1 hg1 hl1 hn1
                                   obtain ⟨hq1, hq2⟩ := HN4.out.app ho1 hg1
                                   have HN5 := Lib.hid hq2
                                   have u0 := hq1.cell 0
                                   have f0 := hq1.frozen 0
                                   simp only [List.getElem?_cons_succ, List.getElem?_cons_zero] at u0
                                   obtain ⟨ya, yc, rfl⟩ := own_frmE ho1
                                   simp only [List.length_append, List.length_cons, List.length_nil, Nat.zero_add] at HN5
                                   clear hq1 hq2 ho1 hg1 hl1 hn1)
                      go_roundw
                      case rel => exact ⟨q + 1, _, by omega, by go_num, by rw [HKP.out]; exact HN5⟩
                      case measure => simp [intOf]; omega
                    · have HKP : Hid (Ev.keepF G D 0 (cs.take (q + 1)) = Ev.keepF G D 0 (cs.take q) ++ [⟨ci, cm, ck, cu, ⟨du, dn, ds⟩⟩]) := Lib.hid (by rw [HTK.out, hgo, if_neg (by decide)]; unfold Ev.wid; rw [if_neg (by simp [hk2])])
                      go_upto_region 24 with fail
                      have b3 := box_new wb (.cells #[.int .i64 ci, .string cm, .int .i64 ck, .bool cu, .bool du, .int .i64 dn, .string ds] 63)
                      have HN4 := Lib.hid (HNB.out.later b3)
                      have HR1 := Lib.hid (rd_one 63 coL wb ⟨ci, cm, ck, cu, ⟨du, dn, ds⟩⟩ #[.int .i64 ci, .string cm, .int .i64 ck, .bool cu, .bool du, .int .i64 dn, .string ds] rfl)
                      clear b3
                      go_wp2_with (at_builtin
                                   refine Gn.wpList_app coL coY rfl (.tmp 123) (.tmp 125) rfl wo.heap.size _ _ rfl HN4.out.oc _ [(⟨ci, cm, ck, cu, ⟨du, dn, ds⟩⟩ : Co)] rfl HR1.out HLN.out HN4.out.b.size ?_
                                   intro y1 w2 ho1 hg1 hl1 hn1
                                   obtain ⟨hq1, hq2⟩ := HN4.out.app ho1 hg1
                                   have HN5 := Lib.hid hq2
                                   have u0 := hq1.cell 0
                                   have f0 := hq1.frozen 0
                                   simp only [List.getElem?_cons_succ, List.getElem?_cons_zero] at u0
                                   obtain ⟨ya, yc, rfl⟩ := own_frmE ho1
                                   simp only [List.length_append, List.length_cons, List.length_nil, Nat.zero_add] at HN5
                                   clear hq1 hq2 ho1 hg1 hl1 hn1)
                      go_roundw
                      case rel => exact ⟨q + 1, _, by omega, by go_num, by rw [HKP.out]; exact HN5⟩
                      case measure => simp [intOf]; omega
                  · have eD := (bitE D q).trans (show Ev.bit D q = false by simpa using hw)
                    have HKP : Hid (Ev.keepF G D 0 (cs.take (q + 1)) = Ev.keepF G D 0 (cs.take q) ++ [⟨ci, cm, ck, cu, ⟨du, dn, ds⟩⟩]) := Lib.hid (by rw [HTK.out, hgo, if_neg (by decide)]; unfold Ev.wid; rw [if_neg (by simp [hw])])
                    go_upto_region 24 with fail
                    have b3 := box_new wb (.cells #[.int .i64 ci, .string cm, .int .i64 ck, .bool cu, .bool du, .int .i64 dn, .string ds] 63)
                    have HN4 := Lib.hid (HNB.out.later b3)
                    have HR1 := Lib.hid (rd_one 63 coL wb ⟨ci, cm, ck, cu, ⟨du, dn, ds⟩⟩ #[.int .i64 ci, .string cm, .int .i64 ck, .bool cu, .bool du, .int .i64 dn, .string ds] rfl)
                    clear b3
                    go_wp2_with (at_builtin
                                 refine Gn.wpList_app coL coY rfl (.tmp 123) (.tmp 125) rfl wo.heap.size _ _ rfl HN4.out.oc _ [(⟨ci, cm, ck, cu, ⟨du, dn, ds⟩⟩ : Co)] rfl HR1.out HLN.out HN4.out.b.size ?_
                                 intro y1 w2 ho1 hg1 hl1 hn1
                                 obtain ⟨hq1, hq2⟩ := HN4.out.app ho1 hg1
                                 have HN5 := Lib.hid hq2
                                 have u0 := hq1.cell 0
                                 have f0 := hq1.frozen 0
                                 simp only [List.getElem?_cons_succ, List.getElem?_cons_zero] at u0
                                 obtain ⟨ya, yc, rfl⟩ := own_frmE ho1
                                 simp only [List.length_append, List.length_cons, List.length_nil, Nat.zero_add] at HN5
                                 clear hq1 hq2 ho1 hg1 hl1 hn1)
                    go_roundw
                    case rel => exact ⟨q + 1, _, by omega, by go_num, by rw [HKP.out]; exact HN5⟩
                    case measure => simp [intOf]; omega
              · have hgo : Ev.gone G q = false := by unfold Ev.gone; rw [show q = 0 by omega]; simp
                have HLN : Hid ((Ev.keepF G D 0 (cs.take q)).length + 1 ≤ 100000000) := Lib.hid (by have := Ev.keepF_len G D (cs.take q) 0; rw [List.length_take] at this; omega)
                obtain ⟨na, nc, rfl⟩ := own_frmE HNB.out.oc
                have n0 := HNB.out.sb.cell 0
                simp only [List.getElem?_cons_succ, List.getElem?_cons_zero] at n0
                by_cases hw : Ev.bit D q = true
                · have eD := (bitE D q).trans hw
                  by_cases hk2 : ck = 2
                  · subst hk2
                    have HKP : Hid (Ev.keepF G D 0 (cs.take (q + 1)) = Ev.keepF G D 0 (cs.take q) ++ [⟨ci, cm, 3, cu, ⟨du, dn, ds⟩⟩]) := Lib.hid (by rw [HTK.out, hgo, if_neg (by decide)]; unfold Ev.wid; rw [hw]; rfl)
                    go_upto_region 24 with fail
                    have HP2 := Lib.hid (Blk.put HCB.out 2 (.int .i64 3))
                    have HN3 := Lib.hid (HNB.out.touch ((Touch.refl (fun z => z = gb) wb).setCell (p := ⟨gb, 2, none⟩) rfl (.int .i64 3)) HNE.out.1 HNE.out.2.1 HNE.out.2.2)
                    simp only [List.set_cons_succ, List.set_cons_zero] at HP2
                    generalize wb.setCell ⟨gb, 2, none⟩ (.int .i64 3) = wc3 at *
                    clear v0 v1 v2 v3 v4 v5 v6 n0
                    have v0 := HP2.out.cell 0
                    have v1 := HP2.out.cell 1
                    have v2 := HP2.out.cell 2
                    have v3 := HP2.out.cell 3
                    have v4 := HP2.out.cell 4
                    have v5 := HP2.out.cell 5
                    have v6 := HP2.out.cell 6
                    have n0 := HN3.out.sb.cell 0
                    simp only [List.getElem?_cons_succ, List.getElem?_cons_zero] at v0 v1 v2 v3 v4 v5 v6 n0
                    have b3 := box_new wc3 (.cells #[.int .i64 ci, .string cm, .int .i64 3, .bool cu, .bool du, .int .i64 dn, .string ds] 63)
                    have HN4 := Lib.hid (HN3.out.later b3)
                    have HR1 := Lib.hid (rd_one 63 coL wc3 ⟨ci, cm, 3, cu, ⟨du, dn, ds⟩⟩ #[.int .i64 ci, .string cm, .int .i64 3, .bool cu, .bool du, .int .i64 dn, .string ds] rfl)
                    clear b3
                    go_wp2_with (at_builtin
                                 refine Gn.wpList_app coL coY rfl (.tmp 123) (.tmp 125) rfl wo.heap.size _ _ rfl HN4.out.oc _ [(⟨ci, cm, 3, cu, ⟨du, dn, ds⟩⟩ : Co)] rfl HR1.out HLN.out HN4.out.b.size ?_
                                 intro y1 w2 ho1 hg1 hl1 hn1
                                 obtain ⟨hq1, hq2⟩ := HN4.out.app ho1 hg1
                                 have HN5 := Lib.hid hq2
                                 have u0 := hq1.cell 0
                                 have f0 := hq1.frozen 0
                                 simp only [List.getElem?_cons_succ, List.getElem?_cons_zero] at u0
                                 obtain ⟨ya, yc, rfl⟩ := own_frmE ho1
                                 simp only [List.length_append, List.length_cons, List.length_nil, Nat.zero_add] at HN5
                                 clear hq1 hq2 ho1 hg1 hl1 hn1)
                    go_roundw
                    case rel => exact ⟨q + 1, _, by omega, by go_num, by rw [HKP.out]; exact HN5⟩
                    case measure => simp [intOf]; omega
                  · have HKP : Hid (Ev.keepF G D 0 (cs.take (q + 1)) = Ev.keepF G D 0 (cs.take q) ++ [⟨ci, cm, ck, cu, ⟨du, dn, ds⟩⟩]) := Lib.hid (by rw [HTK.out, hgo, if_neg (by decide)]; unfold Ev.wid; rw [if_neg (by simp [hk2])])
                    go_upto_region 24 with fail
                    have b3 := box_new wb (.cells #[.int .i64 ci, .string cm, .int .i64 ck, .bool cu, .bool du, .int .i64 dn, .string ds] 63)
                    have HN4 := Lib.hid (HNB.out.later b3)
                    have HR1 := Lib.hid (rd_one 63 coL wb ⟨ci, cm, ck, cu, ⟨du, dn, ds⟩⟩ #[.int .i64 ci, .string cm, .int .i64 ck, .bool cu, .bool du, .int .i64 dn, .string ds] rfl)
                    clear b3
                    go_wp2_with (at_builtin
                                 refine Gn.wpList_app coL coY rfl (.tmp 123) (.tmp 125) rfl wo.heap.size _ _ rfl HN4.out.oc _ [(⟨ci, cm, ck, cu, ⟨du, dn, ds⟩⟩ : Co)] rfl HR1.out HLN.out HN4.out.b.size ?_
                                 intro y1 w2 ho1 hg1 hl1 hn1
                                 obtain ⟨hq1, hq2⟩ := HN4.out.app ho1 hg1
                                 have HN5 := Lib.hid hq2
                                 have u0 := hq1.cell 0
                                 have f0 := hq1.frozen 0
                                 simp only [List.getElem?_cons_succ, List.getElem?_cons_zero] at u0
                                 obtain ⟨ya, yc, rfl⟩ := own_frmE ho1
                                 simp only [List.length_append, List.length_cons, List.length_nil, Nat.zero_add] at HN5
                                 clear hq1 hq2 ho1 hg1 hl1 hn1)
                    go_roundw
                    case rel => exact ⟨q + 1, _, by omega, by go_num, by rw [HKP.out]; exact HN5⟩
                    case measure => simp [intOf]; omega
                · have eD := (bitE D q).trans (show Ev.bit D q = false by simpa using hw)
                  have HKP : Hid (Ev.keepF G D 0 (cs.take (q + 1)) = Ev.keepF G D 0 (cs.take q) ++ [⟨ci, cm, ck, cu, ⟨du, dn, ds⟩⟩]) := Lib.hid (by rw [HTK.out, hgo, if_neg (by decide)]; unfold Ev.wid; rw [if_neg (by simp [hw])])
                  go_upto_region 24 with fail
                  have b3 := box_new wb (.cells #[.int .i64 ci, .string cm, .int .i64 ck, .bool cu, .bool du, .int .i64 dn, .string ds] 63)
                  have HN4 := Lib.hid (HNB.out.later b3)
                  have HR1 := Lib.hid (rd_one 63 coL wb ⟨ci, cm, ck, cu, ⟨du, dn, ds⟩⟩ #[.int .i64 ci, .string cm, .int .i64 ck, .bool cu, .bool du, .int .i64 dn, .string ds] rfl)
                  clear b3
                  go_wp2_with (at_builtin
                               refine Gn.wpList_app coL coY rfl (.tmp 123) (.tmp 125) rfl wo.heap.size _ _ rfl HN4.out.oc _ [(⟨ci, cm, ck, cu, ⟨du, dn, ds⟩⟩ : Co)] rfl HR1.out HLN.out HN4.out.b.size ?_
                               intro y1 w2 ho1 hg1 hl1 hn1
                               obtain ⟨hq1, hq2⟩ := HN4.out.app ho1 hg1
                               have HN5 := Lib.hid hq2
                               have u0 := hq1.cell 0
                               have f0 := hq1.frozen 0
                               simp only [List.getElem?_cons_succ, List.getElem?_cons_zero] at u0
                               obtain ⟨ya, yc, rfl⟩ := own_frmE ho1
                               simp only [List.length_append, List.length_cons, List.length_nil, Nat.zero_add] at HN5
                               clear hq1 hq2 ho1 hg1 hl1 hn1)
                  go_roundw
                  case rel => exact ⟨q + 1, _, by omega, by go_num, by rw [HKP.out]; exact HN5⟩
                  case measure => simp [intOf]; omega
            · obtain rfl : q = min cs.length 14 := by omega
              have HNE2 : Hid (∃ nv, NW wo gn nv (.slice (some ⟨wo.heap.size, 0, none⟩) 1 1) (Ev.keepF G D 0 (cs.take 14)) wr) := Lib.hid ⟨nv, by
                have h := HNQ.out
                rwa [show cs.take (min cs.length 14) = cs.take 14 by
                  rcases Nat.lt_or_ge cs.length 14 with h | h
                  · rw [Nat.min_eq_left (by omega), List.take_of_length_le (Nat.le_refl _), List.take_of_length_le (by omega)]
                  · rw [Nat.min_eq_right h]] at h⟩
              clear HNQ
              by_cases hlen : ((min cs.length 14 : Nat) : Int) < cs.length
              · have h6 : ¬ ((min cs.length 14 : Nat) : Int) < 14 := by omega
                go_wp2_with fail
                go_meet
                exact HNE2
              · go_wp2_with fail
                go_meet
                exact HNE2
        case rest =>
          obtain ⟨nv, hnw⟩ := hcut.out
          obtain ⟨na, nc, rfl⟩ := own_frmE hnw.oc
          have y1 := (hnw.b.cell (cell_lt Q1.out)).trans Q1.out
          have y2 := (hnw.b.cell (cell_lt P2.out)).trans P2.out
          obtain ⟨K14, hK⟩ : ∃ K, Ev.keepF G D 0 (cs.take 14) = K := ⟨_, rfl⟩
          have HVK : Hid (Ev.vkeep v x.x.s = K14) := Lib.hid (by unfold Ev.vkeep; rw [HGD.out.1, HGD.out.2.1, HCS.out, hK])
          rw [hK] at hnw
          have HN3 := Lib.hid hnw
          clear hcut hnw
          clear hK
          by_cases hodd : v.c.tmod 2 = 0
          · have HST : Hid (Ev.vstep k v x.x = ⟨K14, x.x.id⟩) := Lib.hid (by unfold Ev.vstep; rw [if_neg (by simp [hodd]), HVK.out])
            have HC2 := Lib.hid (HCK.out.later HN3.out.b)
            have HC3 := Lib.hid (HC2.out.next HN3.out.oc HN3.out.ok HCK.out.q.b.size)
            have n0 := HN3.out.sb.cell 0
            have n1 := HN3.out.sb.cell 1
            have t0 := HC2.out.q.sb.cell 0
            have t1 := HC2.out.q.sb.cell 1
            have tf0 := HC2.out.q.sb.frozen 0
            have tf1 := HC2.out.q.sb.frozen 1
            simp only [List.getElem?_cons_succ, List.getElem?_cons_zero] at n0 n1 t0 t1
            go_upto_region 31 with fail
            clear n0 n1 t0 t1 tf0 tf1 y1 y2
            generalize (wc.setCell ⟨gs, 0, none⟩ (.slice na K14.length nc)).setCell ⟨gs, 1, none⟩ (.slice (some ⟨wo.heap.size, 0, none⟩) 1 1) = wd at *
            have m0 := HC3.out.q.sb.cell 0
            have m1 := HC3.out.q.sb.cell 1
            simp only [List.getElem?_cons_succ, List.getElem?_cons_zero] at m0 m1
            have b3 := box_new wd (.cells #[.slice na K14.length nc, .slice (some ⟨wo.heap.size, 0, none⟩) 1 1] 25)
            have HC4 := Lib.hid (HC3.out.later b3)
            have HR1 := Lib.hid (rd_one 25 sxL wd (⟨na, nc, some ⟨wo.heap.size, 0, none⟩, 1, (K14, [0])⟩ : Sx) #[.slice na K14.length nc, .slice (some ⟨wo.heap.size, 0, none⟩) 1 1] rfl)
            have HLL : Hid (L.length + 1 ≤ 100000000) := Lib.hid (by
              have h1 := (Ev.vers_vi C V n (by have := HN.out.1; omega) k (by omega)).ol
              rw [HN.out.2, HX.out, ← HL.out, sms_len] at h1
              omega)
            have HX2 : Hid (Ev.vers bs (1 + (n : Nat)) V (k + 1) = ⟨⟨K14, x.x.id⟩, x.out ++ [(K14, [0])]⟩) := Lib.hid (by
              show (⟨Ev.vstep k (V.getD k Ev.v30) (Ev.vers bs (1 + (n : Nat)) V k).x, (Ev.vers bs (1 + (n : Nat)) V k).out ++ [((Ev.vstep k (V.getD k Ev.v30) (Ev.vers bs (1 + (n : Nat)) V k).x).s, [0])]⟩ : Ev.VO) = _
              rw [HX.out, show V.getD k Ev.v30 = v by rw [List.getD_eq_getElem?_getD, HGV.out]; rfl, HST.out])
            have HL2 : Hid (sms (L ++ [(⟨na, nc, some ⟨wo.heap.size, 0, none⟩, 1, (K14, [0])⟩ : Sx)]) = x.out ++ [(K14, [0])]) := Lib.hid (by unfold sms; rw [List.map_append]; show sms L ++ _ = _; rw [HL.out]; rfl)
            clear b3 HC3 HC2 HCK HX HL
            go_wp2_with (at_builtin
                         refine Gn.wpList_app sxL sxY rfl (.tmp 164) (.tmp 166) rfl w.heap.size _ _ rfl HC4.out.oo _ [(⟨na, nc, some ⟨wo.heap.size, 0, none⟩, 1, (K14, [0])⟩ : Sx)] rfl HR1.out HLL.out HC4.out.q.b.size ?_
                         intro z1 w2 ho1 hg1 hl1 hn1
                         have HC5 := Lib.hid (HC4.out.push ho1 hg1 hl1)
                         clear ho1 hg1 hl1 hn1)
            go_roundw
            case rel => exact ⟨k + 1, ⟨⟨K14, x.x.id⟩, x.out ++ [(K14, [0])]⟩, _, _, _, by omega, by rfl, by go_num, HX2, HC5, HL2⟩
            case measure => simp [intOf]; omega
          · have hodd1 : (v.c.tmod 2 != 0) = true := by simpa using hodd
            have hvc := HVX.out.2.2
            have hq2 : -9223372036854775808 ≤ v.c.tdiv 2 ∧ v.c.tdiv 2 ≤ 9223372036854775807 := by
              have h := Int.tdiv_eq_ediv (a := v.c) (b := 2)
              have h1 : -9223372036854775808 ≤ v.c := hvc.1
              have h2 : v.c ≤ 9223372036854775807 := hvc.2
              split at h <;> (try rw [show Int.sign 2 = 1 from rfl] at h) <;> omega
            have e26 : IntKind.i64.wrap (v.c.tdiv 2) = v.c.tdiv 2 := by rw [IntWalk.i64_in _ ⟨by omega, by omega⟩]
            have HKI := Lib.hid (fun w1 => lKind (v.c.tdiv 2) hq2 w1)
            have hvi := Ev.vers_vi C V n (by have := HN.out.1; omega) k (by omega)
            rw [HN.out.2, HX.out] at hvi
            have hid := hvi.id
            have hid0 : 1 ≤ x.x.id := by
              obtain ⟨c0, t0, h0, h1, _⟩ := hvi.cl.hd
              have := (hvi.cl.co c0 (by rw [h0]; exact List.mem_cons_self ..)).id1
              omega
            clear hvi
            have hgl : (G : Int) < 65536 := by have := HGD.out.2.2.1; omega
            obtain ⟨g2, hg2⟩ : ∃ g : Nat, G % 2 = g := ⟨_, rfl⟩
            have HBR := Lib.hid (fun w1 => bringAtE (G : Int) 2 (g2 : Int) (by constructor <;> omega) (by omega) (by omega) (by omega) w1)
            obtain ⟨ID2, hid2⟩ : ∃ z, x.x.id + 1 + (g2 : Int) = z := ⟨_, rfl⟩
            have e27 : IntKind.i64.wrap (x.x.id + 1) = x.x.id + 1 := by rw [IntWalk.i64_in _ ⟨by omega, by omega⟩]
            have e28 : IntKind.i64.wrap (x.x.id + 1 + (g2 : Int)) = ID2 := by rw [IntWalk.i64_in _ ⟨by omega, by omega⟩]; exact hid2
            have e8 : IntKind.i64.wrap ((k : Int) + 1) = (k : Int) + 1 := by rw [IntWalk.i64_in _ ⟨by omega, by omega⟩]
            obtain ⟨K, U, D2, hkc⟩ : ∃ K U D, ∀ id nm, Ev.kcol (v.c.tdiv 2) id nm = ⟨id, nm, K, U, D⟩ := ⟨_, _, _, fun _ _ => rfl⟩
            rw [hkc] at HKI
            obtain ⟨da, dn, ds⟩ := D2
            unfold kov at HKI
            simp only at HKI
            obtain ⟨K2, hK2⟩ : ∃ z, K14 ++ [(⟨ID2, Ev.nn k, K, U, ⟨da, dn, ds⟩⟩ : Co)] = z := ⟨_, rfl⟩
            have HST : Hid (Ev.vstep k v x.x = ⟨K2, ID2⟩) := Lib.hid (by unfold Ev.vstep; rw [if_pos hodd, HVK.out, HGD.out.1, hg2, hid2, hkc, hK2])
            have hlen : K14.length + 1 = K2.length := by rw [← hK2]; simp
            have HSL : Hid (∀ w1 : World, (Instr.slice 9 (.string ⟨#[97, 98, 99, 100, 101, 102, 103]⟩) (some (.int .i64 (k : Nat))) (some (.int .i64 ((k : Int) + 1))) none).run Tryz.prog w1 = .ok (.string ((⟨#[97, 98, 99, 100, 101, 102, 103]⟩ : ByteArray).extract k (k + 1))) w1) := Lib.hid (fun w1 => by
              rw [run_slice_string w1 9 _ .i64 .i64 _ _ Tryz.underlying9 (by omega) (by omega) (by show _ ≤ ((7 : Nat) : Int); omega)]
              rw [show ((k : Nat) : Int).toNat = k by omega, show ((k : Int) + 1).toNat = k + 1 by omega])
            have HK2 := Lib.hid (And.intro hK2 hlen)
            have HNC : Hid (gn < wc.heap.size ∧ (∀ g, (Value.slice na K14.length nc).ownBlock = some g → g < wc.heap.size) ∧ (∀ g, (Value.slice (some ⟨wo.heap.size, 0, none⟩) 1 1).ownBlock = some g → g < wc.heap.size)) := Lib.hid ⟨HN3.out.sb.lt, fun g hg => (HN3.out.oc.lt g hg).2, fun g hg => (HN3.out.ok.lt g hg).2⟩
            clear hid hid0 hid2 hkc hK2 hlen hq2 hvc hg2
            go_wp2_with fail
            ((with_reducible refine (HKI.out wc).mono ?_); rintro e wa ⟨rfl, b⟩)
            have b2 := Below.trans b ((box_new wa (.cells #[.int .i64 0, .string ⟨#[]⟩, .int .i64 K, .bool U, .bool da, .int .i64 dn, .string ds] 63)).mono b.size)
            have HN4 := Lib.hid (HN3.out.later b2)
            have HB0 := Lib.hid (Blk.new wa 63 #[.int .i64 0, .string ⟨#[]⟩, .int .i64 K, .bool U, .bool da, .int .i64 dn, .string ds])
            have HNE : Hid (gn < wa.heap.size ∧ (∀ g, (Value.slice na K14.length nc).ownBlock = some g → g < wa.heap.size) ∧ (∀ g, (Value.slice (some ⟨wo.heap.size, 0, none⟩) 1 1).ownBlock = some g → g < wa.heap.size)) := Lib.hid ⟨by have := HNC.out.1; have := b.size; omega, fun g hg => by have := HNC.out.2.1 g hg; have := b.size; omega, fun g hg => by have := HNC.out.2.2 g hg; have := b.size; omega⟩
            clear b b2 HN3 HNC y1 y2 HKI
            go_upto_region 27 with fail
            obtain ⟨gb, hgb⟩ : ∃ g, wa.heap.size = g := ⟨_, rfl⟩
            simp only [hgb] at HB0 HNE ⊢
            generalize wa.alloc (.cells #[.int .i64 0, .string ⟨#[]⟩, .int .i64 K, .bool U, .bool da, .int .i64 dn, .string ds] 63) = wb at *
            clear hgb
            go_wp2_with fail
            ((with_reducible refine (HBR.out wb).mono ?_); rintro e wb' ⟨rfl, rfl⟩)
            go_upto_region 28 with fail
            refine region_growI_merge (fun u v => Touch (fun q => q = gb) u v) (fun d u => Blk u gb 63 [bif d 7 then .int .i64 (ID2) else .int .i64 0, bif d 9 then .string (Ev.nn k) else .string ⟨#[]⟩, .int .i64 K, .bool U, .bool da, .int .i64 dn, .string ds]) (fun _ _ _ => True) (fun u => Touch.refl _ _) (fun _ _ _ h k => h.trans k (fun _ h => .inl h)) (kjI #[Spc.eq (.int .i64 (ID2)), Spc.eq (.int .i64 (k : Int)), Spc.eq (.int .i64 (k : Int)), Spc.eq (.int .i64 ((k : Int) + 1)), Spc.eq (.string ((⟨#[97, 98, 99, 100, 101, 102, 103]⟩ : ByteArray).extract k (k + 1))), Spc.eq (.string (Ev.nn k)), Spc.eq (.pointer (some ⟨gb, 0, none⟩)), Spc.any, Spc.eq (.pointer (some ⟨gb, 1, none⟩)), Spc.any]) [149, 150, 151, 152, 153, 154, 155, 156] (fun ts W => Blk W gb 63 [.int .i64 ID2, .string (Ev.nn k), .int .i64 K, .bool U, .bool da, .int .i64 dn, .string ds] ∧ Touch (fun q => q = gb) wb.drew W) (by kernel_rfl) (by kernel_rfl) (by kernel_rfl) kjI_later (HB0.out.later (Below.refl _ _).drew) ?_ ?_ ?_
            · intro QQ fd jo o a w1 ho hfd hdd hI hb hs hold hdep
              have hjo : jo < 10 := (Array.getElem?_eq_some_iff.1 ho).1
              skip
              have e5 : a.eval (.tmp 5) = .int .i64 ID2 := by
                show a.tmps.getD 5 undef = _
                rw [Array.getD_eq_getD_getElem?, hold 5 (by decide +kernel)]; rfl
              have e9 : a.eval (.tmp 9) = .int .i64 (k : Int) := by
                show a.tmps.getD 9 undef = _
                rw [Array.getD_eq_getD_getElem?, hold 9 (by decide +kernel)]; rfl
              have e15 : a.eval (.tmp 15) = .pointer (some ⟨gb, 0, none⟩) := by
                show a.tmps.getD 15 undef = _
                rw [Array.getD_eq_getD_getElem?, hold 15 (by decide +kernel)]; rfl
              have ec : ∀ v, a.eval (.const v) = v := fun _ => rfl
              clear hold hs
              rcases (show jo = 0 ∨ jo = 1 ∨ jo = 2 ∨ jo = 3 ∨ jo = 4 ∨ jo = 5 ∨ jo = 6 ∨ jo = 7 ∨ jo = 8 ∨ jo = 9 by omega) with rfl | rfl | rfl | rfl | rfl | rfl | rfl | rfl | rfl | rfl
              · have ho2 := ho; simp only [List.getElem?_toArray, List.getElem?_cons_succ, List.getElem?_cons_zero, Option.some.injEq] at ho2; subst ho2
                refine growI_val (I := (fun d u => Blk u gb 63 [bif d 7 then .int .i64 (ID2) else .int .i64 0, bif d 9 then .string (Ev.nn k) else .string ⟨#[]⟩, .int .i64 K, .bool U, .bool da, .int .i64 dn, .string ds])) (X := (fun _ _ _ => True)) (d := fd) (a := a) (w := w1) (.int .i64 (ID2)) w1 ho rfl ?_ ((fun u => Touch.refl _ _) w1) hI trivial rfl
                unfold execOp
                simp only [List.map_toArray, List.map_cons, List.map_nil, e5, ec]
                first | rfl | (go_simp; done) | (go_simp; rfl) | (go_simp; omega)
              · have ho2 := ho; simp only [List.getElem?_toArray, List.getElem?_cons_succ, List.getElem?_cons_zero, Option.some.injEq] at ho2; subst ho2
                refine growI_val (I := (fun d u => Blk u gb 63 [bif d 7 then .int .i64 (ID2) else .int .i64 0, bif d 9 then .string (Ev.nn k) else .string ⟨#[]⟩, .int .i64 K, .bool U, .bool da, .int .i64 dn, .string ds])) (X := (fun _ _ _ => True)) (d := fd) (a := a) (w := w1) (.int .i64 (k : Int)) w1 ho rfl ?_ ((fun u => Touch.refl _ _) w1) hI trivial rfl
                unfold execOp
                simp only [List.map_toArray, List.map_cons, List.map_nil, e9, ec]
                first | rfl | (go_simp; done) | (go_simp; rfl) | (go_simp; omega)
              · have ho2 := ho; simp only [List.getElem?_toArray, List.getElem?_cons_succ, List.getElem?_cons_zero, Option.some.injEq] at ho2; subst ho2
                refine growI_val (I := (fun d u => Blk u gb 63 [bif d 7 then .int .i64 (ID2) else .int .i64 0, bif d 9 then .string (Ev.nn k) else .string ⟨#[]⟩, .int .i64 K, .bool U, .bool da, .int .i64 dn, .string ds])) (X := (fun _ _ _ => True)) (d := fd) (a := a) (w := w1) (.int .i64 (k : Int)) w1 ho rfl ?_ ((fun u => Touch.refl _ _) w1) hI trivial rfl
                unfold execOp
                simp only [List.map_toArray, List.map_cons, List.map_nil, e9, ec]
                first | rfl | (go_simp; done) | (go_simp; rfl) | (go_simp; omega)
              · have ho2 := ho; simp only [List.getElem?_toArray, List.getElem?_cons_succ, List.getElem?_cons_zero, Option.some.injEq] at ho2; subst ho2
                have d0 : a.eval (.tmp 151) = .int .i64 (k : Int) := hdep ⟨2, .data⟩ (by simp) rfl
                refine growI_val (I := (fun d u => Blk u gb 63 [bif d 7 then .int .i64 (ID2) else .int .i64 0, bif d 9 then .string (Ev.nn k) else .string ⟨#[]⟩, .int .i64 K, .bool U, .bool da, .int .i64 dn, .string ds])) (X := (fun _ _ _ => True)) (d := fd) (a := a) (w := w1) (.int .i64 ((k : Int) + 1)) w1 ho rfl ?_ ((fun u => Touch.refl _ _) w1) hI trivial rfl
                unfold execOp
                simp only [List.map_toArray, List.map_cons, List.map_nil, d0, ec]
                go_simp
                first | done | rfl | (rw [e8]) | (simp only [e8])
              · have ho2 := ho; simp only [List.getElem?_toArray, List.getElem?_cons_succ, List.getElem?_cons_zero, Option.some.injEq] at ho2; subst ho2
                have d0 : a.eval (.tmp 150) = .int .i64 (k : Int) := hdep ⟨1, .data⟩ (by simp) rfl
                have d1 : a.eval (.tmp 152) = .int .i64 ((k : Int) + 1) := hdep ⟨3, .data⟩ (by simp) rfl
                refine growI_val (I := (fun d u => Blk u gb 63 [bif d 7 then .int .i64 (ID2) else .int .i64 0, bif d 9 then .string (Ev.nn k) else .string ⟨#[]⟩, .int .i64 K, .bool U, .bool da, .int .i64 dn, .string ds])) (X := (fun _ _ _ => True)) (d := fd) (a := a) (w := w1) (.string ((⟨#[97, 98, 99, 100, 101, 102, 103]⟩ : ByteArray).extract k (k + 1))) w1 ho rfl ?_ ((fun u => Touch.refl _ _) w1) hI trivial rfl
                unfold execOp
                simp only [Option.map_some, Option.map_none, d0, d1, ec]
                rw [Sem.run_bind, run_sliceAt_string w1 9 _ _ _ _ Tryz.underlying9, HSL.out w1]
                rfl
              · have ho2 := ho; simp only [List.getElem?_toArray, List.getElem?_cons_succ, List.getElem?_cons_zero, Option.some.injEq] at ho2; subst ho2
                have d0 : a.eval (.tmp 153) = .string ((⟨#[97, 98, 99, 100, 101, 102, 103]⟩ : ByteArray).extract k (k + 1)) := hdep ⟨4, .data⟩ (by simp) rfl
                refine growI_val (I := (fun d u => Blk u gb 63 [bif d 7 then .int .i64 (ID2) else .int .i64 0, bif d 9 then .string (Ev.nn k) else .string ⟨#[]⟩, .int .i64 K, .bool U, .bool da, .int .i64 dn, .string ds])) (X := (fun _ _ _ => True)) (d := fd) (a := a) (w := w1) (.string (Ev.nn k)) w1 ho rfl ?_ ((fun u => Touch.refl _ _) w1) hI trivial rfl
                unfold execOp
                simp only [List.map_toArray, List.map_cons, List.map_nil, d0, ec]
                go_simp
                rw [if_neg (by omega)]
                rfl
              · have ho2 := ho; simp only [List.getElem?_toArray, List.getElem?_cons_succ, List.getElem?_cons_zero, Option.some.injEq] at ho2; subst ho2
                refine growI_val (I := (fun d u => Blk u gb 63 [bif d 7 then .int .i64 (ID2) else .int .i64 0, bif d 9 then .string (Ev.nn k) else .string ⟨#[]⟩, .int .i64 K, .bool U, .bool da, .int .i64 dn, .string ds])) (X := (fun _ _ _ => True)) (d := fd) (a := a) (w := w1) (.pointer (some ⟨gb, 0, none⟩)) w1 ho rfl ?_ ((fun u => Touch.refl _ _) w1) hI trivial rfl
                unfold execOp
                simp only [List.map_toArray, List.map_cons, List.map_nil, e15, ec]
                first | rfl | (go_simp; done) | (go_simp; rfl) | (go_simp; omega)
              · have ho2 := ho; simp only [List.getElem?_toArray, List.getElem?_cons_succ, List.getElem?_cons_zero, Option.some.injEq] at ho2; subst ho2
                have d0 : a.eval (.tmp 155) = .pointer (some ⟨gb, 0, none⟩) := hdep ⟨6, .data⟩ (by simp) rfl
                have d1 : a.eval (.tmp 149) = .int .i64 (ID2) := hdep ⟨0, .data⟩ (by simp) rfl
                have c0 := hI.cell 0
                have f0 := hI.frozen 0
                simp only [List.getElem?_cons_succ, List.getElem?_cons_zero] at c0
                have hp := Blk.put hI 0 (.int .i64 (ID2))
                simp only [List.set_cons_succ, List.set_cons_zero] at hp
                refine growI_skip (I := (fun d u => Blk u gb 63 [bif d 7 then .int .i64 (ID2) else .int .i64 0, bif d 9 then .string (Ev.nn k) else .string ⟨#[]⟩, .int .i64 K, .bool U, .bool da, .int .i64 dn, .string ds])) (X := (fun _ _ _ => True)) (d := fd) (a := a) (w := w1) (w1.setCell ⟨gb, 0, none⟩ (.int .i64 (ID2))) ho rfl rfl ?_ ((Touch.refl (fun q => q = gb) w1).setCell (p := ⟨gb, 0, none⟩) rfl (.int .i64 (ID2))) (by simp only [upd, if_pos, if_neg]; exact hp) trivial trivial
                unfold execOp
                simp only [d0, d1, ec]
                go_simp
              · have ho2 := ho; simp only [List.getElem?_toArray, List.getElem?_cons_succ, List.getElem?_cons_zero, Option.some.injEq] at ho2; subst ho2
                refine growI_val (I := (fun d u => Blk u gb 63 [bif d 7 then .int .i64 (ID2) else .int .i64 0, bif d 9 then .string (Ev.nn k) else .string ⟨#[]⟩, .int .i64 K, .bool U, .bool da, .int .i64 dn, .string ds])) (X := (fun _ _ _ => True)) (d := fd) (a := a) (w := w1) (.pointer (some ⟨gb, 1, none⟩)) w1 ho rfl ?_ ((fun u => Touch.refl _ _) w1) hI trivial rfl
                unfold execOp
                simp only [List.map_toArray, List.map_cons, List.map_nil, e15, ec]
                first | rfl | (go_simp; done) | (go_simp; rfl) | (go_simp; omega)
              · have ho2 := ho; simp only [List.getElem?_toArray, List.getElem?_cons_succ, List.getElem?_cons_zero, Option.some.injEq] at ho2; subst ho2
                have d0 : a.eval (.tmp 156) = .pointer (some ⟨gb, 1, none⟩) := hdep ⟨8, .data⟩ (by simp) rfl
                have d1 : a.eval (.tmp 154) = .string (Ev.nn k) := hdep ⟨5, .data⟩ (by simp) rfl
                have c0 := hI.cell 1
                have f0 := hI.frozen 1
                simp only [List.getElem?_cons_succ, List.getElem?_cons_zero] at c0
                have hp := Blk.put hI 1 (.string (Ev.nn k))
                simp only [List.set_cons_succ, List.set_cons_zero] at hp
                refine growI_skip (I := (fun d u => Blk u gb 63 [bif d 7 then .int .i64 (ID2) else .int .i64 0, bif d 9 then .string (Ev.nn k) else .string ⟨#[]⟩, .int .i64 K, .bool U, .bool da, .int .i64 dn, .string ds])) (X := (fun _ _ _ => True)) (d := fd) (a := a) (w := w1) (w1.setCell ⟨gb, 1, none⟩ (.string (Ev.nn k))) ho rfl rfl ?_ ((Touch.refl (fun q => q = gb) w1).setCell (p := ⟨gb, 1, none⟩) rfl (.string (Ev.nn k))) (by simp only [upd, if_pos, if_neg]; exact hp) trivial trivial
                unfold execOp
                simp only [d0, d1, ec]
                go_simp
            · intro a w1 hI hb hj
              exact ⟨hI, hb⟩
            rintro ts28 wd1 ⟨h9, ht9⟩
            simp only [fill, List.setIfInBounds_toArray, List.set_cons_succ, List.set_cons_zero]
            have HN5 := Lib.hid (HN4.out.touch ht9.undrew HNE.out.1 HNE.out.2.1 HNE.out.2.2)
            have b3 := box_new wd1 (.cells #[.int .i64 ID2, .string (Ev.nn k), .int .i64 K, .bool U, .bool da, .int .i64 dn, .string ds] 63)
            have HN6 := Lib.hid (HN5.out.later b3)
            have HR1 := Lib.hid (rd_one 63 coL wd1 ⟨ID2, Ev.nn k, K, U, ⟨da, dn, ds⟩⟩ #[.int .i64 ID2, .string (Ev.nn k), .int .i64 K, .bool U, .bool da, .int .i64 dn, .string ds] rfl)
            have HLN : Hid (K14.length + 1 ≤ 100000000) := Lib.hid (by have := Ev.keepF_len (Ev.b16 v.a) (Ev.b16 v.b) (x.x.s.take 14) 0; rw [List.length_take] at this; have h2 := HVK.out; unfold Ev.vkeep at h2; rw [h2] at this; omega)
            have v0 := h9.cell 0
            have v1 := h9.cell 1
            have v2 := h9.cell 2
            have v3 := h9.cell 3
            have v4 := h9.cell 4
            have v5 := h9.cell 5
            have v6 := h9.cell 6
            have n0 := HN5.out.sb.cell 0
            simp only [List.getElem?_cons_succ, List.getElem?_cons_zero] at v0 v1 v2 v3 v4 v5 v6 n0
            clear h9 ht9 HB0 HN4 HNE e26 e27 e28 HSL b3 hgl
            have HLL : Hid (L.length + 1 ≤ 100000000) := Lib.hid (by
              have h1 := (Ev.vers_vi C V n (by have := HN.out.1; omega) k (by omega)).ol
              rw [HN.out.2, HX.out, ← HL.out, sms_len] at h1
              omega)
            have HX2 : Hid (Ev.vers bs (1 + (n : Nat)) V (k + 1) = ⟨⟨K2, ID2⟩, x.out ++ [(K2, [0])]⟩) := Lib.hid (by
              show (⟨Ev.vstep k (V.getD k Ev.v30) (Ev.vers bs (1 + (n : Nat)) V k).x, (Ev.vers bs (1 + (n : Nat)) V k).out ++ [((Ev.vstep k (V.getD k Ev.v30) (Ev.vers bs (1 + (n : Nat)) V k).x).s, [0])]⟩ : Ev.VO) = _
              rw [HX.out, show V.getD k Ev.v30 = v by rw [List.getD_eq_getElem?_getD, HGV.out]; rfl, HST.out])
            have HLS : Hid (sms L = x.out) := Lib.hid HL.out
            clear HX HL HST
            go_wp2_with (at_builtin
                         first
                         | (refine Gn.wpList_app sxL sxY rfl (.tmp 164) (.tmp 166) rfl w.heap.size _ _ rfl HC4.out.oo _ [(⟨ya, yc, some ⟨wo.heap.size, 0, none⟩, 1, (K2, [0])⟩ : Sx)] rfl HR2.out HLL.out HC4.out.q.b.size ?_
                            intro z3 w3 ho3 hg3 hl3 hn3
                            have HC5 := Lib.hid (HC4.out.push ho3 hg3 hl3)
                            clear ho3 hg3 hl3 hn3)
                         | (refine Gn.wpList_app coL coY rfl (.tmp 158) (.tmp 160) rfl wo.heap.size _ _ rfl HN6.out.oc _ [(⟨ID2, Ev.nn k, K, U, ⟨da, dn, ds⟩⟩ : Co)] rfl HR1.out HLN.out HN6.out.b.size ?_
                            intro z1 w2 ho1 hg1 hl1 hn1
                            rw [HK2.out.1] at ho1
                            obtain ⟨hq1, hq2⟩ := HN6.out.app ho1 hg1
                            obtain ⟨ya, yc, rfl⟩ := own_frmE ho1
                            have u0 := hq1.cell 0
                            have f0 := hq1.frozen 0
                            simp only [List.getElem?_cons_succ, List.getElem?_cons_zero] at u0
                            obtain ⟨we, hwe⟩ : ∃ we, w2.setCell ⟨gn, 0, none⟩ (.slice ya K2.length yc) = we := ⟨_, rfl⟩
                            rw [hwe] at hq2
                            have HC2 := Lib.hid (HCK.out.later hq2.b)
                            have HC3 := Lib.hid (HC2.out.next hq2.oc hq2.ok HCK.out.q.b.size)
                            have r0 := hq2.sb.cell 0
                            have r1 := hq2.sb.cell 1
                            have t0 := HC2.out.q.sb.cell 0
                            have t1 := HC2.out.q.sb.cell 1
                            have tf0 := HC2.out.q.sb.frozen 0
                            have tf1 := HC2.out.q.sb.frozen 1
                            simp only [List.getElem?_cons_succ, List.getElem?_cons_zero] at r0 r1 t0 t1
                            obtain ⟨wd, hwd⟩ : ∃ wd, (we.setCell ⟨gs, 0, none⟩ (.slice ya K2.length yc)).setCell ⟨gs, 1, none⟩ (.slice (some ⟨wo.heap.size, 0, none⟩) 1 1) = wd := ⟨_, rfl⟩
                            rw [hwd] at HC3
                            have m0 := HC3.out.q.sb.cell 0
                            have m1 := HC3.out.q.sb.cell 1
                            simp only [List.getElem?_cons_succ, List.getElem?_cons_zero] at m0 m1
                            have HC4 := Lib.hid (HC3.out.later (box_new wd (.cells #[.slice ya K2.length yc, .slice (some ⟨wo.heap.size, 0, none⟩) 1 1] 25)))
                            have HR2 := Lib.hid (rd_one 25 sxL wd (⟨ya, yc, some ⟨wo.heap.size, 0, none⟩, 1, (K2, [0])⟩ : Sx) #[.slice ya K2.length yc, .slice (some ⟨wo.heap.size, 0, none⟩) 1 1] rfl)
                            have HL2 : Hid (sms (L ++ [(⟨ya, yc, some ⟨wo.heap.size, 0, none⟩, 1, (K2, [0])⟩ : Sx)]) = x.out ++ [(K2, [0])]) := Lib.hid (by unfold sms; rw [List.map_append]; show sms L ++ _ = _; rw [HLS.out]; rfl)
                            clear hq1 hq2 ho1 hg1 hl1 hn1 HC2 HC3 n0 v0 v1 v2 v3 v4 v5 v6))
            go_roundw
            case rel => exact ⟨k + 1, ⟨⟨K2, ID2⟩, x.out ++ [(K2, [0])]⟩, _, _, _, by omega, by rfl, by go_num, HX2, HC5, HL2⟩
            case measure => simp [intOf]; omega
      · obtain rfl : k = min V.length 7 := by omega
        have HE : Hid (∃ L2, RdSm wr wr.heap.size u8 L2 ∧ sms L2 = Ev.mkch C V ∧ Below w.heap.size w wr) := Lib.hid ⟨L, ⟨Gn.Own.rd sxL HCK.out.oo, fun y hy => ⟨RdK.of (HCK.out.el y hy).1, RdI.of (HCK.out.el y hy).2⟩⟩, by rw [HL.out, ← HX.out]; unfold Ev.mkch; rw [HN.out.1, HN.out.2], HCK.out.q.b⟩
        clear HCK HL HX
        by_cases hlen : ((min V.length 7 : Nat) : Int) < V.length
        · have h6 : ¬ ((min V.length 7 : Nat) : Int) < 7 := by omega
          go_wp2_with fail
          go_ret
          obtain ⟨L2, h1, h2, h3⟩ := HE.out
          exact ⟨_, L2, rfl, h1, h2, h3⟩
        · go_wp2_with fail
          go_ret
          obtain ⟨L2, h1, h2, h3⟩ := HE.out
          exact ⟨_, L2, rfl, h1, h2, h3⟩
end Go.Proofs.YtigcgkhcbmnboaaGreatDoor
