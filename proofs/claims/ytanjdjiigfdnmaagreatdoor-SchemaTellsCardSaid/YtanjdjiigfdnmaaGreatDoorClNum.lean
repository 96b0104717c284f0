/- Numbers as texts and back: the library's FormatInt and ParseInt. -/
import Derived.Test.YtanjdjiigfdnmaaGreatDoorStr
import Derived.Test.YtanjdjiigfdnmaaGreatDoorShelfS
import Derived.Lib.ParseIntB
import Derived.Lib.ParseIntBTie
import Derived.Lib.ItoaNum
import Derived.Lib.AppendIntMem
import Derived.Lib.ItoaLen
namespace Go.Proofs.YtanjdjiigfdnmaaGreatDoor.Jr
open Go.Lib
set_option linter.unusedVariables false

def isd (c : Nat) : Bool := decide (48 ≤ c ∧ c ≤ 57)
def val (l : List Nat) : Nat := l.foldl (fun n c => 10 * n + (c - 48)) 0
def fold (acc : Nat) (l : List Nat) : Nat := l.foldl (fun n c => 10 * n + (c - 48)) acc
theorem val_fold (l : List Nat) : val l = fold 0 l := rfl
theorem fold_ge : ∀ (l : List Nat) (acc : Nat), acc ≤ fold acc l
  | [], acc => Nat.le_refl _
  | c :: l, acc => by
    have := fold_ge l (10 * acc + (c - 48))
    show acc ≤ fold (10 * acc + (c - 48)) l
    omega
def M64 : Nat := 18446744073709551615
theorem pm_iff : ∀ (l : List UInt8) (acc u : Nat), acc ≤ M64 → (parseUintM M64 acc l = .ok u ↔ (∀ c ∈ l.map UInt8.toNat, isd c = true) ∧ u = fold acc (l.map UInt8.toNat) ∧ fold acc (l.map UInt8.toNat) ≤ M64)
  | [], acc, u, h => by
    unfold parseUintM
    simp only [List.map_nil, List.not_mem_nil, false_implies, implies_true, true_and]
    show NumEnd.ok acc = .ok u ↔ u = acc ∧ acc ≤ M64
    constructor
    · intro e; injection e with e; exact ⟨e.symm, h⟩
    · rintro ⟨rfl, _⟩; rfl
  | c :: r, acc, u, h => by
    unfold parseUintM
    have hf : fold acc ((c :: r).map UInt8.toNat) = fold (10 * acc + (c.toNat - 48)) (r.map UInt8.toNat) := rfl
    have hge := fold_ge (r.map UInt8.toNat) (10 * acc + (c.toNat - 48))
    rw [hf]
    by_cases hd : 48 ≤ c.toNat ∧ c.toNat ≤ 57
    · rw [if_pos hd]
      have hi : isd c.toNat = true := by simp [isd, hd]
      by_cases h1 : 1844674407370955162 ≤ acc
      · rw [if_pos h1]
        constructor
        · intro e; cases e
        · rintro ⟨_, _, e⟩; unfold M64 at e; omega
      · rw [if_neg h1]
        by_cases h2 : M64 < acc * 10 + (c.toNat - 48)
        · rw [if_pos h2]
          constructor
          · intro e; cases e
          · rintro ⟨_, _, e⟩; omega
        · rw [if_neg h2, show acc * 10 + (c.toNat - 48) = 10 * acc + (c.toNat - 48) by omega, pm_iff r (10 * acc + (c.toNat - 48)) u (by omega)]
          simp only [List.map_cons, List.mem_cons, forall_eq_or_imp, hi, true_and]
    · rw [if_neg hd]
      constructor
      · intro e; cases e
      · rintro ⟨e, _⟩
        have := e c.toNat (by simp)
        simp [isd] at this
        omega
theorem pi_neg (c : UInt8) (r : List UInt8) (hc : c.toNat = 45) (hr : r ≠ []) (v : Int) : parseIntB 64 (c :: r) = .ok v ↔ (∀ x ∈ r.map UInt8.toNat, isd x = true) ∧ v = -(val (r.map UInt8.toNat) : Int) ∧ val (r.map UInt8.toNat) ≤ 9223372036854775808 := by
  unfold parseIntB
  simp only [hc, or_true, if_true]
  unfold parseUintB
  rw [if_neg hr, show (2 ^ 64 - 1 : Nat) = M64 from rfl]
  have h0 := fun u => pm_iff r 0 u (by decide)
  cases he : parseUintM M64 0 r with
  | ok u =>
    obtain ⟨h1, h2, h3⟩ := (h0 u).1 he
    rw [val_fold, ← h2]
    simp only [not_true_eq_false, false_and, if_false, true_and]
    by_cases h4 : 2 ^ (64 - 1) < u
    · rw [if_pos h4]
      constructor
      · intro e; cases e
      · rintro ⟨_, _, e⟩; simp at h4; omega
    · rw [if_neg h4]
      simp at h4
      constructor
      · intro e; injection e with e; exact ⟨h1, e.symm, by omega⟩
      · rintro ⟨_, e, _⟩; rw [e]
  | «range» =>
    constructor
    · intro e; cases e
    · rintro ⟨h1, h2, h3⟩
      have := (h0 _).2 ⟨h1, rfl, by rw [← val_fold]; unfold M64; omega⟩
      rw [he] at this; cases this
  | _ =>
    constructor
    · intro e; cases e
    · rintro ⟨h1, h2, h3⟩
      have := (h0 _).2 ⟨h1, rfl, by rw [← val_fold]; unfold M64; omega⟩
      rw [he] at this; cases this
theorem pi_pos (c : UInt8) (r : List UInt8) (hc : c.toNat ≠ 45) (hc2 : c.toNat ≠ 43) (v : Int) : parseIntB 64 (c :: r) = .ok v ↔ (∀ x ∈ (c :: r).map UInt8.toNat, isd x = true) ∧ v = (val ((c :: r).map UInt8.toNat) : Nat) ∧ val ((c :: r).map UInt8.toNat) < 9223372036854775808 := by
  unfold parseIntB
  have hn : ¬ (c.toNat = 43 ∨ c.toNat = 45) := by omega
  simp only [hn, if_false]
  unfold parseUintB
  rw [if_neg (by simp), show (2 ^ 64 - 1 : Nat) = M64 from rfl]
  have h0 := fun u => pm_iff (c :: r) 0 u (by decide)
  cases he : parseUintM M64 0 (c :: r) with
  | ok u =>
    obtain ⟨h1, h2, h3⟩ := (h0 u).1 he
    rw [val_fold, ← h2]
    simp only [hc, not_false_eq_true, true_and, false_and, if_false]
    by_cases h4 : 2 ^ (64 - 1) ≤ u
    · rw [if_pos h4]
      constructor
      · intro e; cases e
      · rintro ⟨_, _, e⟩; simp at h4; omega
    · rw [if_neg h4]
      simp at h4
      constructor
      · intro e; injection e with e; exact ⟨h1, e.symm, by omega⟩
      · rintro ⟨_, e, _⟩; rw [e]
  | «range» =>
    constructor
    · intro e; cases e
    · rintro ⟨h1, h2, h3⟩
      have := (h0 _).2 ⟨h1, rfl, by rw [← val_fold]; unfold M64; omega⟩
      rw [he] at this; cases this
  | _ =>
    constructor
    · intro e; cases e
    · rintro ⟨h1, h2, h3⟩
      have := (h0 _).2 ⟨h1, rfl, by rw [← val_fold]; unfold M64; omega⟩
      rw [he] at this; cases this
def dcs (u : Nat) : List Nat := (decDigits u).map UInt8.toNat
theorem u8_dig (d : Nat) (h : d < 10) : (UInt8.ofNat (48 + d)).toNat = 48 + d := by
  rw [UInt8.toNat_ofNat']; omega
theorem dcs_small {u : Nat} (h : u < 10) : dcs u = [48 + u] := by
  unfold dcs
  rw [decDigits, dif_pos h, List.map_singleton, u8_dig u h]
theorem dcs_big {u : Nat} (h : ¬ u < 10) : dcs u = dcs (u / 10) ++ [48 + u % 10] := by
  unfold dcs
  rw [decDigits, dif_neg h, List.map_append, List.map_singleton, u8_dig _ (by omega)]
theorem dcs_isd (u : Nat) : ∀ c ∈ dcs u, isd c = true := by
  induction u using Nat.strongRecOn with
  | ind u ih =>
    intro c hc
    by_cases h : u < 10
    · rw [dcs_small h] at hc
      have : c = 48 + u := by simpa using hc
      subst this
      simp [isd]; omega
    · rw [dcs_big h] at hc
      rcases List.mem_append.1 hc with hc | hc
      · exact ih (u / 10) (by omega) c hc
      · have : c = 48 + u % 10 := by simpa using hc
        subst this
        simp [isd]; omega
theorem val_snoc (l : List Nat) (c : Nat) : val (l ++ [c]) = 10 * val l + (c - 48) := by
  unfold val
  rw [List.foldl_append]; rfl
theorem dcs_val (u : Nat) : val (dcs u) = u := by
  induction u using Nat.strongRecOn with
  | ind u ih =>
    by_cases h : u < 10
    · rw [dcs_small h]; simp [val]
    · rw [dcs_big h, val_snoc, ih (u / 10) (by omega)]; omega
theorem dcs_ne (u : Nat) : dcs u ≠ [] := by
  by_cases h : u < 10
  · rw [dcs_small h]; simp
  · rw [dcs_big h]; simp
def sgn (b : Bool) : List Nat := if b then [45] else []
def dnum (n : Int) : List Nat := sgn (decide (n < 0)) ++ dcs n.natAbs
end Go.Proofs.YtanjdjiigfdnmaaGreatDoor.Jr
namespace Go.Proofs.YtanjdjiigfdnmaaGreatDoor
open Go.RowKit
set_option linter.unusedVariables false
set_option maxRecDepth 100000

def TabP (w : World) : Prop := Lib.TabIs Tryz.prog w "internal/strconv.uint64pow10" .u64 Lib.pow10Tab
theorem TabP.later {w w' : World} (h : TabP w) (hb : Below w.heap.size w w') : TabP w' := by
  unfold TabP Lib.TabIs World.var? at h ⊢
  have hg : Tryz.prog.globalNamed "internal/strconv.uint64pow10" = some 5 := by kernel_rfl
  rw [hg] at h ⊢
  simp only [Option.bind_some] at h ⊢
  have hlt : 5 < w.heap.size := by
    rcases Nat.lt_or_ge 5 w.heap.size with h' | h'
    · exact h'
    · rw [Array.getElem?_eq_none h'] at h; cases h
  rw [hb.block 5 hlt]
  exact h
def itS (n : Int) : ByteArray := ⟨(Lib.itoa n).toArray⟩
theorem bl_arr (l : List UInt8) : bl ⟨l.toArray⟩ = l.map UInt8.toNat := by unfold bl; simp
theorem itS_bl (n : Int) : bl (itS n) = Jr.sgn (decide (n < 0)) ++ (Jr.dcs n.natAbs ++ []) := by
  unfold itS
  rw [bl_arr, List.append_nil]
  unfold Lib.itoa Jr.dcs Jr.sgn
  by_cases h : n < 0
  · rw [if_pos h, if_pos (by simp [h])]; rfl
  · rw [if_neg h, if_neg (by simp [h]), show n.natAbs = n.toNat by omega]; rfl
theorem itS_size (n : Int) (h0 : -9223372036854775808 ≤ n) (h1 : n ≤ 9223372036854775807) : (itS n).size ≤ 21 := by
  have := Lib.itoa_length_le n h0 h1
  rw [← bl_length]
  unfold itS
  rw [bl_arr, List.length_map]
  exact this
theorem jfmt (n : Int) (h0 : -9223372036854775808 ≤ n) (h1 : n ≤ 9223372036854775807) (w : World) (T : TabP w) : Calls Tryz.prog 143 #[.int .i64 n, .int .i64 10] w fun e w' => e = .returned (.string (itS n)) ∧ Below w.heap.size w w' :=
  (Tryz.strconv_FormatInt_10 n h0 h1 w T).mono fun e w' ⟨h2, k, os, h3⟩ => ⟨h2, by rw [h3]; exact Lib.below_grow _ _ (Nat.le_refl _) _ _⟩
theorem itS_dnum (n : Int) : bl (itS n) = Jr.dnum n := by rw [itS_bl, List.append_nil]; rfl
theorem TabP.lt {w : World} (h : TabP w) : 5 < w.heap.size := by
  unfold TabP Lib.TabIs World.var? at h
  have hg : Tryz.prog.globalNamed "internal/strconv.uint64pow10" = some 5 := by kernel_rfl
  rw [hg] at h
  simp only [Option.bind_some] at h
  rcases Nat.lt_or_ge 5 w.heap.size with h' | h'
  · exact h'
  · rw [Array.getElem?_eq_none h'] at h; cases h
theorem TabP.below {w w' : World} {B : Nat} (h : TabP w) (hB : 5 < B) (hb : Below B w w') : TabP w' := by
  unfold TabP Lib.TabIs World.var? at h ⊢
  have hg : Tryz.prog.globalNamed "internal/strconv.uint64pow10" = some 5 := by kernel_rfl
  rw [hg] at h ⊢
  simp only [Option.bind_some] at h ⊢
  rw [hb.block 5 hB]
  exact h
def ErrAt (w : World) (g : Nat) : Prop := ∃ ev, w.cell? ⟨g, 0, none⟩ = some ev ∧ (ev = .nilIface ∨ ∃ te pe, ev = .iface te pe)
def TabE (w : World) : Prop := ErrAt w 3 ∧ ErrAt w 4
def TabEAt (B : Nat) : Prop := 3 < B ∧ 4 < B
theorem cell_lt {w : World} {p : Addr} {v : Value} (h : w.cell? p = some v) : p.block < w.heap.size := by
  rcases Nat.lt_or_ge p.block w.heap.size with hlt | hge
  · exact hlt
  · simp [World.cell?, Array.getElem?_eq_none hge] at h
theorem TabE.size {w : World} (h : TabE w) : TabEAt w.heap.size := by
  obtain ⟨⟨_, h1, _⟩, ⟨_, h2, _⟩⟩ := h
  exact ⟨cell_lt h1, cell_lt h2⟩
theorem TabE.below {w w' : World} {B : Nat} (h : TabE w) (hB : TabEAt B) (hb : Below B w w') : TabE w' := by
  obtain ⟨⟨e1, h1, k1⟩, ⟨e2, h2, k2⟩⟩ := h
  exact ⟨⟨e1, (hb.cell (p := ⟨3, 0, none⟩) hB.1).trans h1, k1⟩, ⟨e2, (hb.cell (p := ⟨4, 0, none⟩) hB.2).trans h2, k2⟩⟩
theorem TabE.later {w w' : World} (h : TabE w) (hb : Below w.heap.size w w') : TabE w' := h.below h.size hb
theorem parse_ok (X : ByteArray) (hX : X.size ≤ 1048576) (v : Int) (h : Lib.parseIntB 64 X.data.toList = .ok v) (w : World) :
    Calls Tryz.prog 144 #[.string X, .int .i64 10, .int .i64 64] w fun e w' => e = .returned (.tuple #[.int .i64 v, .nilIface]) ∧ Below w.heap.size w w' :=
  (Tryz.strconv_ParseInt_10_at64_ok X (by omega) v h w).mono fun e w' ⟨h1, h2⟩ => ⟨h1, by
    rcases h2 with rfl | ⟨t, rfl⟩
    · exact Below.refl _ _
    · exact Lib.bytesWorld_below _ _ _⟩
/-- What is written is read. -/
theorem parse_itS (n : Int) (h0 : -9223372036854775808 ≤ n) (h1 : n ≤ 9223372036854775807) : Lib.parseIntB 64 (itS n).data.toList = .ok n := by
  show Lib.parseIntB 64 (Lib.itoa n) = .ok n
  unfold Lib.itoa
  by_cases h : n < 0
  · rw [if_pos h, Jr.pi_neg 45 _ rfl (by intro e; have := Jr.dcs_ne n.natAbs; unfold Jr.dcs at this; rw [e] at this; exact this rfl)]
    exact ⟨Jr.dcs_isd _, by show n = -((Jr.val (Jr.dcs n.natAbs) : Nat) : Int); rw [Jr.dcs_val]; omega, by show Jr.val (Jr.dcs n.natAbs) ≤ _; rw [Jr.dcs_val]; omega⟩
  · rw [if_neg h]
    have hd := Jr.dcs_isd n.toNat
    have hv := Jr.dcs_val n.toNat
    have hn := Jr.dcs_ne n.toNat
    unfold Jr.dcs at hd hv hn
    cases hc : Lib.decDigits n.toNat with
    | nil => rw [hc] at hn; exact absurd rfl hn
    | cons c r =>
      rw [hc] at hd hv
      have := hd c.toNat (by simp)
      simp only [Jr.isd, decide_eq_true_eq] at this
      rw [Jr.pi_pos c r (by omega) (by omega)]
      exact ⟨hd, by rw [hv]; omega, by rw [hv]; omega⟩
theorem itS_inj {n m : Int} (h0 : -9223372036854775808 ≤ n ∧ n ≤ 9223372036854775807) (h1 : -9223372036854775808 ≤ m ∧ m ≤ 9223372036854775807) (h : itS n = itS m) : n = m := by
  have e1 := parse_itS n h0.1 h0.2
  rw [h, parse_itS m h1.1 h1.2] at e1
  injection e1 with e1
  exact e1.symm
theorem intSat_in (l : List UInt8) : -9223372036854775808 ≤ Lib.intSat 64 l ∧ Lib.intSat 64 l ≤ 9223372036854775807 := by
  unfold Lib.intSat
  split <;> omega
/-- ParseInt's number, of any text: if the text is a number's, that number. -/
theorem parse_any (X : ByteArray) (hX : X.size ≤ 1048576) (w : World) (T : TabE w) :
    Calls Tryz.prog 144 #[.string X, .int .i64 10, .int .i64 64] w fun e w' => ∃ z x, e = .returned (.tuple #[.int .i64 z, x]) ∧ (-9223372036854775808 ≤ z ∧ z ≤ 9223372036854775807) ∧ (∀ n, -9223372036854775808 ≤ n ∧ n ≤ 9223372036854775807 → X = itS n → z = n) ∧ Below w.heap.size w w' := by
  obtain ⟨⟨e1, h1, k1⟩, ⟨e2, h2, k2⟩⟩ := T
  cases he : Lib.parseIntB 64 X.data.toList with
  | ok v =>
    have hb := Lib.parseIntB_bounds he
    refine (parse_ok X hX v he w).mono fun e w' ⟨h3, h4⟩ => ⟨_, _, h3, ⟨by simpa using hb.1, by have := hb.2; simp at this; omega⟩, fun n hn hx => ?_, h4⟩
    rw [hx, parse_itS n hn.1 hn.2] at he
    injection he with he
    exact he.symm
  | «range» => exact (Tryz.strconv_ParseInt_10_at64_range X (by omega) he e2 w h2 k2).mono fun e w' ⟨N, h3, _, _, h4⟩ => ⟨_, _, h3, intSat_in _, fun n hn hx => (by rw [hx, parse_itS n hn.1 hn.2] at he; cases he), h4⟩
  | _ => exact (Any.strconv_ParseInt_10_at64_syntax Tryz.laysC174 X (by omega) he e1 w h1 k1).mono fun e w' ⟨N, h3, _, _, h4⟩ => ⟨_, _, h3, ⟨by omega, by omega⟩, fun n hn hx => (by rw [hx, parse_itS n hn.1 hn.2] at he; cases he), h4⟩
end Go.Proofs.YtanjdjiigfdnmaaGreatDoor
