/- End; the reference's Fail, rest, Left and End; readers are made. -/
import Derived.Test.YtdijcgjgdfhapaaRead
namespace Go.Proofs.Ytdijcgjgdfhapaa
open Go.RowKit
set_option linter.unusedVariables false

/-- What End answers of a reader without an error. -/
def endV (l : List Nat) (p : Nat) : Int := if p < l.length then 30 else 0
set_option maxHeartbeats 400000 in
theorem end_stuck (v : Value) (e : Int) (w : World) (h : RE w v e) (hne : e ≠ 0) : Calls Try.prog 30 #[v] w (Drew w (.int .i64 e)) := by
  have hb : (e != 0) = true := by simpa using hne
  have H := Lib.hid h
  clear h hne
  go_enter Try.func30, Try.ntmps30
  go_wp2_with fail
  refine (err v e _ H.out).mono ?_
  rintro y w1 ⟨rfl, rfl⟩
  go_wp2
  go_ret
  exact ⟨0, rfl, rfl⟩
set_option maxHeartbeats 400000 in
theorem end_live (R : Nat → Prop) (g p : Nat) (l : List Nat) (w : World) (h : PR w R g l p 0) : Calls Try.prog 30 #[.pointer (some ⟨g, 0, none⟩)] w (Drew w (.int .i64 (endV l p))) := by
  have hp := h.at
  have hl := h.len
  have H := Lib.hid h
  clear h
  by_cases hlt : p < l.length
  · have hE := Lib.hid (show endV l p = 30 by unfold endV; rw [if_pos hlt])
    go_enter Try.func30, Try.ntmps30
    go_wp2_with fail
    refine (err _ 0 _ H.out.re).mono ?_
    rintro y w1 ⟨rfl, rfl⟩
    go_wp2_with fail
    refine (left R g p l 0 _ H.out).mono ?_
    rintro y w1 ⟨n, rfl, rfl⟩
    go_wp2
    go_ret
    rw [hE.out]
    exact ⟨n, rfl, rfl⟩
  · have hE := Lib.hid (show endV l p = 0 by unfold endV; rw [if_neg hlt])
    go_enter Try.func30, Try.ntmps30
    go_wp2_with fail
    refine (err _ 0 _ H.out.re).mono ?_
    rintro y w1 ⟨rfl, rfl⟩
    go_wp2_with fail
    refine (left R g p l 0 _ H.out).mono ?_
    rintro y w1 ⟨n, rfl, rfl⟩
    go_wp2
    go_ret
    rw [hE.out]
    exact ⟨n, rfl, rfl⟩

set_option maxHeartbeats 400000 in
theorem rfail_live (R : Nat → Prop) (g p : Nat) (l : List Nat) (c : Int) (w : World) (h : QR w R g l p 0) : Calls Try.prog 63 #[.pointer (some ⟨g, 0, none⟩), .int .i64 c] w (QMove w R g l p c undef) := by
  have H := Lib.hid h
  obtain ⟨v, hb, -⟩ := h
  have h2 := hb.cell 2
  have hf := hb.frozen 2
  simp at h2
  go_enter Try.func63, Try.ntmps63
  go_wp2
  go_end0
  exact ⟨rfl, H.out.failed c⟩
set_option maxHeartbeats 400000 in
theorem rfail_stuck (R : Nat → Prop) (g p : Nat) (l : List Nat) (e c : Int) (w : World) (h : QR w R g l p e) (hne : e ≠ 0) : Calls Try.prog 63 #[.pointer (some ⟨g, 0, none⟩), .int .i64 c] w (QMove w R g l p e undef) := by
  have hbe : (e == 0) = false := by simpa using hne
  have H := Lib.hid h
  obtain ⟨v, hb, -⟩ := h
  have h2 := hb.cell 2
  have hf := hb.frozen 2
  simp at h2
  clear hne
  go_enter Try.func63, Try.ntmps63
  go_wp2
  go_end0
  exact ⟨rfl, H.out, Touch.refl _ _⟩
theorem byte_elem : Try.prog.elem 32 = 5 := by kernel_rfl
theorem byte_under : Try.prog.underlying 32 = some (.slice (Try.prog.elem 32)) := by rw [byte_elem]; exact Try.underlying32
theorem byte_size (w : World) : (Go.sizeOf (Try.prog.elem 32)).run Try.prog w = .ok 1 w := by
  rw [byte_elem]
  simp [Go.sizeOf]
  kernel_rfl
/-- A cut reads as a cut. -/
theorem rd_sliced (w : World) (B : Nat) (a : Option Addr) (l : List Nat) (c k m : Nat) (h : Rd w B (.slice a l.length c) l) (hk : k ≤ m) (hm : m ≤ l.length) :
    Rd w B (.slice (if c = k then a else a.map (·.add k)) (m - k) (c - k)) ((l.take m).drop k) := by
  obtain ⟨a', c', e, h1, h2, h3, h4, h5⟩ := h
  injection e with e1 e2 e3
  subst e1 e3
  have hlen : ((l.take m).drop k).length = m - k := by rw [List.length_drop, List.length_take]; omega
  refine ⟨_, _, by rw [hlen], by rw [hlen]; omega, by omega, fun hn => ?_, fun x hx => h4 x (List.mem_of_mem_take (List.mem_of_mem_drop hx)), fun hp' => ?_⟩
  · by_cases e : c = k
    · omega
    · rw [if_neg e] at hn
      have := h3 (by simpa using hn)
      omega
  · rw [hlen] at hp'
    obtain ⟨b, off, rfl, hb, hc⟩ := h5 (by omega)
    refine ⟨b, off + k, by rw [if_neg (by omega)]; simp [add_plain], hb, fun j hj => ?_⟩
    rw [hlen] at hj
    rw [Nat.add_assoc, hc (k + j) (by omega)]
    simp [show k + j < m by omega]
/-- A slice, from a place on. -/
theorem cut_from (w : World) (B : Nat) (a : Option Addr) (l : List Nat) (c p : Nat) (h : Rd w B (.slice a l.length c) l) (hp : p ≤ l.length) :
    ∃ u, (∀ w', (Instr.slice 32 (.slice a l.length c) (some (.int .i64 (p : Int))) none none).run Try.prog w' = .ok u w') ∧ Rd w B u (l.drop p) := by
  refine ⟨_, fun w' => ?_, by have := rd_sliced w B a l c p l.length h hp (Nat.le_refl _); rw [List.take_length] at this; exact this⟩
  rw [run_slice_l w' _ _ _ _ byte_under _ _ (by omega) (by omega), byte_size]
  simp [sliced]
/-- A slice, up to a place. -/
theorem cut_to (w : World) (B : Nat) (a : Option Addr) (l : List Nat) (c p : Nat) (h : Rd w B (.slice a l.length c) l) (hp : p ≤ l.length) :
    ∃ u, (∀ w', (Instr.slice 32 (.slice a l.length c) none (some (.int .i64 (p : Int))) none).run Try.prog w' = .ok u w') ∧ Rd w B u (l.take p) := by
  obtain ⟨_, _, e, hlc, _⟩ := id h
  injection e with _ _ e3
  subst e3
  refine ⟨_, fun w' => ?_, by have := rd_sliced w B a l c 0 p h (Nat.zero_le _) hp; rw [List.drop_zero] at this; exact this⟩
  rw [run_slice_h w' _ _ _ _ byte_under _ _ (by omega) (by omega), byte_size]
  simp [sliced]
/-- A slice, from a place to a place. -/
theorem cut_mid (w : World) (B : Nat) (a : Option Addr) (l : List Nat) (c k p : Nat) (h : Rd w B (.slice a l.length c) l) (hk : k ≤ p) (hp : p ≤ l.length) :
    ∃ u, (∀ w', (Instr.slice 32 (.slice a l.length c) (some (.int .i64 (k : Int))) (some (.int .i64 (p : Int))) none).run Try.prog w' = .ok u w') ∧ Rd w B u ((l.take p).drop k) := by
  obtain ⟨_, _, e, hlc, _⟩ := id h
  injection e with _ _ e3
  subst e3
  refine ⟨_, fun w' => ?_, rd_sliced w B a l c k p h hk hp⟩
  rw [run_slice_lh w' _ _ _ _ byte_under _ _ _ _ (by omega) (by omega) (by omega), byte_size]
  simp [sliced]
/-- What rest hands back. -/
def RestP (w : World) (l : List Nat) (p : Nat) (x : Ending) (w' : World) : Prop := ∃ u n, x = .returned u ∧ w' = w.drewN n ∧ Rd w w.heap.size u (l.drop p)
set_option maxHeartbeats 400000 in
theorem rrest (R : Nat → Prop) (g p : Nat) (l : List Nat) (e : Int) (w : World) (h : QR w R g l p e) : Calls Try.prog 64 #[.pointer (some ⟨g, 0, none⟩)] w (RestP w l p) := by
  obtain ⟨v, hb, ho, _, _, _, hp, hl⟩ := h
  have h1 := hb.cell 0
  have h3 := hb.cell 1
  simp at h1 h3
  have hr := ho.rd
  obtain ⟨a, c, rfl, hc, -⟩ := ho.rd
  obtain ⟨u, hu, hru⟩ := cut_from w _ a l c p hr hp
  have HU := Lib.hid hru
  clear hr ho hru
  go_enter Try.func64, Try.ntmps64
  go_wp2
  go_quiet (fail)
  go_wp2
  go_ret
  exact ⟨_, _, rfl, rfl, HU.out⟩
set_option maxHeartbeats 400000 in
theorem rleft (R : Nat → Prop) (g p : Nat) (l : List Nat) (e : Int) (w : World) (h : QR w R g l p e) : Calls Try.prog 29 #[.pointer (some ⟨g, 0, none⟩)] w (Drew w (.int .i64 ((l.length : Int) - (p : Int)))) := by
  have hp := h.at
  have H := Lib.hid h
  clear h
  go_enter Try.func29, Try.ntmps29
  go_wp2_with fail
  refine (rrest R g p l e _ H.out).mono ?_
  rintro y w1 ⟨u, n, rfl, rfl, hr⟩
  obtain ⟨a, c, rfl, -⟩ := hr
  go_wp2
  go_ret
  exact ⟨n, congrArg (fun z : Int => Ending.returned (.int .i64 z)) (by omega), rfl⟩
set_option maxHeartbeats 400000 in
theorem rend_stuck (R : Nat → Prop) (g p : Nat) (l : List Nat) (e : Int) (w : World) (h : QR w R g l p e) (hne : e ≠ 0) : Calls Try.prog 31 #[.pointer (some ⟨g, 0, none⟩)] w (Drew w (.int .i64 e)) := by
  have hbe : (e == 0) = false := by simpa using hne
  obtain ⟨v, hb, -⟩ := h
  have h2 := hb.cell 2
  simp at h2
  clear hne
  go_enter Try.func31, Try.ntmps31
  go_wp2
  go_ret
  exact ⟨0, rfl, rfl⟩
set_option maxHeartbeats 400000 in
theorem rend_live (R : Nat → Prop) (g p : Nat) (l : List Nat) (w : World) (h : QR w R g l p 0) : Calls Try.prog 31 #[.pointer (some ⟨g, 0, none⟩)] w (Drew w (.int .i64 (endV l p))) := by
  have hp := h.at
  have H := Lib.hid h
  obtain ⟨v, hb, -⟩ := h
  have h2 := hb.cell 2
  simp at h2
  by_cases hlt : p < l.length
  · have hE := Lib.hid (show endV l p = 30 by unfold endV; rw [if_pos hlt])
    go_enter Try.func31, Try.ntmps31
    go_wp2_with fail
    refine (rleft R g p l 0 _ H.out).mono ?_
    rintro y w1 ⟨n, rfl, rfl⟩
    go_wp2
    go_ret
    rw [hE.out]
    exact ⟨n, rfl, rfl⟩
  · have hE := Lib.hid (show endV l p = 0 by unfold endV; rw [if_neg hlt])
    go_enter Try.func31, Try.ntmps31
    go_wp2_with fail
    refine (rleft R g p l 0 _ H.out).mono ?_
    rintro y w1 ⟨n, rfl, rfl⟩
    go_wp2
    go_ret
    rw [hE.out]
    exact ⟨n, rfl, rfl⟩

/-- A reader is made, of new memory. -/
def NewP (w : World) (l : List Nat) (x : Ending) (w' : World) : Prop :=
  ∃ g R, x = .returned (.pointer (some ⟨g, 0, none⟩)) ∧ PR w' R g l 0 0 ∧ Below w.heap.size w w' ∧ ∀ k, R k → w.heap.size ≤ k
def NewQ (w : World) (l : List Nat) (x : Ending) (w' : World) : Prop :=
  ∃ g R, x = .returned (.pointer (some ⟨g, 0, none⟩)) ∧ QR w' R g l 0 0 ∧ Below w.heap.size w w' ∧ ∀ k, R k → w.heap.size ≤ k
set_option maxHeartbeats 400000 in
theorem newReader (u : Value) (l : List Nat) (w : World) (h : Rd w w.heap.size u l) (hl : l.length ≤ 100000) : Calls Try.prog 22 #[u] w (NewP w l) := by
  go_enter Try.func22, Try.ntmps22
  go_wp2_with fail
  refine (clone u l _ h (by omega)).mono ?_
  rintro x w1 ⟨r, rfl, ho, hb⟩
  obtain ⟨a, c, rfl, -⟩ := ho.rd
  go_wp2
  go_ret
  have hb2 := new_below w1 (.cells #[.bool true, .slice a l.length c, .int .i64 0, .int .i64 0] 71)
  refine ⟨_, fun k => w.heap.size ≤ k ∧ k < (w1.alloc (.cells #[.bool true, .slice a l.length c, .int .i64 0, .int .i64 0] 71)).heap.size, rfl, ⟨_, Blk.new _ _ _, (ho.later hb2).lower (Nat.zero_le _), ⟨hb.size, ?_⟩, fun k hk => ?_, fun k hk => hk.2, Nat.zero_le _, hl⟩, up hb hb2, fun k hk => hk.1⟩
  · simp
  · have := ho.lt k hk
    simp
    omega
set_option maxHeartbeats 400000 in
theorem rnewReader (u : Value) (l : List Nat) (w : World) (h : Rd w w.heap.size u l) (hl : l.length ≤ 100000) : Calls Try.prog 23 #[u] w (NewQ w l) := by
  go_enter Try.func23, Try.ntmps23
  go_wp2_with fail
  refine (copyBytes u l _ h (by omega)).mono ?_
  rintro x w1 ⟨r, rfl, ho, hb⟩
  obtain ⟨a, c, rfl, -⟩ := ho.rd
  go_wp2
  go_ret
  have hb2 := new_below w1 (.cells #[.slice a l.length c, .int .i64 0, .int .i64 0] 56)
  refine ⟨_, fun k => w.heap.size ≤ k ∧ k < (w1.alloc (.cells #[.slice a l.length c, .int .i64 0, .int .i64 0] 56)).heap.size, rfl, ⟨_, Blk.new _ _ _, (ho.later hb2).lower (Nat.zero_le _), ⟨hb.size, ?_⟩, fun k hk => ?_, fun k hk => hk.2, Nat.zero_le _, hl⟩, up hb hb2, fun k hk => hk.1⟩
  · simp
  · have := ho.lt k hk
    simp
    omega
end Go.Proofs.Ytdijcgjgdfhapaa
