/- JshowShort: the walk. -/
import Derived.Test.YtgmdjofnkbaflaaGreatDoorMayp
import Derived.Test.YtgmdjofnkbaflaaGreatDoorTxtLe
import Derived.Test.YtgmdjofnkbaflaaGreatDoorZs
import Derived.Test.YtgmdjofnkbaflaaGreatDoorEq8
namespace Go.Proofs.YtgmdjofnkbaflaaGreatDoor
open Go.RowKit
set_option linter.unusedVariables false
set_option maxRecDepth 100000

theorem reads_ne8 {l : List Nat} {a : Nat} {n : Int} (hl : l.length ≤ 1000000) (hb : ∀ x ∈ l, x < 256) (h : Jr.Reads l (.err a n)) : n ≠ 0 := by
  unfold Jr.Reads at h
  rw [if_neg (by omega)] at h
  obtain ⟨u, h1, h2⟩ := h
  obtain ⟨k1, k2⟩ := steps_inv hl (init_inv l hb) (Jr.Ok.plain (by simp [Jr.init]) (by simp [Jr.init])) h1
  have := step_ok (skip_inv k1).byte
  unfold Jr.step at h2
  rwa [h2] at this
theorem reads_len {l : List Nat} {F : Fo} (hl : l.length ≤ 1000000) (hb : ∀ x ∈ l, x < 256) (h : Jr.Reads l (.ok F)) : (Jr.shp 6 true F).length ≤ l.length := by
  have h' := h
  unfold Jr.Reads at h
  rw [if_neg (by omega)] at h
  refine Jr.reads_short hb (fun u hu => ?_) h
  obtain ⟨k1, _⟩ := steps_inv hl (init_inv l hb) (Jr.Ok.plain (by simp [Jr.init]) (by simp [Jr.init])) hu
  have := k1.at_
  have := Jr.nb_le u.s
  omega
/-- What a text of 1000 bytes at most is read as. -/
structure ROk (F : Fo) (m : Nat) : Prop where
  one : Jr.One F
  good : Tp.good F
  nfit : Jr.NFit F
  sz : Tp.sz F ≤ m
  dep : Tp.dep F ≤ 64
  len : (Jr.shv F).length ≤ m
  ok : ∀ x ∈ Tp.flat F, Nok x
  tok : TOk (Tp.flat F)
  may : May (Tp.flat F) F
theorem rok_of {l : List Nat} {F : Fo} (hl : l.length ≤ 1000) (hb : ∀ x ∈ l, x < 256) (h : Jr.Reads l (.ok F)) : ROk F l.length := by
  obtain ⟨k1, k2, k3⟩ := reads_res (by omega) hb h
  have hsh := reads_len (by omega) hb h
  obtain ⟨m1, m2⟩ := whole_may k1 k2 k3
  obtain ⟨⟨k, y, n, s, c, e, hy⟩, g, d⟩ := k1
  obtain rfl := Jr.sz0 hy
  have hfl : Jr.shp 6 true F = Jr.shv F := by rw [e]; exact Jr.shp_shv
  rw [hfl] at hsh
  have hg := Jr.shp_ge F 6 true g
  rw [hfl] at hg
  refine ⟨⟨k, n, s, c, e⟩, g, fun x hx => (k2 x hx).2.1, by omega, d, hsh, m2, fun x hx => ?_, ⟨k3, ⟨⟨k, ⟨#[]⟩, n, s, c, e, rfl⟩, g, rfl⟩, d⟩⟩
  subst e
  have := Jr.txt_val g x hx
  exact ⟨by omega, by omega⟩
theorem ROk.sh {F : Fo} {m : Nat} (h : ROk F m) (hm : m ≤ 1000) : ShIs (Tp.flat F) (Jr.shv F) 0 := sh_ok h.may (by have := h.len; omega)
theorem ROk.byte {F : Fo} {m : Nat} (h : ROk F m) (hm : m ≤ 1000) : ∀ x ∈ Jr.shv F, x < 256 := sh_byte (h.sh hm) h.ok
theorem ROk.reads {F : Fo} {m : Nat} (h : ROk F m) (hm : m ≤ 1000) : Jr.Reads (bl (str (Jr.shv F))) (.ok F) := by
  rw [bl_str _ (h.byte hm)]
  have h1 := h.sz
  have h2 := h.len
  exact Jr.reads_shv h.one h.good h.nfit (by omega) h.dep (by omega)
theorem eq_self8 (z : ByteArray) : (z.toList == z.toList) = true := by simp

set_option maxHeartbeats 8000000 in
theorem jshowShort (s0 : ByteArray) (w : World) (hs : s0.size ≤ maxLen) (T : Tab w) (TE : TabE w) (TP : TabP w) :
    Calls Tryz.prog 9 #[.string s0] w fun e w' => e = .returned (.bool true) ∧ Below w.heap.size w w' := by
  have hm := hs
  unfold maxLen at hm
  obtain ⟨s, hse⟩ : ∃ s, s0.extract 0 (min (s0.size : Int) 1000).toNat = s := ⟨_, rfl⟩
  have hsm : s.size ≤ 1000 := by rw [← hse, ByteArray.size_extract]; omega
  have hsl : ∀ w, (Instr.slice 9 (.string s0) none (some (.int .i64 (min (s0.size : Int) 1000))) none).run Tryz.prog w = .ok (.string s) w := fun w => by
    rw [run_slice_string_to_if w 9 s0 .i64 _ Tryz.underlying9, if_pos (by omega), hse]
  have HT := Lib.hid T
  have HTE := Lib.hid TE
  have HTP := Lib.hid TP
  have C := Lib.hid (fun w (T : Tab w) (TE : TabE w) => jparse s T TE (.inl (by omega)))
  have CW := Lib.hid (fun w T TP => works8 w T TP)
  have HS := Lib.hid hsm
  clear hse T TE TP hs hm
  go_enter Tryz.func9, Tryz.ntmps9
  go_wp2_with fail
  ((with_reducible refine (C.out w HT.out HTE.out).mono ?_); rintro e w2 ⟨r, hr, hp⟩)
  cases r with
  | err a n =>
    obtain ⟨rfl, hb⟩ := hp
    have hn := reads_ne8 (by rw [bl_length]; have := HS.out; omega) (bl_byte s) hr
    have hn1 : (n != 0) = true := by simp; exact hn
    have HB := Lib.hid hb
    have CS := Lib.hid (showC (.slice none 0 0) [] w2 (Gn.Rd.nil _ _) (by simp) (fun x hx => by simp at hx) (HT.out.later hb) (HTP.out.later hb) [] 60 nil_sh)
    have hz0 : (str []).toList.isEmpty = true := by rw [bl_empty]; rfl
    clear hb hr hn C hsl hsm
    generalize str [] = z at *
    go_wp2_with fail
    ((with_reducible refine (CS.out).mono ?_); rintro e w3 ⟨rfl, b⟩)
    have HB3 := Lib.hid (up HB.out b)
    have CX := Lib.hid (CW.out w3 (HT.out.later HB3.out) (HTP.out.later HB3.out))
    clear b CS CW
    go_wp2_with fail
    ((with_reducible refine (CX.out).mono ?_); rintro e w4 ⟨rfl, b⟩)
    have HB4 := Lib.hid (up HB3.out b)
    clear b CX
    go_wp2_with fail
    go_ret
    exact ⟨rfl, HB4.out⟩
  | ok F =>
    obtain ⟨v, rfl, ho, hb⟩ := hp
    have HF := Lib.hid (rok_of (by rw [bl_length]; exact hsm) (bl_byte s) hr)
    rw [bl_length] at HF
    have HR := Lib.hid (Gn.Own.rd ndL ho)
    have HB := Lib.hid hb
    obtain ⟨n, hn⟩ : ∃ n, (Tp.flat F).length = n := ⟨_, rfl⟩
    have hn1 : n ≤ 1000 := by have := HF.out.sz; rw [← hn, flat_sz]; omega
    have HN := Lib.hid hn
    obtain ⟨va, vc, rfl⟩ := rd_form HR.out n hn
    have CS := Lib.hid (fun v w (h : RdN w w.heap.size v (Tp.flat F)) T TP => showC v _ w h HF.out.ok HF.out.tok T TP _ 0 (HF.out.sh hsm))
    have C2 := Lib.hid (CS.out _ w2 HR.out (HT.out.later hb) (HTP.out.later hb))
    have HRD := Lib.hid (HF.out.reads hsm)
    have hzs : (str (Jr.shv F)).size ≤ s.size := by rw [str_size]; exact HF.out.len
    have hzs' : ((str (Jr.shv F)).size : Int) ≤ s.size := by omega
    have hzz := eq_self8 (str (Jr.shv F))
    clear hb hr ho C hsl hn
    generalize str (Jr.shv F) = z at *
    go_wp2_with fail
    ((with_reducible refine (C2.out).mono ?_); rintro e w3 ⟨rfl, b⟩)
    have HB3 := Lib.hid (up HB.out b)
    have CP := Lib.hid (jparse z (HT.out.later HB3.out) (HTE.out.later HB3.out) (.inl (by omega)))
    have HR3 := Lib.hid (Gn.Rd.later HR.out b)
    clear b C2 HR
    go_wp2_with fail
    ((with_reducible refine (CP.out).mono ?_); rintro e w4 hp)
    obtain ⟨u, rfl, ho, b⟩ := parsed_only hp HRD.out
    have HB4 := Lib.hid (up HB3.out b)
    have HR4 := Lib.hid (Gn.Rd.later HR3.out b)
    have HU4 := Lib.hid (Gn.Own.rd ndL ho)
    obtain ⟨ua, uc, rfl⟩ := rd_form HU4.out n HN.out
    have C4 := Lib.hid (CS.out _ w4 HU4.out (HT.out.later HB4.out) (HTP.out.later HB4.out))
    clear hp b ho CP HR3 CS
    go_wp2_with fail
    ((with_reducible refine (C4.out).mono ?_); rintro e w5 ⟨rfl, b⟩)
    have HB5 := Lib.hid (up HB4.out b)
    have CE := Lib.hid (jlawEq8 _ _ _ _ w5 (Gn.Rd.later HR4.out b) (Gn.Rd.later HU4.out b) (by rw [HN.out]; omega) true ⟨fun _ => rfl, fun _ => rfl⟩)
    clear b C4
    go_wp2_with fail
    ((with_reducible refine (CE.out).mono ?_); rintro e w6 ⟨rfl, b⟩)
    have HB6 := Lib.hid (up HB5.out b)
    have CX := Lib.hid (CW.out w6 (HT.out.later HB6.out) (HTP.out.later HB6.out))
    clear b CE CW
    go_wp2_with fail
    ((with_reducible refine (CX.out).mono ?_); rintro e w7 ⟨rfl, b⟩)
    have HB7 := Lib.hid (up HB6.out b)
    clear b CX
    go_wp2_with fail
    go_ret
    exact ⟨rfl, HB7.out⟩
end Go.Proofs.YtgmdjofnkbaflaaGreatDoor
