/- The reference's Show and Canon; JshowShows: the walk. -/
import Derived.Test.YtgmdjofnkbaflaaDoorRshow
import Derived.Test.YtgmdjofnkbaflaaDoorRsame
import Derived.Test.YtgmdjofnkbaflaaDoorFew8
import Derived.Test.YtgmdjofnkbaflaaDoorFq
import Derived.Test.YtgmdjofnkbaflaaDoorShall
import Derived.BigRegion
namespace Go.Proofs.YtgmdjofnkbaflaaDoor
open Go.RowKit
set_option linter.unusedVariables false
set_option maxRecDepth 100000

/-- Few nodes, of short texts. -/
structure FewI (l : List Nd) : Prop where
  len : l.length ≤ 60
  txt : ∀ x ∈ l, x.key.size ≤ 40 ∧ x.s.size ≤ 60
  ok : ∀ x ∈ l, Nok x
theorem FewI.tok {l : List Nd} (h : FewI l) : TOk l := fun x hx => by have := h.txt x hx; exact ⟨by omega, by omega⟩
theorem few_i (l : List Nd) (h : ∀ x ∈ l, Nok x) : FewI (fewL l) := by
  refine ⟨fewL_len l, fun x hx => ?_, fewL_ok l h⟩
  obtain ⟨y, hy, rfl⟩ := List.mem_map.1 hx
  have a1 := clip_size 40 y.key (by omega)
  have a2 := clip_size 60 y.s (by omega)
  exact ⟨by simp only [clipN]; omega, by simp only [clipN]; omega⟩
theorem FewI.small {l : List Nd} {F : Fo} (h : FewI l) (hM : May l F) : Jr.Small 40 60 F := by
  have e : Tp.flat F = l := hM.2.1.2.2
  intro x hx
  rw [e] at hx
  exact ⟨(h.txt x hx).1, (h.txt x hx).2, (h.ok x hx).2.2.1⟩
theorem FewI.short {l : List Nd} {F : Fo} (h : FewI l) (hM : May l F) : (Jr.shv F).length ≤ 37440 := by
  have h2 := h.small hM
  have e : Tp.sz F = l.length := by rw [← show Tp.flat F = l from hM.2.1.2.2]; rfl
  have h3 := h.len
  obtain ⟨_, ⟨⟨k, y, n, s, c, rfl, hy⟩, _⟩, _⟩ := hM
  have := Jr.shv_le h2
  omega
/-- The nodes of 60 at most are a tape, or none for one reason. -/
theorem FewI.chk {l : List Nd} (h : FewI l) : chk l = 0 ∨ chk l = 60 := by
  have h1 := h.len
  rcases chk_is l with ⟨h0, _, _⟩ | ⟨_, _, e, _⟩ | ⟨_, ⟨F, hR, hd⟩, _, _⟩ | ⟨_, e, _⟩
  · omega
  · exact .inr e
  · have h2 := dep_sz F
    have h3 : Tp.sz F = l.length := by rw [← hR.2.2]; rfl
    omega
  · exact .inl e
theorem FewI.sorted {l : List Nd} {F : Fo} (h : FewI l) (hM : May l F) : FewI (Tp.flat (Tp.sT F)) ∧ May (Tp.flat (Tp.sT F)) (Tp.sT F) := by
  have e : Tp.flat F = l := hM.2.1.2.2
  have hl : (Tp.flat (Tp.sT F)).length = l.length := by
    show Tp.sz _ = _
    rw [Tp.sT_sz, ← e]
    rfl
  refine ⟨⟨by rw [hl]; exact h.len, Tp.sT_all (P := fun x => x.key.size ≤ 40 ∧ x.s.size ≤ 60) (by rw [e]; exact h.txt), Tp.sT_all (P := Nok) (by rw [e]; exact h.ok)⟩, by rw [hl]; exact hM.1, ?_, by rw [Tp.sT_dep]; exact hM.2.2⟩
  obtain ⟨⟨k, y, n, s, c, rfl, hy⟩, hg, _⟩ := hM.2.1
  exact ⟨⟨k, y, n, s, _, by rw [Tp.sT]; rfl, hy⟩, Tp.sT_good _ hg, rfl⟩
theorem FewI.asked {l : List Nd} {k : Int} {y : ByteArray} {n : Int} {s : ByteArray} {c : Fo} (h : FewI l) (hM : May l (.node k y n s c .nil)) : ShI k y n s c := by
  have e : Tp.flat (.node k y n s c .nil) = l := hM.2.1.2.2
  have h2 := h.short hM
  refine ⟨hM.2.1.2.1, fun x hx => (h.ok x (by rw [← e]; exact hx)).2.2.1, fun x hx => by have := h.txt x (by rw [← e]; exact hx); omega, ?_, ?_⟩
  · have h3 := hM.1
    rw [← e] at h3
    have h4 : Tp.sz (.node k y n s c .nil) ≤ 4000 := h3
    rw [Tp.sz_node] at h4
    omega
  · have h3 : (Jr.one k n s (Jr.shp k true c)).length ≤ 37440 := h2
    omega

set_option maxHeartbeats 8000000 in
theorem rShowC (v : Value) (l : List Nd) (w : World) (h : RdN w w.heap.size v l) (hf : FewI l) (x : List Nat) (e : Int) (hx : ShIs l x e) :
    Calls Tryd.prog 16 #[v] w fun r w' => r = .returned (.tuple #[.string (str x), .int .i64 e]) ∧ Below w.heap.size w w' := by
  have HR := Lib.hid h
  have HF := Lib.hid hf
  have hll := Gn.Rd.len' h
  rcases hx with ⟨h0, rfl, rfl⟩ | ⟨F, hM, hx⟩
  · have CK := Lib.hid (rcheck v l w h hf.ok _ rfl)
    have hne : (chk l != 0) = true := by simpa using h0
    have HZ : Hid (⟨#[]⟩ = str []) := Lib.hid rfl
    obtain ⟨va, vc, rfl, _⟩ := Gn.Rd.form h
    clear h hf h0
    generalize chk l = ec at *
    go_enter Tryd.func16, Tryd.ntmps16
    go_wp2_with fail
    ((with_reducible refine (CK.out).mono ?_); rintro r w2 ⟨rfl, b⟩)
    have HB := Lib.hid b
    clear b CK
    go_wp2_with fail
    go_ret2
    exact ⟨by rw [← HZ.out]; rfl, HB.out⟩
  · have hsh := hf.short hM
    obtain ⟨rfl, rfl⟩ : e = 0 ∧ x = Jr.shv F := by
      rcases hx with ⟨_, h2, h3⟩ | ⟨h1, _⟩
      · exact ⟨h2, h3⟩
      · omega
    have CK := Lib.hid (rcheck v l w h hf.ok 0 (may_chk hM).1)
    have hM' := hM
    obtain ⟨_, ⟨⟨k, y, n, s, c, rfl, hy⟩, hg, hfl⟩, _⟩ := hM'
    have CS := Lib.hid (fun (wx : World) (hb : Below w.heap.size w wx) => rshown_all (Tp.sz c) k y n s c v wx (Nat.le_refl _) (hf.asked hM) (by rw [hfl]; exact Gn.Rd.later HR.out hb))
    obtain ⟨z, hz⟩ : ∃ z, str (Jr.shv (.node k y n s c .nil)) = z := ⟨_, rfl⟩
    have hz1 : str (Jr.one k n s (Jr.shp k true c)) = z := hz
    have hzs : z.size ≤ 37440 := by rw [← hz, str_size]; exact hsh
    rw [hz1] at CS
    rw [hz]
    obtain ⟨N, hN⟩ : ∃ N, l.length = N := ⟨_, rfl⟩
    have HN := Lib.hid hN
    have hN60 : N ≤ 60 := by rw [← hN]; exact hf.len
    obtain ⟨va, vc, rfl⟩ := rd_form h N hN
    have hbig : ¬ (1048576 : Int) < z.size := by omega
    clear h hf hM hx hsh hz hz1 hy hg hfl hN
    go_enter Tryd.func16, Tryd.ntmps16
    go_wp2_with fail
    ((with_reducible refine (CK.out).mono ?_); rintro r w2 ⟨rfl, b⟩)
    have HB := Lib.hid b
    clear b CK
    go_wp2_with fail
    go_loopw [5, 6] (fun mv iv wr => ∃ q M : Nat, mv = .int .i64 (M : Nat) ∧ iv = .int .i64 (q : Nat) ∧ q ≤ N ∧ M ≤ 100 * q ∧ Hid (Below w.heap.size w wr)) (fun _ iv _ => N - (intOf iv).toNat)
    case atStart => exact ⟨0, 0, by rfl, by rfl, by omega, by omega, HB⟩
    case round =>
      obtain ⟨q, M, rfl, rfl, hq, hMq, HU⟩ := hrel
      by_cases hlt : q < N
      · have hlt1 : (q : Int) < N := by omega
        obtain ⟨x, hx⟩ : ∃ x, l[q]? = some x := ⟨_, List.getElem?_eq_getElem (by rw [HN.out]; exact hlt)⟩
        obtain ⟨hk, hs⟩ := HF.out.txt x (List.mem_of_getElem? hx)
        obtain ⟨b0, off, rfl, p0, p1, p2, p3, p4⟩ := rdN_cells HR.out HU.out hx
        have d1 : ∀ m, (wr.drewN m).cell? ⟨b0, off + q * 5 + 1, none⟩ = some (.string x.key) := fun m => p1
        have d3 : ∀ m, (wr.drewN m).cell? ⟨b0, off + q * 5 + 3, none⟩ = some (.string x.s) := fun m => p3
        have h1 : ¬ (1048576 : Int) < x.s.size := by omega
        have h2 : ¬ (1048576 : Int) < x.key.size := by omega
        have h3 : ¬ (1048576 : Int) < (M : Nat) := by omega
        have HU2 := Lib.hid HU.out.drew
        clear hx
        go_wp2_with fail
        go_region
        all_goals
          go_wp2_with fail
          go_roundw
          case rel => exact ⟨q + 1, M + x.s.size + x.key.size, by go_num, by go_num, by omega, by omega, HU2⟩
          case measure => simp [intOf]; omega
      · have hlt1 : ¬ (q : Int) < N := by omega
        have C3 := Lib.hid (CS.out wr HU.out)
        clear CS
        go_wp2_with fail
        ((with_reducible refine (C3.out).mono ?_); rintro r w3 ⟨rfl, b⟩)
        have HB3 := Lib.hid (up HU.out b)
        clear b C3
        go_wp2_with fail
        go_ret2
        exact ⟨rfl, HB3.out⟩
/-- What Canon answers. -/
structure CanI (l : List Nd) (x : List Nat) (e : Int) : Prop where
  is : (chk l ≠ 0 ∧ e = 60 ∧ x = []) ∨ ∃ F, May l F ∧ ShIs (Tp.flat (Tp.sT F)) x e
set_option maxHeartbeats 8000000 in
theorem rCanonC (v : Value) (l : List Nd) (w : World) (h : RdN w w.heap.size v l) (hf : FewI l) (x : List Nat) (e : Int) (hx : CanI l x e) :
    Calls Tryd.prog 18 #[v] w fun r w' => r = .returned (.tuple #[.string (str x), .int .i64 e]) ∧ Below w.heap.size w w' := by
  have HR := Lib.hid h
  obtain ⟨va, vc, rfl, _⟩ := Gn.Rd.form h
  rcases hx.is with ⟨h0, rfl, rfl⟩ | ⟨F, hM, hx⟩
  · have h60 : chk l = 60 := by rcases hf.chk with h | h; exact absurd h h0; exact h
    have CK := Lib.hid (rcheck _ l w h hf.ok 60 h60)
    have HZ : Hid (⟨#[]⟩ = str []) := Lib.hid rfl
    clear h hf h0 h60 hx
    go_enter Tryd.func18, Tryd.ntmps18
    go_wp2_with fail
    ((with_reducible refine (CK.out).mono ?_); rintro r w2 ⟨rfl, b⟩)
    have HB := Lib.hid b
    clear b CK
    go_wp2_with fail
    go_ret2
    exact ⟨by rw [← HZ.out]; rfl, HB.out⟩
  · have CK := Lib.hid (rcheck _ l w h hf.ok 0 (may_chk hM).1)
    have CT := Lib.hid (fun (wx : World) (hb : Below w.heap.size w wx) => rsortedC _ l wx (Gn.Rd.later HR.out hb) hf.ok _ (.inl ⟨F, hM, rfl⟩))
    have CS := Lib.hid (fun (u : Value) (wx : World) (hu : RdN wx wx.heap.size u (Tp.flat (Tp.sT F))) => rShowC u _ wx hu (hf.sorted hM).1 x e hx)
    clear h hf hx hM
    go_enter Tryd.func18, Tryd.ntmps18
    go_wp2_with fail
    ((with_reducible refine (CK.out).mono ?_); rintro r w2 ⟨rfl, b⟩)
    have HB := Lib.hid b
    clear b CK
    go_wp2_with fail
    ((with_reducible refine (CT.out _ HB.out).mono ?_); rintro r w3 ⟨u, rfl, ho, b⟩)
    have HB3 := Lib.hid (up HB.out b)
    have C3 := Lib.hid (CS.out u w3 (Gn.Own.rd ndL ho))
    clear b ho CS CT
    go_wp2_with fail
    ((with_reducible refine (C3.out).mono ?_); rintro r w4 ⟨rfl, b⟩)
    have HB4 := Lib.hid (up HB3.out b)
    clear b C3
    go_wp2_with fail
    go_ret2
    exact ⟨rfl, HB4.out⟩
theorem can_ex {l : List Nd} (h : FewI l) : ∃ x e, CanI l x e ∧ ∃ r, SortIs l r ∧ (∀ z ∈ r, Nok z) ∧ TOk r ∧ ShIs r x e := by
  by_cases h0 : chk l = 0
  · obtain ⟨F, hM, _⟩ := may_of h0
    have h2 := (h.sorted hM).1
    obtain ⟨x, e, hx⟩ := sh_ex (Tp.flat (Tp.sT F))
    exact ⟨x, e, ⟨.inr ⟨F, hM, hx⟩⟩, _, .inl ⟨F, hM, rfl⟩, h2.ok, h2.tok, hx⟩
  · exact ⟨[], 60, ⟨.inl ⟨h0, rfl, rfl⟩⟩, [], .inr ⟨h0, rfl⟩, by simp, fun x hx => by simp at hx, nil_sh⟩

set_option maxHeartbeats 8000000 in
theorem jshowShows (v : Value) (l0 : List Nd) (W : World) (h : RdN W W.heap.size v l0) (hok : ∀ x ∈ l0, Nok x) (T : Tab W) (TP : TabP W) :
    Calls Tryd.prog 4 #[v] W fun e w' => e = .returned (.bool true) ∧ Below W.heap.size W w' := by
  have HT := Lib.hid T
  have HTP := Lib.hid TP
  have CF := Lib.hid (few v l0 W h hok)
  have hf := few_i l0 hok
  obtain ⟨va, vc, rfl, _⟩ := Gn.Rd.form h
  obtain ⟨l, hl⟩ : ∃ l, fewL l0 = l := ⟨_, rfl⟩
  rw [hl] at CF hf
  have HF := Lib.hid hf
  obtain ⟨x, e, hx⟩ := sh_ex l
  obtain ⟨x', e', hc, r, hr, hr1, hr2, hr3⟩ := can_ex hf
  have KC := Lib.hid (fun (u : Value) (wx : World) (hu : RdN wx wx.heap.size u l) => rcopy u l wx hu (by have := HF.out.len; omega))
  have K1 := Lib.hid (fun (u : Value) (wx : World) (hb : Below W.heap.size W wx) (hu : RdN wx wx.heap.size u l) => showC u l wx hu HF.out.ok HF.out.tok (HT.out.later hb) (HTP.out.later hb) x e hx)
  have K2 := Lib.hid (fun (u : Value) (wx : World) (hu : RdN wx wx.heap.size u l) => rShowC u l wx hu HF.out x e hx)
  have K3 := Lib.hid (fun (u : Value) (wx : World) (hb : Below W.heap.size W wx) (hu : RdN wx wx.heap.size u l) => canonC u l r wx hu HF.out.ok (HT.out.later hb) (HTP.out.later hb) hr hr1 hr2 x' e' hr3)
  have K4 := Lib.hid (fun (u : Value) (wx : World) (hu : RdN wx wx.heap.size u l) => rCanonC u l wx hu HF.out x' e' hc)
  have KE := Lib.hid (fun (u u' : Value) (wx : World) (hu : RdN wx wx.heap.size u l) (hu' : RdN wx wx.heap.size u' l) => rEq u u' l l wx hu hu' (by have := HF.out.len; omega) true ⟨fun _ => rfl, fun _ => rfl⟩)
  have KW := Lib.hid (fun (wx : World) (hb : Below W.heap.size W wx) => works8 wx (HT.out.later hb) (HTP.out.later hb))
  have q1 : ((str x).toList == (str x).toList) = true := by simp
  have q2 : ((str x').toList == (str x').toList) = true := by simp
  have q3 : (e == e) = true := by simp
  have q4 : (e' == e') = true := by simp
  clear h hok T TP hf hx hc hr hr1 hr2 hr3 hl
  generalize str x = z at *
  generalize str x' = z' at *
  go_enter Tryd.func4, Tryd.ntmps4
  go_wp2_with fail
  ((with_reducible refine (CF.out).mono ?_); rintro r w1 ⟨t, rfl, ho, b⟩)
  have HB1 := Lib.hid b
  have HT1 := Lib.hid (Gn.Own.rd ndL ho)
  have C2 := Lib.hid (KC.out t w1 HT1.out)
  clear b ho CF KC
  go_wp2_with fail
  ((with_reducible refine (C2.out).mono ?_); rintro r w2 ⟨u, rfl, ho, b⟩)
  have HB2 := Lib.hid (up HB1.out b)
  have HT2 := Lib.hid (Gn.Rd.later HT1.out b)
  have HU2 := Lib.hid (Gn.Own.rd ndL ho)
  have C3 := Lib.hid (K1.out t w2 HB2.out HT2.out)
  clear b ho C2 K1 HT1
  go_wp2_with fail
  ((with_reducible refine (C3.out).mono ?_); rintro r w3 ⟨rfl, b⟩)
  have HB3 := Lib.hid (up HB2.out b)
  have HT3 := Lib.hid (Gn.Rd.later HT2.out b)
  have HU3 := Lib.hid (Gn.Rd.later HU2.out b)
  have C4 := Lib.hid (K2.out u w3 HU3.out)
  clear b C3 K2 HT2 HU2
  go_wp2_with fail
  ((with_reducible refine (C4.out).mono ?_); rintro r w4 ⟨rfl, b⟩)
  have HB4 := Lib.hid (up HB3.out b)
  have HT4 := Lib.hid (Gn.Rd.later HT3.out b)
  have HU4 := Lib.hid (Gn.Rd.later HU3.out b)
  have C5 := Lib.hid (K3.out t w4 HB4.out HT4.out)
  clear b C4 K3 HT3 HU3
  go_wp2_with fail
  ((with_reducible refine (C5.out).mono ?_); rintro r w5 ⟨rfl, b⟩)
  have HB5 := Lib.hid (up HB4.out b)
  have HT5 := Lib.hid (Gn.Rd.later HT4.out b)
  have HU5 := Lib.hid (Gn.Rd.later HU4.out b)
  have C6 := Lib.hid (K4.out u w5 HU5.out)
  clear b C5 K4 HT4 HU4
  go_wp2_with fail
  ((with_reducible refine (C6.out).mono ?_); rintro r w6 ⟨rfl, b⟩)
  have HB6 := Lib.hid (up HB5.out b)
  have HT6 := Lib.hid (Gn.Rd.later HT5.out b)
  have HU6 := Lib.hid (Gn.Rd.later HU5.out b)
  have C7 := Lib.hid (KE.out t u w6 HT6.out HU6.out)
  clear b C6 KE HT5 HU5
  go_wp2_with fail
  ((with_reducible refine (C7.out).mono ?_); rintro r w7 ⟨rfl, b⟩)
  have HB7 := Lib.hid (up HB6.out b)
  have HT7 := Lib.hid (Gn.Rd.later HT6.out b)
  have HU7 := Lib.hid (Gn.Rd.later HU6.out b)
  have C8 := Lib.hid (KW.out w7 HB7.out)
  clear b C7 KW HT6 HU6
  go_wp2_with fail
  ((with_reducible refine (C8.out).mono ?_); rintro r w8 ⟨rfl, b⟩)
  have HB8 := Lib.hid (up HB7.out b)
  clear b C8
  go_wp2_with fail
  go_ret
  exact ⟨rfl, HB8.out⟩
end Go.Proofs.YtgmdjofnkbaflaaDoor
