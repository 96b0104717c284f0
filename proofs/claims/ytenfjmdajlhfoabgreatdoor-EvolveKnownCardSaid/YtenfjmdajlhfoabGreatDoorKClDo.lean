/- Texts. -/
import Derived.Test.YtenfjmdajlhfoabGreatDoorKU5
set_option maxHeartbeats 8000000
namespace Go.Proofs.YtenfjmdajlhfoabGreatDoor
open Go.RowKit
set_option linter.unusedVariables false
set_option maxRecDepth 100000
theorem BX.lies {w0 w:World} {u:Bool} {k:Int} {c:Cl.C} (h:BX w0 u k c w):(w.cell? ⟨w0.heap.size,0,none⟩=some (.int .i64 k)∧w.cell? ⟨w0.heap.size,1,none⟩=some (.bool u))∧(w.cell? ⟨w0.heap.size+1,0,none⟩=some (.bool c.u)∧w.cell? ⟨w0.heap.size+1,1,none⟩=some (.int .i64 c.n)∧w.cell? ⟨w0.heap.size+1,2,none⟩=some (.string c.s)):=⟨h.t.lie,h.c.lie⟩
theorem chk_may {u:Bool} {k:Int} {c:Cl.C} (h:Cl.may k=true):Cl.chk u k c=if Cl.of u k c=false then 90 else 0:=by unfold Cl.chk;rw [h];rfl
theorem none_eq (u0:Bool) (n:Int) (s:ByteArray):eqc ⟨u0,n,s⟩ ⟨true,0,⟨#[]⟩⟩=Cl.none? ⟨u0,n,s⟩:=by
 unfold eqc Cl.none?
 rw [Bool.eq_iff_iff]
 simp [bl]
 exact⟨fun h=>⟨h.1.1,h.1.2,h.2⟩,fun h=>⟨⟨h.1,h.2.1⟩,h.2.2⟩⟩
theorem checkNo (u:Bool) (k:Int) (c:Cl.C) (w:World) (hk:Cl.may k=false):Calls Tryz.prog 56 #[tv u k,cv c] w fun e w'=>e=.returned (.int .i64 2)∧Below w.heap.size w w':=by
 have HM:=hZ (fun w=>cMay u k w false hk)
 have B0:=hZ (BX.start w u k c)
 clear hk
 obtain⟨u0,n,s⟩:=c
 unfold tv cv
 unfold tv at HM
 simp only at B0 ⊢
 go_enter Tryz.func56,Tryz.ntmps56
 go_wp2_with fail
 ((with_reducible refine (HM.out _).mono ?_);rintro e w1 ⟨rfl,b1⟩)
 have B1:=hZ (B0.out.later b1).b
 clear b1
 go_wp2_with fail
 go_ret
 exact⟨rfl,B1.out⟩
theorem check1 (u:Bool) (c:Cl.C) (w:World) (T:TA w) (hi:Cl.I64 c.n) (hm:c.s.size≤1000000) (e0:Nat) (he:Cl.chk u 1 c=e0):Calls Tryz.prog 56 #[tv u 1,cv c] w fun e w'=>e=.returned (.int .i64 (e0:Nat))∧Below w.heap.size w w':=by
 rw [chk_may (by decide)] at he
 obtain⟨r,hr⟩:∃ r,Cl.isK 1 c=r:=⟨_,rfl⟩
 have HM:=hZ (fun w=>cMay u 1 w true (by decide))
 have B0:=hZ (BX.start w u 1 c)
 have TW:=hZ (fun w1 (hb:Below w.heap.size w w1)=>T.later hb)
 have CK:=hZ (fun w=>kindOf1 u w)
 have CI:=hZ (fun w1 (hb:Below w.heap.size w w1)=>kf1.is c w1 r (T.later hb) hi hm hr)
 unfold Cl.of at he
 rw [hr] at he
 obtain⟨u0,n,s⟩:=c
 rw [← none_eq] at he
 obtain⟨q,hq⟩:∃ q,eqc ⟨u0,n,s⟩ ⟨true,0,⟨#[]⟩⟩=q:=⟨_,rfl⟩
 have HE:=fun w=>run_eqc ⟨u0,n,s⟩ ⟨true,0,⟨#[]⟩⟩ w
 rw [hq] at he HE
 clear hq hr hi hm T
 unfold tv kv1 at CK
 unfold tv at HM ⊢
 unfold cv at HE CI ⊢
 simp only at B0 HE CI ⊢
 by_cases hn:u=true∧q=true
 ·obtain⟨rfl,rfl⟩:=hn
  obtain rfl:0=e0:=by simpa using he
  clear he CI CK TW
  go_enter Tryz.func56,Tryz.ntmps56
  go_wp2_with fail
  ((with_reducible refine (HM.out _).mono ?_);rintro e w1 ⟨rfl,b1⟩)
  have BB:=hZ (B0.out.later b1)
  obtain⟨⟨t0,t1⟩,⟨c0,c1,c2⟩⟩:=BB.out.lies
  simp only at t0 t1 c0 c1 c2
  clear b1
  go_wp2_with fail
  go_ret
  exact⟨rfl,BB.out.b⟩
 ·have HH:Hid (e0=if r=true then 0 else 90):=hZ (by
   rw [← he]
   cases u<;>cases q<;>cases r<;>simp at hn ⊢)
  clear he
  have hb:∀ w1,BX w u 1 ⟨u0,n,s⟩ w1→True:=fun _ _=>trivial
  rcases (show u=false ∨ (u=true∧q=false) by cases u<;>cases q<;>simp at hn ⊢) with hu|⟨hu,hq⟩
  ·skip
   subst hu
   clear hn hb
   go_enter Tryz.func56,Tryz.ntmps56
   go_wp2_with fail
   ((with_reducible refine (HM.out _).mono ?_);rintro e wb ⟨rfl,b1⟩)
   have BB:=hZ (B0.out.later b1)
   have BA:=hZ BB.out.b
   obtain⟨⟨t0,t1⟩,⟨c0,c1,c2⟩⟩:=BB.out.lies
   simp only at t0 t1 c0 c1 c2
   clear b1 HM
   have SK:=hZ (fun w1 (hb:Below wb.heap.size wb w1)=>(⟨hb,(BB.out.later hb).lies⟩:Below wb.heap.size wb w1∧_))
   simp only at SK
   have C1:=hZ (fun w1 (hb:Below wb.heap.size wb w1)=>(CK.out w1).mono (fun e w' h=>(⟨h.1,up hb h.2⟩:e=_∧Below wb.heap.size wb w')))
   have C2:=hZ (fun w1 (hb:Below wb.heap.size wb w1)=>(CI.out w1 (up BA.out hb)).mono (fun e w' h=>(⟨h.1,up hb h.2⟩:e=_∧Below wb.heap.size wb w')))
   clear CK CI
   have hf:∀ w,(Instr.field 104 (.agg #[.func (Fn.func 90) #[] #[],.func (Fn.func 91) #[] #[],.func (Fn.func 92) #[] #[],.func (Fn.func 93) #[] #[],.func (Fn.func 94) #[] #[]]) 0).run Tryz.prog w=.ok (.func (Fn.func 90) #[] #[]) w:=fun _=>by kernel_rfl
   go_wp2_with fail
   go_region_held3 (fun w'=>Below wb.heap.size wb w'∧((w'.cell? ⟨w.heap.size,0,none⟩=some (.int .i64 1)∧w'.cell? ⟨w.heap.size,1,none⟩=some (.bool false))∧(w'.cell? ⟨w.heap.size+1,0,none⟩=some (.bool u0)∧w'.cell? ⟨w.heap.size+1,1,none⟩=some (.int .i64 n)∧w'.cell? ⟨w.heap.size+1,2,none⟩=some (.string s))))
    (first | exact SK.out _ (Below.refl _ _).drew | exact SK.out _ (Below.refl _ _) | exact SK.out _ HC.out | exact SK.out _ HA.out | fail "keep")
    ((first
      | (go_at_call 73;(with_reducible refine (C1.out _ (by first|exact (Below.refl _ _).drew|exact (Below.refl _ _))).mono ?_);rintro e wA ⟨rfl,hA⟩;have HA:=hZ hA;clear hA)
      | (go_at_call 90;(with_reducible refine (C2.out _ HA.out).mono ?_);rintro e wC ⟨rfl,hC⟩;have HC:=hZ hC;clear hC)))
   cases r
   all_goals
    go_wp2_with fail
    go_ret
    exact⟨by rw [HH.out];rfl,up BA.out HC.out⟩
  ·skip
   subst hu;subst hq
   clear hn hb
   go_enter Tryz.func56,Tryz.ntmps56
   go_wp2_with fail
   ((with_reducible refine (HM.out _).mono ?_);rintro e wb ⟨rfl,b1⟩)
   have BB:=hZ (B0.out.later b1)
   have BA:=hZ BB.out.b
   obtain⟨⟨t0,t1⟩,⟨c0,c1,c2⟩⟩:=BB.out.lies
   simp only at t0 t1 c0 c1 c2
   clear b1 HM
   have SK:=hZ (fun w1 (hb:Below wb.heap.size wb w1)=>(⟨hb,(BB.out.later hb).lies⟩:Below wb.heap.size wb w1∧_))
   simp only at SK
   have C1:=hZ (fun w1 (hb:Below wb.heap.size wb w1)=>(CK.out w1).mono (fun e w' h=>(⟨h.1,up hb h.2⟩:e=_∧Below wb.heap.size wb w')))
   have C2:=hZ (fun w1 (hb:Below wb.heap.size wb w1)=>(CI.out w1 (up BA.out hb)).mono (fun e w' h=>(⟨h.1,up hb h.2⟩:e=_∧Below wb.heap.size wb w')))
   clear CK CI
   have hf:∀ w,(Instr.field 104 (.agg #[.func (Fn.func 90) #[] #[],.func (Fn.func 91) #[] #[],.func (Fn.func 92) #[] #[],.func (Fn.func 93) #[] #[],.func (Fn.func 94) #[] #[]]) 0).run Tryz.prog w=.ok (.func (Fn.func 90) #[] #[]) w:=fun _=>by kernel_rfl
   go_wp2_with fail
   go_region_held3 (fun w'=>Below wb.heap.size wb w'∧((w'.cell? ⟨w.heap.size,0,none⟩=some (.int .i64 1)∧w'.cell? ⟨w.heap.size,1,none⟩=some (.bool true))∧(w'.cell? ⟨w.heap.size+1,0,none⟩=some (.bool u0)∧w'.cell? ⟨w.heap.size+1,1,none⟩=some (.int .i64 n)∧w'.cell? ⟨w.heap.size+1,2,none⟩=some (.string s))))
    (first | exact SK.out _ (Below.refl _ _).drew | exact SK.out _ (Below.refl _ _) | exact SK.out _ HC.out | exact SK.out _ HA.out | fail "keep")
    ((first
      | (go_at_call 73;(with_reducible refine (C1.out _ (by first|exact (Below.refl _ _).drew|exact (Below.refl _ _))).mono ?_);rintro e wA ⟨rfl,hA⟩;have HA:=hZ hA;clear hA)
      | (go_at_call 90;(with_reducible refine (C2.out _ HA.out).mono ?_);rintro e wC ⟨rfl,hC⟩;have HC:=hZ hC;clear hC)))
   cases r
   all_goals
    go_wp2_with fail
    go_ret
    exact⟨by rw [HH.out];rfl,up BA.out HC.out⟩
theorem check2 (u:Bool) (c:Cl.C) (w:World) (T:TA w) (hi:Cl.I64 c.n) (hm:c.s.size≤1000000) (e0:Nat) (he:Cl.chk u 2 c=e0):Calls Tryz.prog 56 #[tv u 2,cv c] w fun e w'=>e=.returned (.int .i64 (e0:Nat))∧Below w.heap.size w w':=by
 rw [chk_may (by decide)] at he
 obtain⟨r,hr⟩:∃ r,Cl.isK 2 c=r:=⟨_,rfl⟩
 have HM:=hZ (fun w=>cMay u 2 w true (by decide))
 have B0:=hZ (BX.start w u 2 c)
 have TW:=hZ (fun w1 (hb:Below w.heap.size w w1)=>T.later hb)
 have CK:=hZ (fun w=>kindOf2 u w)
 have CI:=hZ (fun w1 (hb:Below w.heap.size w w1)=>kf2.is c w1 r (T.later hb) hi hm hr)
 unfold Cl.of at he
 rw [hr] at he
 obtain⟨u0,n,s⟩:=c
 rw [← none_eq] at he
 obtain⟨q,hq⟩:∃ q,eqc ⟨u0,n,s⟩ ⟨true,0,⟨#[]⟩⟩=q:=⟨_,rfl⟩
 have HE:=fun w=>run_eqc ⟨u0,n,s⟩ ⟨true,0,⟨#[]⟩⟩ w
 rw [hq] at he HE
 clear hq hr hi hm T
 unfold tv kv2 at CK
 unfold tv at HM ⊢
 unfold cv at HE CI ⊢
 simp only at B0 HE CI ⊢
 by_cases hn:u=true∧q=true
 ·obtain⟨rfl,rfl⟩:=hn
  obtain rfl:0=e0:=by simpa using he
  clear he CI CK TW
  go_enter Tryz.func56,Tryz.ntmps56
  go_wp2_with fail
  ((with_reducible refine (HM.out _).mono ?_);rintro e w1 ⟨rfl,b1⟩)
  have BB:=hZ (B0.out.later b1)
  obtain⟨⟨t0,t1⟩,⟨c0,c1,c2⟩⟩:=BB.out.lies
  simp only at t0 t1 c0 c1 c2
  clear b1
  go_wp2_with fail
  go_ret
  exact⟨rfl,BB.out.b⟩
 ·have HH:Hid (e0=if r=true then 0 else 90):=hZ (by
   rw [← he]
   cases u<;>cases q<;>cases r<;>simp at hn ⊢)
  clear he
  have hb:∀ w1,BX w u 2 ⟨u0,n,s⟩ w1→True:=fun _ _=>trivial
  rcases (show u=false ∨ (u=true∧q=false) by cases u<;>cases q<;>simp at hn ⊢) with hu|⟨hu,hq⟩
  ·skip
   subst hu
   clear hn hb
   go_enter Tryz.func56,Tryz.ntmps56
   go_wp2_with fail
   ((with_reducible refine (HM.out _).mono ?_);rintro e wb ⟨rfl,b1⟩)
   have BB:=hZ (B0.out.later b1)
   have BA:=hZ BB.out.b
   obtain⟨⟨t0,t1⟩,⟨c0,c1,c2⟩⟩:=BB.out.lies
   simp only at t0 t1 c0 c1 c2
   clear b1 HM
   have SK:=hZ (fun w1 (hb:Below wb.heap.size wb w1)=>(⟨hb,(BB.out.later hb).lies⟩:Below wb.heap.size wb w1∧_))
   simp only at SK
   have C1:=hZ (fun w1 (hb:Below wb.heap.size wb w1)=>(CK.out w1).mono (fun e w' h=>(⟨h.1,up hb h.2⟩:e=_∧Below wb.heap.size wb w')))
   have C2:=hZ (fun w1 (hb:Below wb.heap.size wb w1)=>(CI.out w1 (up BA.out hb)).mono (fun e w' h=>(⟨h.1,up hb h.2⟩:e=_∧Below wb.heap.size wb w')))
   clear CK CI
   have hf:∀ w,(Instr.field 104 (.agg #[.func (Fn.func 95) #[] #[],.func (Fn.func 96) #[] #[],.func (Fn.func 97) #[] #[],.func (Fn.func 98) #[] #[],.func (Fn.func 99) #[] #[]]) 0).run Tryz.prog w=.ok (.func (Fn.func 95) #[] #[]) w:=fun _=>by kernel_rfl
   go_wp2_with fail
   go_region_held3 (fun w'=>Below wb.heap.size wb w'∧((w'.cell? ⟨w.heap.size,0,none⟩=some (.int .i64 2)∧w'.cell? ⟨w.heap.size,1,none⟩=some (.bool false))∧(w'.cell? ⟨w.heap.size+1,0,none⟩=some (.bool u0)∧w'.cell? ⟨w.heap.size+1,1,none⟩=some (.int .i64 n)∧w'.cell? ⟨w.heap.size+1,2,none⟩=some (.string s))))
    (first | exact SK.out _ (Below.refl _ _).drew | exact SK.out _ (Below.refl _ _) | exact SK.out _ HC.out | exact SK.out _ HA.out | fail "keep")
    ((first
      | (go_at_call 73;(with_reducible refine (C1.out _ (by first|exact (Below.refl _ _).drew|exact (Below.refl _ _))).mono ?_);rintro e wA ⟨rfl,hA⟩;have HA:=hZ hA;clear hA)
      | (go_at_call 95;(with_reducible refine (C2.out _ HA.out).mono ?_);rintro e wC ⟨rfl,hC⟩;have HC:=hZ hC;clear hC)))
   cases r
   all_goals
    go_wp2_with fail
    go_ret
    exact⟨by rw [HH.out];rfl,up BA.out HC.out⟩
  ·skip
   subst hu;subst hq
   clear hn hb
   go_enter Tryz.func56,Tryz.ntmps56
   go_wp2_with fail
   ((with_reducible refine (HM.out _).mono ?_);rintro e wb ⟨rfl,b1⟩)
   have BB:=hZ (B0.out.later b1)
   have BA:=hZ BB.out.b
   obtain⟨⟨t0,t1⟩,⟨c0,c1,c2⟩⟩:=BB.out.lies
   simp only at t0 t1 c0 c1 c2
   clear b1 HM
   have SK:=hZ (fun w1 (hb:Below wb.heap.size wb w1)=>(⟨hb,(BB.out.later hb).lies⟩:Below wb.heap.size wb w1∧_))
   simp only at SK
   have C1:=hZ (fun w1 (hb:Below wb.heap.size wb w1)=>(CK.out w1).mono (fun e w' h=>(⟨h.1,up hb h.2⟩:e=_∧Below wb.heap.size wb w')))
   have C2:=hZ (fun w1 (hb:Below wb.heap.size wb w1)=>(CI.out w1 (up BA.out hb)).mono (fun e w' h=>(⟨h.1,up hb h.2⟩:e=_∧Below wb.heap.size wb w')))
   clear CK CI
   have hf:∀ w,(Instr.field 104 (.agg #[.func (Fn.func 95) #[] #[],.func (Fn.func 96) #[] #[],.func (Fn.func 97) #[] #[],.func (Fn.func 98) #[] #[],.func (Fn.func 99) #[] #[]]) 0).run Tryz.prog w=.ok (.func (Fn.func 95) #[] #[]) w:=fun _=>by kernel_rfl
   go_wp2_with fail
   go_region_held3 (fun w'=>Below wb.heap.size wb w'∧((w'.cell? ⟨w.heap.size,0,none⟩=some (.int .i64 2)∧w'.cell? ⟨w.heap.size,1,none⟩=some (.bool true))∧(w'.cell? ⟨w.heap.size+1,0,none⟩=some (.bool u0)∧w'.cell? ⟨w.heap.size+1,1,none⟩=some (.int .i64 n)∧w'.cell? ⟨w.heap.size+1,2,none⟩=some (.string s))))
    (first | exact SK.out _ (Below.refl _ _).drew | exact SK.out _ (Below.refl _ _) | exact SK.out _ HC.out | exact SK.out _ HA.out | fail "keep")
    ((first
      | (go_at_call 73;(with_reducible refine (C1.out _ (by first|exact (Below.refl _ _).drew|exact (Below.refl _ _))).mono ?_);rintro e wA ⟨rfl,hA⟩;have HA:=hZ hA;clear hA)
      | (go_at_call 95;(with_reducible refine (C2.out _ HA.out).mono ?_);rintro e wC ⟨rfl,hC⟩;have HC:=hZ hC;clear hC)))
   cases r
   all_goals
    go_wp2_with fail
    go_ret
    exact⟨by rw [HH.out];rfl,up BA.out HC.out⟩
theorem check3 (u:Bool) (c:Cl.C) (w:World) (T:TA w) (hi:Cl.I64 c.n) (hm:c.s.size≤1000000) (e0:Nat) (he:Cl.chk u 3 c=e0):Calls Tryz.prog 56 #[tv u 3,cv c] w fun e w'=>e=.returned (.int .i64 (e0:Nat))∧Below w.heap.size w w':=by
 rw [chk_may (by decide)] at he
 obtain⟨r,hr⟩:∃ r,Cl.isK 3 c=r:=⟨_,rfl⟩
 have HM:=hZ (fun w=>cMay u 3 w true (by decide))
 have B0:=hZ (BX.start w u 3 c)
 have TW:=hZ (fun w1 (hb:Below w.heap.size w w1)=>T.later hb)
 have CK:=hZ (fun w=>kindOf3 u w)
 have CI:=hZ (fun w1 (hb:Below w.heap.size w w1)=>kf3.is c w1 r (T.later hb) hi hm hr)
 unfold Cl.of at he
 rw [hr] at he
 obtain⟨u0,n,s⟩:=c
 rw [← none_eq] at he
 obtain⟨q,hq⟩:∃ q,eqc ⟨u0,n,s⟩ ⟨true,0,⟨#[]⟩⟩=q:=⟨_,rfl⟩
 have HE:=fun w=>run_eqc ⟨u0,n,s⟩ ⟨true,0,⟨#[]⟩⟩ w
 rw [hq] at he HE
 clear hq hr hi hm T
 unfold tv kv3 at CK
 unfold tv at HM ⊢
 unfold cv at HE CI ⊢
 simp only at B0 HE CI ⊢
 by_cases hn:u=true∧q=true
 ·obtain⟨rfl,rfl⟩:=hn
  obtain rfl:0=e0:=by simpa using he
  clear he CI CK TW
  go_enter Tryz.func56,Tryz.ntmps56
  go_wp2_with fail
  ((with_reducible refine (HM.out _).mono ?_);rintro e w1 ⟨rfl,b1⟩)
  have BB:=hZ (B0.out.later b1)
  obtain⟨⟨t0,t1⟩,⟨c0,c1,c2⟩⟩:=BB.out.lies
  simp only at t0 t1 c0 c1 c2
  clear b1
  go_wp2_with fail
  go_ret
  exact⟨rfl,BB.out.b⟩
 ·have HH:Hid (e0=if r=true then 0 else 90):=hZ (by
   rw [← he]
   cases u<;>cases q<;>cases r<;>simp at hn ⊢)
  clear he
  have hb:∀ w1,BX w u 3 ⟨u0,n,s⟩ w1→True:=fun _ _=>trivial
  rcases (show u=false ∨ (u=true∧q=false) by cases u<;>cases q<;>simp at hn ⊢) with hu|⟨hu,hq⟩
  ·skip
   subst hu
   clear hn hb
   go_enter Tryz.func56,Tryz.ntmps56
   go_wp2_with fail
   ((with_reducible refine (HM.out _).mono ?_);rintro e wb ⟨rfl,b1⟩)
   have BB:=hZ (B0.out.later b1)
   have BA:=hZ BB.out.b
   obtain⟨⟨t0,t1⟩,⟨c0,c1,c2⟩⟩:=BB.out.lies
   simp only at t0 t1 c0 c1 c2
   clear b1 HM
   have SK:=hZ (fun w1 (hb:Below wb.heap.size wb w1)=>(⟨hb,(BB.out.later hb).lies⟩:Below wb.heap.size wb w1∧_))
   simp only at SK
   have C1:=hZ (fun w1 (hb:Below wb.heap.size wb w1)=>(CK.out w1).mono (fun e w' h=>(⟨h.1,up hb h.2⟩:e=_∧Below wb.heap.size wb w')))
   have C2:=hZ (fun w1 (hb:Below wb.heap.size wb w1)=>(CI.out w1 (up BA.out hb)).mono (fun e w' h=>(⟨h.1,up hb h.2⟩:e=_∧Below wb.heap.size wb w')))
   clear CK CI
   have hf:∀ w,(Instr.field 104 (.agg #[.func (Fn.func 100) #[] #[],.func (Fn.func 96) #[] #[],.func (Fn.func 97) #[] #[],.func (Fn.func 98) #[] #[],.func (Fn.func 99) #[] #[]]) 0).run Tryz.prog w=.ok (.func (Fn.func 100) #[] #[]) w:=fun _=>by kernel_rfl
   go_wp2_with fail
   go_region_held3 (fun w'=>Below wb.heap.size wb w'∧((w'.cell? ⟨w.heap.size,0,none⟩=some (.int .i64 3)∧w'.cell? ⟨w.heap.size,1,none⟩=some (.bool false))∧(w'.cell? ⟨w.heap.size+1,0,none⟩=some (.bool u0)∧w'.cell? ⟨w.heap.size+1,1,none⟩=some (.int .i64 n)∧w'.cell? ⟨w.heap.size+1,2,none⟩=some (.string s))))
    (first | exact SK.out _ (Below.refl _ _).drew | exact SK.out _ (Below.refl _ _) | exact SK.out _ HC.out | exact SK.out _ HA.out | fail "keep")
    ((first
      | (go_at_call 73;(with_reducible refine (C1.out _ (by first|exact (Below.refl _ _).drew|exact (Below.refl _ _))).mono ?_);rintro e wA ⟨rfl,hA⟩;have HA:=hZ hA;clear hA)
      | (go_at_call 100;(with_reducible refine (C2.out _ HA.out).mono ?_);rintro e wC ⟨rfl,hC⟩;have HC:=hZ hC;clear hC)))
   cases r
   all_goals
    go_wp2_with fail
    go_ret
    exact⟨by rw [HH.out];rfl,up BA.out HC.out⟩
  ·skip
   subst hu;subst hq
   clear hn hb
   go_enter Tryz.func56,Tryz.ntmps56
   go_wp2_with fail
   ((with_reducible refine (HM.out _).mono ?_);rintro e wb ⟨rfl,b1⟩)
   have BB:=hZ (B0.out.later b1)
   have BA:=hZ BB.out.b
   obtain⟨⟨t0,t1⟩,⟨c0,c1,c2⟩⟩:=BB.out.lies
   simp only at t0 t1 c0 c1 c2
   clear b1 HM
   have SK:=hZ (fun w1 (hb:Below wb.heap.size wb w1)=>(⟨hb,(BB.out.later hb).lies⟩:Below wb.heap.size wb w1∧_))
   simp only at SK
   have C1:=hZ (fun w1 (hb:Below wb.heap.size wb w1)=>(CK.out w1).mono (fun e w' h=>(⟨h.1,up hb h.2⟩:e=_∧Below wb.heap.size wb w')))
   have C2:=hZ (fun w1 (hb:Below wb.heap.size wb w1)=>(CI.out w1 (up BA.out hb)).mono (fun e w' h=>(⟨h.1,up hb h.2⟩:e=_∧Below wb.heap.size wb w')))
   clear CK CI
   have hf:∀ w,(Instr.field 104 (.agg #[.func (Fn.func 100) #[] #[],.func (Fn.func 96) #[] #[],.func (Fn.func 97) #[] #[],.func (Fn.func 98) #[] #[],.func (Fn.func 99) #[] #[]]) 0).run Tryz.prog w=.ok (.func (Fn.func 100) #[] #[]) w:=fun _=>by kernel_rfl
   go_wp2_with fail
   go_region_held3 (fun w'=>Below wb.heap.size wb w'∧((w'.cell? ⟨w.heap.size,0,none⟩=some (.int .i64 3)∧w'.cell? ⟨w.heap.size,1,none⟩=some (.bool true))∧(w'.cell? ⟨w.heap.size+1,0,none⟩=some (.bool u0)∧w'.cell? ⟨w.heap.size+1,1,none⟩=some (.int .i64 n)∧w'.cell? ⟨w.heap.size+1,2,none⟩=some (.string s))))
    (first | exact SK.out _ (Below.refl _ _).drew | exact SK.out _ (Below.refl _ _) | exact SK.out _ HC.out | exact SK.out _ HA.out | fail "keep")
    ((first
      | (go_at_call 73;(with_reducible refine (C1.out _ (by first|exact (Below.refl _ _).drew|exact (Below.refl _ _))).mono ?_);rintro e wA ⟨rfl,hA⟩;have HA:=hZ hA;clear hA)
      | (go_at_call 100;(with_reducible refine (C2.out _ HA.out).mono ?_);rintro e wC ⟨rfl,hC⟩;have HC:=hZ hC;clear hC)))
   cases r
   all_goals
    go_wp2_with fail
    go_ret
    exact⟨by rw [HH.out];rfl,up BA.out HC.out⟩
theorem check4 (u:Bool) (c:Cl.C) (w:World) (T:TA w) (hi:Cl.I64 c.n) (hm:c.s.size≤1000000) (e0:Nat) (he:Cl.chk u 4 c=e0):Calls Tryz.prog 56 #[tv u 4,cv c] w fun e w'=>e=.returned (.int .i64 (e0:Nat))∧Below w.heap.size w w':=by
 rw [chk_may (by decide)] at he
 obtain⟨r,hr⟩:∃ r,Cl.isK 4 c=r:=⟨_,rfl⟩
 have HM:=hZ (fun w=>cMay u 4 w true (by decide))
 have B0:=hZ (BX.start w u 4 c)
 have TW:=hZ (fun w1 (hb:Below w.heap.size w w1)=>T.later hb)
 have CK:=hZ (fun w=>kindOf4 u w)
 have CI:=hZ (fun w1 (hb:Below w.heap.size w w1)=>kf4.is c w1 r (T.later hb) hi hm hr)
 unfold Cl.of at he
 rw [hr] at he
 obtain⟨u0,n,s⟩:=c
 rw [← none_eq] at he
 obtain⟨q,hq⟩:∃ q,eqc ⟨u0,n,s⟩ ⟨true,0,⟨#[]⟩⟩=q:=⟨_,rfl⟩
 have HE:=fun w=>run_eqc ⟨u0,n,s⟩ ⟨true,0,⟨#[]⟩⟩ w
 rw [hq] at he HE
 clear hq hr hi hm T
 unfold tv kv4 at CK
 unfold tv at HM ⊢
 unfold cv at HE CI ⊢
 simp only at B0 HE CI ⊢
 by_cases hn:u=true∧q=true
 ·obtain⟨rfl,rfl⟩:=hn
  obtain rfl:0=e0:=by simpa using he
  clear he CI CK TW
  go_enter Tryz.func56,Tryz.ntmps56
  go_wp2_with fail
  ((with_reducible refine (HM.out _).mono ?_);rintro e w1 ⟨rfl,b1⟩)
  have BB:=hZ (B0.out.later b1)
  obtain⟨⟨t0,t1⟩,⟨c0,c1,c2⟩⟩:=BB.out.lies
  simp only at t0 t1 c0 c1 c2
  clear b1
  go_wp2_with fail
  go_ret
  exact⟨rfl,BB.out.b⟩
 ·have HH:Hid (e0=if r=true then 0 else 90):=hZ (by
   rw [← he]
   cases u<;>cases q<;>cases r<;>simp at hn ⊢)
  clear he
  have hb:∀ w1,BX w u 4 ⟨u0,n,s⟩ w1→True:=fun _ _=>trivial
  rcases (show u=false ∨ (u=true∧q=false) by cases u<;>cases q<;>simp at hn ⊢) with hu|⟨hu,hq⟩
  ·skip
   subst hu
   clear hn hb
   go_enter Tryz.func56,Tryz.ntmps56
   go_wp2_with fail
   ((with_reducible refine (HM.out _).mono ?_);rintro e wb ⟨rfl,b1⟩)
   have BB:=hZ (B0.out.later b1)
   have BA:=hZ BB.out.b
   obtain⟨⟨t0,t1⟩,⟨c0,c1,c2⟩⟩:=BB.out.lies
   simp only at t0 t1 c0 c1 c2
   clear b1 HM
   have SK:=hZ (fun w1 (hb:Below wb.heap.size wb w1)=>(⟨hb,(BB.out.later hb).lies⟩:Below wb.heap.size wb w1∧_))
   simp only at SK
   have C1:=hZ (fun w1 (hb:Below wb.heap.size wb w1)=>(CK.out w1).mono (fun e w' h=>(⟨h.1,up hb h.2⟩:e=_∧Below wb.heap.size wb w')))
   have C2:=hZ (fun w1 (hb:Below wb.heap.size wb w1)=>(CI.out w1 (up BA.out hb)).mono (fun e w' h=>(⟨h.1,up hb h.2⟩:e=_∧Below wb.heap.size wb w')))
   clear CK CI
   have hf:∀ w,(Instr.field 104 (.agg #[.func (Fn.func 101) #[] #[],.func (Fn.func 102) #[] #[],.func (Fn.func 103) #[] #[],.func (Fn.func 104) #[] #[],.func (Fn.func 105) #[] #[]]) 0).run Tryz.prog w=.ok (.func (Fn.func 101) #[] #[]) w:=fun _=>by kernel_rfl
   go_wp2_with fail
   go_region_held3 (fun w'=>Below wb.heap.size wb w'∧((w'.cell? ⟨w.heap.size,0,none⟩=some (.int .i64 4)∧w'.cell? ⟨w.heap.size,1,none⟩=some (.bool false))∧(w'.cell? ⟨w.heap.size+1,0,none⟩=some (.bool u0)∧w'.cell? ⟨w.heap.size+1,1,none⟩=some (.int .i64 n)∧w'.cell? ⟨w.heap.size+1,2,none⟩=some (.string s))))
    (first | exact SK.out _ (Below.refl _ _).drew | exact SK.out _ (Below.refl _ _) | exact SK.out _ HC.out | exact SK.out _ HA.out | fail "keep")
    ((first
      | (go_at_call 73;(with_reducible refine (C1.out _ (by first|exact (Below.refl _ _).drew|exact (Below.refl _ _))).mono ?_);rintro e wA ⟨rfl,hA⟩;have HA:=hZ hA;clear hA)
      | (go_at_call 101;(with_reducible refine (C2.out _ HA.out).mono ?_);rintro e wC ⟨rfl,hC⟩;have HC:=hZ hC;clear hC)))
   cases r
   all_goals
    go_wp2_with fail
    go_ret
    exact⟨by rw [HH.out];rfl,up BA.out HC.out⟩
  ·skip
   subst hu;subst hq
   clear hn hb
   go_enter Tryz.func56,Tryz.ntmps56
   go_wp2_with fail
   ((with_reducible refine (HM.out _).mono ?_);rintro e wb ⟨rfl,b1⟩)
   have BB:=hZ (B0.out.later b1)
   have BA:=hZ BB.out.b
   obtain⟨⟨t0,t1⟩,⟨c0,c1,c2⟩⟩:=BB.out.lies
   simp only at t0 t1 c0 c1 c2
   clear b1 HM
   have SK:=hZ (fun w1 (hb:Below wb.heap.size wb w1)=>(⟨hb,(BB.out.later hb).lies⟩:Below wb.heap.size wb w1∧_))
   simp only at SK
   have C1:=hZ (fun w1 (hb:Below wb.heap.size wb w1)=>(CK.out w1).mono (fun e w' h=>(⟨h.1,up hb h.2⟩:e=_∧Below wb.heap.size wb w')))
   have C2:=hZ (fun w1 (hb:Below wb.heap.size wb w1)=>(CI.out w1 (up BA.out hb)).mono (fun e w' h=>(⟨h.1,up hb h.2⟩:e=_∧Below wb.heap.size wb w')))
   clear CK CI
   have hf:∀ w,(Instr.field 104 (.agg #[.func (Fn.func 101) #[] #[],.func (Fn.func 102) #[] #[],.func (Fn.func 103) #[] #[],.func (Fn.func 104) #[] #[],.func (Fn.func 105) #[] #[]]) 0).run Tryz.prog w=.ok (.func (Fn.func 101) #[] #[]) w:=fun _=>by kernel_rfl
   go_wp2_with fail
   go_region_held3 (fun w'=>Below wb.heap.size wb w'∧((w'.cell? ⟨w.heap.size,0,none⟩=some (.int .i64 4)∧w'.cell? ⟨w.heap.size,1,none⟩=some (.bool true))∧(w'.cell? ⟨w.heap.size+1,0,none⟩=some (.bool u0)∧w'.cell? ⟨w.heap.size+1,1,none⟩=some (.int .i64 n)∧w'.cell? ⟨w.heap.size+1,2,none⟩=some (.string s))))
    (first | exact SK.out _ (Below.refl _ _).drew | exact SK.out _ (Below.refl _ _) | exact SK.out _ HC.out | exact SK.out _ HA.out | fail "keep")
    ((first
      | (go_at_call 73;(with_reducible refine (C1.out _ (by first|exact (Below.refl _ _).drew|exact (Below.refl _ _))).mono ?_);rintro e wA ⟨rfl,hA⟩;have HA:=hZ hA;clear hA)
      | (go_at_call 101;(with_reducible refine (C2.out _ HA.out).mono ?_);rintro e wC ⟨rfl,hC⟩;have HC:=hZ hC;clear hC)))
   cases r
   all_goals
    go_wp2_with fail
    go_ret
    exact⟨by rw [HH.out];rfl,up BA.out HC.out⟩
theorem check5 (u:Bool) (c:Cl.C) (w:World) (T:TA w) (hi:Cl.I64 c.n) (hm:c.s.size≤1000000) (e0:Nat) (he:Cl.chk u 5 c=e0):Calls Tryz.prog 56 #[tv u 5,cv c] w fun e w'=>e=.returned (.int .i64 (e0:Nat))∧Below w.heap.size w w':=by
 rw [chk_may (by decide)] at he
 obtain⟨r,hr⟩:∃ r,Cl.isK 5 c=r:=⟨_,rfl⟩
 have HM:=hZ (fun w=>cMay u 5 w true (by decide))
 have B0:=hZ (BX.start w u 5 c)
 have TW:=hZ (fun w1 (hb:Below w.heap.size w w1)=>T.later hb)
 have CK:=hZ (fun w=>kindOf5 u w)
 have CI:=hZ (fun w1 (hb:Below w.heap.size w w1)=>kf5.is c w1 r (T.later hb) hi hm hr)
 unfold Cl.of at he
 rw [hr] at he
 obtain⟨u0,n,s⟩:=c
 rw [← none_eq] at he
 obtain⟨q,hq⟩:∃ q,eqc ⟨u0,n,s⟩ ⟨true,0,⟨#[]⟩⟩=q:=⟨_,rfl⟩
 have HE:=fun w=>run_eqc ⟨u0,n,s⟩ ⟨true,0,⟨#[]⟩⟩ w
 rw [hq] at he HE
 clear hq hr hi hm T
 unfold tv kv5 at CK
 unfold tv at HM ⊢
 unfold cv at HE CI ⊢
 simp only at B0 HE CI ⊢
 by_cases hn:u=true∧q=true
 ·obtain⟨rfl,rfl⟩:=hn
  obtain rfl:0=e0:=by simpa using he
  clear he CI CK TW
  go_enter Tryz.func56,Tryz.ntmps56
  go_wp2_with fail
  ((with_reducible refine (HM.out _).mono ?_);rintro e w1 ⟨rfl,b1⟩)
  have BB:=hZ (B0.out.later b1)
  obtain⟨⟨t0,t1⟩,⟨c0,c1,c2⟩⟩:=BB.out.lies
  simp only at t0 t1 c0 c1 c2
  clear b1
  go_wp2_with fail
  go_ret
  exact⟨rfl,BB.out.b⟩
 ·have HH:Hid (e0=if r=true then 0 else 90):=hZ (by
   rw [← he]
   cases u<;>cases q<;>cases r<;>simp at hn ⊢)
  clear he
  have hb:∀ w1,BX w u 5 ⟨u0,n,s⟩ w1→True:=fun _ _=>trivial
  rcases (show u=false ∨ (u=true∧q=false) by cases u<;>cases q<;>simp at hn ⊢) with hu|⟨hu,hq⟩
  ·skip
   subst hu
   clear hn hb
   go_enter Tryz.func56,Tryz.ntmps56
   go_wp2_with fail
   ((with_reducible refine (HM.out _).mono ?_);rintro e wb ⟨rfl,b1⟩)
   have BB:=hZ (B0.out.later b1)
   have BA:=hZ BB.out.b
   obtain⟨⟨t0,t1⟩,⟨c0,c1,c2⟩⟩:=BB.out.lies
   simp only at t0 t1 c0 c1 c2
   clear b1 HM
   have SK:=hZ (fun w1 (hb:Below wb.heap.size wb w1)=>(⟨hb,(BB.out.later hb).lies⟩:Below wb.heap.size wb w1∧_))
   simp only at SK
   have C1:=hZ (fun w1 (hb:Below wb.heap.size wb w1)=>(CK.out w1).mono (fun e w' h=>(⟨h.1,up hb h.2⟩:e=_∧Below wb.heap.size wb w')))
   have C2:=hZ (fun w1 (hb:Below wb.heap.size wb w1)=>(CI.out w1 (up BA.out hb)).mono (fun e w' h=>(⟨h.1,up hb h.2⟩:e=_∧Below wb.heap.size wb w')))
   clear CK CI
   have hf:∀ w,(Instr.field 104 (.agg #[.func (Fn.func 106) #[] #[],.func (Fn.func 107) #[] #[],.func (Fn.func 108) #[] #[],.func (Fn.func 104) #[] #[],.func (Fn.func 105) #[] #[]]) 0).run Tryz.prog w=.ok (.func (Fn.func 106) #[] #[]) w:=fun _=>by kernel_rfl
   go_wp2_with fail
   go_region_held3 (fun w'=>Below wb.heap.size wb w'∧((w'.cell? ⟨w.heap.size,0,none⟩=some (.int .i64 5)∧w'.cell? ⟨w.heap.size,1,none⟩=some (.bool false))∧(w'.cell? ⟨w.heap.size+1,0,none⟩=some (.bool u0)∧w'.cell? ⟨w.heap.size+1,1,none⟩=some (.int .i64 n)∧w'.cell? ⟨w.heap.size+1,2,none⟩=some (.string s))))
    (first | exact SK.out _ (Below.refl _ _).drew | exact SK.out _ (Below.refl _ _) | exact SK.out _ HC.out | exact SK.out _ HA.out | fail "keep")
    ((first
      | (go_at_call 73;(with_reducible refine (C1.out _ (by first|exact (Below.refl _ _).drew|exact (Below.refl _ _))).mono ?_);rintro e wA ⟨rfl,hA⟩;have HA:=hZ hA;clear hA)
      | (go_at_call 106;(with_reducible refine (C2.out _ HA.out).mono ?_);rintro e wC ⟨rfl,hC⟩;have HC:=hZ hC;clear hC)))
   cases r
   all_goals
    go_wp2_with fail
    go_ret
    exact⟨by rw [HH.out];rfl,up BA.out HC.out⟩
  ·skip
   subst hu;subst hq
   clear hn hb
   go_enter Tryz.func56,Tryz.ntmps56
   go_wp2_with fail
   ((with_reducible refine (HM.out _).mono ?_);rintro e wb ⟨rfl,b1⟩)
   have BB:=hZ (B0.out.later b1)
   have BA:=hZ BB.out.b
   obtain⟨⟨t0,t1⟩,⟨c0,c1,c2⟩⟩:=BB.out.lies
   simp only at t0 t1 c0 c1 c2
   clear b1 HM
   have SK:=hZ (fun w1 (hb:Below wb.heap.size wb w1)=>(⟨hb,(BB.out.later hb).lies⟩:Below wb.heap.size wb w1∧_))
   simp only at SK
   have C1:=hZ (fun w1 (hb:Below wb.heap.size wb w1)=>(CK.out w1).mono (fun e w' h=>(⟨h.1,up hb h.2⟩:e=_∧Below wb.heap.size wb w')))
   have C2:=hZ (fun w1 (hb:Below wb.heap.size wb w1)=>(CI.out w1 (up BA.out hb)).mono (fun e w' h=>(⟨h.1,up hb h.2⟩:e=_∧Below wb.heap.size wb w')))
   clear CK CI
   have hf:∀ w,(Instr.field 104 (.agg #[.func (Fn.func 106) #[] #[],.func (Fn.func 107) #[] #[],.func (Fn.func 108) #[] #[],.func (Fn.func 104) #[] #[],.func (Fn.func 105) #[] #[]]) 0).run Tryz.prog w=.ok (.func (Fn.func 106) #[] #[]) w:=fun _=>by kernel_rfl
   go_wp2_with fail
   go_region_held3 (fun w'=>Below wb.heap.size wb w'∧((w'.cell? ⟨w.heap.size,0,none⟩=some (.int .i64 5)∧w'.cell? ⟨w.heap.size,1,none⟩=some (.bool true))∧(w'.cell? ⟨w.heap.size+1,0,none⟩=some (.bool u0)∧w'.cell? ⟨w.heap.size+1,1,none⟩=some (.int .i64 n)∧w'.cell? ⟨w.heap.size+1,2,none⟩=some (.string s))))
    (first | exact SK.out _ (Below.refl _ _).drew | exact SK.out _ (Below.refl _ _) | exact SK.out _ HC.out | exact SK.out _ HA.out | fail "keep")
    ((first
      | (go_at_call 73;(with_reducible refine (C1.out _ (by first|exact (Below.refl _ _).drew|exact (Below.refl _ _))).mono ?_);rintro e wA ⟨rfl,hA⟩;have HA:=hZ hA;clear hA)
      | (go_at_call 106;(with_reducible refine (C2.out _ HA.out).mono ?_);rintro e wC ⟨rfl,hC⟩;have HC:=hZ hC;clear hC)))
   cases r
   all_goals
    go_wp2_with fail
    go_ret
    exact⟨by rw [HH.out];rfl,up BA.out HC.out⟩
theorem checks (u:Bool) (k:Int) (c:Cl.C) (w:World) (T:TA w) (hi:Cl.I64 c.n) (hm:c.s.size≤1000000) (e0:Nat) (he:Cl.chk u k c=e0):Calls Tryz.prog 56 #[tv u k,cv c] w fun e w'=>e=.returned (.int .i64 (e0:Nat))∧Below w.heap.size w w':=by
 cases hk:Cl.may k with
 | false =>
  have:Cl.chk u k c=2:=by unfold Cl.chk;rw [hk];rfl
  obtain rfl:2=e0:=this.symm.trans he
  exact checkNo u k c w hk
 | true =>
  obtain⟨k0,k5⟩:=Cl.may_le hk
  rcases (show k=1 ∨ k=2 ∨ k=3 ∨ k=4 ∨ k=5 by omega) with rfl|rfl|rfl|rfl|rfl
  ·exact check1 u c w T hi hm e0 he
  ·exact check2 u c w T hi hm e0 he
  ·exact check3 u c w T hi hm e0 he
  ·exact check4 u c w T hi hm e0 he
  ·exact check5 u c w T hi hm e0 he
end Go.Proofs.YtenfjmdajlhfoabGreatDoor
