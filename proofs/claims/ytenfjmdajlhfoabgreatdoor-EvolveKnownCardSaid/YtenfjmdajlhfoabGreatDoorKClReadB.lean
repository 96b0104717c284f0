/- Texts. -/
import Derived.Test.YtenfjmdajlhfoabGreatDoorKClRd
set_option maxHeartbeats 8000000
namespace Go.Proofs.YtenfjmdajlhfoabGreatDoor
open Go.RowKit
set_option linter.unusedVariables false
set_option maxRecDepth 100000
theorem read3 (u:Bool) (s:ByteArray) (w:World) (T:TA w) (hm:s.size≤100000) (hx:¬ (u=true∧s=Cl.nullB)):Calls Tryz.prog 120 #[tv u 3,.string s] w fun e w'=>RdPost w u 3 s e w':=by
 have HM:=hZ (fun w=>cMay u 3 w true (by decide))
 have B0:=hZ (BX.start w u 3 Cl.empty)
 have TW:=hZ (fun w1 (hb:Below w.heap.size w w1)=>T.later hb)
 have CK:=hZ (fun w=>kindOf3 u w)
 have CG:=hZ (fun w1 (hb:Below w.heap.size w w1)=>kf3.guess s w1 (T.later hb) hm)
 have hs:(u && (s.toList == [110,117,108,108]))=false:=by
  rw [← nte,str_eq_bool]
  cases u
  ·rfl
  ·simp only [true_and] at hx
   exact decide_eq_false hx
 have HX:=hZ hx
 have hs2:u=true→(s.toList == [110,117,108,108])=false:=fun h=>by rw [h] at hs;exact hs
 clear T hx hm hs
 unfold tv kv3 at CK
 unfold Cl.empty at B0
 unfold tv at HM ⊢
 simp only at B0
 cases u
 ·skip
  clear hs2
  go_enter Tryz.func120,Tryz.ntmps120
  go_wp2_with fail
  ((with_reducible refine (HM.out _).mono ?_);rintro e w1 ⟨rfl,b1⟩)
  have BB:=hZ (B0.out.later b1)
  obtain⟨t0,t1⟩:=BB.out.tlie
  clear b1
  go_wp2_with fail
  ((with_reducible refine (CK.out _).mono ?_);rintro e w2 ⟨rfl,b2⟩)
  have BC:=hZ (BB.out.later b2)
  have hw2:∃ n,w2.heap.size=n:=⟨_,rfl⟩
  obtain⟨gk,hgk⟩:=hw2
  have K3:=Blk.new w2 104 #[.func (Fn.func 100) #[] #[],.func (Fn.func 96) #[] #[],.func (Fn.func 97) #[] #[],.func (Fn.func 98) #[] #[],.func (Fn.func 99) #[] #[]]
  rw [hgk] at K3
  have b3:=box_new w2 (.cells #[.func (Fn.func 100) #[] #[],.func (Fn.func 96) #[] #[],.func (Fn.func 97) #[] #[],.func (Fn.func 98) #[] #[],.func (Fn.func 99) #[] #[]] 104)
  have B3:=hZ (BC.out.later b3)
  have HK3:=hZ K3
  clear b2 BB t0 t1 b3
  go_wp2_with fail
  ((with_reducible refine (CG.out _ B3.out.b).mono ?_);rintro e w4 ⟨g,rfl,hg,b4⟩)
  obtain⟨gu,gn,gs⟩:=g
  have B4:=hZ (B3.out.later b4)
  have HK4:=hZ (HK3.out.later b4)
  have HG:=hZ hg
  have hw4:∃ n,w4.heap.size=n:=⟨_,rfl⟩
  obtain⟨gc,hgc⟩:=hw4
  have K5:=HK4.out.later (box_new w4 (.cells #[.bool gu,.int .i64 gn,.string gs] 61))
  have k0:=K5.cell 0
  simp only [List.getElem?_cons_zero] at k0
  have V5:=CV.new w4 gu gn gs
  rw [hgc] at V5
  have B5:=hZ (B4.out.later (box_new w4 (.cells #[.bool gu,.int .i64 gn,.string gs] 61)))
  have HV5:=hZ V5
  have HK5:=hZ K5
  obtain⟨v0,v1,v2⟩:=V5.lie
  simp only at v0 v1 v2
  clear b4 K3 K5 V5 hg
  unfold cv
  simp only
  obtain⟨r,hr⟩:∃ r,Cl.isK 3 ⟨gu,gn,gs⟩=r:=⟨_,rfl⟩
  have CI:=hZ (fun w1 (hb:Below w.heap.size w w1)=>kf3.is ⟨gu,gn,gs⟩ w1 r (TW.out w1 hb) HG.out.1 (Nat.le_trans HG.out.2.1 (by decide)) hr)
  have RG:=Cl.Rdd.guess (u:=false) (k:=3) (X:=s) (by decide) ⟨gu,gn,gs⟩ HG.out.1 (by simp) HG.out.2.2
  rw [hr] at RG
  unfold cv at CI
  simp only at CI
  cases r with
  | false =>
   have HRG:=hZ (show Cl.Rdd false 3 s Cl.empty 4 by simpa using RG)
   clear RG hr
   go_wp2_with fail
   ((with_reducible refine (CI.out _ B5.out.b).mono ?_);rintro e w6 ⟨rfl,b6⟩)
   have B6:=hZ (B5.out.later b6)
   obtain⟨c0,c1,c2⟩:=B6.out.clie
   obtain⟨f0,f1,f2⟩:=B6.out.free
   simp only at c0 c1 c2
   clear b6 k0 v0 v1 v2
   go_wp2_with fail
   exact bodyPost_ret (ret2 rfl _ _ (w.heap.size+1) _ rfl (B6.out.put _ _ _).1) rfl ⟨_,4,rfl,HRG.out,emptyI,emptyS,(B6.out.put _ _ _).2⟩
  | true =>
   obtain⟨x,hx⟩:∃ x,Cl.txt 3 ⟨gu,gn,gs⟩=x:=⟨_,rfl⟩
   have CX:=hZ (fun w1 (hb:Below w.heap.size w w1)=>kf3.text ⟨gu,gn,gs⟩ w1 x (TW.out w1 hb) HG.out.1 hr hx)
   rw [hx] at RG
   obtain⟨p,hp⟩:∃ p,(x.toList == s.toList)=p:=⟨_,rfl⟩
   have hp2:=hp
   rw [str_eq_bool] at hp2
   have HRG:=hZ (show if p=true then Cl.Rdd false 3 s ⟨gu,gn,gs⟩ 0 else Cl.Rdd false 3 s Cl.empty 4 by
    by_cases e:x=s
    ·rw [if_pos ⟨rfl,e⟩] at RG
     rw [if_pos (by rw [← hp2];exact decide_eq_true e)];exact RG
    ·rw [if_neg (fun h=>e h.2)] at RG
     rw [if_neg (by rw [← hp2];simpa using e)];exact RG)
   unfold cv at CX
   simp only at CX
   clear RG hr hx hp2
   go_wp2_with fail
   ((with_reducible refine (CI.out _ B5.out.b).mono ?_);rintro e w6 ⟨rfl,b6⟩)
   have B6:=hZ (B5.out.later b6)
   have HV6:=hZ (HV5.out.later b6)
   have K6:=HK5.out.later b6
   have k1:=K6.cell 1
   simp only [zD,zE] at k1
   have y0:=HV6.out.lie.1
   have y1:=HV6.out.lie.2.1
   have y2:=HV6.out.lie.2.2
   simp only at y0 y1 y2
   clear b6 k0 v0 v1 v2 K6
   go_wp2_with fail
   ((with_reducible refine (CX.out _ B6.out.b).mono ?_);rintro e w7 ⟨rfl,b7⟩)
   have B7:=hZ (B6.out.later b7)
   have HV7:=hZ (HV6.out.later b7)
   obtain⟨z0,z1,z2⟩:=HV7.out.lie
   obtain⟨c0,c1,c2⟩:=B7.out.clie
   obtain⟨f0,f1,f2⟩:=B7.out.free
   simp only at c0 c1 c2 z0 z1 z2
   clear b7 k1 y0 y1 y2
   cases p with
   | false =>
    have HR:=hZ (show Cl.Rdd false 3 s Cl.empty 4 by simpa using HRG.out)
    go_wp2_with fail
    exact bodyPost_ret (ret2 rfl _ _ (w.heap.size+1) _ rfl (B7.out.put _ _ _).1) rfl ⟨_,4,rfl,HR.out,emptyI,emptyS,(B7.out.put _ _ _).2⟩
   | true =>
    have HR:=hZ (show Cl.Rdd false 3 s ⟨gu,gn,gs⟩ 0 by simpa using HRG.out)
    go_wp2_with fail
    exact bodyPost_ret (ret2 rfl _ _ (w.heap.size+1) _ rfl (B7.out.put _ _ _).1) rfl ⟨_,0,rfl,HR.out,HG.out.1,HG.out.2.1,(B7.out.put _ _ _).2⟩
 ·skip
  replace hs2:=hs2 rfl
  go_enter Tryz.func120,Tryz.ntmps120
  go_wp2_with fail
  ((with_reducible refine (HM.out _).mono ?_);rintro e w1 ⟨rfl,b1⟩)
  have BB:=hZ (B0.out.later b1)
  obtain⟨t0,t1⟩:=BB.out.tlie
  clear b1
  go_wp2_with fail
  ((with_reducible refine (CK.out _).mono ?_);rintro e w2 ⟨rfl,b2⟩)
  have BC:=hZ (BB.out.later b2)
  have hw2:∃ n,w2.heap.size=n:=⟨_,rfl⟩
  obtain⟨gk,hgk⟩:=hw2
  have K3:=Blk.new w2 104 #[.func (Fn.func 100) #[] #[],.func (Fn.func 96) #[] #[],.func (Fn.func 97) #[] #[],.func (Fn.func 98) #[] #[],.func (Fn.func 99) #[] #[]]
  rw [hgk] at K3
  have b3:=box_new w2 (.cells #[.func (Fn.func 100) #[] #[],.func (Fn.func 96) #[] #[],.func (Fn.func 97) #[] #[],.func (Fn.func 98) #[] #[],.func (Fn.func 99) #[] #[]] 104)
  have B3:=hZ (BC.out.later b3)
  have HK3:=hZ K3
  clear b2 BB t0 t1 b3
  go_wp2_with fail
  ((with_reducible refine (CG.out _ B3.out.b).mono ?_);rintro e w4 ⟨g,rfl,hg,b4⟩)
  obtain⟨gu,gn,gs⟩:=g
  have B4:=hZ (B3.out.later b4)
  have HK4:=hZ (HK3.out.later b4)
  have HG:=hZ hg
  have hw4:∃ n,w4.heap.size=n:=⟨_,rfl⟩
  obtain⟨gc,hgc⟩:=hw4
  have K5:=HK4.out.later (box_new w4 (.cells #[.bool gu,.int .i64 gn,.string gs] 61))
  have k0:=K5.cell 0
  simp only [List.getElem?_cons_zero] at k0
  have V5:=CV.new w4 gu gn gs
  rw [hgc] at V5
  have B5:=hZ (B4.out.later (box_new w4 (.cells #[.bool gu,.int .i64 gn,.string gs] 61)))
  have HV5:=hZ V5
  have HK5:=hZ K5
  obtain⟨v0,v1,v2⟩:=V5.lie
  simp only at v0 v1 v2
  clear b4 K3 K5 V5 hg
  unfold cv
  simp only
  obtain⟨r,hr⟩:∃ r,Cl.isK 3 ⟨gu,gn,gs⟩=r:=⟨_,rfl⟩
  have CI:=hZ (fun w1 (hb:Below w.heap.size w w1)=>kf3.is ⟨gu,gn,gs⟩ w1 r (TW.out w1 hb) HG.out.1 (Nat.le_trans HG.out.2.1 (by decide)) hr)
  have RG:=Cl.Rdd.guess (u:=true) (k:=3) (X:=s) (by decide) ⟨gu,gn,gs⟩ HG.out.1 (fun h=>HX.out ⟨trivial,h.2⟩) HG.out.2.2
  rw [hr] at RG
  unfold cv at CI
  simp only at CI
  cases r with
  | false =>
   have HRG:=hZ (show Cl.Rdd true 3 s Cl.empty 4 by simpa using RG)
   clear RG hr
   go_wp2_with fail
   ((with_reducible refine (CI.out _ B5.out.b).mono ?_);rintro e w6 ⟨rfl,b6⟩)
   have B6:=hZ (B5.out.later b6)
   obtain⟨c0,c1,c2⟩:=B6.out.clie
   obtain⟨f0,f1,f2⟩:=B6.out.free
   simp only at c0 c1 c2
   clear b6 k0 v0 v1 v2
   go_wp2_with fail
   exact bodyPost_ret (ret2 rfl _ _ (w.heap.size+1) _ rfl (B6.out.put _ _ _).1) rfl ⟨_,4,rfl,HRG.out,emptyI,emptyS,(B6.out.put _ _ _).2⟩
  | true =>
   obtain⟨x,hx⟩:∃ x,Cl.txt 3 ⟨gu,gn,gs⟩=x:=⟨_,rfl⟩
   have CX:=hZ (fun w1 (hb:Below w.heap.size w w1)=>kf3.text ⟨gu,gn,gs⟩ w1 x (TW.out w1 hb) HG.out.1 hr hx)
   rw [hx] at RG
   obtain⟨p,hp⟩:∃ p,(x.toList == s.toList)=p:=⟨_,rfl⟩
   have hp2:=hp
   rw [str_eq_bool] at hp2
   have HRG:=hZ (show if p=true then Cl.Rdd true 3 s ⟨gu,gn,gs⟩ 0 else Cl.Rdd true 3 s Cl.empty 4 by
    by_cases e:x=s
    ·rw [if_pos ⟨rfl,e⟩] at RG
     rw [if_pos (by rw [← hp2];exact decide_eq_true e)];exact RG
    ·rw [if_neg (fun h=>e h.2)] at RG
     rw [if_neg (by rw [← hp2];simpa using e)];exact RG)
   unfold cv at CX
   simp only at CX
   clear RG hr hx hp2
   go_wp2_with fail
   ((with_reducible refine (CI.out _ B5.out.b).mono ?_);rintro e w6 ⟨rfl,b6⟩)
   have B6:=hZ (B5.out.later b6)
   have HV6:=hZ (HV5.out.later b6)
   have K6:=HK5.out.later b6
   have k1:=K6.cell 1
   simp only [zD,zE] at k1
   have y0:=HV6.out.lie.1
   have y1:=HV6.out.lie.2.1
   have y2:=HV6.out.lie.2.2
   simp only at y0 y1 y2
   clear b6 k0 v0 v1 v2 K6
   go_wp2_with fail
   ((with_reducible refine (CX.out _ B6.out.b).mono ?_);rintro e w7 ⟨rfl,b7⟩)
   have B7:=hZ (B6.out.later b7)
   have HV7:=hZ (HV6.out.later b7)
   obtain⟨z0,z1,z2⟩:=HV7.out.lie
   obtain⟨c0,c1,c2⟩:=B7.out.clie
   obtain⟨f0,f1,f2⟩:=B7.out.free
   simp only at c0 c1 c2 z0 z1 z2
   clear b7 k1 y0 y1 y2
   cases p with
   | false =>
    have HR:=hZ (show Cl.Rdd true 3 s Cl.empty 4 by simpa using HRG.out)
    go_wp2_with fail
    exact bodyPost_ret (ret2 rfl _ _ (w.heap.size+1) _ rfl (B7.out.put _ _ _).1) rfl ⟨_,4,rfl,HR.out,emptyI,emptyS,(B7.out.put _ _ _).2⟩
   | true =>
    have HR:=hZ (show Cl.Rdd true 3 s ⟨gu,gn,gs⟩ 0 by simpa using HRG.out)
    go_wp2_with fail
    exact bodyPost_ret (ret2 rfl _ _ (w.heap.size+1) _ rfl (B7.out.put _ _ _).1) rfl ⟨_,0,rfl,HR.out,HG.out.1,HG.out.2.1,(B7.out.put _ _ _).2⟩
theorem read4 (u:Bool) (s:ByteArray) (w:World) (T:TA w) (hm:s.size≤100000) (hx:¬ (u=true∧s=Cl.nullB)):Calls Tryz.prog 120 #[tv u 4,.string s] w fun e w'=>RdPost w u 4 s e w':=by
 have HM:=hZ (fun w=>cMay u 4 w true (by decide))
 have B0:=hZ (BX.start w u 4 Cl.empty)
 have TW:=hZ (fun w1 (hb:Below w.heap.size w w1)=>T.later hb)
 have CK:=hZ (fun w=>kindOf4 u w)
 have CG:=hZ (fun w1 (hb:Below w.heap.size w w1)=>kf4.guess s w1 (T.later hb) hm)
 have hs:(u && (s.toList == [110,117,108,108]))=false:=by
  rw [← nte,str_eq_bool]
  cases u
  ·rfl
  ·simp only [true_and] at hx
   exact decide_eq_false hx
 have HX:=hZ hx
 have hs2:u=true→(s.toList == [110,117,108,108])=false:=fun h=>by rw [h] at hs;exact hs
 clear T hx hm hs
 unfold tv kv4 at CK
 unfold Cl.empty at B0
 unfold tv at HM ⊢
 simp only at B0
 cases u
 ·skip
  clear hs2
  go_enter Tryz.func120,Tryz.ntmps120
  go_wp2_with fail
  ((with_reducible refine (HM.out _).mono ?_);rintro e w1 ⟨rfl,b1⟩)
  have BB:=hZ (B0.out.later b1)
  obtain⟨t0,t1⟩:=BB.out.tlie
  clear b1
  go_wp2_with fail
  ((with_reducible refine (CK.out _).mono ?_);rintro e w2 ⟨rfl,b2⟩)
  have BC:=hZ (BB.out.later b2)
  have hw2:∃ n,w2.heap.size=n:=⟨_,rfl⟩
  obtain⟨gk,hgk⟩:=hw2
  have K3:=Blk.new w2 104 #[.func (Fn.func 101) #[] #[],.func (Fn.func 102) #[] #[],.func (Fn.func 103) #[] #[],.func (Fn.func 104) #[] #[],.func (Fn.func 105) #[] #[]]
  rw [hgk] at K3
  have b3:=box_new w2 (.cells #[.func (Fn.func 101) #[] #[],.func (Fn.func 102) #[] #[],.func (Fn.func 103) #[] #[],.func (Fn.func 104) #[] #[],.func (Fn.func 105) #[] #[]] 104)
  have B3:=hZ (BC.out.later b3)
  have HK3:=hZ K3
  clear b2 BB t0 t1 b3
  go_wp2_with fail
  ((with_reducible refine (CG.out _ B3.out.b).mono ?_);rintro e w4 ⟨g,rfl,hg,b4⟩)
  obtain⟨gu,gn,gs⟩:=g
  have B4:=hZ (B3.out.later b4)
  have HK4:=hZ (HK3.out.later b4)
  have HG:=hZ hg
  have hw4:∃ n,w4.heap.size=n:=⟨_,rfl⟩
  obtain⟨gc,hgc⟩:=hw4
  have K5:=HK4.out.later (box_new w4 (.cells #[.bool gu,.int .i64 gn,.string gs] 61))
  have k0:=K5.cell 0
  simp only [List.getElem?_cons_zero] at k0
  have V5:=CV.new w4 gu gn gs
  rw [hgc] at V5
  have B5:=hZ (B4.out.later (box_new w4 (.cells #[.bool gu,.int .i64 gn,.string gs] 61)))
  have HV5:=hZ V5
  have HK5:=hZ K5
  obtain⟨v0,v1,v2⟩:=V5.lie
  simp only at v0 v1 v2
  clear b4 K3 K5 V5 hg
  unfold cv
  simp only
  obtain⟨r,hr⟩:∃ r,Cl.isK 4 ⟨gu,gn,gs⟩=r:=⟨_,rfl⟩
  have CI:=hZ (fun w1 (hb:Below w.heap.size w w1)=>kf4.is ⟨gu,gn,gs⟩ w1 r (TW.out w1 hb) HG.out.1 (Nat.le_trans HG.out.2.1 (by decide)) hr)
  have RG:=Cl.Rdd.guess (u:=false) (k:=4) (X:=s) (by decide) ⟨gu,gn,gs⟩ HG.out.1 (by simp) HG.out.2.2
  rw [hr] at RG
  unfold cv at CI
  simp only at CI
  cases r with
  | false =>
   have HRG:=hZ (show Cl.Rdd false 4 s Cl.empty 4 by simpa using RG)
   clear RG hr
   go_wp2_with fail
   ((with_reducible refine (CI.out _ B5.out.b).mono ?_);rintro e w6 ⟨rfl,b6⟩)
   have B6:=hZ (B5.out.later b6)
   obtain⟨c0,c1,c2⟩:=B6.out.clie
   obtain⟨f0,f1,f2⟩:=B6.out.free
   simp only at c0 c1 c2
   clear b6 k0 v0 v1 v2
   go_wp2_with fail
   exact bodyPost_ret (ret2 rfl _ _ (w.heap.size+1) _ rfl (B6.out.put _ _ _).1) rfl ⟨_,4,rfl,HRG.out,emptyI,emptyS,(B6.out.put _ _ _).2⟩
  | true =>
   obtain⟨x,hx⟩:∃ x,Cl.txt 4 ⟨gu,gn,gs⟩=x:=⟨_,rfl⟩
   have CX:=hZ (fun w1 (hb:Below w.heap.size w w1)=>kf4.text ⟨gu,gn,gs⟩ w1 x (TW.out w1 hb) HG.out.1 hr hx)
   rw [hx] at RG
   obtain⟨p,hp⟩:∃ p,(x.toList == s.toList)=p:=⟨_,rfl⟩
   have hp2:=hp
   rw [str_eq_bool] at hp2
   have HRG:=hZ (show if p=true then Cl.Rdd false 4 s ⟨gu,gn,gs⟩ 0 else Cl.Rdd false 4 s Cl.empty 4 by
    by_cases e:x=s
    ·rw [if_pos ⟨rfl,e⟩] at RG
     rw [if_pos (by rw [← hp2];exact decide_eq_true e)];exact RG
    ·rw [if_neg (fun h=>e h.2)] at RG
     rw [if_neg (by rw [← hp2];simpa using e)];exact RG)
   unfold cv at CX
   simp only at CX
   clear RG hr hx hp2
   go_wp2_with fail
   ((with_reducible refine (CI.out _ B5.out.b).mono ?_);rintro e w6 ⟨rfl,b6⟩)
   have B6:=hZ (B5.out.later b6)
   have HV6:=hZ (HV5.out.later b6)
   have K6:=HK5.out.later b6
   have k1:=K6.cell 1
   simp only [zD,zE] at k1
   have y0:=HV6.out.lie.1
   have y1:=HV6.out.lie.2.1
   have y2:=HV6.out.lie.2.2
   simp only at y0 y1 y2
   clear b6 k0 v0 v1 v2 K6
   go_wp2_with fail
   ((with_reducible refine (CX.out _ B6.out.b).mono ?_);rintro e w7 ⟨rfl,b7⟩)
   have B7:=hZ (B6.out.later b7)
   have HV7:=hZ (HV6.out.later b7)
   obtain⟨z0,z1,z2⟩:=HV7.out.lie
   obtain⟨c0,c1,c2⟩:=B7.out.clie
   obtain⟨f0,f1,f2⟩:=B7.out.free
   simp only at c0 c1 c2 z0 z1 z2
   clear b7 k1 y0 y1 y2
   cases p with
   | false =>
    have HR:=hZ (show Cl.Rdd false 4 s Cl.empty 4 by simpa using HRG.out)
    go_wp2_with fail
    exact bodyPost_ret (ret2 rfl _ _ (w.heap.size+1) _ rfl (B7.out.put _ _ _).1) rfl ⟨_,4,rfl,HR.out,emptyI,emptyS,(B7.out.put _ _ _).2⟩
   | true =>
    have HR:=hZ (show Cl.Rdd false 4 s ⟨gu,gn,gs⟩ 0 by simpa using HRG.out)
    go_wp2_with fail
    exact bodyPost_ret (ret2 rfl _ _ (w.heap.size+1) _ rfl (B7.out.put _ _ _).1) rfl ⟨_,0,rfl,HR.out,HG.out.1,HG.out.2.1,(B7.out.put _ _ _).2⟩
 ·skip
  replace hs2:=hs2 rfl
  go_enter Tryz.func120,Tryz.ntmps120
  go_wp2_with fail
  ((with_reducible refine (HM.out _).mono ?_);rintro e w1 ⟨rfl,b1⟩)
  have BB:=hZ (B0.out.later b1)
  obtain⟨t0,t1⟩:=BB.out.tlie
  clear b1
  go_wp2_with fail
  ((with_reducible refine (CK.out _).mono ?_);rintro e w2 ⟨rfl,b2⟩)
  have BC:=hZ (BB.out.later b2)
  have hw2:∃ n,w2.heap.size=n:=⟨_,rfl⟩
  obtain⟨gk,hgk⟩:=hw2
  have K3:=Blk.new w2 104 #[.func (Fn.func 101) #[] #[],.func (Fn.func 102) #[] #[],.func (Fn.func 103) #[] #[],.func (Fn.func 104) #[] #[],.func (Fn.func 105) #[] #[]]
  rw [hgk] at K3
  have b3:=box_new w2 (.cells #[.func (Fn.func 101) #[] #[],.func (Fn.func 102) #[] #[],.func (Fn.func 103) #[] #[],.func (Fn.func 104) #[] #[],.func (Fn.func 105) #[] #[]] 104)
  have B3:=hZ (BC.out.later b3)
  have HK3:=hZ K3
  clear b2 BB t0 t1 b3
  go_wp2_with fail
  ((with_reducible refine (CG.out _ B3.out.b).mono ?_);rintro e w4 ⟨g,rfl,hg,b4⟩)
  obtain⟨gu,gn,gs⟩:=g
  have B4:=hZ (B3.out.later b4)
  have HK4:=hZ (HK3.out.later b4)
  have HG:=hZ hg
  have hw4:∃ n,w4.heap.size=n:=⟨_,rfl⟩
  obtain⟨gc,hgc⟩:=hw4
  have K5:=HK4.out.later (box_new w4 (.cells #[.bool gu,.int .i64 gn,.string gs] 61))
  have k0:=K5.cell 0
  simp only [List.getElem?_cons_zero] at k0
  have V5:=CV.new w4 gu gn gs
  rw [hgc] at V5
  have B5:=hZ (B4.out.later (box_new w4 (.cells #[.bool gu,.int .i64 gn,.string gs] 61)))
  have HV5:=hZ V5
  have HK5:=hZ K5
  obtain⟨v0,v1,v2⟩:=V5.lie
  simp only at v0 v1 v2
  clear b4 K3 K5 V5 hg
  unfold cv
  simp only
  obtain⟨r,hr⟩:∃ r,Cl.isK 4 ⟨gu,gn,gs⟩=r:=⟨_,rfl⟩
  have CI:=hZ (fun w1 (hb:Below w.heap.size w w1)=>kf4.is ⟨gu,gn,gs⟩ w1 r (TW.out w1 hb) HG.out.1 (Nat.le_trans HG.out.2.1 (by decide)) hr)
  have RG:=Cl.Rdd.guess (u:=true) (k:=4) (X:=s) (by decide) ⟨gu,gn,gs⟩ HG.out.1 (fun h=>HX.out ⟨trivial,h.2⟩) HG.out.2.2
  rw [hr] at RG
  unfold cv at CI
  simp only at CI
  cases r with
  | false =>
   have HRG:=hZ (show Cl.Rdd true 4 s Cl.empty 4 by simpa using RG)
   clear RG hr
   go_wp2_with fail
   ((with_reducible refine (CI.out _ B5.out.b).mono ?_);rintro e w6 ⟨rfl,b6⟩)
   have B6:=hZ (B5.out.later b6)
   obtain⟨c0,c1,c2⟩:=B6.out.clie
   obtain⟨f0,f1,f2⟩:=B6.out.free
   simp only at c0 c1 c2
   clear b6 k0 v0 v1 v2
   go_wp2_with fail
   exact bodyPost_ret (ret2 rfl _ _ (w.heap.size+1) _ rfl (B6.out.put _ _ _).1) rfl ⟨_,4,rfl,HRG.out,emptyI,emptyS,(B6.out.put _ _ _).2⟩
  | true =>
   obtain⟨x,hx⟩:∃ x,Cl.txt 4 ⟨gu,gn,gs⟩=x:=⟨_,rfl⟩
   have CX:=hZ (fun w1 (hb:Below w.heap.size w w1)=>kf4.text ⟨gu,gn,gs⟩ w1 x (TW.out w1 hb) HG.out.1 hr hx)
   rw [hx] at RG
   obtain⟨p,hp⟩:∃ p,(x.toList == s.toList)=p:=⟨_,rfl⟩
   have hp2:=hp
   rw [str_eq_bool] at hp2
   have HRG:=hZ (show if p=true then Cl.Rdd true 4 s ⟨gu,gn,gs⟩ 0 else Cl.Rdd true 4 s Cl.empty 4 by
    by_cases e:x=s
    ·rw [if_pos ⟨rfl,e⟩] at RG
     rw [if_pos (by rw [← hp2];exact decide_eq_true e)];exact RG
    ·rw [if_neg (fun h=>e h.2)] at RG
     rw [if_neg (by rw [← hp2];simpa using e)];exact RG)
   unfold cv at CX
   simp only at CX
   clear RG hr hx hp2
   go_wp2_with fail
   ((with_reducible refine (CI.out _ B5.out.b).mono ?_);rintro e w6 ⟨rfl,b6⟩)
   have B6:=hZ (B5.out.later b6)
   have HV6:=hZ (HV5.out.later b6)
   have K6:=HK5.out.later b6
   have k1:=K6.cell 1
   simp only [zD,zE] at k1
   have y0:=HV6.out.lie.1
   have y1:=HV6.out.lie.2.1
   have y2:=HV6.out.lie.2.2
   simp only at y0 y1 y2
   clear b6 k0 v0 v1 v2 K6
   go_wp2_with fail
   ((with_reducible refine (CX.out _ B6.out.b).mono ?_);rintro e w7 ⟨rfl,b7⟩)
   have B7:=hZ (B6.out.later b7)
   have HV7:=hZ (HV6.out.later b7)
   obtain⟨z0,z1,z2⟩:=HV7.out.lie
   obtain⟨c0,c1,c2⟩:=B7.out.clie
   obtain⟨f0,f1,f2⟩:=B7.out.free
   simp only at c0 c1 c2 z0 z1 z2
   clear b7 k1 y0 y1 y2
   cases p with
   | false =>
    have HR:=hZ (show Cl.Rdd true 4 s Cl.empty 4 by simpa using HRG.out)
    go_wp2_with fail
    exact bodyPost_ret (ret2 rfl _ _ (w.heap.size+1) _ rfl (B7.out.put _ _ _).1) rfl ⟨_,4,rfl,HR.out,emptyI,emptyS,(B7.out.put _ _ _).2⟩
   | true =>
    have HR:=hZ (show Cl.Rdd true 4 s ⟨gu,gn,gs⟩ 0 by simpa using HRG.out)
    go_wp2_with fail
    exact bodyPost_ret (ret2 rfl _ _ (w.heap.size+1) _ rfl (B7.out.put _ _ _).1) rfl ⟨_,0,rfl,HR.out,HG.out.1,HG.out.2.1,(B7.out.put _ _ _).2⟩
theorem read5 (u:Bool) (s:ByteArray) (w:World) (T:TA w) (hm:s.size≤100000) (hx:¬ (u=true∧s=Cl.nullB)):Calls Tryz.prog 120 #[tv u 5,.string s] w fun e w'=>RdPost w u 5 s e w':=by
 have HM:=hZ (fun w=>cMay u 5 w true (by decide))
 have B0:=hZ (BX.start w u 5 Cl.empty)
 have TW:=hZ (fun w1 (hb:Below w.heap.size w w1)=>T.later hb)
 have CK:=hZ (fun w=>kindOf5 u w)
 have CG:=hZ (fun w1 (hb:Below w.heap.size w w1)=>kf5.guess s w1 (T.later hb) hm)
 have hs:(u && (s.toList == [110,117,108,108]))=false:=by
  rw [← nte,str_eq_bool]
  cases u
  ·rfl
  ·simp only [true_and] at hx
   exact decide_eq_false hx
 have HX:=hZ hx
 have hs2:u=true→(s.toList == [110,117,108,108])=false:=fun h=>by rw [h] at hs;exact hs
 clear T hx hm hs
 unfold tv kv5 at CK
 unfold Cl.empty at B0
 unfold tv at HM ⊢
 simp only at B0
 cases u
 ·skip
  clear hs2
  go_enter Tryz.func120,Tryz.ntmps120
  go_wp2_with fail
  ((with_reducible refine (HM.out _).mono ?_);rintro e w1 ⟨rfl,b1⟩)
  have BB:=hZ (B0.out.later b1)
  obtain⟨t0,t1⟩:=BB.out.tlie
  clear b1
  go_wp2_with fail
  ((with_reducible refine (CK.out _).mono ?_);rintro e w2 ⟨rfl,b2⟩)
  have BC:=hZ (BB.out.later b2)
  have hw2:∃ n,w2.heap.size=n:=⟨_,rfl⟩
  obtain⟨gk,hgk⟩:=hw2
  have K3:=Blk.new w2 104 #[.func (Fn.func 106) #[] #[],.func (Fn.func 107) #[] #[],.func (Fn.func 108) #[] #[],.func (Fn.func 104) #[] #[],.func (Fn.func 105) #[] #[]]
  rw [hgk] at K3
  have b3:=box_new w2 (.cells #[.func (Fn.func 106) #[] #[],.func (Fn.func 107) #[] #[],.func (Fn.func 108) #[] #[],.func (Fn.func 104) #[] #[],.func (Fn.func 105) #[] #[]] 104)
  have B3:=hZ (BC.out.later b3)
  have HK3:=hZ K3
  clear b2 BB t0 t1 b3
  go_wp2_with fail
  ((with_reducible refine (CG.out _ B3.out.b).mono ?_);rintro e w4 ⟨g,rfl,hg,b4⟩)
  obtain⟨gu,gn,gs⟩:=g
  have B4:=hZ (B3.out.later b4)
  have HK4:=hZ (HK3.out.later b4)
  have HG:=hZ hg
  have hw4:∃ n,w4.heap.size=n:=⟨_,rfl⟩
  obtain⟨gc,hgc⟩:=hw4
  have K5:=HK4.out.later (box_new w4 (.cells #[.bool gu,.int .i64 gn,.string gs] 61))
  have k0:=K5.cell 0
  simp only [List.getElem?_cons_zero] at k0
  have V5:=CV.new w4 gu gn gs
  rw [hgc] at V5
  have B5:=hZ (B4.out.later (box_new w4 (.cells #[.bool gu,.int .i64 gn,.string gs] 61)))
  have HV5:=hZ V5
  have HK5:=hZ K5
  obtain⟨v0,v1,v2⟩:=V5.lie
  simp only at v0 v1 v2
  clear b4 K3 K5 V5 hg
  unfold cv
  simp only
  obtain⟨r,hr⟩:∃ r,Cl.isK 5 ⟨gu,gn,gs⟩=r:=⟨_,rfl⟩
  have CI:=hZ (fun w1 (hb:Below w.heap.size w w1)=>kf5.is ⟨gu,gn,gs⟩ w1 r (TW.out w1 hb) HG.out.1 (Nat.le_trans HG.out.2.1 (by decide)) hr)
  have RG:=Cl.Rdd.guess (u:=false) (k:=5) (X:=s) (by decide) ⟨gu,gn,gs⟩ HG.out.1 (by simp) HG.out.2.2
  rw [hr] at RG
  unfold cv at CI
  simp only at CI
  cases r with
  | false =>
   have HRG:=hZ (show Cl.Rdd false 5 s Cl.empty 4 by simpa using RG)
   clear RG hr
   go_wp2_with fail
   ((with_reducible refine (CI.out _ B5.out.b).mono ?_);rintro e w6 ⟨rfl,b6⟩)
   have B6:=hZ (B5.out.later b6)
   obtain⟨c0,c1,c2⟩:=B6.out.clie
   obtain⟨f0,f1,f2⟩:=B6.out.free
   simp only at c0 c1 c2
   clear b6 k0 v0 v1 v2
   go_wp2_with fail
   exact bodyPost_ret (ret2 rfl _ _ (w.heap.size+1) _ rfl (B6.out.put _ _ _).1) rfl ⟨_,4,rfl,HRG.out,emptyI,emptyS,(B6.out.put _ _ _).2⟩
  | true =>
   obtain⟨x,hx⟩:∃ x,Cl.txt 5 ⟨gu,gn,gs⟩=x:=⟨_,rfl⟩
   have CX:=hZ (fun w1 (hb:Below w.heap.size w w1)=>kf5.text ⟨gu,gn,gs⟩ w1 x (TW.out w1 hb) HG.out.1 hr hx)
   rw [hx] at RG
   obtain⟨p,hp⟩:∃ p,(x.toList == s.toList)=p:=⟨_,rfl⟩
   have hp2:=hp
   rw [str_eq_bool] at hp2
   have HRG:=hZ (show if p=true then Cl.Rdd false 5 s ⟨gu,gn,gs⟩ 0 else Cl.Rdd false 5 s Cl.empty 4 by
    by_cases e:x=s
    ·rw [if_pos ⟨rfl,e⟩] at RG
     rw [if_pos (by rw [← hp2];exact decide_eq_true e)];exact RG
    ·rw [if_neg (fun h=>e h.2)] at RG
     rw [if_neg (by rw [← hp2];simpa using e)];exact RG)
   unfold cv at CX
   simp only at CX
   clear RG hr hx hp2
   go_wp2_with fail
   ((with_reducible refine (CI.out _ B5.out.b).mono ?_);rintro e w6 ⟨rfl,b6⟩)
   have B6:=hZ (B5.out.later b6)
   have HV6:=hZ (HV5.out.later b6)
   have K6:=HK5.out.later b6
   have k1:=K6.cell 1
   simp only [zD,zE] at k1
   have y0:=HV6.out.lie.1
   have y1:=HV6.out.lie.2.1
   have y2:=HV6.out.lie.2.2
   simp only at y0 y1 y2
   clear b6 k0 v0 v1 v2 K6
   go_wp2_with fail
   ((with_reducible refine (CX.out _ B6.out.b).mono ?_);rintro e w7 ⟨rfl,b7⟩)
   have B7:=hZ (B6.out.later b7)
   have HV7:=hZ (HV6.out.later b7)
   obtain⟨z0,z1,z2⟩:=HV7.out.lie
   obtain⟨c0,c1,c2⟩:=B7.out.clie
   obtain⟨f0,f1,f2⟩:=B7.out.free
   simp only at c0 c1 c2 z0 z1 z2
   clear b7 k1 y0 y1 y2
   cases p with
   | false =>
    have HR:=hZ (show Cl.Rdd false 5 s Cl.empty 4 by simpa using HRG.out)
    go_wp2_with fail
    exact bodyPost_ret (ret2 rfl _ _ (w.heap.size+1) _ rfl (B7.out.put _ _ _).1) rfl ⟨_,4,rfl,HR.out,emptyI,emptyS,(B7.out.put _ _ _).2⟩
   | true =>
    have HR:=hZ (show Cl.Rdd false 5 s ⟨gu,gn,gs⟩ 0 by simpa using HRG.out)
    go_wp2_with fail
    exact bodyPost_ret (ret2 rfl _ _ (w.heap.size+1) _ rfl (B7.out.put _ _ _).1) rfl ⟨_,0,rfl,HR.out,HG.out.1,HG.out.2.1,(B7.out.put _ _ _).2⟩
 ·skip
  replace hs2:=hs2 rfl
  go_enter Tryz.func120,Tryz.ntmps120
  go_wp2_with fail
  ((with_reducible refine (HM.out _).mono ?_);rintro e w1 ⟨rfl,b1⟩)
  have BB:=hZ (B0.out.later b1)
  obtain⟨t0,t1⟩:=BB.out.tlie
  clear b1
  go_wp2_with fail
  ((with_reducible refine (CK.out _).mono ?_);rintro e w2 ⟨rfl,b2⟩)
  have BC:=hZ (BB.out.later b2)
  have hw2:∃ n,w2.heap.size=n:=⟨_,rfl⟩
  obtain⟨gk,hgk⟩:=hw2
  have K3:=Blk.new w2 104 #[.func (Fn.func 106) #[] #[],.func (Fn.func 107) #[] #[],.func (Fn.func 108) #[] #[],.func (Fn.func 104) #[] #[],.func (Fn.func 105) #[] #[]]
  rw [hgk] at K3
  have b3:=box_new w2 (.cells #[.func (Fn.func 106) #[] #[],.func (Fn.func 107) #[] #[],.func (Fn.func 108) #[] #[],.func (Fn.func 104) #[] #[],.func (Fn.func 105) #[] #[]] 104)
  have B3:=hZ (BC.out.later b3)
  have HK3:=hZ K3
  clear b2 BB t0 t1 b3
  go_wp2_with fail
  ((with_reducible refine (CG.out _ B3.out.b).mono ?_);rintro e w4 ⟨g,rfl,hg,b4⟩)
  obtain⟨gu,gn,gs⟩:=g
  have B4:=hZ (B3.out.later b4)
  have HK4:=hZ (HK3.out.later b4)
  have HG:=hZ hg
  have hw4:∃ n,w4.heap.size=n:=⟨_,rfl⟩
  obtain⟨gc,hgc⟩:=hw4
  have K5:=HK4.out.later (box_new w4 (.cells #[.bool gu,.int .i64 gn,.string gs] 61))
  have k0:=K5.cell 0
  simp only [List.getElem?_cons_zero] at k0
  have V5:=CV.new w4 gu gn gs
  rw [hgc] at V5
  have B5:=hZ (B4.out.later (box_new w4 (.cells #[.bool gu,.int .i64 gn,.string gs] 61)))
  have HV5:=hZ V5
  have HK5:=hZ K5
  obtain⟨v0,v1,v2⟩:=V5.lie
  simp only at v0 v1 v2
  clear b4 K3 K5 V5 hg
  unfold cv
  simp only
  obtain⟨r,hr⟩:∃ r,Cl.isK 5 ⟨gu,gn,gs⟩=r:=⟨_,rfl⟩
  have CI:=hZ (fun w1 (hb:Below w.heap.size w w1)=>kf5.is ⟨gu,gn,gs⟩ w1 r (TW.out w1 hb) HG.out.1 (Nat.le_trans HG.out.2.1 (by decide)) hr)
  have RG:=Cl.Rdd.guess (u:=true) (k:=5) (X:=s) (by decide) ⟨gu,gn,gs⟩ HG.out.1 (fun h=>HX.out ⟨trivial,h.2⟩) HG.out.2.2
  rw [hr] at RG
  unfold cv at CI
  simp only at CI
  cases r with
  | false =>
   have HRG:=hZ (show Cl.Rdd true 5 s Cl.empty 4 by simpa using RG)
   clear RG hr
   go_wp2_with fail
   ((with_reducible refine (CI.out _ B5.out.b).mono ?_);rintro e w6 ⟨rfl,b6⟩)
   have B6:=hZ (B5.out.later b6)
   obtain⟨c0,c1,c2⟩:=B6.out.clie
   obtain⟨f0,f1,f2⟩:=B6.out.free
   simp only at c0 c1 c2
   clear b6 k0 v0 v1 v2
   go_wp2_with fail
   exact bodyPost_ret (ret2 rfl _ _ (w.heap.size+1) _ rfl (B6.out.put _ _ _).1) rfl ⟨_,4,rfl,HRG.out,emptyI,emptyS,(B6.out.put _ _ _).2⟩
  | true =>
   obtain⟨x,hx⟩:∃ x,Cl.txt 5 ⟨gu,gn,gs⟩=x:=⟨_,rfl⟩
   have CX:=hZ (fun w1 (hb:Below w.heap.size w w1)=>kf5.text ⟨gu,gn,gs⟩ w1 x (TW.out w1 hb) HG.out.1 hr hx)
   rw [hx] at RG
   obtain⟨p,hp⟩:∃ p,(x.toList == s.toList)=p:=⟨_,rfl⟩
   have hp2:=hp
   rw [str_eq_bool] at hp2
   have HRG:=hZ (show if p=true then Cl.Rdd true 5 s ⟨gu,gn,gs⟩ 0 else Cl.Rdd true 5 s Cl.empty 4 by
    by_cases e:x=s
    ·rw [if_pos ⟨rfl,e⟩] at RG
     rw [if_pos (by rw [← hp2];exact decide_eq_true e)];exact RG
    ·rw [if_neg (fun h=>e h.2)] at RG
     rw [if_neg (by rw [← hp2];simpa using e)];exact RG)
   unfold cv at CX
   simp only at CX
   clear RG hr hx hp2
   go_wp2_with fail
   ((with_reducible refine (CI.out _ B5.out.b).mono ?_);rintro e w6 ⟨rfl,b6⟩)
   have B6:=hZ (B5.out.later b6)
   have HV6:=hZ (HV5.out.later b6)
   have K6:=HK5.out.later b6
   have k1:=K6.cell 1
   simp only [zD,zE] at k1
   have y0:=HV6.out.lie.1
   have y1:=HV6.out.lie.2.1
   have y2:=HV6.out.lie.2.2
   simp only at y0 y1 y2
   clear b6 k0 v0 v1 v2 K6
   go_wp2_with fail
   ((with_reducible refine (CX.out _ B6.out.b).mono ?_);rintro e w7 ⟨rfl,b7⟩)
   have B7:=hZ (B6.out.later b7)
   have HV7:=hZ (HV6.out.later b7)
   obtain⟨z0,z1,z2⟩:=HV7.out.lie
   obtain⟨c0,c1,c2⟩:=B7.out.clie
   obtain⟨f0,f1,f2⟩:=B7.out.free
   simp only at c0 c1 c2 z0 z1 z2
   clear b7 k1 y0 y1 y2
   cases p with
   | false =>
    have HR:=hZ (show Cl.Rdd true 5 s Cl.empty 4 by simpa using HRG.out)
    go_wp2_with fail
    exact bodyPost_ret (ret2 rfl _ _ (w.heap.size+1) _ rfl (B7.out.put _ _ _).1) rfl ⟨_,4,rfl,HR.out,emptyI,emptyS,(B7.out.put _ _ _).2⟩
   | true =>
    have HR:=hZ (show Cl.Rdd true 5 s ⟨gu,gn,gs⟩ 0 by simpa using HRG.out)
    go_wp2_with fail
    exact bodyPost_ret (ret2 rfl _ _ (w.heap.size+1) _ rfl (B7.out.put _ _ _).1) rfl ⟨_,0,rfl,HR.out,HG.out.1,HG.out.2.1,(B7.out.put _ _ _).2⟩
theorem reads (u:Bool) (k:Int) (s:ByteArray) (w:World) (T:TA w) (hm:s.size≤100000):Calls Tryz.prog 120 #[tv u k,.string s] w fun e w'=>RdPost w u k s e w':=by
 cases hk:Cl.may k with
 | false=>exact readNo u k s w hk
 | true =>
  by_cases hx:u=true∧s=Cl.nullB
  ·obtain⟨rfl,rfl⟩:=hx
   exact readNull k w hk
  ·obtain⟨k0,k5⟩:=Cl.may_le hk
   rcases (show k=1 ∨ k=2 ∨ k=3 ∨ k=4 ∨ k=5 by omega) with rfl|rfl|rfl|rfl|rfl
   ·exact read1 u s w T hm hx
   ·exact read2 u s w T hm hx
   ·exact read3 u s w T hm hx
   ·exact read4 u s w T hm hx
   ·exact read5 u s w T hm hx
end Go.Proofs.YtenfjmdajlhfoabGreatDoor
