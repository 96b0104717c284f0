/- Texts. -/
import Derived.Test.YtenfjmdajlhfoabGreatDoorKEvg
import Derived.Test.YtenfjmdajlhfoabGreatDoorKEvd
import Derived.Deep.DeepCutAuto
import Derived.Deep.CutBlock
set_option maxHeartbeats 16000000
namespace Go.Proofs.YtenfjmdajlhfoabGreatDoor
open Go.RowKit Go.Sort
set_option linter.unusedVariables false
set_option linter.unusedSimpArgs false
set_option maxRecDepth 100000
structure RV (W:World) (g:Nat) (x:Sx):Prop where
 at_:Blk W g 25 [x.v,x.kv]
 rd:RdS W W.heap.size x
theorem RV.later {W W':World} {g:Nat} {x:Sx} (h:RV W g x) (hb:Below W.heap.size W W'):RV W' g x:=⟨h.at_.later hb,h.rd.later hb⟩
theorem RV.new {W:World} {B:Nat} {x:Sx} (oc:OwnK W B x.v x.s.1) (ok:OwnI W B x.kv x.s.2):RV (W.alloc (.cells #[x.v,x.kv] 25)) W.heap.size x :=
 ⟨Blk.new W 25 #[x.v,x.kv],⟨(RdK.of oc).later (box_new _ _),(RdI.of ok).later (box_new _ _)⟩⟩
theorem RV.lie {W:World} {g c1 c2:Nat} {a1 a2:Option Addr} {s:Ev.Sm} (h:RV W g ⟨a1,c1,a2,c2,s⟩) {n m:Nat} (hn:s.1.length=n) (hm:s.2.length=m):W.cell? ⟨g,0,none⟩=some (.slice a1 n c1)∧W.cell? ⟨g,1,none⟩=some (.slice a2 m c2):=by
 subst hn hm
 exact⟨h.at_.cell 0,h.at_.cell 1⟩
theorem kok (c:Co) (h:0≤c.id∧c.id < 100∧0≤c.k∧c.k < 100∧c.nm.size≤100∧0≤c.d.n∧c.d.n < 100∧c.d.s.size≤100):KOk c:=by
 obtain⟨h1,h2,h3,h4,h5,h6,h7,h8⟩:=h
 constructor<;>first|omega|(constructor<;>omega)
theorem okS (s:Ev.Sm) (h:∀ c∈s.1,0≤c.id∧c.id < 100∧0≤c.k∧c.k < 100∧c.nm.size≤100∧0≤c.d.n∧c.d.n < 100∧c.d.s.size≤100) (h2:∀ q∈s.2,0≤q∧q < 100) (h3:s.1.length≤100) (h4:s.2.length≤100):SmOk s :=
 ⟨fun c hc=>kok c (h c hc),fun q hq=>by have:=h2 q hq;constructor<;>omega,by omega,by omega⟩
theorem okA:SmOk Ev.sA:=okS _ (by decide +kernel) (by decide) (by decide) (by decide)
theorem okB:SmOk Ev.sB:=okS _ (by decide +kernel) (by decide) (by decide) (by decide)
theorem ok1:SmOk Ev.s1:=okS _ (by decide +kernel) (by decide) (by decide) (by decide)
theorem okC:SmOk Ev.sC:=okS _ (by decide +kernel) (by decide) (by decide) (by decide)
theorem okD:SmOk Ev.sD:=okS _ (by decide +kernel) (by decide) (by decide) (by decide)
theorem okE:SmOk Ev.sE:=okS _ (by decide +kernel) (by decide) (by decide) (by decide)
theorem okF:SmOk Ev.sF:=okS _ (by decide +kernel) (by decide) (by decide) (by decide)
theorem okG:SmOk Ev.sG:=okS _ (by decide +kernel) (by decide) (by decide) (by decide)
theorem okH:SmOk Ev.sH:=okS _ (by decide +kernel) (by decide) (by decide) (by decide)
theorem okX:SmOk Ev.sX:=okS _ (by decide +kernel) (by decide) (by decide) (by decide)
def PR (s:Ev.Sm) (v:Value) (u:World):Prop:=∃ x:Sx,x.s=s∧v=.agg #[x.v,x.kv]∧RdS u u.heap.size x
theorem PR.later {s:Ev.Sm} {v:Value} {u u':World} (h:PR s v u) (hb:Below u.heap.size u u'):PR s v u':=by
 obtain⟨x,h1,h2,h3⟩:=h
 exact⟨x,h1,h2,h3.later hb⟩
theorem pr_mk {w:World} {a1 a2:Option Addr} {c1 c2 n m:Nat} {s:Ev.Sm} (h:RdS w w.heap.size ⟨a1,c1,a2,c2,s⟩) (hl:s.1.length=n∧s.2.length=m):PR s (.agg #[.slice a1 n c1,.slice a2 m c2]) w:=by
 obtain⟨rfl,rfl⟩:=hl
 exact⟨_,rfl,rfl,h⟩
theorem sp_pr {w w':World} {s:Ev.Sm} {e:Ending} (h:SPost w s e w'):∃ v,e=.returned v∧PR s v w'∧Below w.heap.size w w':=by
 obtain⟨x,h1,h2,h3,h4,h5⟩:=h
 subst h1
 exact⟨_,h2,⟨x,rfl,rfl,⟨RdK.of h3,RdI.of h4⟩⟩,h5⟩
theorem mvL {s s2:Ev.Sm} (v v2:Value) (hs:SmOk s) (hs2:SmOk s2) (w:World) (T:TA w) (h:PR s v w) (h2:PR s2 v2 w) (rv:Value) (r:List Cl.C) (hr:RdC w w.heap.size rv r) (hb:r.length≤1000000∧(∀ c∈r,Cl.I64 c.n)∧∀ c∈r,c.s.size≤1000000) (a:Ev.Ans) (ha:Ev.carry [s,s2] 1 2 r=a) :
 Calls Tryz.prog 15 #[v,v2,rv] w (APost w a):=by
 obtain⟨x,rfl,rfl,rx⟩:=h
 obtain⟨y,rfl,rfl,ry⟩:=h2
 exact cMoveE x y hs hs2 w T rx ry rv r hr hb.1 hb.2.1 hb.2.2 a ha
theorem stL {s s2:Ev.Sm} (v v2:Value) (hs:SmOk s) (hs2:SmOk s2) (w:World) (T:TA w) (h:PR s v w) (h2:PR s2 v2 w) (d:Int) (hd:Ev.chain [s,s2]=d) :
 Calls Tryz.prog 17 #[v,v2] w fun e w'=>e=.returned (.int .i64 d)∧Below w.heap.size w w':=by
 obtain⟨x,rfl,rfl,rx⟩:=h
 obtain⟨y,rfl,rfl,ry⟩:=h2
 exact cStepE x y hs hs2 w T rx ry d hd
theorem rdS_three {w:World} {x y z:Sx} (hx:RdS w w.heap.size x) (hy:RdS w w.heap.size y) (hz:RdS w w.heap.size z) (cs:Array Value) (hcs:cs=#[x.v,x.kv,y.v,y.kv,z.v,z.kv]) :
 RdSm (w.alloc (.cells cs 25)) (w.alloc (.cells cs 25)).heap.size (.slice (some ⟨w.heap.size,0,none⟩) 3 3) [x,y,z]:=by
 have h1:Gn.Rd sxc 2 (w.alloc (.cells cs 25)) (w.alloc (.cells cs 25)).heap.size (.slice (some ⟨w.heap.size,0,none⟩) 3 3) [x,y,z] :=
  Gn.Own.rd sxL (Gn.Own.lit (T:=25) sxL w 0 [x,y,z] cs 3 3 (by rw [hcs];rfl) rfl rfl (by simp [maxLen]) (Nat.zero_le _))
 refine⟨h1,fun q hq=>?_⟩
 have hb2:=box_new w (.cells cs 25)
 simp at hq
 rcases hq with rfl|rfl|rfl
 ·exact hx.later hb2
 ·exact hy.later hb2
 ·exact hz.later hb2
theorem cyL {s s2 s3:Ev.Sm} {x1 x2 y1 y2 z1 z2:Value} (hs:SmOk s) (hs2:SmOk s2) (hs3:SmOk s3) (w:World) (T:TA w) (h:PR s (.agg #[x1,x2]) w) (h2:PR s2 (.agg #[y1,y2]) w) (h3:PR s3 (.agg #[z1,z2]) w) (f t:Int) (rv:Value) (r:List Cl.C) (hr:RdC w w.heap.size rv r) (hb:r.length≤1000000∧(∀ c∈r,Cl.I64 c.n)∧∀ c∈r,c.s.size≤1000000) (a:Ev.Ans) (ha:Ev.carry [s,s2,s3] f t r=a) :
 Calls Tryz.prog 23 #[.slice (some ⟨w.heap.size,0,none⟩) 3 3,.int .i64 f,.int .i64 t,rv] (w.alloc (.cells #[x1,x2,y1,y2,z1,z2] 25)) (APost w a):=by
 obtain⟨x,rfl,e1,rx⟩:=h
 obtain⟨y,rfl,e2,ry⟩:=h2
 obtain⟨z,rfl,e3,rz⟩:=h3
 simp only [Value.agg.injEq,Array.mk.injEq,List.cons.injEq,and_true] at e1 e2 e3
 obtain⟨rfl,rfl⟩:=e1
 obtain⟨rfl,rfl⟩:=e2
 obtain⟨rfl,rfl⟩:=e3
 have hb1:=box_new w (.cells #[x.v,x.kv,y.v,y.kv,z.v,z.kv] 25)
 refine (cCarryE _ [x,y,z] (fun q hq=>by simp at hq;rcases hq with rfl|rfl|rfl<;>assumption) _ (T.later hb1) (rdS_three rx ry rz _ rfl) f t rv r (hr.later hb1) hb.1 hb.2.1 hb.2.2 a ha).mono ?_
 rintro e w1 ⟨u,h1,h2,h3⟩
 exact⟨u,h1,Gn.Own.lower h2 hb1.size,up hb1 h3⟩
theorem chL {s s2 s3:Ev.Sm} {x1 x2 y1 y2 z1 z2:Value} (hs:SmOk s) (hs2:SmOk s2) (hs3:SmOk s3) (w:World) (T:TA w) (h:PR s (.agg #[x1,x2]) w) (h2:PR s2 (.agg #[y1,y2]) w) (h3:PR s3 (.agg #[z1,z2]) w) (d:Int) (hd:Ev.chain [s,s2,s3]=d) :
 Calls Tryz.prog 25 #[.slice (some ⟨w.heap.size,0,none⟩) 3 3] (w.alloc (.cells #[x1,x2,y1,y2,z1,z2] 25)) fun e w'=>e=.returned (.int .i64 d)∧Below w.heap.size w w':=by
 obtain⟨x,rfl,e1,rx⟩:=h
 obtain⟨y,rfl,e2,ry⟩:=h2
 obtain⟨z,rfl,e3,rz⟩:=h3
 simp only [Value.agg.injEq,Array.mk.injEq,List.cons.injEq,and_true] at e1 e2 e3
 obtain⟨rfl,rfl⟩:=e1
 obtain⟨rfl,rfl⟩:=e2
 obtain⟨rfl,rfl⟩:=e3
 have hb1:=box_new w (.cells #[x.v,x.kv,y.v,y.kv,z.v,z.kv] 25)
 refine (cChainE _ [x,y,z] (fun q hq=>by simp at hq;rcases hq with rfl|rfl|rfl<;>assumption) _ (T.later hb1) (rdS_three rx ry rz _ rfl) d hd).mono ?_
 rintro e w1 ⟨h1,h3⟩
 exact⟨h1,up hb1 h3⟩
theorem r0b:Ev.r0.length≤1000000∧(∀ c∈Ev.r0,Cl.I64 c.n)∧∀ c∈Ev.r0,c.s.size≤1000000:=⟨by decide,fun c hc=>by simp [Ev.r0] at hc;rcases hc with rfl|rfl<;>(constructor<;>simp<;>omega),by decide +kernel⟩
theorem r1b:(Ev.r0.take 1).length≤1000000∧(∀ c∈Ev.r0.take 1,Cl.I64 c.n)∧∀ c∈Ev.r0.take 1,c.s.size≤1000000:=⟨by decide,fun c hc=>r0b.2.1 c (List.mem_of_mem_take hc),fun c hc=>r0b.2.2 c (List.mem_of_mem_take hc)⟩
theorem works12 (w:World) (T:TA w):Calls Tryz.prog 22 #[] w fun e w'=>e=.returned (.bool true)∧Below w.heap.size w w':=by
 have HT:=hZ T
 have HA:=hZ (fun w1 (t:TA w1)=>(lRead12 ⟨#[49,32,105,100,32,105,110,116,51,50,42,32,48,47,50,32,115,32,115,116,114,105,110,103,32,34,100,34,47]⟩ ⟨#[49,32,105,100,32,105,110,116,51,50,42,32,48,10,50,32,115,32,115,116,114,105,110,103,32,34,100,34,10]⟩ (by decide) (by decide +kernel) _ _ (by decide) Ev.pA w1 t))
 have HB:=hZ (fun w1 (t:TA w1)=>(lRead12 ⟨#[49,32,105,100,32,105,110,116,54,52,42,32,48,47,52,32,110,32,105,110,116,54,52,63,32,110,117,108,108,47]⟩ ⟨#[49,32,105,100,32,105,110,116,54,52,42,32,48,10,52,32,110,32,105,110,116,54,52,63,32,110,117,108,108,10]⟩ (by decide) (by decide +kernel) _ _ (by decide) Ev.pB w1 t))
 have H1:=hZ (fun w1 (t:TA w1)=>(lRead12 ⟨#[49,32,105,100,32,105,110,116,51,50,42,32,48,47]⟩ ⟨#[49,32,105,100,32,105,110,116,51,50,42,32,48,10]⟩ (by decide) (by decide +kernel) _ _ (by decide) Ev.p1 w1 t))
 clear T
 go_enter Tryz.func22,Tryz.ntmps22
 go_wp2_with fail
 ((with_reducible refine (HA.out w HT.out).mono ?_);rintro e w1 ⟨⟨a1,c1,a2,c2,s⟩,hs,rfl,oc,ok,b⟩)
 simp only at hs
 subst hs
 have HGA:=hZ (RV.new oc ok)
 have hbx:=Below.trans b ((box_new w1 (.cells #[Sx.v ⟨a1,c1,a2,c2,([Ev.eA1,Ev.eA2],[0])⟩,Sx.kv ⟨a1,c1,a2,c2,([Ev.eA1,Ev.eA2],[0])⟩] 25)).mono b.size)
 have HB1:=hZ (hbx)
 clear oc ok b hbx HA
 unfold Sx.v Sx.kv at *
 simp only [List.length_cons,List.length_nil,Nat.reduceAdd] at HGA HB1 ⊢
 go_upto_region 2 with fail
 obtain⟨gA,hg⟩:∃ g,w1.heap.size=g:=⟨_,rfl⟩
 simp only [hg] at HGA ⊢
 generalize w1.alloc (.cells #[.slice a1 2 c1,.slice a2 1 c2] 25)=v1 at *
 clear hg
 go_wp2_with fail
 ((with_reducible refine (HB.out v1 (HT.out.later HB1.out)).mono ?_);rintro e w2 ⟨⟨a3,c3,a4,c4,s⟩,hs,rfl,oc,ok,b⟩)
 simp only at hs
 subst hs
 have HGB:=hZ (RV.new oc ok)
 have hbx:=Below.trans b ((box_new w2 (.cells #[Sx.v ⟨a3,c3,a4,c4,([Ev.eB1,Ev.eB2],[0])⟩,Sx.kv ⟨a3,c3,a4,c4,([Ev.eB1,Ev.eB2],[0])⟩] 25)).mono b.size)
 have HGA':=hZ (HGA.out.later hbx)
 clear HGA
 have HGA:=HGA'
 clear HGA'
 have HB2:=hZ (up HB1.out hbx)
 clear oc ok b hbx HB HB1
 unfold Sx.v Sx.kv at *
 simp only [List.length_cons,List.length_nil,Nat.reduceAdd] at HGB HB2 ⊢
 go_upto_region 3 with fail
 obtain⟨gB,hg⟩:∃ g,w2.heap.size=g:=⟨_,rfl⟩
 simp only [hg] at HGB ⊢
 generalize w2.alloc (.cells #[.slice a3 2 c3,.slice a4 1 c4] 25)=v2 at *
 clear hg
 go_wp2_with fail
 ((with_reducible refine (H1.out v2 (HT.out.later HB2.out)).mono ?_);rintro e w3 ⟨⟨a5,c5,a6,c6,s⟩,hs,rfl,oc,ok,b⟩)
 simp only at hs
 subst hs
 have HG1:=hZ (RV.new oc ok)
 have hbx:=Below.trans b ((box_new w3 (.cells #[Sx.v ⟨a5,c5,a6,c6,([Ev.eA1],[0])⟩,Sx.kv ⟨a5,c5,a6,c6,([Ev.eA1],[0])⟩] 25)).mono b.size)
 have HGA':=hZ (HGA.out.later hbx)
 clear HGA
 have HGA:=HGA'
 clear HGA'
 have HGB':=hZ (HGB.out.later hbx)
 clear HGB
 have HGB:=HGB'
 clear HGB'
 have HB3:=hZ (up HB2.out hbx)
 clear oc ok b hbx H1 HB2
 unfold Sx.v Sx.kv at *
 simp only [List.length_cons,List.length_nil,Nat.reduceAdd] at HG1 HB3 ⊢
 go_upto_region 4 with fail
 obtain⟨g1,hg⟩:∃ g,w3.heap.size=g:=⟨_,rfl⟩
 simp only [hg] at HG1 ⊢
 generalize w3.alloc (.cells #[.slice a5 1 c5,.slice a6 1 c6] 25)=v3 at *
 clear hg
 have HCP:=hZ (fun w1 (hb1:Below v3.heap.size v3 w1)=>copyCols _ _ w1 (HG1.out.rd.c.later hb1) (show ([Ev.eA1]:List Co).length≤1000000 by decide))
 have HRD:=hZ HG1.out.rd.c
 unfold Sx.v at HCP HRD
 simp only [List.length_cons,List.length_nil,Nat.reduceAdd] at HCP HRD
 obtain⟨z0,z1⟩:=HG1.out.lie (n:=1) (m:=1) rfl rfl
 obtain⟨B,hB⟩:∃ B,v3.heap.size=B:=⟨_,rfl⟩
 refine region_growA_merge (fun u v=>Below B u v) (BI B 170 [Ev.eA1] [Ev.eA1,Ev.eA1]) (fun _ _ _=>True) (fun u=>Below.refl B u) (fun _ _ _ h k=>h.trans k) (kjI #[Spc.eq (.pointer (some ⟨g1,0,none⟩)),Spc.eq (.slice a5 1 c5),Spc.any,Spc.eq (.pointer (some ⟨g1,0,none⟩)),Spc.eq (.slice a5 1 c5),Spc.any,Spc.any,Spc.any,Spc.any,Spc.any]) [19,20,21,22,23,24,25,26,4] (fun ts W=>∃ p xa xb,ts.getD 4 undef=.pointer (some ⟨p,0,none⟩)∧Blk W p 25 [xa,xb]∧OwnK W B xa [Ev.eA1,Ev.eA1]∧OwnI W B xb [0]∧Below B v3 W) (by kernel_rfl) (by kernel_rfl) (by kernel_rfl) kjI_later (BI.start (by rfl) (by rw [← hB];exact Nat.le_refl _)) ?_ ?_ ?_
 ·intro QQ fd jo o a w1 ho hfd hdd hI hb hs hold hdep
  have hjo:jo < 10:=(Array.getElem?_eq_some_iff.1 ho).1
  skip
  have hbw:Below v3.heap.size v3 w1:=by rw [hB];exact (Below.refl B v3).drew.trans hb
  have z0':w1.cell? ⟨g1,0,none⟩=some (.slice a5 1 c5):=(hbw.cell (cell_lt z0)).trans z0
  clear z0 z1
  have e3:a.eval (.tmp 3)=.pointer (some ⟨g1,0,none⟩):=by
   show a.tmps.getD 3 undef=_
   rw [Array.getD_eq_getD_getElem?,hold 3 (by decide +kernel)];rfl
  have ec:∀ v,a.eval (.const v)=v:=fun _=>rfl
  clear hold hs
  rcases (show jo=0 ∨ jo=1 ∨ jo=2 ∨ jo=3 ∨ jo=4 ∨ jo=5 ∨ jo=6 ∨ jo=7 ∨ jo=8 ∨ jo=9 by omega) with rfl|rfl|rfl|rfl|rfl|rfl|rfl|rfl|rfl|rfl
  all_goals (have ho2:=ho;simp only [List.getElem?_toArray,zD,zE,Option.some.injEq] at ho2;subst ho2)
  ·refine growA_val (I:=(BI B 170 [Ev.eA1] [Ev.eA1,Ev.eA1])) (X:=(fun _ _ _=>True)) (d:=fd) (a:=a) (w:=w1) (.pointer (some ⟨g1,0,none⟩)) w1 ho rfl ?_ (Below.refl _ _) (hI.put (by decide) (by decide) (by decide) (by decide) (by decide) (by decide)) trivial rfl
   unfold execOp;simp only [e3,ec];first|rfl|(go_simp;done)|(go_simp;rfl)
  ·have d0:a.eval (.tmp 19)=.pointer (some ⟨g1,0,none⟩):=hdep ⟨0,.data⟩ (by simp) rfl
   refine growA_val (I:=(BI B 170 [Ev.eA1] [Ev.eA1,Ev.eA1])) (X:=(fun _ _ _=>True)) (d:=fd) (a:=a) (w:=w1) (.slice a5 1 c5) w1 ho rfl ?_ (Below.refl _ _) (hI.put (by decide) (by decide) (by decide) (by decide) (by decide) (by decide)) trivial rfl
   unfold execOp;simp only [d0,ec];first|rfl|(go_simp;done)|(go_simp;rfl)
  ·have d0:a.eval (.tmp 20)=.slice a5 1 c5:=hdep ⟨1,.data⟩ (by simp) rfl
   refine growA_call (I:=(BI B 170 [Ev.eA1] [Ev.eA1,Ev.eA1])) (X:=(fun _ _ _=>True)) (d:=fd) (a:=a) (w:=w1) 36 #[.slice a5 1 c5] ho rfl ?_ ((HCP.out w1 hbw).mono ?_)
   ·unfold execOp resolve
    simp only [zA,zB,zC,d0,ec]
    rfl
   ·rintro e c1 ⟨u1,rfl,ho1,hb2⟩
    exact⟨_,rfl,trivial,hb2.mono hI.bz,hI.call hb2 (Gn.Own.lower ho1 hI.bz) (by decide) hfd,trivial⟩
  ·refine growA_val (I:=(BI B 170 [Ev.eA1] [Ev.eA1,Ev.eA1])) (X:=(fun _ _ _=>True)) (d:=fd) (a:=a) (w:=w1) (.pointer (some ⟨g1,0,none⟩)) w1 ho rfl ?_ (Below.refl _ _) (hI.put (by decide) (by decide) (by decide) (by decide) (by decide) (by decide)) trivial rfl
   unfold execOp;simp only [e3,ec];first|rfl|(go_simp;done)|(go_simp;rfl)
  ·have d0:a.eval (.tmp 22)=.pointer (some ⟨g1,0,none⟩):=hdep ⟨3,.data⟩ (by simp) rfl
   refine growA_val (I:=(BI B 170 [Ev.eA1] [Ev.eA1,Ev.eA1])) (X:=(fun _ _ _=>True)) (d:=fd) (a:=a) (w:=w1) (.slice a5 1 c5) w1 ho rfl ?_ (Below.refl _ _) (hI.put (by decide) (by decide) (by decide) (by decide) (by decide) (by decide)) trivial rfl
   unfold execOp;simp only [d0,ec];first|rfl|(go_simp;done)|(go_simp;rfl)
  ·have h2d:fd 2=true:=hdd ⟨2,.data⟩ (by simp) rfl
   have d1:a.eval (.tmp 23)=.slice a5 1 c5:=hdep ⟨4,.data⟩ (by simp) rfl
   have d0:a.eval (.tmp 21)=a.tmps.getD 21 undef:=rfl
   have hm1:=hI.c h2d hfd
   obtain⟨v',w',hrun,ho1,hg1,_,_⟩:=Gn.run_app coL coY w1 22 B (a.tmps.getD 21 undef) [Ev.eA1] hm1 (.slice a5 1 c5) [Ev.eA1] (HRD.out.later hbw) (by decide) hI.bz
   refine growA_val (I:=(BI B 170 [Ev.eA1] [Ev.eA1,Ev.eA1])) (X:=(fun _ _ _=>True)) (d:=fd) (a:=a) (w:=w1) v' w' ho rfl ?_ (Gn.below_of_own hm1 hg1 hI.bz) (hI.app hg1 ho1 (by decide) h2d hfd) trivial trivial
   unfold execOp resolve
   simp only [zA,zB,zC,d0,d1,ec,invoke,builtin,Sem.run_bind,Sem.run_pure,Result.andThen_ok,hrun]
  ·refine growA_val (I:=(BI B 170 [Ev.eA1] [Ev.eA1,Ev.eA1])) (X:=(fun _ _ _=>True)) (d:=fd) (a:=a) (w:=w1) (.slice (some ⟨w1.heap.size,0,none⟩) 1 1) (w1.alloc (.cells #[.int .i64 0] 3)) ho rfl ?_ ((box_new _ _).mono hI.bz) (hI.key (box_new _ _) (Gn.Own.lit inL w1 B [0] _ 1 1 rfl rfl rfl (by simp [maxLen]) hI.bz) (by decide) hfd) trivial trivial
   unfold execOp;simp only [zA,zB,zC,ec]
   generalize a.eval=ev at *
   go_simp
  ·have h5d:fd 5=true:=hdd ⟨5,.data⟩ (by simp) rfl
   have h6d:fd 6=true:=hdd ⟨6,.data⟩ (by simp) rfl
   refine growA_val (I:=(BI B 170 [Ev.eA1] [Ev.eA1,Ev.eA1])) (X:=(fun _ _ _=>True)) (d:=fd) (a:=a) (w:=w1) (.agg #[a.tmps.getD 24 undef,a.tmps.getD 25 undef]) w1 ho rfl ?_ (Below.refl _ _) (hI.bld (by decide) h5d h6d) trivial trivial
   have d0:a.eval (.tmp 24)=a.tmps.getD 24 undef:=rfl
   have d1:a.eval (.tmp 25)=a.tmps.getD 25 undef:=rfl
   have hoa:=hI.a h5d
   have hok:=hI.k h6d
   obtain⟨xa,xc,hxa,_⟩:=Gn.Rd.form (RdK.of hoa)
   obtain⟨ya,yc,hya,_⟩:=Gn.Rd.form (RdI.of hok)
   rw [hxa] at d0 ⊢
   rw [hya] at d1 ⊢
   unfold execOp;simp only [zA,zB,zC,d0,d1,ec];first|rfl|(go_simp;done)|(go_simp;rfl)
  ·refine growA_val (I:=(BI B 170 [Ev.eA1] [Ev.eA1,Ev.eA1])) (X:=(fun _ _ _=>True)) (d:=fd) (a:=a) (w:=w1) (.pointer (some ⟨w1.heap.size,0,none⟩)) (w1.alloc (.cells #[.slice none 0 0,.slice none 0 0] 25)) ho rfl ?_ ((Below.refl B w1).alloc hI.bz _) (hI.new (by decide) hfd) trivial trivial
   unfold execOp
   go_simp
   first|done|rfl
  ·have h8d:fd 8=true:=hdd ⟨8,.data⟩ (by simp) rfl
   have h7d:fd 7=true:=hdd ⟨7,.data⟩ (by simp) rfl
   obtain⟨p,hp,hpB,hpz,_⟩:=hI.p h8d
   have hpb:=hpz hfd
   unfold nilC at hpb
   obtain⟨h5d,h6d,he⟩:=hI.m7 h7d
   have d1:a.eval (.tmp 4)=.pointer (some ⟨p,0,none⟩):=hp
   have d2:a.eval (.tmp 26)=.agg #[a.tmps.getD 24 undef,a.tmps.getD 25 undef]:=he
   obtain⟨xa,xc,hxa,_⟩:=Gn.Rd.form (RdK.of (hI.a h5d))
   obtain⟨ya,yc,hya,_⟩:=Gn.Rd.form (RdI.of (hI.k h6d))
   have f0:=hpb.frozen 0
   have f1:=hpb.frozen 1
   have g0:=hpb.cell 0
   have g1':=hpb.cell 1
   simp only [zD,zE] at g0 g1'
   refine growA_skip (I:=(BI B 170 [Ev.eA1] [Ev.eA1,Ev.eA1])) (X:=(fun _ _ _=>True)) (d:=fd) (a:=a) (w:=w1) ((w1.setCell ⟨p,0,none⟩ (a.tmps.getD 24 undef)).setCell ⟨p,1,none⟩ (a.tmps.getD 25 undef)) ho rfl rfl ?_ (((Below.refl B w1).setCell hpB _).setCell hpB _) (hI.store h7d hfd hp h8d) trivial trivial
   rw [hxa,hya] at d2 ⊢
   unfold execOp;simp only [d1,d2,ec]
   go_simp
 ·intro a w1 hI hb hj
  obtain⟨p,h4,hpB,_,hp⟩:=hI.p (by decide)
  obtain⟨xa,xb,h1,h2,h3⟩:=hp (by decide)
  exact⟨p,xa,xb,h4,h1,h2,h3,(Below.refl B v3).drew.trans hb⟩
 rintro ts v4 ⟨gX,xa,xb,h4,x1,x2,x3,hb4⟩
 simp only [fill,List.setIfInBounds_toArray,List.set_cons_succ,List.set_cons_zero]
 rw [h4]
 obtain⟨a7,c7,rfl,_⟩:=Gn.Rd.form (RdK.of x2)
 obtain⟨a8,c8,rfl,_⟩:=Gn.Rd.form (RdI.of x3)
 have HGX:Hid (RV v4 gX ⟨a7,c7,a8,c8,([Ev.eA1,Ev.eA1],[0])⟩):=hZ ⟨x1,⟨RdK.of x2,RdI.of x3⟩⟩
 rw [← hB] at hb4
 have HGA4:=hZ (HGA.out.later hb4)
 have HGB4:=hZ (HGB.out.later hb4)
 have HG14:=hZ (HG1.out.later hb4)
 have HB4:=hZ (up HB3.out hb4)
 clear h4 x1 x2 x3 hb4 hB z0 z1 HCP HRD HGA HGB HG1 HB3
 have hb5:=box_new v4 (.cells #[.bool false,.int .i64 5,.string ⟨#[]⟩,.bool false,.int .i64 0,.string ⟨#[120]⟩] 61)
 have HR5:Hid (RdC (v4.alloc (.cells #[.bool false,.int .i64 5,.string ⟨#[]⟩,.bool false,.int .i64 0,.string ⟨#[120]⟩] 61)) (v4.alloc (.cells #[.bool false,.int .i64 5,.string ⟨#[]⟩,.bool false,.int .i64 0,.string ⟨#[120]⟩] 61)).heap.size (.slice (some ⟨v4.heap.size,0,none⟩) 2 2) Ev.r0):=hZ (RdC.of (Gn.Own.lit clL v4 v4.heap.size Ev.r0 _ 2 2 rfl rfl rfl (by simp [maxLen,Ev.r0]) (Nat.le_refl _)))
 have HGA:=hZ (HGA4.out.later hb5)
 have HGB:=hZ (HGB4.out.later hb5)
 have HG1:=hZ (HG14.out.later hb5)
 have HGX5:=hZ (HGX.out.later hb5)
 have HB5:=hZ (up HB4.out hb5)
 clear HGA4 HGB4 HG14 HGX HB4 hb5
 go_upto_region 6 with fail
 obtain⟨gr,hgr⟩:∃ g,v4.heap.size=g:=⟨_,rfl⟩
 simp only [hgr] at HR5 ⊢
 generalize v4.alloc (.cells #[.bool false,.int .i64 5,.string ⟨#[]⟩,.bool false,.int .i64 0,.string ⟨#[120]⟩] 61)=v5 at *
 clear hgr
 have HGX:=HGX5
 have HR:=HR5
 clear HGX5 HR5
 obtain⟨x0,x1⟩:=HGA.out.lie (n:=2) (m:=1) rfl rfl
 have HM:=hZ (mvL (.agg #[.slice a1 2 c1,.slice a2 1 c2]) (.agg #[.slice a1 2 c1,.slice a2 1 c2]) okA okA v5 (HT.out.later HB5.out) (pr_mk (HGA.out.rd) ⟨rfl,rfl⟩) (pr_mk (HGA.out.rd) ⟨rfl,rfl⟩) _ Ev.r0 HR.out r0b ⟨Ev.r0,0⟩ Ev.mAA)
 go_wp2_with fail
 ((with_reducible refine HM.out.mono ?_);rintro e v6 ⟨u6,rfl,ho,b⟩)
 simp only at ho
 have HX6:=hZ (RdC.of ho)
 clear x0 x1
 have HB6:=hZ (up HB5.out b)
 have HGA':=hZ (HGA.out.later b)
 clear HGA
 have HGA:=HGA'
 clear HGA'
 have HGB':=hZ (HGB.out.later b)
 clear HGB
 have HGB:=HGB'
 clear HGB'
 have HG1':=hZ (HG1.out.later b)
 clear HG1
 have HG1:=HG1'
 clear HG1'
 have HGX':=hZ (HGX.out.later b)
 clear HGX
 have HGX:=HGX'
 clear HGX'
 have HR':=hZ (HR.out.later b)
 clear HR
 have HR:=HR'
 clear HR'
 clear ho b HM HB5
 obtain⟨x0,x1⟩:=HGA.out.lie (n:=2) (m:=1) rfl rfl
 obtain⟨y0,y1⟩:=HGB.out.lie (n:=2) (m:=1) rfl rfl
 have HM:=hZ (mvL (.agg #[.slice a1 2 c1,.slice a2 1 c2]) (.agg #[.slice a3 2 c3,.slice a4 1 c4]) okA okB v6 (HT.out.later HB6.out) (pr_mk (HGA.out.rd) ⟨rfl,rfl⟩) (pr_mk (HGB.out.rd) ⟨rfl,rfl⟩) _ Ev.r0 HR.out r0b ⟨Ev.y0,0⟩ Ev.mAB)
 go_wp2_with fail
 ((with_reducible refine HM.out.mono ?_);rintro e v7 ⟨u7,rfl,ho,b⟩)
 simp only at ho
 have HX7:=hZ (RdC.of ho)
 clear x0 x1 y0 y1
 have HB7:=hZ (up HB6.out b)
 have HGA':=hZ (HGA.out.later b)
 clear HGA
 have HGA:=HGA'
 clear HGA'
 have HGB':=hZ (HGB.out.later b)
 clear HGB
 have HGB:=HGB'
 clear HGB'
 have HG1':=hZ (HG1.out.later b)
 clear HG1
 have HG1:=HG1'
 clear HG1'
 have HGX':=hZ (HGX.out.later b)
 clear HGX
 have HGX:=HGX'
 clear HGX'
 have HR':=hZ (HR.out.later b)
 clear HR
 have HR:=HR'
 clear HR'
 have HX6':=hZ (HX6.out.later b)
 clear HX6
 have HX6:=HX6'
 clear HX6'
 clear ho b HM HB6
 go_upto_region 8 with fail
 obtain⟨x0,x1⟩:=HGA.out.lie (n:=2) (m:=1) rfl rfl
 obtain⟨y0,y1⟩:=HGB.out.lie (n:=2) (m:=1) rfl rfl
 have hr1:RdC v7 v7.heap.size (.slice (some ⟨gr,0,none⟩) 1 2) (Ev.r0.take 1):=rd_to (m:=1) HR.out (by decide)
 have HM:=hZ (fun w1 (hb:Below v7.heap.size v7 w1)=>mvL (.agg #[.slice a1 2 c1,.slice a2 1 c2]) (.agg #[.slice a3 2 c3,.slice a4 1 c4]) okA okB w1 (HT.out.later (up HB7.out hb)) (pr_mk ((HGA.out.later hb).rd) ⟨rfl,rfl⟩) (pr_mk ((HGB.out.later hb).rd) ⟨rfl,rfl⟩) _ (Ev.r0.take 1) (hr1.later hb) r1b ⟨[],100⟩ Ev.mAr)
 clear hr1
 refine region_growI_merge (fun u v:World=>Below u.heap.size u v) (fun _ _=>True) (fun _ _ _=>True) (fun u=>Below.refl _ _) (fun _ _ _ h k=>up h k) (kjI #[Spc.eq (.agg #[.slice a1 2 c1,.slice a2 1 c2]),Spc.eq (.agg #[.slice a3 2 c3,.slice a4 1 c4]),Spc.eq (.slice (some ⟨gr,0,none⟩) 2 2),Spc.eq (.slice (some ⟨gr,0,none⟩) 1 2),⟨fun x _=>∃ v,x=.tuple #[v,.int .i64 100],fun _ _ _ h _=>h⟩,⟨fun x _=>∃ v,x=.tuple #[v,.int .i64 100],fun _ _ _ h _=>h⟩,Spc.any,Spc.eq (.int .i64 100),Spc.any,Spc.eq (.int .i64 100)]) [45,46,47,48,49,44,50,51,10,11] (fun ts W=>ts.getD 11 undef=.int .i64 100∧Below v7.heap.size v7 W) (by kernel_rfl) (by kernel_rfl) (by kernel_rfl) kjI_later trivial ?_ ?_ ?_
 ·intro QQ fd jo o a w1 ho hfd hdd hI hb hs hold hdep
  have hjo:jo < 10:=(Array.getElem?_eq_some_iff.1 ho).1
  have hb':Below v7.heap.size v7 w1:=up (Below.refl _ _).drew hb
  have x0':w1.cell? ⟨gA,0,none⟩=some (.slice a1 2 c1):=(hb'.cell (p:=⟨gA,0,none⟩) (cell_lt x0)).trans x0
  have x1':w1.cell? ⟨gA,1,none⟩=some (.slice a2 1 c2):=(hb'.cell (p:=⟨gA,1,none⟩) (cell_lt x1)).trans x1
  have y0':w1.cell? ⟨gB,0,none⟩=some (.slice a3 2 c3):=(hb'.cell (p:=⟨gB,0,none⟩) (cell_lt y0)).trans y0
  have y1':w1.cell? ⟨gB,1,none⟩=some (.slice a4 1 c4):=(hb'.cell (p:=⟨gB,1,none⟩) (cell_lt y1)).trans y1
  clear x0 x1 y0 y1
  have e1:a.eval (.tmp 1)=.pointer (some ⟨gA,0,none⟩):=by
   show a.tmps.getD 1 undef=_
   rw [Array.getD_eq_getD_getElem?,hold 1 (by decide +kernel)];rfl
  have e2:a.eval (.tmp 2)=.pointer (some ⟨gB,0,none⟩):=by
   show a.tmps.getD 2 undef=_
   rw [Array.getD_eq_getD_getElem?,hold 2 (by decide +kernel)];rfl
  have e5:a.eval (.tmp 5)=.slice (some ⟨gr,0,none⟩) 2 2:=by
   show a.tmps.getD 5 undef=_
   rw [Array.getD_eq_getD_getElem?,hold 5 (by decide +kernel)];rfl
  have ec:∀ v,a.eval (.const v)=v:=fun _=>rfl
  clear hold hs
  rcases (show jo=0 ∨ jo=1 ∨ jo=2 ∨ jo=3 ∨ jo=4 ∨ jo=5 ∨ jo=6 ∨ jo=7 ∨ jo=8 ∨ jo=9 by omega) with rfl|rfl|rfl|rfl|rfl|rfl|rfl|rfl|rfl|rfl
  all_goals (have ho2:=ho;simp only [List.getElem?_toArray,zD,zE,Option.some.injEq] at ho2;subst ho2)
  refine gvT fd (.agg #[.slice a1 2 c1,.slice a2 1 c2]) ho rfl ?_ rfl;rotate_left
  refine gvT fd (.agg #[.slice a3 2 c3,.slice a4 1 c4]) ho rfl ?_ rfl;rotate_left
  refine gvT fd (.slice (some ⟨gr,0,none⟩) 2 2) ho rfl ?_ rfl;rotate_left
  ·have d0:a.eval (.tmp 47)=.slice (some ⟨gr,0,none⟩) 2 2:=hdep ⟨2,.data⟩ (by simp) rfl
   refine gvT fd (.slice (some ⟨gr,0,none⟩) 1 2) ho rfl ?_ rfl
   unfold execOp;simp only [zA,zB,zC,d0,ec]
   simp only [Option.map_some,Option.map_none,d0,ec]
   first|rfl|(go_simp;first|done|rfl|omega)
  ·have d0:a.eval (.tmp 45)=.agg #[.slice a1 2 c1,.slice a2 1 c2]:=hdep ⟨0,.data⟩ (by simp) rfl
   have d1:a.eval (.tmp 46)=.agg #[.slice a3 2 c3,.slice a4 1 c4]:=hdep ⟨1,.data⟩ (by simp) rfl
   have d2:a.eval (.tmp 48)=.slice (some ⟨gr,0,none⟩) 1 2:=hdep ⟨3,.data⟩ (by simp) rfl
   refine growI_call (I:=(fun _ _=>True)) (X:=(fun _ _ _=>True)) (d:=fd) (a:=a) (w:=w1) 15 #[.agg #[.slice a1 2 c1,.slice a2 1 c2],.agg #[.slice a3 2 c3,.slice a4 1 c4],.slice (some ⟨gr,0,none⟩) 1 2] ho rfl ?_ ((HM.out w1 hb').mono ?_)
   ·unfold execOp resolve
    simp only [zA,zB,zC,d0,d1,d2,ec]
    rfl
   ·rintro e c1 ⟨u1,rfl,ho1,hb2⟩
    exact⟨_,rfl,⟨_,rfl⟩,hb2,trivial,trivial⟩
  ·obtain⟨v1,d0⟩:∃ v,a.eval (.tmp 49)=.tuple #[v,.int .i64 100]:=hdep ⟨4,.data⟩ (by simp) rfl
   refine growI_val (I:=(fun _ _=>True)) (X:=(fun _ _ _=>True)) (d:=fd) (a:=a) (w:=w1) (.tuple #[v1,.int .i64 100]) w1 ho rfl ?_ (Below.refl _ _) trivial trivial ⟨_,rfl⟩
   unfold execOp;simp only [d0,ec];first|rfl|(go_simp;done)|(go_simp;rfl)
  ·obtain⟨v1,d0⟩:∃ v,a.eval (.tmp 44)=.tuple #[v,.int .i64 100]:=hdep ⟨5,.data⟩ (by simp) rfl
   refine growI_val (I:=(fun _ _=>True)) (X:=(fun _ _ _=>True)) (d:=fd) (a:=a) (w:=w1) v1 w1 ho rfl ?_ (Below.refl _ _) trivial trivial trivial
   unfold execOp;simp only [d0,ec];first|rfl|(go_simp;done)|(go_simp;rfl)
  ·obtain⟨v1,d0⟩:∃ v,a.eval (.tmp 44)=.tuple #[v,.int .i64 100]:=hdep ⟨5,.data⟩ (by simp) rfl
   refine growI_val (I:=(fun _ _=>True)) (X:=(fun _ _ _=>True)) (d:=fd) (a:=a) (w:=w1) (.int .i64 100) w1 ho rfl ?_ (Below.refl _ _) trivial trivial rfl
   unfold execOp;simp only [d0,ec];first|rfl|(go_simp;done)|(go_simp;rfl)
  ·have d0:a.eval (.tmp 50)=a.tmps.getD 50 undef:=rfl
   refine growI_val (I:=(fun _ _=>True)) (X:=(fun _ _ _=>True)) (d:=fd) (a:=a) (w:=w1) (a.tmps.getD 50 undef) w1 ho rfl ?_ (Below.refl _ _) trivial trivial trivial
   unfold execOp;simp only [d0,ec]
   generalize a.tmps.getD 50 undef=y
   first|rfl|(go_simp;done)|(go_simp;rfl)
  ·have d0:a.eval (.tmp 51)=.int .i64 100:=hdep ⟨7,.data⟩ (by simp) rfl
   refine growI_val (I:=(fun _ _=>True)) (X:=(fun _ _ _=>True)) (d:=fd) (a:=a) (w:=w1) (.int .i64 100) w1 ho rfl ?_ (Below.refl _ _) trivial trivial rfl
   unfold execOp;simp only [d0,ec];first|rfl|(go_simp;done)|(go_simp;rfl)
  all_goals (unfold execOp;first|(simp only [zA,zB,zC,e1,ec];first|rfl|(go_simp;first|done|rfl|omega))|(simp only [zA,zB,zC,e2,ec];first|rfl|(go_simp;first|done|rfl|omega))|(simp only [zA,zB,zC,e5,ec];first|rfl|(go_simp;first|done|rfl|omega)))
 ·intro a w1 hI hb hj
  have hb':Below v7.heap.size v7 w1:=up (Below.refl _ _).drew hb
  exact⟨hj 9 (by decide),hb'⟩
 rintro ts8 v8 ⟨h11,hb8⟩
 simp only [fill,List.setIfInBounds_toArray,List.set_cons_succ,List.set_cons_zero]
 rw [h11]
 clear x0 x1 y0 y1
 have HB8:=hZ (up HB7.out hb8)
 have HGA':=hZ (HGA.out.later hb8)
 clear HGA
 have HGA:=HGA'
 clear HGA'
 have HGB':=hZ (HGB.out.later hb8)
 clear HGB
 have HGB:=HGB'
 clear HGB'
 have HG1':=hZ (HG1.out.later hb8)
 clear HG1
 have HG1:=HG1'
 clear HG1'
 have HGX':=hZ (HGX.out.later hb8)
 clear HGX
 have HGX:=HGX'
 clear HGX'
 have HR':=hZ (HR.out.later hb8)
 clear HR
 have HR:=HR'
 clear HR'
 have HX6':=hZ (HX6.out.later hb8)
 clear HX6
 have HX6:=HX6'
 clear HX6'
 have HX7':=hZ (HX7.out.later hb8)
 clear HX7
 have HX7:=HX7'
 clear HX7'
 clear h11 hb8 HM HB7
 obtain⟨x0,x1⟩:=HGA.out.lie (n:=2) (m:=1) rfl rfl
 obtain⟨y0,y1⟩:=HGB.out.lie (n:=2) (m:=1) rfl rfl
 obtain⟨z0,z1⟩:=HG1.out.lie (n:=1) (m:=1) rfl rfl
 have HM:=hZ (cyL okA ok1 okB v8 (HT.out.later HB8.out) (pr_mk (n:=2) (m:=1) (HGA.out.rd) ⟨rfl,rfl⟩) (pr_mk (n:=1) (m:=1) (HG1.out.rd) ⟨rfl,rfl⟩) (pr_mk (n:=2) (m:=1) (HGB.out.rd) ⟨rfl,rfl⟩) 1 3 (.slice (some ⟨gr,0,none⟩) 2 2) Ev.r0 HR.out r0b ⟨Ev.y0,0⟩ Ev.c3)
 go_wp2_with fail
 ((with_reducible refine HM.out.mono ?_);rintro e v9 ⟨u9,rfl,ho,b⟩)
 simp only at ho
 have HX9:=hZ (RdC.of ho)
 clear x0 x1 y0 y1 z0 z1
 have HB9:=hZ (up HB8.out b)
 have HGA':=hZ (HGA.out.later b)
 clear HGA
 have HGA:=HGA'
 clear HGA'
 have HGB':=hZ (HGB.out.later b)
 clear HGB
 have HGB:=HGB'
 clear HGB'
 have HG1':=hZ (HG1.out.later b)
 clear HG1
 have HG1:=HG1'
 clear HG1'
 have HGX':=hZ (HGX.out.later b)
 clear HGX
 have HGX:=HGX'
 clear HGX'
 have HR':=hZ (HR.out.later b)
 clear HR
 have HR:=HR'
 clear HR'
 have HX6':=hZ (HX6.out.later b)
 clear HX6
 have HX6:=HX6'
 clear HX6'
 have HX7':=hZ (HX7.out.later b)
 clear HX7
 have HX7:=HX7'
 clear HX7'
 clear ho b HM HB8
 obtain⟨x0,x1⟩:=HGA.out.lie (n:=2) (m:=1) rfl rfl
 obtain⟨y0,y1⟩:=HGB.out.lie (n:=2) (m:=1) rfl rfl
 obtain⟨z0,z1⟩:=HG1.out.lie (n:=1) (m:=1) rfl rfl
 have HM:=hZ (cyL okA ok1 okB v9 (HT.out.later HB9.out) (pr_mk (n:=2) (m:=1) (HGA.out.rd) ⟨rfl,rfl⟩) (pr_mk (n:=1) (m:=1) (HG1.out.rd) ⟨rfl,rfl⟩) (pr_mk (n:=2) (m:=1) (HGB.out.rd) ⟨rfl,rfl⟩) 2 1 (.slice (some ⟨gr,0,none⟩) 2 2) Ev.r0 HR.out r0b ⟨[],131⟩ Ev.c3v)
 go_wp2_with fail
 ((with_reducible refine HM.out.mono ?_);rintro e v10 ⟨u10,rfl,ho,b⟩)
 simp only at ho
 have HX10:=hZ (RdC.of ho)
 clear x0 x1 y0 y1 z0 z1
 have HB10:=hZ (up HB9.out b)
 have HGA':=hZ (HGA.out.later b)
 clear HGA
 have HGA:=HGA'
 clear HGA'
 have HGB':=hZ (HGB.out.later b)
 clear HGB
 have HGB:=HGB'
 clear HGB'
 have HG1':=hZ (HG1.out.later b)
 clear HG1
 have HG1:=HG1'
 clear HG1'
 have HGX':=hZ (HGX.out.later b)
 clear HGX
 have HGX:=HGX'
 clear HGX'
 have HR':=hZ (HR.out.later b)
 clear HR
 have HR:=HR'
 clear HR'
 have HX6':=hZ (HX6.out.later b)
 clear HX6
 have HX6:=HX6'
 clear HX6'
 have HX7':=hZ (HX7.out.later b)
 clear HX7
 have HX7:=HX7'
 clear HX7'
 have HX9':=hZ (HX9.out.later b)
 clear HX9
 have HX9:=HX9'
 clear HX9'
 clear ho b HM HB9
 obtain⟨x0,x1⟩:=HGA.out.lie (n:=2) (m:=1) rfl rfl
 obtain⟨y0,y1⟩:=HGB.out.lie (n:=2) (m:=1) rfl rfl
 have HEQ:=hZ (fun w1 (v v':Value) (l l':List Cl.C) (h:RdC w1 w1.heap.size v l) (h':RdC w1 w1.heap.size v' l') (hl:l.length≤1000000) (he:l=l')=>eqRow v v' l l' w1 h h' hl true (by simp [he]))
 go_wp2_with fail
 ((with_reducible refine (HEQ.out v10 u6 _ Ev.r0 Ev.r0 HX6.out HR.out (by decide) rfl).mono ?_);rintro e v11 ⟨rfl,b⟩)
 clear x0 x1 y0 y1
 have HB11:=hZ (up HB10.out b)
 have HGA':=hZ (HGA.out.later b)
 clear HGA
 have HGA:=HGA'
 clear HGA'
 have HGB':=hZ (HGB.out.later b)
 clear HGB
 have HGB:=HGB'
 clear HGB'
 have HG1':=hZ (HG1.out.later b)
 clear HG1
 have HG1:=HG1'
 clear HG1'
 have HGX':=hZ (HGX.out.later b)
 clear HGX
 have HGX:=HGX'
 clear HGX'
 have HR':=hZ (HR.out.later b)
 clear HR
 have HR:=HR'
 clear HR'
 have HX6':=hZ (HX6.out.later b)
 clear HX6
 have HX6:=HX6'
 clear HX6'
 have HX7':=hZ (HX7.out.later b)
 clear HX7
 have HX7:=HX7'
 clear HX7'
 have HX9':=hZ (HX9.out.later b)
 clear HX9
 have HX9:=HX9'
 clear HX9'
 clear b HB10
 have b2:=box_new v11 (.cells #[.bool false,.int .i64 5,.string ⟨#[]⟩,.bool true,.int .i64 0,.string ⟨#[]⟩] 61)
 have HL2:Hid (RdC (v11.alloc (.cells #[.bool false,.int .i64 5,.string ⟨#[]⟩,.bool true,.int .i64 0,.string ⟨#[]⟩] 61)) (v11.alloc (.cells #[.bool false,.int .i64 5,.string ⟨#[]⟩,.bool true,.int .i64 0,.string ⟨#[]⟩] 61)).heap.size (.slice (some ⟨v11.heap.size,0,none⟩) 2 2) Ev.y0):=hZ (RdC.of (Gn.Own.lit clL v11 v11.heap.size Ev.y0 _ 2 2 rfl rfl rfl (by simp [maxLen,Ev.y0]) (Nat.le_refl _)))
 have HB12:=hZ (up HB11.out b2)
 have HGA':=hZ (HGA.out.later b2)
 clear HGA
 have HGA:=HGA'
 clear HGA'
 have HGB':=hZ (HGB.out.later b2)
 clear HGB
 have HGB:=HGB'
 clear HGB'
 have HG1':=hZ (HG1.out.later b2)
 clear HG1
 have HG1:=HG1'
 clear HG1'
 have HGX':=hZ (HGX.out.later b2)
 clear HGX
 have HGX:=HGX'
 clear HGX'
 have HR':=hZ (HR.out.later b2)
 clear HR
 have HR:=HR'
 clear HR'
 have HX6':=hZ (HX6.out.later b2)
 clear HX6
 have HX6:=HX6'
 clear HX6'
 have HX7':=hZ (HX7.out.later b2)
 clear HX7
 have HX7:=HX7'
 clear HX7'
 have HX9':=hZ (HX9.out.later b2)
 clear HX9
 have HX9:=HX9'
 clear HX9'
 clear b2 HB11
 go_wp2_with fail
 ((with_reducible refine (HEQ.out _ u7 _ Ev.y0 Ev.y0 HX7.out HL2.out (by decide) rfl).mono ?_);rintro e v12 ⟨rfl,b⟩)
 have HB13:=hZ (up HB12.out b)
 have HGA':=hZ (HGA.out.later b)
 clear HGA
 have HGA:=HGA'
 clear HGA'
 have HGB':=hZ (HGB.out.later b)
 clear HGB
 have HGB:=HGB'
 clear HGB'
 have HG1':=hZ (HG1.out.later b)
 clear HG1
 have HG1:=HG1'
 clear HG1'
 have HGX':=hZ (HGX.out.later b)
 clear HGX
 have HGX:=HGX'
 clear HGX'
 have HR':=hZ (HR.out.later b)
 clear HR
 have HR:=HR'
 clear HR'
 have HX6':=hZ (HX6.out.later b)
 clear HX6
 have HX6:=HX6'
 clear HX6'
 have HX7':=hZ (HX7.out.later b)
 clear HX7
 have HX7:=HX7'
 clear HX7'
 have HX9':=hZ (HX9.out.later b)
 clear HX9
 have HX9:=HX9'
 clear HX9'
 clear b HB12 HL2
 go_wp2_with fail
 ((with_reducible refine (HEQ.out _ u9 u7 Ev.y0 Ev.y0 HX9.out HX7.out (by decide) rfl).mono ?_);rintro e v13 ⟨rfl,b⟩)
 have HB14:=hZ (up HB13.out b)
 have HGA':=hZ (HGA.out.later b)
 clear HGA
 have HGA:=HGA'
 clear HGA'
 have HGB':=hZ (HGB.out.later b)
 clear HGB
 have HGB:=HGB'
 clear HGB'
 have HG1':=hZ (HG1.out.later b)
 clear HG1
 have HG1:=HG1'
 clear HG1'
 have HGX':=hZ (HGX.out.later b)
 clear HGX
 have HGX:=HGX'
 clear HGX'
 have HR':=hZ (HR.out.later b)
 clear HR
 have HR:=HR'
 clear HR'
 have HX6':=hZ (HX6.out.later b)
 clear HX6
 have HX6:=HX6'
 clear HX6'
 have HX7':=hZ (HX7.out.later b)
 clear HX7
 have HX7:=HX7'
 clear HX7'
 have HX9':=hZ (HX9.out.later b)
 clear HX9
 have HX9:=HX9'
 clear HX9'
 clear b HB13 HEQ HX6 HX7 HX9 HR
 have HRC:=hZ (fun w1 (t:TA w1)=>(lRead12 ⟨#[50,32,115,32,115,116,114,105,110,103,32,34,100,34,47]⟩ ⟨#[50,32,115,32,115,116,114,105,110,103,32,34,100,34,10]⟩ (by decide) (by decide +kernel) _ _ (by decide) Ev.pC w1 t).mono (fun e w2 h=>sp_pr (s:=Ev.sC) h))
 have HRD:=hZ (fun w1 (t:TA w1)=>(lRead12 ⟨#[49,32,105,100,32,105,110,116,51,50,42,32,48,47,50,32,116,32,115,116,114,105,110,103,32,34,100,34,47]⟩ ⟨#[49,32,105,100,32,105,110,116,51,50,42,32,48,10,50,32,116,32,115,116,114,105,110,103,32,34,100,34,10]⟩ (by decide) (by decide +kernel) _ _ (by decide) Ev.pD w1 t).mono (fun e w2 h=>sp_pr (s:=Ev.sD) h))
 have HRE:=hZ (fun w1 (t:TA w1)=>(lRead12 ⟨#[49,32,105,100,32,105,110,116,51,50,42,32,48,47,50,32,115,32,115,116,114,105,110,103,63,32,34,100,34,47]⟩ ⟨#[49,32,105,100,32,105,110,116,51,50,42,32,48,10,50,32,115,32,115,116,114,105,110,103,63,32,34,100,34,10]⟩ (by decide) (by decide +kernel) _ _ (by decide) Ev.pE w1 t).mono (fun e w2 h=>sp_pr (s:=Ev.sE) h))
 have HRF:=hZ (fun w1 (t:TA w1)=>(lRead12 ⟨#[49,32,105,100,32,105,110,116,51,50,42,32,48,47,50,32,115,32,115,116,114,105,110,103,32,34,101,34,47]⟩ ⟨#[49,32,105,100,32,105,110,116,51,50,42,32,48,10,50,32,115,32,115,116,114,105,110,103,32,34,101,34,10]⟩ (by decide) (by decide +kernel) _ _ (by decide) Ev.pF w1 t).mono (fun e w2 h=>sp_pr (s:=Ev.sF) h))
 have HRG:=hZ (fun w1 (t:TA w1)=>(lRead12 ⟨#[50,32,115,32,115,116,114,105,110,103,42,32,34,34,47]⟩ ⟨#[50,32,115,32,115,116,114,105,110,103,42,32,34,34,10]⟩ (by decide) (by decide +kernel) _ _ (by decide) Ev.pG w1 t).mono (fun e w2 h=>sp_pr (s:=Ev.sG) h))
 have HRH:=hZ (fun w1 (t:TA w1)=>(lRead12 ⟨#[49,32,97,32,98,111,111,108,32,102,97,108,115,101,47,50,32,115,32,115,116,114,105,110,103,42,32,34,34,47]⟩ ⟨#[49,32,97,32,98,111,111,108,32,102,97,108,115,101,10,50,32,115,32,115,116,114,105,110,103,42,32,34,34,10]⟩ (by decide) (by decide +kernel) _ _ (by decide) Ev.pH w1 t).mono (fun e w2 h=>sp_pr (s:=Ev.sH) h))
 go_upto_region 13 with fail
 obtain⟨x0,x1⟩:=HGA.out.lie (n:=2) (m:=1) rfl rfl
 obtain⟨t0,t1⟩:=HGX.out.lie (n:=2) (m:=1) rfl rfl
 have HST:=hZ (fun w1 (hb:Below v13.heap.size v13 w1) (s2:Ev.Sm) (v2:Value) (h2:PR s2 v2 w1) (ok2:SmOk s2) (d:Int) (hd:Ev.chain [Ev.sA,s2]=d)=>stL (.agg #[.slice a1 2 c1,.slice a2 1 c2]) v2 okA ok2 w1 (HT.out.later (up HB14.out hb)) (pr_mk ((HGA.out.later hb).rd) ⟨rfl,rfl⟩) h2 d hd)
 have HPX:=hZ (fun w1 (hb:Below v13.heap.size v13 w1)=>((pr_mk ((HGX.out.later hb).rd) ⟨rfl,rfl⟩):PR Ev.sX (.agg #[.slice a7 2 c7,.slice a8 1 c8]) w1))
 have HTT:=hZ (fun w1 (hb:Below v13.heap.size v13 w1)=>HT.out.later (up HB14.out hb))
 refine region_growI_merge (fun u v:World=>Below u.heap.size u v) (fun _ _=>True) (fun _ _ _=>True) (fun u=>Below.refl _ _) (fun _ _ _ h k=>up h k) (kjI #[Spc.eq (.agg #[.slice a1 2 c1,.slice a2 1 c2]),Spc.eq (.agg #[.slice a7 2 c7,.slice a8 1 c8]),Spc.eq (.int .i64 2),Spc.eq (.bool false),Spc.eq (.bool false),Spc.eq (.agg #[.slice a1 2 c1,.slice a2 1 c2]),⟨fun v u=>PR Ev.sC v u,fun _ _ _ h hb=>PR.later h hb⟩,Spc.eq (.int .i64 120),Spc.eq (.bool false),Spc.eq (.bool false),Spc.eq (.bool false),Spc.eq (.agg #[.slice a1 2 c1,.slice a2 1 c2]),⟨fun v u=>PR Ev.sD v u,fun _ _ _ h hb=>PR.later h hb⟩,Spc.eq (.int .i64 120),Spc.eq (.bool false),Spc.eq (.bool false),Spc.eq (.bool false),Spc.eq (.agg #[.slice a1 2 c1,.slice a2 1 c2]),⟨fun v u=>PR Ev.sE v u,fun _ _ _ h hb=>PR.later h hb⟩,Spc.eq (.int .i64 120),Spc.eq (.bool false),Spc.eq (.bool false),Spc.eq (.bool false),Spc.eq (.agg #[.slice a1 2 c1,.slice a2 1 c2]),⟨fun v u=>PR Ev.sF v u,fun _ _ _ h hb=>PR.later h hb⟩,Spc.eq (.int .i64 120),Spc.eq (.bool false),Spc.eq (.bool false)]) [120,121,122,123,124,125,126,127,128,129,130,131,132,133,134,135,136,137,138,139,140,141,142,143,144,145,146,147] (fun ts W=>ts.getD 147 undef=.bool false∧Below v13.heap.size v13 W) (by kernel_rfl) (by kernel_rfl) (by kernel_rfl) kjI_later trivial ?_ ?_ ?_
 ·intro QQ fd jo o a w1 ho hfd hdd hI hb hs hold hdep
  have hjo:jo < 28:=(Array.getElem?_eq_some_iff.1 ho).1
  have hb':Below v13.heap.size v13 w1:=up (Below.refl _ _).drew hb
  have x0':w1.cell? ⟨gA,0,none⟩=some (.slice a1 2 c1):=(hb'.cell (p:=⟨gA,0,none⟩) (cell_lt x0)).trans x0
  have x1':w1.cell? ⟨gA,1,none⟩=some (.slice a2 1 c2):=(hb'.cell (p:=⟨gA,1,none⟩) (cell_lt x1)).trans x1
  have t0':w1.cell? ⟨gX,0,none⟩=some (.slice a7 2 c7):=(hb'.cell (p:=⟨gX,0,none⟩) (cell_lt t0)).trans t0
  have t1':w1.cell? ⟨gX,1,none⟩=some (.slice a8 1 c8):=(hb'.cell (p:=⟨gX,1,none⟩) (cell_lt t1)).trans t1
  clear x0 x1 t0 t1
  have e1:a.eval (.tmp 1)=.pointer (some ⟨gA,0,none⟩):=by
   show a.tmps.getD 1 undef=_
   rw [Array.getD_eq_getD_getElem?,hold 1 (by decide +kernel)];rfl
  have e4:a.eval (.tmp 4)=.pointer (some ⟨gX,0,none⟩):=by
   show a.tmps.getD 4 undef=_
   rw [Array.getD_eq_getD_getElem?,hold 4 (by decide +kernel)];rfl
  have ec:∀ v,a.eval (.const v)=v:=fun _=>rfl
  clear hold hs
  rcases (show jo=0 ∨ jo=1 ∨ jo=2 ∨ jo=3 ∨ jo=4 ∨ jo=5 ∨ jo=6 ∨ jo=7 ∨ jo=8 ∨ jo=9 ∨ jo=10 ∨ jo=11 ∨ jo=12 ∨ jo=13 ∨ jo=14 ∨ jo=15 ∨ jo=16 ∨ jo=17 ∨ jo=18 ∨ jo=19 ∨ jo=20 ∨ jo=21 ∨ jo=22 ∨ jo=23 ∨ jo=24 ∨ jo=25 ∨ jo=26 ∨ jo=27 by omega) with rfl|rfl|rfl|rfl|rfl|rfl|rfl|rfl|rfl|rfl|rfl|rfl|rfl|rfl|rfl|rfl|rfl|rfl|rfl|rfl|rfl|rfl|rfl|rfl|rfl|rfl|rfl|rfl
  all_goals (have ho2:=ho;simp only [List.getElem?_toArray,zD,zE,Option.some.injEq] at ho2;subst ho2)
  all_goals first|(refine (fun (eg:a.tmps.getD 124 undef=.bool false)=>?_) (hdep ⟨4,.guard⟩ ?_ rfl);rotate_left;focus (simp<;>fail))|(refine (fun (eg:a.tmps.getD 130 undef=.bool false)=>?_) (hdep ⟨10,.guard⟩ ?_ rfl);rotate_left;focus (simp<;>fail))|(refine (fun (eg:a.tmps.getD 136 undef=.bool false)=>?_) (hdep ⟨16,.guard⟩ ?_ rfl);rotate_left;focus (simp<;>fail))|(refine (fun (eg:a.tmps.getD 142 undef=.bool false)=>?_) (hdep ⟨22,.guard⟩ ?_ rfl);rotate_left;focus (simp<;>fail))|skip
  refine gvT fd (.agg #[.slice a1 2 c1,.slice a2 1 c2]) ho rfl ?_ rfl;rotate_left
  refine gvT fd (.agg #[.slice a7 2 c7,.slice a8 1 c8]) ho rfl ?_ rfl;rotate_left
  ·have d0:a.eval (.tmp 120)=.agg #[.slice a1 2 c1,.slice a2 1 c2]:=hdep ⟨0,.data⟩ (by simp) rfl
   have d1:a.eval (.tmp 121)=.agg #[.slice a7 2 c7,.slice a8 1 c8]:=hdep ⟨1,.data⟩ (by simp) rfl
   refine growI_call (I:=(fun _ _=>True)) (X:=(fun _ _ _=>True)) (d:=fd) (a:=a) (w:=w1) 17 #[.agg #[.slice a1 2 c1,.slice a2 1 c2],.agg #[.slice a7 2 c7,.slice a8 1 c8]] ho rfl ?_ ((HST.out w1 hb' Ev.sX _ (HPX.out w1 hb') okX 2 Ev.stX).mono ?_)
   ·unfold execOp resolve
    simp only [zA,zB,zC,d0,d1,ec]
    rfl
   ·rintro e c1 ⟨rfl,hb2⟩
    exact⟨_,rfl,rfl,hb2,trivial,trivial⟩
  have d0:a.eval (.tmp 122)=.int .i64 2:=hdep ⟨2,.data⟩ (by simp) rfl;refine gvT fd (.bool false) ho rfl ?_ rfl;rotate_left
  have d0:a.eval (.tmp 123)=.bool false:=hdep ⟨3,.data⟩ (by simp) rfl;refine gvT fd (.bool false) ho rfl ?_ rfl;rotate_left
  refine gvT fd (.agg #[.slice a1 2 c1,.slice a2 1 c2]) ho (wantedI rfl (yieldedI rfl eg)) ?_ rfl;rotate_left
  ·refine growI_call (I:=(fun _ _=>True)) (X:=(fun _ _ _=>True)) (d:=fd) (a:=a) (w:=w1) 35 #[.string ⟨#[50,32,115,32,115,116,114,105,110,103,32,34,100,34,47]⟩] ho (wantedI rfl (yieldedI rfl eg)) ?_ ((HRC.out w1 (HTT.out w1 hb')).mono ?_)
   ·unfold execOp resolve
    simp only [zA,zB,zC,ec]
    rfl
   ·rintro e c1 ⟨x1,rfl,hp,hb2⟩
    exact⟨_,rfl,hp,hb2,trivial,trivial⟩
  ·have d0:a.eval (.tmp 125)=.agg #[.slice a1 2 c1,.slice a2 1 c2]:=hdep ⟨5,.data⟩ (by simp) rfl
   obtain⟨v1,d1,f1⟩:∃ v,a.eval (.tmp 126)=v∧(fun v u=>PR Ev.sC v u) v w1:=⟨_,rfl,hdep ⟨6,.data⟩ (by simp) rfl⟩
   refine growI_call (I:=(fun _ _=>True)) (X:=(fun _ _ _=>True)) (d:=fd) (a:=a) (w:=w1) 17 #[.agg #[.slice a1 2 c1,.slice a2 1 c2],v1] ho (wantedI rfl (yieldedI rfl eg)) ?_ ((HST.out w1 hb' Ev.sC _ (f1) okC 120 Ev.stC).mono ?_)
   ·unfold execOp resolve
    simp only [zA,zB,zC,d0,d1,ec]
    rfl
   ·rintro e c1 ⟨rfl,hb2⟩
    exact⟨_,rfl,rfl,hb2,trivial,trivial⟩
  have d0:a.eval (.tmp 127)=.int .i64 120:=hdep ⟨7,.data⟩ (by simp) rfl;refine gvT fd (.bool false) ho (wantedI rfl (yieldedI rfl eg)) ?_ rfl;rotate_left
  have d0:a.eval (.tmp 124)=.bool false:=hdep ⟨4,.data⟩ (by simp) rfl;have d1:a.eval (.tmp 128)=.bool false:=hdep ⟨8,.data⟩ (by simp) rfl;refine gvT fd (.bool false) ho rfl ?_ rfl;rotate_left
  have d0:a.eval (.tmp 129)=.bool false:=hdep ⟨9,.data⟩ (by simp) rfl;refine gvT fd (.bool false) ho rfl ?_ rfl;rotate_left
  refine gvT fd (.agg #[.slice a1 2 c1,.slice a2 1 c2]) ho (wantedI rfl (yieldedI rfl eg)) ?_ rfl;rotate_left
  ·refine growI_call (I:=(fun _ _=>True)) (X:=(fun _ _ _=>True)) (d:=fd) (a:=a) (w:=w1) 35 #[.string ⟨#[49,32,105,100,32,105,110,116,51,50,42,32,48,47,50,32,116,32,115,116,114,105,110,103,32,34,100,34,47]⟩] ho (wantedI rfl (yieldedI rfl eg)) ?_ ((HRD.out w1 (HTT.out w1 hb')).mono ?_)
   ·unfold execOp resolve
    simp only [zA,zB,zC,ec]
    rfl
   ·rintro e c1 ⟨x1,rfl,hp,hb2⟩
    exact⟨_,rfl,hp,hb2,trivial,trivial⟩
  ·have d0:a.eval (.tmp 131)=.agg #[.slice a1 2 c1,.slice a2 1 c2]:=hdep ⟨11,.data⟩ (by simp) rfl
   obtain⟨v1,d1,f1⟩:∃ v,a.eval (.tmp 132)=v∧(fun v u=>PR Ev.sD v u) v w1:=⟨_,rfl,hdep ⟨12,.data⟩ (by simp) rfl⟩
   refine growI_call (I:=(fun _ _=>True)) (X:=(fun _ _ _=>True)) (d:=fd) (a:=a) (w:=w1) 17 #[.agg #[.slice a1 2 c1,.slice a2 1 c2],v1] ho (wantedI rfl (yieldedI rfl eg)) ?_ ((HST.out w1 hb' Ev.sD _ (f1) okD 120 Ev.stD).mono ?_)
   ·unfold execOp resolve
    simp only [zA,zB,zC,d0,d1,ec]
    rfl
   ·rintro e c1 ⟨rfl,hb2⟩
    exact⟨_,rfl,rfl,hb2,trivial,trivial⟩
  have d0:a.eval (.tmp 133)=.int .i64 120:=hdep ⟨13,.data⟩ (by simp) rfl;refine gvT fd (.bool false) ho (wantedI rfl (yieldedI rfl eg)) ?_ rfl;rotate_left
  have d0:a.eval (.tmp 130)=.bool false:=hdep ⟨10,.data⟩ (by simp) rfl;have d1:a.eval (.tmp 134)=.bool false:=hdep ⟨14,.data⟩ (by simp) rfl;refine gvT fd (.bool false) ho rfl ?_ rfl;rotate_left
  have d0:a.eval (.tmp 135)=.bool false:=hdep ⟨15,.data⟩ (by simp) rfl;refine gvT fd (.bool false) ho rfl ?_ rfl;rotate_left
  refine gvT fd (.agg #[.slice a1 2 c1,.slice a2 1 c2]) ho (wantedI rfl (yieldedI rfl eg)) ?_ rfl;rotate_left
  ·refine growI_call (I:=(fun _ _=>True)) (X:=(fun _ _ _=>True)) (d:=fd) (a:=a) (w:=w1) 35 #[.string ⟨#[49,32,105,100,32,105,110,116,51,50,42,32,48,47,50,32,115,32,115,116,114,105,110,103,63,32,34,100,34,47]⟩] ho (wantedI rfl (yieldedI rfl eg)) ?_ ((HRE.out w1 (HTT.out w1 hb')).mono ?_)
   ·unfold execOp resolve
    simp only [zA,zB,zC,ec]
    rfl
   ·rintro e c1 ⟨x1,rfl,hp,hb2⟩
    exact⟨_,rfl,hp,hb2,trivial,trivial⟩
  ·have d0:a.eval (.tmp 137)=.agg #[.slice a1 2 c1,.slice a2 1 c2]:=hdep ⟨17,.data⟩ (by simp) rfl
   obtain⟨v1,d1,f1⟩:∃ v,a.eval (.tmp 138)=v∧(fun v u=>PR Ev.sE v u) v w1:=⟨_,rfl,hdep ⟨18,.data⟩ (by simp) rfl⟩
   refine growI_call (I:=(fun _ _=>True)) (X:=(fun _ _ _=>True)) (d:=fd) (a:=a) (w:=w1) 17 #[.agg #[.slice a1 2 c1,.slice a2 1 c2],v1] ho (wantedI rfl (yieldedI rfl eg)) ?_ ((HST.out w1 hb' Ev.sE _ (f1) okE 120 Ev.stE).mono ?_)
   ·unfold execOp resolve
    simp only [zA,zB,zC,d0,d1,ec]
    rfl
   ·rintro e c1 ⟨rfl,hb2⟩
    exact⟨_,rfl,rfl,hb2,trivial,trivial⟩
  have d0:a.eval (.tmp 139)=.int .i64 120:=hdep ⟨19,.data⟩ (by simp) rfl;refine gvT fd (.bool false) ho (wantedI rfl (yieldedI rfl eg)) ?_ rfl;rotate_left
  have d0:a.eval (.tmp 136)=.bool false:=hdep ⟨16,.data⟩ (by simp) rfl;have d1:a.eval (.tmp 140)=.bool false:=hdep ⟨20,.data⟩ (by simp) rfl;refine gvT fd (.bool false) ho rfl ?_ rfl;rotate_left
  have d0:a.eval (.tmp 141)=.bool false:=hdep ⟨21,.data⟩ (by simp) rfl;refine gvT fd (.bool false) ho rfl ?_ rfl;rotate_left
  refine gvT fd (.agg #[.slice a1 2 c1,.slice a2 1 c2]) ho (wantedI rfl (yieldedI rfl eg)) ?_ rfl;rotate_left
  ·refine growI_call (I:=(fun _ _=>True)) (X:=(fun _ _ _=>True)) (d:=fd) (a:=a) (w:=w1) 35 #[.string ⟨#[49,32,105,100,32,105,110,116,51,50,42,32,48,47,50,32,115,32,115,116,114,105,110,103,32,34,101,34,47]⟩] ho (wantedI rfl (yieldedI rfl eg)) ?_ ((HRF.out w1 (HTT.out w1 hb')).mono ?_)
   ·unfold execOp resolve
    simp only [zA,zB,zC,ec]
    rfl
   ·rintro e c1 ⟨x1,rfl,hp,hb2⟩
    exact⟨_,rfl,hp,hb2,trivial,trivial⟩
  ·have d0:a.eval (.tmp 143)=.agg #[.slice a1 2 c1,.slice a2 1 c2]:=hdep ⟨23,.data⟩ (by simp) rfl
   obtain⟨v1,d1,f1⟩:∃ v,a.eval (.tmp 144)=v∧(fun v u=>PR Ev.sF v u) v w1:=⟨_,rfl,hdep ⟨24,.data⟩ (by simp) rfl⟩
   refine growI_call (I:=(fun _ _=>True)) (X:=(fun _ _ _=>True)) (d:=fd) (a:=a) (w:=w1) 17 #[.agg #[.slice a1 2 c1,.slice a2 1 c2],v1] ho (wantedI rfl (yieldedI rfl eg)) ?_ ((HST.out w1 hb' Ev.sF _ (f1) okF 120 Ev.stF).mono ?_)
   ·unfold execOp resolve
    simp only [zA,zB,zC,d0,d1,ec]
    rfl
   ·rintro e c1 ⟨rfl,hb2⟩
    exact⟨_,rfl,rfl,hb2,trivial,trivial⟩
  have d0:a.eval (.tmp 145)=.int .i64 120:=hdep ⟨25,.data⟩ (by simp) rfl;refine gvT fd (.bool false) ho (wantedI rfl (yieldedI rfl eg)) ?_ rfl;rotate_left
  have d0:a.eval (.tmp 142)=.bool false:=hdep ⟨22,.data⟩ (by simp) rfl;have d1:a.eval (.tmp 146)=.bool false:=hdep ⟨26,.data⟩ (by simp) rfl;refine gvT fd (.bool false) ho rfl ?_ rfl;rotate_left
  all_goals (unfold execOp;first|(simp only [zA,zB,zC,d0,d1,ec];first|rfl|(go_simp;first|done|rfl|omega))|(simp only [zA,zB,zC,d0,ec];first|rfl|(go_simp;first|done|rfl|omega))|(simp only [zA,zB,zC,e1,ec];first|rfl|(go_simp;first|done|rfl|omega))|(simp only [zA,zB,zC,e4,ec];first|rfl|(go_simp;first|done|rfl|omega)))
 ·intro a w1 hI hb hj
  have hb':Below v13.heap.size v13 w1:=up (Below.refl _ _).drew hb
  exact⟨hj 27 (by decide),hb'⟩
 rintro ts13 v14 ⟨h147,hb13⟩
 simp only [fill,List.setIfInBounds_toArray,List.set_cons_succ,List.set_cons_zero]
 rw [h147]
 clear x0 x1 t0 t1
 have HB15:=hZ (up HB14.out hb13)
 have HGA':=hZ (HGA.out.later hb13)
 clear HGA
 have HGA:=HGA'
 clear HGA'
 have HG1':=hZ (HG1.out.later hb13)
 clear HG1
 have HG1:=HG1'
 clear HG1'
 clear h147 hb13 HST HPX HTT HB14 HRC HRD HRE HRF HGB HGX
 go_wp2_with fail
 ((with_reducible refine (HRG.out v14 (HT.out.later HB15.out)).mono ?_);rintro e v15 ⟨vG,rfl,pG,b⟩)
 have HPG:=hZ pG
 have HB16:=hZ (up HB15.out b)
 have HGA':=hZ (HGA.out.later b)
 clear HGA
 have HGA:=HGA'
 clear HGA'
 have HG1':=hZ (HG1.out.later b)
 clear HG1
 have HG1:=HG1'
 clear HG1'
 clear b HB15 pG HRG
 go_wp2_with fail
 ((with_reducible refine (HRH.out v15 (HT.out.later HB16.out)).mono ?_);rintro e v16 ⟨vH,rfl,pH,b⟩)
 have HPH:=hZ pH
 have HPG2:=hZ (HPG.out.later b)
 have HB17:=hZ (up HB16.out b)
 have HGA':=hZ (HGA.out.later b)
 clear HGA
 have HGA:=HGA'
 clear HGA'
 have HG1':=hZ (HG1.out.later b)
 clear HG1
 have HG1:=HG1'
 clear HG1'
 clear b HB16 pH HRH HPG
 have HS:=hZ (stL vG vH okG okH v16 (HT.out.later HB17.out) HPG2.out HPH.out 120 Ev.stG)
 go_wp2_with fail
 ((with_reducible refine HS.out.mono ?_);rintro e v17 ⟨rfl,b⟩)
 have HB18:=hZ (up HB17.out b)
 have HGA':=hZ (HGA.out.later b)
 clear HGA
 have HGA:=HGA'
 clear HGA'
 have HG1':=hZ (HG1.out.later b)
 clear HG1
 have HG1:=HG1'
 clear HG1'
 clear b HB17 HPG2 HPH HS
 obtain⟨x0,x1⟩:=HGA.out.lie (n:=2) (m:=1) rfl rfl
 obtain⟨z0,z1⟩:=HG1.out.lie (n:=1) (m:=1) rfl rfl
 have HS:=hZ (stL (.agg #[.slice a5 1 c5,.slice a6 1 c6]) (.agg #[.slice a1 2 c1,.slice a2 1 c2]) ok1 okA v17 (HT.out.later HB18.out) (pr_mk (HG1.out.rd) ⟨rfl,rfl⟩) (pr_mk (HGA.out.rd) ⟨rfl,rfl⟩) 0 Ev.stO)
 go_wp2_with fail
 ((with_reducible refine HS.out.mono ?_);rintro e v18 ⟨rfl,b⟩)
 clear x0 x1 z0 z1
 have HB19:=hZ (up HB18.out b)
 have HGA':=hZ (HGA.out.later b)
 clear HGA
 have HGA:=HGA'
 clear HGA'
 have HG1':=hZ (HG1.out.later b)
 clear HG1
 have HG1:=HG1'
 clear HG1'
 clear b HB18 HS
 obtain⟨x0,x1⟩:=HGA.out.lie (n:=2) (m:=1) rfl rfl
 obtain⟨z0,z1⟩:=HG1.out.lie (n:=1) (m:=1) rfl rfl
 have HS:=hZ (chL okA ok1 okA v18 (HT.out.later HB19.out) (pr_mk (n:=2) (m:=1) HGA.out.rd ⟨rfl,rfl⟩) (pr_mk (n:=1) (m:=1) HG1.out.rd ⟨rfl,rfl⟩) (pr_mk (n:=2) (m:=1) HGA.out.rd ⟨rfl,rfl⟩) 120 Ev.chO)
 go_wp2_with fail
 ((with_reducible refine HS.out.mono ?_);rintro e v19 ⟨rfl,b⟩)
 have HB20:=hZ (up HB19.out b)
 clear x0 x1 z0 z1
 clear b HB19 HS HGA HG1
 have HS:=hZ (cChainE (.slice none 0 0) [] (fun q hq=>by simp at hq) v19 (HT.out.later HB20.out) ⟨Gn.Rd.nil _ _,fun q hq=>by simp at hq⟩ 0 Ev.ch0)
 go_wp2_with fail
 ((with_reducible refine HS.out.mono ?_);rintro e v20 ⟨rfl,b⟩)
 have HB21:=hZ (up HB20.out b)
 clear b HB20 HS
 go_wp2_with fail
 go_ret
 exact⟨rfl,HB21.out⟩
end Go.Proofs.YtenfjmdajlhfoabGreatDoor
