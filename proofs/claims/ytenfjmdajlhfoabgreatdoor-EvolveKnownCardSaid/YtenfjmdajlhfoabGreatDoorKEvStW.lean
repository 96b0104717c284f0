/- Texts. -/
import Derived.Test.YtenfjmdajlhfoabGreatDoorKEvR2
import Derived.Test.YtenfjmdajlhfoabGreatDoorKEvh
import Derived.Deep.DeepCutAuto
import Derived.Deep.CutBlock
set_option maxHeartbeats 16000000
namespace Go.Proofs.YtenfjmdajlhfoabGreatDoor
open Go.RowKit Go.Sort
set_option linter.unusedVariables false
set_option linter.unusedSimpArgs false
set_option maxRecDepth 100000
theorem evolveSteps (xa xb:Sx) (hx:SmIn xa.s) (hy:SmIn xb.s) (rv:Value) (r:List Cl.C) (w:World) (ha:RdS w w.heap.size xa) (hb:RdS w w.heap.size xb) (hr:RdC w w.heap.size rv r) (hri:∀ c∈r,Cl.I64 c.n∧c.s.size≤maxLen) (T:TA w) :
 Calls Tryz.prog 3 #[.agg #[xa.v,xa.kv],.agg #[xb.v,xb.kv],rv] w fun e w'=>e=.returned (.bool true)∧Below w.heap.size w w':=by
 have HF1:=hZ (fun (w1:World) (h:RdS w1 w1.heap.size xa)=>lFew12 xa.v xa.kv xa.s.1 xa.s.2 w1 h.c h.k (fun c hc=>(hx.c c hc).2.2.2))
 have HF2:=hZ (fun (w1:World) (h:RdS w1 w1.heap.size xb)=>lFew12 xb.v xb.kv xb.s.1 xb.s.2 w1 h.c h.k (fun c hc=>(hy.c c hc).2.2.2))
 have HF3:=hZ (fun (w1:World) (h:RdC w1 w1.heap.size rv r)=>lCells12 rv r w1 h (fun c hc=>(hri c hc).2))
 have HOA:=hZ (fewS_ok hx)
 have HOB:=hZ (fewS_ok hy)
 have HRI:=hZ (fun c hc=>(hri c hc).1:∀ c∈r,Cl.I64 c.n)
 have HRA:=hZ ha
 have HRB:=hZ hb
 have HRR:=hZ hr
 obtain⟨SA,hSA⟩:∃ s,fewS xa.s=s:=⟨_,rfl⟩
 obtain⟨SB,hSB⟩:∃ s,fewS xb.s=s:=⟨_,rfl⟩
 have HSA:=hZ (show SA.1=lFew12C xa.s.1∧SA.2=xa.s.2.take 10 by rw [← hSA];exact⟨rfl,rfl⟩)
 have HSB:=hZ (show SB.1=lFew12C xb.s.1∧SB.2=xb.s.2.take 10 by rw [← hSB];exact⟨rfl,rfl⟩)
 rw [← HSA.out.1,← HSA.out.2] at HF1
 rw [← HSB.out.1,← HSB.out.2] at HF2
 rw [hSA] at HOA
 rw [hSB] at HOB
 clear HSA HSB hSA hSB
 obtain⟨a1,c1,a2,c2,⟨la,ka⟩⟩:=xa
 obtain⟨a3,c3,a4,c4,⟨lb,kb⟩⟩:=xb
 unfold Sx.v Sx.kv at *
 simp only at HF1 HF2 ⊢
 obtain⟨p1,hp1⟩:∃ p,la.length=p:=⟨_,rfl⟩
 obtain⟨p2,hp2⟩:∃ p,ka.length=p:=⟨_,rfl⟩
 obtain⟨p3,hp3⟩:∃ p,lb.length=p:=⟨_,rfl⟩
 obtain⟨p4,hp4⟩:∃ p,kb.length=p:=⟨_,rfl⟩
 rw [hp1,hp2] at HF1
 rw [hp3,hp4] at HF2
 rw [hp1,hp2,hp3,hp4]
 have b1:=box_new w (.cells #[.slice a1 p1 c1,.slice a2 p2 c2] 25)
 have b2:=up_box b1 (.cells #[.slice a3 p3 c3,.slice a4 p4 c4] 25)
 have HX:=hZ ((Blk.new w 25 #[.slice a1 p1 c1,.slice a2 p2 c2]).later (box_new _ (.cells #[.slice a3 p3 c3,.slice a4 p4 c4] 25)))
 have hy0:=Blk.new (w.alloc (.cells #[.slice a1 p1 c1,.slice a2 p2 c2] 25)) 25 #[.slice a3 p3 c3,.slice a4 p4 c4]
 obtain⟨g1,hg1⟩:∃ g,(w.alloc (.cells #[.slice a1 p1 c1,.slice a2 p2 c2] 25)).heap.size=g:=⟨_,rfl⟩
 have hg1':w.heap.size+1=g1:=by rw [← hg1];simp
 rw [hg1] at hy0
 have HY:=hZ hy0
 have HB:=hZ b2
 have HA0:=hZ (HRA.out.later b2)
 have HB0:=hZ (HRB.out.later b2)
 have HR0:=hZ (HRR.out.later b2)
 have HT0:=hZ (T.later b2)
 have HRT:=hZ T
 clear ha hb hr hx hy hri T b1 b2 hy0 hp1 hp2 hp3 hp4
 go_enter Tryz.func3,Tryz.ntmps3
 go_upto_region 1 with fail
 try simp only [hg1']
 generalize (w.alloc (.cells #[.slice a1 p1 c1,.slice a2 p2 c2] 25)).alloc (.cells #[.slice a3 p3 c3,.slice a4 p4 c4] 25)=w0 at *
 obtain⟨gp,hgp⟩:∃ g,w.heap.size=g:=⟨_,rfl⟩
 have HGP:=hZ hgp
 rw [hgp] at HX hg1' ⊢
 clear hg1 hgp
 obtain⟨B,hB⟩:∃ B,w0.heap.size=B:=⟨_,rfl⟩
 have hgB:gp < B:=by rw [← hB];exact HX.out.lt
 have hg1B:g1 < B:=by rw [← hB];exact HY.out.lt
 have hne:gp≠g1:=by omega
 have HNS:Hid (∀ g,B≤g→¬ (g=gp ∨ g=g1)):=hZ (fun g hg e=>by omega)
 refine region_growA_merge (fun u v=>Touch (fun q=>q=gp ∨ q=g1) u v) (S1 B gp g1 (.slice a1 p1 c1) (.slice a2 p2 c2) (.slice a3 p3 c3) (.slice a4 p4 c4) SA SB rv) (fun _ _ _=>True) (fun u=>Touch.refl _ _) (fun _ _ _ h k=>h.trans k (fun _ h=>.inl h)) (kjI #[Spc.eq (.agg #[.slice a1 p1 c1,.slice a2 p2 c2]),⟨fun v u=>FV B SA v u,fun _ _ _ h hb=>h.tch hb HNS.out⟩,Spc.eq (.agg #[.slice a3 p3 c3,.slice a4 p4 c4]),⟨fun v u=>FV B SB v u,fun _ _ _ h hb=>h.tch hb HNS.out⟩,Spc.eq (rv),⟨fun v u=>OwnC u B v (cutR r),fun _ _ _ h hb=>own_tch h hb HNS.out⟩,Spc.any,Spc.any,⟨fun v u=>OwnC u B v (cutR r),fun _ _ _ h hb=>own_tch h hb HNS.out⟩]) [14,15,16,17,18,19,2] (fun ts W=>∃ v2,ts.getD 2 undef=v2∧OwnC W B v2 (cutR r)∧PB B W gp SA∧PB B W g1 SB∧Below w.heap.size w W) (by kernel_rfl) (by kernel_rfl) (by kernel_rfl) kjI_later ⟨by rw [← hB];exact Nat.le_refl _,Nat.lt_of_lt_of_eq (show 2 < 76 by decide) (Eq.symm (by rfl)),fun _=>HX.out.later (Below.refl _ _).drew,fun h=>(by cases h),fun _=>HY.out.later (Below.refl _ _).drew,fun h=>(by cases h),fun _=>by rfl,fun h=>(by cases h),fun h=>(by cases h),fun h=>(by cases h)⟩ ?_ ?_ ?_
 ·intro QQ fd jo o a w1 ho hfd hdd hI hb hs hold hdep
  have hjo:jo < 9:=(Array.getElem?_eq_some_iff.1 ho).1
  skip
  have hbw:Below w.heap.size w w1:=HB.out.trans (hb.undrew.below HB.out.size (fun q hq=>by have:=HGP.out;rcases hq with e|e<;>omega))
  have e3:a.eval (.tmp 3)=.pointer (some ⟨gp,0,none⟩):=by
   show a.tmps.getD 3 undef=_
   rw [Array.getD_eq_getD_getElem?,hold 3 (by decide +kernel)];rfl
  have e4:a.eval (.tmp 4)=.pointer (some ⟨g1,0,none⟩):=by
   show a.tmps.getD 4 undef=_
   rw [Array.getD_eq_getD_getElem?,hold 4 (by decide +kernel)];rfl
  have ec:∀ v,a.eval (.const v)=v:=fun _=>rfl
  clear hold hs
  rcases (show jo=0 ∨ jo=1 ∨ jo=2 ∨ jo=3 ∨ jo=4 ∨ jo=5 ∨ jo=6 ∨ jo=7 ∨ jo=8 by omega) with rfl|rfl|rfl|rfl|rfl|rfl|rfl|rfl|rfl
  all_goals (have ho2:=ho;simp only [List.getElem?_toArray,zD,zE,Option.some.injEq] at ho2;subst ho2)
  ·refine growA_val (I:=(S1 B gp g1 (.slice a1 p1 c1) (.slice a2 p2 c2) (.slice a3 p3 c3) (.slice a4 p4 c4) SA SB rv)) (X:=(fun _ _ _=>True)) (d:=fd) (a:=a) (w:=w1) (.agg #[.slice a1 p1 c1,.slice a2 p2 c2]) w1 ho rfl ?_ ((fun u=>Touch.refl _ _) w1) (hI.put (by decide) (by decide) (by decide) (by decide) (Below.refl _ _)) trivial rfl
   have hdn:fd 6=false:=by
    cases h:fd 6 with
    | false=>rfl
    | true=>have:=hI.da h;rw [hfd] at this;cases this
   have hz:=hI.a0 hdn
   have z0:=hz.cell 0
   have z1:=hz.cell 1
   simp only [zD,zE] at z0 z1
   unfold execOp;simp only [zA,zB,zC,e3,ec];first|rfl|(go_simp;done)|(go_simp;rfl)
  ·have d0:a.eval (.tmp 14)=.agg #[.slice a1 p1 c1,.slice a2 p2 c2]:=hdep ⟨0,.data⟩ (by simp) rfl
   refine growA_call (I:=(S1 B gp g1 (.slice a1 p1 c1) (.slice a2 p2 c2) (.slice a3 p3 c3) (.slice a4 p4 c4) SA SB rv)) (X:=(fun _ _ _=>True)) (d:=fd) (a:=a) (w:=w1) 11 #[.agg #[.slice a1 p1 c1,.slice a2 p2 c2]] ho rfl ?_ ((HF1.out w1 (HRA.out.later hbw)).mono ?_)
   ·unfold execOp resolve
    simp only [zA,zB,zC,d0,ec]
    rfl
   ·rintro e c1 ⟨cv,kv,rfl,q1,q2,hb2⟩
    exact⟨_,rfl,⟨cv,kv,rfl,Gn.Own.lower q1 hI.bz,Gn.Own.lower q2 hI.bz⟩,(Touch.of_below hb2),hI.put (by decide) (by decide) (by decide) (by decide) hb2,trivial⟩
  ·refine growA_val (I:=(S1 B gp g1 (.slice a1 p1 c1) (.slice a2 p2 c2) (.slice a3 p3 c3) (.slice a4 p4 c4) SA SB rv)) (X:=(fun _ _ _=>True)) (d:=fd) (a:=a) (w:=w1) (.agg #[.slice a3 p3 c3,.slice a4 p4 c4]) w1 ho rfl ?_ ((fun u=>Touch.refl _ _) w1) (hI.put (by decide) (by decide) (by decide) (by decide) (Below.refl _ _)) trivial rfl
   have hdn:fd 7=false:=by
    cases h:fd 7 with
    | false=>rfl
    | true=>have:=hI.db h;rw [hfd] at this;cases this
   have hz:=hI.b0 hdn
   have z0:=hz.cell 0
   have z1:=hz.cell 1
   simp only [zD,zE] at z0 z1
   unfold execOp;simp only [zA,zB,zC,e4,ec];first|rfl|(go_simp;done)|(go_simp;rfl)
  ·have d0:a.eval (.tmp 16)=.agg #[.slice a3 p3 c3,.slice a4 p4 c4]:=hdep ⟨2,.data⟩ (by simp) rfl
   refine growA_call (I:=(S1 B gp g1 (.slice a1 p1 c1) (.slice a2 p2 c2) (.slice a3 p3 c3) (.slice a4 p4 c4) SA SB rv)) (X:=(fun _ _ _=>True)) (d:=fd) (a:=a) (w:=w1) 11 #[.agg #[.slice a3 p3 c3,.slice a4 p4 c4]] ho rfl ?_ ((HF2.out w1 (HRB.out.later hbw)).mono ?_)
   ·unfold execOp resolve
    simp only [zA,zB,zC,d0,ec]
    rfl
   ·rintro e c1 ⟨cv,kv,rfl,q1,q2,hb2⟩
    exact⟨_,rfl,⟨cv,kv,rfl,Gn.Own.lower q1 hI.bz,Gn.Own.lower q2 hI.bz⟩,(Touch.of_below hb2),hI.put (by decide) (by decide) (by decide) (by decide) hb2,trivial⟩
  ·refine growA_val (I:=(S1 B gp g1 (.slice a1 p1 c1) (.slice a2 p2 c2) (.slice a3 p3 c3) (.slice a4 p4 c4) SA SB rv)) (X:=(fun _ _ _=>True)) (d:=fd) (a:=a) (w:=w1) (rv) w1 ho rfl ?_ ((fun u=>Touch.refl _ _) w1) (hI.put (by decide) (by decide) (by decide) (by decide) (Below.refl _ _)) trivial rfl
   have hdn:fd 8=false:=by
    cases h:fd 8 with
    | false=>rfl
    | true=>have:=hI.dr h;rw [hfd] at this;cases this
   have e2:a.eval (.tmp 2)=rv:=hI.r hdn
   unfold execOp;simp only [zA,zB,zC,e2,ec];first|rfl|(go_simp;done)|(go_simp;rfl)
  ·have d0:a.eval (.tmp 18)=rv:=hdep ⟨4,.data⟩ (by simp) rfl
   refine growA_call (I:=(S1 B gp g1 (.slice a1 p1 c1) (.slice a2 p2 c2) (.slice a3 p3 c3) (.slice a4 p4 c4) SA SB rv)) (X:=(fun _ _ _=>True)) (d:=fd) (a:=a) (w:=w1) 12 #[rv] ho rfl ?_ ((HF3.out w1 (HRR.out.later hbw)).mono ?_)
   ·unfold execOp resolve
    simp only [zA,zB,zC,d0,ec]
    rfl
   ·rintro e c1 ⟨x,rfl,hp,hb2⟩
    exact⟨_,rfl,(Gn.Own.lower hp hI.bz),(Touch.of_below hb2),hI.put (by decide) (by decide) (by decide) (by decide) hb2,trivial⟩
  ·obtain⟨cv,kv,d2,q1,q2⟩:FV B SA (a.eval (.tmp 15)) w1:=hdep ⟨1,.data⟩ (by simp) rfl
   obtain⟨sv1,sv2,ev,_⟩:=Gn.Rd.form (RdK.of q1)
   obtain⟨sv3,sv4,ek,_⟩:=Gn.Rd.form (RdI.of q2)
   have hz:=hI.a0 hfd
   have z0:=hz.cell 0
   have z1:=hz.cell 1
   have f0:=hz.frozen 0
   have f1:=hz.frozen 1
   simp only [zD,zE] at z0 z1
   have hd0:fd 1=true:=hdd ⟨1,.data⟩ (by simp) rfl
   refine growA_skip (I:=(S1 B gp g1 (.slice a1 p1 c1) (.slice a2 p2 c2) (.slice a3 p3 c3) (.slice a4 p4 c4) SA SB rv)) (X:=(fun _ _ _=>True)) (d:=fd) (a:=a) (w:=w1) ((w1.setCell ⟨gp,0,none⟩ cv).setCell ⟨gp,1,none⟩ kv) ho rfl rfl ?_ (((Touch.refl _ _).setCell (p:=⟨gp,0,none⟩) (by simp) cv).setCell (p:=⟨gp,1,none⟩) (by simp) kv) (hI.st3 hfd (hdd ⟨0,.phase⟩ (by simp) rfl) q1 q2 (by omega) (by omega)) trivial trivial
   subst ev ek
   unfold execOp;simp only [e3,d2,ec]
   go_simp
  ·obtain⟨cv,kv,d2,q1,q2⟩:FV B SB (a.eval (.tmp 17)) w1:=hdep ⟨3,.data⟩ (by simp) rfl
   obtain⟨sv1,sv2,ev,_⟩:=Gn.Rd.form (RdK.of q1)
   obtain⟨sv3,sv4,ek,_⟩:=Gn.Rd.form (RdI.of q2)
   have hz:=hI.b0 hfd
   have z0:=hz.cell 0
   have z1:=hz.cell 1
   have f0:=hz.frozen 0
   have f1:=hz.frozen 1
   simp only [zD,zE] at z0 z1
   have hd0:fd 3=true:=hdd ⟨3,.data⟩ (by simp) rfl
   refine growA_skip (I:=(S1 B gp g1 (.slice a1 p1 c1) (.slice a2 p2 c2) (.slice a3 p3 c3) (.slice a4 p4 c4) SA SB rv)) (X:=(fun _ _ _=>True)) (d:=fd) (a:=a) (w:=w1) ((w1.setCell ⟨g1,0,none⟩ cv).setCell ⟨g1,1,none⟩ kv) ho rfl rfl ?_ (((Touch.refl _ _).setCell (p:=⟨g1,0,none⟩) (by simp) cv).setCell (p:=⟨g1,1,none⟩) (by simp) kv) (hI.st4 hfd (hdd ⟨2,.phase⟩ (by simp) rfl) q1 q2 (by omega) (by omega)) trivial trivial
   subst ev ek
   unfold execOp;simp only [e4,d2,ec]
   go_simp
  ·obtain⟨z,d0,f0⟩:∃ z,a.eval (.tmp 19)=z∧OwnC w1 B z (cutR r):=⟨_,rfl,hdep ⟨5,.data⟩ (by simp) rfl⟩
   refine growA_val (I:=(S1 B gp g1 (.slice a1 p1 c1) (.slice a2 p2 c2) (.slice a3 p3 c3) (.slice a4 p4 c4) SA SB rv)) (X:=(fun _ _ _=>True)) (d:=fd) (a:=a) (w:=w1) z w1 ho rfl ?_ (Touch.refl _ _) (hI.as8 (hdd ⟨4,.phase⟩ (by simp) rfl)) trivial f0
   unfold execOp;simp only [zA,zB,zC,d0,ec];first|rfl|(go_simp;done)|(go_simp;rfl)
 ·intro a w1 hI hb hj
  obtain⟨cv3,kv3,k1,k2,k3⟩:=hI.a1 (by decide)
  obtain⟨cv4,kv4,m1,m2,m3⟩:=hI.b1 (by decide)
  exact⟨_,rfl,hj 8 (by decide),hI.a1 (by decide),hI.b1 (by decide),HB.out.trans (hb.undrew.below HB.out.size (fun q hq=>by have:=HGP.out;rcases hq with e|e<;>omega))⟩
 rintro ts wa ⟨v2,h2,ho2,hp3',hp4',hb1⟩
 simp only [fill,List.setIfInBounds_toArray,List.set_cons_succ,List.set_cons_zero]
 rw [h2]
 obtain⟨cv3,kv3,t3,t4,t5⟩:=hp3'
 obtain⟨cv4,kv4,m3,m4,m5⟩:=hp4'
 obtain⟨s1,n1,rfl,_⟩:=Gn.Rd.form (RdK.of t4)
 obtain⟨s2,n2,rfl,_⟩:=Gn.Rd.form (RdI.of t5)
 obtain⟨s3,n3,rfl,_⟩:=Gn.Rd.form (RdK.of m4)
 obtain⟨s4,n4,rfl,_⟩:=Gn.Rd.form (RdI.of m5)
 have HX1:=hZ t3
 have HY1:=hZ m3
 have HSA1:Hid (RdS wa wa.heap.size ⟨s1,n1,s2,n2,SA⟩):=hZ ⟨RdK.of t4,RdI.of t5⟩
 have HSB1:Hid (RdS wa wa.heap.size ⟨s3,n3,s4,n4,SB⟩):=hZ ⟨RdK.of m4,RdI.of m5⟩
 have HR1:=hZ (RdC.of ho2)
 have HB1:=hZ hb1
 have HT1:=hZ (HRT.out.later hb1)
 have HCL:Hid ((cutR r).length≤40):=hZ (cutR_len r)
 have HC1:=hZ (fun (w1:World) (h:RdS w1 w1.heap.size ⟨s1,n1,s2,n2,SA⟩)=>rCopyS _ _ SA.1 SA.2 w1 h.c h.k HOA.out.n HOA.out.m)
 have HC2:=hZ (fun (w1:World) (h:RdS w1 w1.heap.size ⟨s3,n3,s4,n4,SB⟩)=>rCopyS _ _ SB.1 SB.2 w1 h.c h.k HOB.out.n HOB.out.m)
 have HC3:=hZ (fun (w1:World) (h:RdC w1 w1.heap.size v2 (cutR r))=>copyRow v2 (cutR r) w1 h (by have:=HCL.out;omega))
 unfold Sx.v Sx.kv at HC1 HC2
 simp only at HC1 HC2
 obtain⟨l1,hl1⟩:∃ n,SA.1.length=n:=⟨_,rfl⟩
 obtain⟨l2,hl2⟩:∃ n,SA.2.length=n:=⟨_,rfl⟩
 obtain⟨l3,hl3⟩:∃ n,SB.1.length=n:=⟨_,rfl⟩
 obtain⟨l4,hl4⟩:∃ n,SB.2.length=n:=⟨_,rfl⟩
 rw [hl1,hl2] at HX1 HC1
 rw [hl3,hl4] at HY1 HC2
 clear h2 ho2 hb1 t3 t4 t5 m3 m4 m5 HF1 HF2 HF3 HA0 HB0 HR0 HT0 HX HY HNS hgB hg1B hB
 go_upto_region 2 with fail
 refine region_growA_merge (fun u v=>LtB wa.heap.size u v) (S2 wa.heap.size 7 8 6 7 8 9 SA SB) (fun _ _ _=>True) (fun u=>LtB.refl _ _) (fun _ _ _ h k=>LtB.trans h k) (kjI #[Spc.eq (.agg #[.slice s1 l1 n1,.slice s2 l2 n2]),⟨fun v u=>FV wa.heap.size SA v u,fun _ _ _ h hb=>h.ltB hb⟩,Spc.eq (.agg #[.slice s3 l3 n3,.slice s4 l4 n4]),⟨fun v u=>FV wa.heap.size SB v u,fun _ _ _ h hb=>h.ltB hb⟩,Spc.eq (v2),⟨fun v u=>OwnC u wa.heap.size v (cutR r),fun _ _ _ h hb=>own_ltB h hb (by decide)⟩,Spc.any,Spc.any,Spc.any,Spc.any,⟨fun v u=>OwnC u wa.heap.size v (cutR r),fun _ _ _ h hb=>own_ltB h hb (by decide)⟩]) [20,21,22,23,24,25,7,8,9] (fun ts W=>∃ p q v9,ts.getD 7 undef=.pointer (some ⟨p,0,none⟩)∧ts.getD 8 undef=.pointer (some ⟨q,0,none⟩)∧ts.getD 9 undef=v9∧PB wa.heap.size W p SA∧PB wa.heap.size W q SB∧OwnC W wa.heap.size v9 (cutR r)∧Below wa.heap.size wa W) (by kernel_rfl) (by kernel_rfl) (by kernel_rfl) kjI_later (S2.start (Nat.lt_of_lt_of_eq (show 7 < 76 by decide) (Eq.symm (by rfl))) (Nat.lt_of_lt_of_eq (show 8 < 76 by decide) (Eq.symm (by rfl))) (Nat.le_refl _)) ?_ ?_ ?_
 ·intro QQ fd jo o a w1 ho hfd hdd hI hb hs hold hdep
  have hjo:jo < 11:=(Array.getElem?_eq_some_iff.1 ho).1
  skip
  have hbw:Below wa.heap.size wa w1:=(Below.refl _ _).drew.trans (LtB.below hb (Nat.le_refl _))
  have t0:=(HX1.out.later hbw).cell 0
  have t1:=(HX1.out.later hbw).cell 1
  have t2:=(HY1.out.later hbw).cell 0
  have t3:=(HY1.out.later hbw).cell 1
  simp only [zD,zE] at t0 t1 t2 t3
  have e3:a.eval (.tmp 3)=.pointer (some ⟨gp,0,none⟩):=by
   show a.tmps.getD 3 undef=_
   rw [Array.getD_eq_getD_getElem?,hold 3 (by decide +kernel)];rfl
  have e4:a.eval (.tmp 4)=.pointer (some ⟨g1,0,none⟩):=by
   show a.tmps.getD 4 undef=_
   rw [Array.getD_eq_getD_getElem?,hold 4 (by decide +kernel)];rfl
  have e2:a.eval (.tmp 2)=v2:=by
   show a.tmps.getD 2 undef=_
   rw [Array.getD_eq_getD_getElem?,hold 2 (by decide +kernel)];rfl
  have ec:∀ v,a.eval (.const v)=v:=fun _=>rfl
  clear hold hs
  rcases (show jo=0 ∨ jo=1 ∨ jo=2 ∨ jo=3 ∨ jo=4 ∨ jo=5 ∨ jo=6 ∨ jo=7 ∨ jo=8 ∨ jo=9 ∨ jo=10 by omega) with rfl|rfl|rfl|rfl|rfl|rfl|rfl|rfl|rfl|rfl|rfl
  all_goals (have ho2:=ho;simp only [List.getElem?_toArray,zD,zE,Option.some.injEq] at ho2;subst ho2)
  refine growA_val (I:=(S2 wa.heap.size 7 8 6 7 8 9 SA SB)) (X:=(fun _ _ _=>True)) (d:=fd) (a:=a) (w:=w1) (.agg #[.slice s1 l1 n1,.slice s2 l2 n2]) w1 ho rfl ?_ ((fun u=>LtB.refl _ _) w1) (hI.put (by decide) (by decide) (by decide) (by decide) (by decide) (by decide) (Below.refl _ _)) trivial rfl;rotate_left
  ·have d0:a.eval (.tmp 20)=.agg #[.slice s1 l1 n1,.slice s2 l2 n2]:=hdep ⟨0,.data⟩ (by simp) rfl
   refine growA_call (I:=(S2 wa.heap.size 7 8 6 7 8 9 SA SB)) (X:=(fun _ _ _=>True)) (d:=fd) (a:=a) (w:=w1) 13 #[.agg #[.slice s1 l1 n1,.slice s2 l2 n2]] ho rfl ?_ ((HC1.out w1 (HSA1.out.later hbw)).mono ?_)
   ·unfold execOp resolve
    simp only [zA,zB,zC,d0,ec]
    rfl
   ·rintro e c1 ⟨cv,kv,rfl,q1,q2,hb2⟩
    exact⟨_,rfl,⟨cv,kv,rfl,Gn.Own.lower q1 hI.bz,Gn.Own.lower q2 hI.bz⟩,(LtB.of_below hb2),(hI.put (by decide) (by decide) (by decide) (by decide) (by decide) (by decide) hb2),trivial⟩
  refine growA_val (I:=(S2 wa.heap.size 7 8 6 7 8 9 SA SB)) (X:=(fun _ _ _=>True)) (d:=fd) (a:=a) (w:=w1) (.agg #[.slice s3 l3 n3,.slice s4 l4 n4]) w1 ho rfl ?_ ((fun u=>LtB.refl _ _) w1) (hI.put (by decide) (by decide) (by decide) (by decide) (by decide) (by decide) (Below.refl _ _)) trivial rfl;rotate_left
  ·have d0:a.eval (.tmp 22)=.agg #[.slice s3 l3 n3,.slice s4 l4 n4]:=hdep ⟨2,.data⟩ (by simp) rfl
   refine growA_call (I:=(S2 wa.heap.size 7 8 6 7 8 9 SA SB)) (X:=(fun _ _ _=>True)) (d:=fd) (a:=a) (w:=w1) 13 #[.agg #[.slice s3 l3 n3,.slice s4 l4 n4]] ho rfl ?_ ((HC2.out w1 (HSB1.out.later hbw)).mono ?_)
   ·unfold execOp resolve
    simp only [zA,zB,zC,d0,ec]
    rfl
   ·rintro e c1 ⟨cv,kv,rfl,q1,q2,hb2⟩
    exact⟨_,rfl,⟨cv,kv,rfl,Gn.Own.lower q1 hI.bz,Gn.Own.lower q2 hI.bz⟩,(LtB.of_below hb2),(hI.put (by decide) (by decide) (by decide) (by decide) (by decide) (by decide) hb2),trivial⟩
  refine growA_val (I:=(S2 wa.heap.size 7 8 6 7 8 9 SA SB)) (X:=(fun _ _ _=>True)) (d:=fd) (a:=a) (w:=w1) (v2) w1 ho rfl ?_ ((fun u=>LtB.refl _ _) w1) (hI.put (by decide) (by decide) (by decide) (by decide) (by decide) (by decide) (Below.refl _ _)) trivial rfl;rotate_left
  ·have d0:a.eval (.tmp 24)=v2:=hdep ⟨4,.data⟩ (by simp) rfl
   refine growA_call (I:=(S2 wa.heap.size 7 8 6 7 8 9 SA SB)) (X:=(fun _ _ _=>True)) (d:=fd) (a:=a) (w:=w1) 14 #[v2] ho rfl ?_ ((HC3.out w1 (HR1.out.later hbw)).mono ?_)
   ·unfold execOp resolve
    simp only [zA,zB,zC,d0,ec]
    rfl
   ·rintro e c1 ⟨x,rfl,hp,hb2⟩
    exact⟨_,rfl,(Gn.Own.lower hp hI.bz),(LtB.of_below hb2),(hI.put (by decide) (by decide) (by decide) (by decide) (by decide) (by decide) hb2),trivial⟩
  ·refine growA_val (I:=(S2 wa.heap.size 7 8 6 7 8 9 SA SB)) (X:=(fun _ _ _=>True)) (d:=fd) (a:=a) (w:=w1) (.pointer (some ⟨w1.heap.size,0,none⟩)) (w1.alloc (.cells #[.slice none 0 0,.slice none 0 0] 25)) ho rfl ?_ (LtB.of_below (box_new _ _)) (hI.newA (by decide) (by decide) (by decide) (by decide) hfd) trivial trivial
   unfold execOp
   go_simp
   first|done|rfl
  ·refine growA_val (I:=(S2 wa.heap.size 7 8 6 7 8 9 SA SB)) (X:=(fun _ _ _=>True)) (d:=fd) (a:=a) (w:=w1) (.pointer (some ⟨w1.heap.size,0,none⟩)) (w1.alloc (.cells #[.slice none 0 0,.slice none 0 0] 25)) ho rfl ?_ (LtB.of_below (box_new _ _)) (hI.newB (by decide) (by decide) (by decide) (by decide) hfd) trivial trivial
   unfold execOp
   go_simp
   first|done|rfl
  ·have hjd:fd 6=true:=hdd ⟨6,.data⟩ (by simp) rfl
   obtain⟨p,hp,hpB,hpz,_⟩:=hI.pa hjd
   have hz:=hpz hfd
   unfold nilC at hz
   obtain⟨cv,kv,d2,q1,q2⟩:FV wa.heap.size SA (a.eval (.tmp 21)) w1:=hdep ⟨1,.data⟩ (by simp) rfl
   obtain⟨sv1,sv2,ev,_⟩:=Gn.Rd.form (RdK.of q1)
   obtain⟨sv3,sv4,ek,_⟩:=Gn.Rd.form (RdI.of q2)
   have d1:a.eval (.tmp 7)=.pointer (some ⟨p,0,none⟩):=hp
   have f0:=hz.frozen 0
   have f1:=hz.frozen 1
   have y0:=hz.cell 0
   have y1:=hz.cell 1
   simp only [zD,zE] at y0 y1
   have hF:=hI.fillA (by decide) (by decide) (by decide) hjd hfd hp q1 q2
   refine growA_skip (I:=(S2 wa.heap.size 7 8 6 7 8 9 SA SB)) (X:=(fun _ _ _=>True)) (d:=fd) (a:=a) (w:=w1) ((w1.setCell ⟨p,0,none⟩ cv).setCell ⟨p,1,none⟩ kv) ho rfl rfl ?_ hF.2 hF.1 trivial trivial
   subst ev ek
   unfold execOp;simp only [d1,d2,ec]
   go_simp
  ·have hjd:fd 7=true:=hdd ⟨7,.data⟩ (by simp) rfl
   obtain⟨p,hp,hpB,hpz,_⟩:=hI.pb hjd
   have hz:=hpz hfd
   unfold nilC at hz
   obtain⟨cv,kv,d2,q1,q2⟩:FV wa.heap.size SB (a.eval (.tmp 23)) w1:=hdep ⟨3,.data⟩ (by simp) rfl
   obtain⟨sv1,sv2,ev,_⟩:=Gn.Rd.form (RdK.of q1)
   obtain⟨sv3,sv4,ek,_⟩:=Gn.Rd.form (RdI.of q2)
   have d1:a.eval (.tmp 8)=.pointer (some ⟨p,0,none⟩):=hp
   have f0:=hz.frozen 0
   have f1:=hz.frozen 1
   have y0:=hz.cell 0
   have y1:=hz.cell 1
   simp only [zD,zE] at y0 y1
   have hF:=hI.fillB (by decide) (by decide) (by decide) hjd hfd hp q1 q2
   refine growA_skip (I:=(S2 wa.heap.size 7 8 6 7 8 9 SA SB)) (X:=(fun _ _ _=>True)) (d:=fd) (a:=a) (w:=w1) ((w1.setCell ⟨p,0,none⟩ cv).setCell ⟨p,1,none⟩ kv) ho rfl rfl ?_ hF.2 hF.1 trivial trivial
   subst ev ek
   unfold execOp;simp only [d1,d2,ec]
   go_simp
  ·obtain⟨z,d0,f0⟩:∃ z,a.eval (.tmp 25)=z∧OwnC w1 wa.heap.size z (cutR r):=⟨_,rfl,hdep ⟨5,.data⟩ (by simp) rfl⟩
   refine growA_val (I:=(S2 wa.heap.size 7 8 6 7 8 9 SA SB)) (X:=(fun _ _ _=>True)) (d:=fd) (a:=a) (w:=w1) z w1 ho rfl ?_ (LtB.refl _ _) (hI.put (by decide) (by decide) (by decide) (by decide) (by decide) (by decide) (Below.refl _ _)) trivial f0
   unfold execOp;simp only [zA,zB,zC,d0,ec];first|rfl|(go_simp;done)|(go_simp;rfl)
  all_goals (unfold execOp;first|(simp only [zA,zB,zC,e2,ec];first|rfl|(go_simp;first|done|rfl|omega))|(simp only [zA,zB,zC,e3,ec];first|rfl|(go_simp;first|done|rfl|omega))|(simp only [zA,zB,zC,e4,ec];first|rfl|(go_simp;first|done|rfl|omega)))
 ·intro a w1 hI hb hj
  obtain⟨p,k1,_,_,k2⟩:=hI.pa (by decide)
  obtain⟨q,m1,_,_,m2⟩:=hI.pb (by decide)
  exact⟨p,q,_,k1,m1,rfl,k2 (by decide),m2 (by decide),hj 10 (by decide),(Below.refl _ _).drew.trans (LtB.below hb (Nat.le_refl _))⟩
 rintro ts wb ⟨g7,g8,v9,h7,h8,h9,hp7,hp8,ho9,hb2⟩
 simp only [fill,List.setIfInBounds_toArray,List.set_cons_succ,List.set_cons_zero]
 rw [h7,h8,h9]
 obtain⟨cv7,kv7,t7,t8,t9⟩:=hp7
 obtain⟨cv8,kv8,m7,m8,m9⟩:=hp8
 obtain⟨s5,n5,rfl,_⟩:=Gn.Rd.form (RdK.of t8)
 obtain⟨s6,n6,rfl,_⟩:=Gn.Rd.form (RdI.of t9)
 obtain⟨s7,n7,rfl,_⟩:=Gn.Rd.form (RdK.of m8)
 obtain⟨s8,n8,rfl,_⟩:=Gn.Rd.form (RdI.of m9)
 have HSC2:Hid (RdS wb wb.heap.size ⟨s5,n5,s6,n6,SA⟩):=hZ ⟨RdK.of t8,RdI.of t9⟩
 have HSD2:Hid (RdS wb wb.heap.size ⟨s7,n7,s8,n8,SB⟩):=hZ ⟨RdK.of m8,RdI.of m9⟩
 rw [hl1,hl2] at t7
 rw [hl3,hl4] at m7
 have HX7:=hZ t7
 have HX8:=hZ m7
 have HX2:=hZ (HX1.out.later hb2)
 have HY2:=hZ (HY1.out.later hb2)
 have HSA2:=hZ (HSA1.out.later hb2)
 have HSB2:=hZ (HSB1.out.later hb2)
 have HR2:=hZ (HR1.out.later hb2)
 have HR9:=hZ (RdC.of ho9)
 have HT2:=hZ (HT1.out.later hb2)
 have HB2:=hZ (up HB1.out hb2)
 have HLA:=hZ (And.intro hl1 hl2)
 have HLB:=hZ (And.intro hl3 hl4)
 have hok:=cutR_ok HRI.out
 have HOK:=hZ hok
 obtain⟨an,han⟩:∃ a,Ev.carry [SA,SB] 1 2 (cutR r)=a:=⟨_,rfl⟩
 have HAL:Hid (an.r.length≤1000000):=hZ (by
  rw [← han,Ev.carry_two]
  have:=HOB.out.n
  split
  ·simp
  ·split
   ·simp
   ·simp only;rw [Ev.mvd_len];exact this)
 have HM1:=hZ (mvL _ _ HOA.out HOB.out wb HT2.out (pr_mk HSA2.out HLA.out) (pr_mk HSB2.out HLB.out) v2 (cutR r) HR2.out ⟨by have:=HCL.out;omega,fun c hc=>(HOK.out c hc).1,fun c hc=>by have:=(HOK.out c hc).2;omega⟩ an han)
 have HM2:=hZ (fun (w1:World) (r1:RdS w1 w1.heap.size ⟨s5,n5,s6,n6,SA⟩) (r2:RdS w1 w1.heap.size ⟨s7,n7,s8,n8,SB⟩) (r3:RdC w1 w1.heap.size v9 (cutR r))=>rMove12 _ _ HOA.out HOB.out w1 r1 r2 v9 (cutR r) r3 (by have:=HCL.out;omega) (fun c hc=>by have:=(HOK.out c hc).2;omega) an han)
 unfold Sx.v Sx.kv at HM2
 simp only at HM2
 rw [hl1,hl2,hl3,hl4] at HM2
 have x0:=HX2.out.cell 0
 have x1:=HX2.out.cell 1
 have y0:=HY2.out.cell 0
 have y1:=HY2.out.cell 1
 simp only [zD,zE] at x0 x1 y0 y1
 clear h7 h8 h9 t7 t8 t9 m7 m8 m9 ho9 hb2 hok han hl1 hl2 hl3 hl4 HC1 HC2 HC3 HX1 HY1 HSA1 HSB1 HR1 HT1 HB1 HRI HRA HRB HRR HRT
 go_wp2_with fail
 ((with_reducible refine HM1.out.mono ?_);rintro e wc ⟨u1,rfl,ho1,b⟩)
 have HO1:=hZ ho1
 have HWC:=hZ b
 have z0:=(HX7.out.later b).cell 0
 have z1:=(HX7.out.later b).cell 1
 have z2:=(HX8.out.later b).cell 0
 have z3:=(HX8.out.later b).cell 1
 simp only [zD,zE] at z0 z1 z2 z3
 clear ho1 b x0 x1 y0 y1 HM1
 go_wp2_with fail
 ((with_reducible refine (HM2.out _ (HSC2.out.later HWC.out) (HSD2.out.later HWC.out) (HR9.out.later HWC.out)).mono ?_);rintro e wd ⟨u2,rfl,ho2,b⟩)
 have HO2:=hZ (RdC.of ho2)
 have HOW:=hZ (Gn.Own.later HO1.out b)
 have HWD:=hZ (up HWC.out b)
 clear ho2 b z0 z1 z2 z3 HM2 HO1 HWC
 obtain⟨dn,hdn⟩:∃ d,Ev.chain [SA,SB]=d:=⟨_,rfl⟩
 have HS1:=hZ (fun (w1:World) (hb:Below wb.heap.size wb w1)=>stL _ _ HOA.out HOB.out w1 (HT2.out.later hb) ((pr_mk HSA2.out HLA.out).later hb) ((pr_mk HSB2.out HLB.out).later hb) dn hdn)
 have HS2:=hZ (fun (w1:World) (r1:RdS w1 w1.heap.size ⟨s5,n5,s6,n6,SA⟩) (r2:RdS w1 w1.heap.size ⟨s7,n7,s8,n8,SB⟩)=>rStep12 _ _ HOA.out HOB.out w1 r1 r2 dn hdn)
 unfold Sx.v Sx.kv at HS2
 simp only at HS2
 rw [HLA.out.1,HLA.out.2,HLB.out.1,HLB.out.2] at HS2
 obtain⟨en,hen⟩:∃ e,an.e=e:=⟨_,rfl⟩
 obtain⟨ar,har⟩:∃ e,an.r=e:=⟨_,rfl⟩
 rw [har] at HO2 HOW HAL
 have HQ:=hZ (fun (w1:World) (r1:RdC w1 w1.heap.size u1 ar) (r2:RdC w1 w1.heap.size u2 ar)=>eqRow u1 u2 ar ar w1 r1 r2 HAL.out true (by simp))
 simp only [hen]
 clear hdn har
 go_upto_region 5 with fail
 refine region_growI_merge (fun u v:World=>Below u.heap.size u v) (fun _ _=>True) (fun _ _ _=>True) (fun u=>Below.refl _ _) (fun _ _ _ h k=>up h k) (kjI #[Spc.eq (.agg #[.slice s1 l1 n1,.slice s2 l2 n2]),Spc.eq (.agg #[.slice s3 l3 n3,.slice s4 l4 n4]),Spc.eq (.int .i64 dn),Spc.eq (.agg #[.slice s5 l1 n5,.slice s6 l2 n6]),Spc.eq (.agg #[.slice s7 l3 n7,.slice s8 l4 n8]),Spc.eq (.int .i64 dn),Spc.eq (.bool false),Spc.eq (.bool false),Spc.eq (.int .i64 en),Spc.eq (.int .i64 en),Spc.eq (.bool false),Spc.eq (.bool false),Spc.eq (.bool false),Spc.eq (u1),Spc.eq (u2),Spc.eq (.bool true),Spc.eq (.bool false),Spc.eq (.bool false)]) [40,41,42,43,44,45,46,47,48,49,50,51,52,53,54,55,56,57] (fun ts W=>ts.getD 57 undef=.bool false∧Below wd.heap.size wd W) (by kernel_rfl) (by kernel_rfl) (by kernel_rfl) kjI_later trivial ?_ ?_ ?_
 ·intro QQ fd jo o a w1 ho hfd hdd hI hb hs hold hdep
  have hjo:jo < 18:=(Array.getElem?_eq_some_iff.1 ho).1
  have hb':Below wd.heap.size wd w1:=up (Below.refl _ _).drew hb
  have hbo:Below wb.heap.size wb w1:=up HWD.out hb'
  have t0:=(HX2.out.later hbo).cell 0
  have t1:=(HX2.out.later hbo).cell 1
  have t2:=(HY2.out.later hbo).cell 0
  have t3:=(HY2.out.later hbo).cell 1
  have t4:=(HX7.out.later hbo).cell 0
  have t5:=(HX7.out.later hbo).cell 1
  have t6:=(HX8.out.later hbo).cell 0
  have t7:=(HX8.out.later hbo).cell 1
  simp only [zD,zE] at t0 t1 t2 t3 t4 t5 t6 t7
  have e3:a.eval (.tmp 3)=.pointer (some ⟨gp,0,none⟩):=by
   show a.tmps.getD 3 undef=_
   rw [Array.getD_eq_getD_getElem?,hold 3 (by decide +kernel)];rfl
  have e4:a.eval (.tmp 4)=.pointer (some ⟨g1,0,none⟩):=by
   show a.tmps.getD 4 undef=_
   rw [Array.getD_eq_getD_getElem?,hold 4 (by decide +kernel)];rfl
  have e7:a.eval (.tmp 7)=.pointer (some ⟨g7,0,none⟩):=by
   show a.tmps.getD 7 undef=_
   rw [Array.getD_eq_getD_getElem?,hold 7 (by decide +kernel)];rfl
  have e8:a.eval (.tmp 8)=.pointer (some ⟨g8,0,none⟩):=by
   show a.tmps.getD 8 undef=_
   rw [Array.getD_eq_getD_getElem?,hold 8 (by decide +kernel)];rfl
  have e10:a.eval (.tmp 10)=u1:=by
   show a.tmps.getD 10 undef=_
   rw [Array.getD_eq_getD_getElem?,hold 10 (by decide +kernel)];rfl
  have e11:a.eval (.tmp 11)=.int .i64 en:=by
   show a.tmps.getD 11 undef=_
   rw [Array.getD_eq_getD_getElem?,hold 11 (by decide +kernel)];rfl
  have e12:a.eval (.tmp 12)=u2:=by
   show a.tmps.getD 12 undef=_
   rw [Array.getD_eq_getD_getElem?,hold 12 (by decide +kernel)];rfl
  have e13:a.eval (.tmp 13)=.int .i64 en:=by
   show a.tmps.getD 13 undef=_
   rw [Array.getD_eq_getD_getElem?,hold 13 (by decide +kernel)];rfl
  have ec:∀ v,a.eval (.const v)=v:=fun _=>rfl
  clear hold hs
  rcases (show jo=0 ∨ jo=1 ∨ jo=2 ∨ jo=3 ∨ jo=4 ∨ jo=5 ∨ jo=6 ∨ jo=7 ∨ jo=8 ∨ jo=9 ∨ jo=10 ∨ jo=11 ∨ jo=12 ∨ jo=13 ∨ jo=14 ∨ jo=15 ∨ jo=16 ∨ jo=17 by omega) with rfl|rfl|rfl|rfl|rfl|rfl|rfl|rfl|rfl|rfl|rfl|rfl|rfl|rfl|rfl|rfl|rfl|rfl
  all_goals (have ho2:=ho;simp only [List.getElem?_toArray,zD,zE,Option.some.injEq] at ho2;subst ho2)
  all_goals first|(refine (fun (eg:a.tmps.getD 47 undef=.bool false)=>?_) (hdep ⟨7,.guard⟩ ?_ rfl);rotate_left;focus (simp<;>fail))|(refine (fun (eg:a.tmps.getD 52 undef=.bool false)=>?_) (hdep ⟨12,.guard⟩ ?_ rfl);rotate_left;focus (simp<;>fail))|skip
  refine gvT fd (.agg #[.slice s1 l1 n1,.slice s2 l2 n2]) ho rfl ?_ rfl;rotate_left
  refine gvT fd (.agg #[.slice s3 l3 n3,.slice s4 l4 n4]) ho rfl ?_ rfl;rotate_left
  ·have d0:a.eval (.tmp 40)=.agg #[.slice s1 l1 n1,.slice s2 l2 n2]:=hdep ⟨0,.data⟩ (by simp) rfl
   have d1:a.eval (.tmp 41)=.agg #[.slice s3 l3 n3,.slice s4 l4 n4]:=hdep ⟨1,.data⟩ (by simp) rfl
   refine growI_call (I:=(fun _ _=>True)) (X:=(fun _ _ _=>True)) (d:=fd) (a:=a) (w:=w1) 17 #[.agg #[.slice s1 l1 n1,.slice s2 l2 n2],.agg #[.slice s3 l3 n3,.slice s4 l4 n4]] ho rfl ?_ ((HS1.out w1 hbo).mono ?_)
   ·unfold execOp resolve
    simp only [zA,zB,zC,d0,d1,ec]
    rfl
   ·rintro e c1 ⟨rfl,hb2⟩
    exact⟨_,rfl,rfl,hb2,trivial,trivial⟩
  refine gvT fd (.agg #[.slice s5 l1 n5,.slice s6 l2 n6]) ho rfl ?_ rfl;rotate_left
  refine gvT fd (.agg #[.slice s7 l3 n7,.slice s8 l4 n8]) ho rfl ?_ rfl;rotate_left
  ·have d0:a.eval (.tmp 43)=.agg #[.slice s5 l1 n5,.slice s6 l2 n6]:=hdep ⟨3,.data⟩ (by simp) rfl
   have d1:a.eval (.tmp 44)=.agg #[.slice s7 l3 n7,.slice s8 l4 n8]:=hdep ⟨4,.data⟩ (by simp) rfl
   refine growI_call (I:=(fun _ _=>True)) (X:=(fun _ _ _=>True)) (d:=fd) (a:=a) (w:=w1) 18 #[.agg #[.slice s5 l1 n5,.slice s6 l2 n6],.agg #[.slice s7 l3 n7,.slice s8 l4 n8]] ho rfl ?_ ((HS2.out w1 (HSC2.out.later hbo) (HSD2.out.later hbo)).mono ?_)
   ·unfold execOp resolve
    simp only [zA,zB,zC,d0,d1,ec]
    rfl
   ·rintro e c1 ⟨rfl,hb2⟩
    exact⟨_,rfl,rfl,hb2,trivial,trivial⟩
  ·have d0:a.eval (.tmp 42)=.int .i64 dn:=hdep ⟨2,.data⟩ (by simp) rfl
   have d1:a.eval (.tmp 45)=.int .i64 dn:=hdep ⟨5,.data⟩ (by simp) rfl
   refine gvT fd (.bool false) ho rfl ?_ rfl
   unfold execOp;simp only [zA,zB,zC,d0,d1,ec];first|(go_simp;done)|(go_simp;rfl)|(go_simp;simp;done)
  have d0:a.eval (.tmp 46)=.bool false:=hdep ⟨6,.data⟩ (by simp) rfl;refine gvT fd (.bool false) ho rfl ?_ rfl;rotate_left
  refine gvT fd (.int .i64 en) ho (wantedI rfl (yieldedI rfl eg)) ?_ rfl;rotate_left
  refine gvT fd (.int .i64 en) ho (wantedI rfl (yieldedI rfl eg)) ?_ rfl;rotate_left
  ·have d0:a.eval (.tmp 48)=.int .i64 en:=hdep ⟨8,.data⟩ (by simp) rfl
   have d1:a.eval (.tmp 49)=.int .i64 en:=hdep ⟨9,.data⟩ (by simp) rfl
   refine gvT fd (.bool false) ho (wantedI rfl (yieldedI rfl eg)) ?_ rfl
   unfold execOp;simp only [zA,zB,zC,d0,d1,ec];first|(go_simp;done)|(go_simp;rfl)|(go_simp;simp;done)
  have d0:a.eval (.tmp 47)=.bool false:=hdep ⟨7,.data⟩ (by simp) rfl;have d1:a.eval (.tmp 50)=.bool false:=hdep ⟨10,.data⟩ (by simp) rfl;refine gvT fd (.bool false) ho rfl ?_ rfl;rotate_left
  have d0:a.eval (.tmp 51)=.bool false:=hdep ⟨11,.data⟩ (by simp) rfl;refine gvT fd (.bool false) ho rfl ?_ rfl;rotate_left
  refine gvT fd (u1) ho (wantedI rfl (yieldedI rfl eg)) ?_ rfl;rotate_left
  refine gvT fd (u2) ho (wantedI rfl (yieldedI rfl eg)) ?_ rfl;rotate_left
  ·have d0:a.eval (.tmp 53)=u1:=hdep ⟨13,.data⟩ (by simp) rfl
   have d1:a.eval (.tmp 54)=u2:=hdep ⟨14,.data⟩ (by simp) rfl
   refine growI_call (I:=(fun _ _=>True)) (X:=(fun _ _ _=>True)) (d:=fd) (a:=a) (w:=w1) 19 #[u1,u2] ho (wantedI rfl (yieldedI rfl eg)) ?_ ((HQ.out w1 (RdC.of (Gn.Own.later HOW.out hb')) (HO2.out.later hb')).mono ?_)
   ·unfold execOp resolve
    simp only [zA,zB,zC,d0,d1,ec]
    rfl
   ·rintro e c1 ⟨rfl,hb2⟩
    exact⟨_,rfl,rfl,hb2,trivial,trivial⟩
  have d0:a.eval (.tmp 55)=.bool true:=hdep ⟨15,.data⟩ (by simp) rfl;refine gvT fd (.bool false) ho (wantedI rfl (yieldedI rfl eg)) ?_ rfl;rotate_left
  have d0:a.eval (.tmp 52)=.bool false:=hdep ⟨12,.data⟩ (by simp) rfl;have d1:a.eval (.tmp 56)=.bool false:=hdep ⟨16,.data⟩ (by simp) rfl;refine gvT fd (.bool false) ho rfl ?_ rfl;rotate_left
  all_goals (unfold execOp;first|(simp only [zA,zB,zC,d0,d1,ec];first|rfl|(go_simp;first|done|rfl|omega))|(simp only [zA,zB,zC,e10,ec];first|rfl|(go_simp;first|done|rfl|omega))|(simp only [zA,zB,zC,e11,ec];first|rfl|(go_simp;first|done|rfl|omega))|(simp only [zA,zB,zC,e12,ec];first|rfl|(go_simp;first|done|rfl|omega))|(simp only [zA,zB,zC,e13,ec];first|rfl|(go_simp;first|done|rfl|omega))|(simp only [zA,zB,zC,d0,ec];first|rfl|(go_simp;first|done|rfl|omega))|(simp only [zA,zB,zC,e3,ec];first|rfl|(go_simp;first|done|rfl|omega))|(simp only [zA,zB,zC,e4,ec];first|rfl|(go_simp;first|done|rfl|omega))|(simp only [zA,zB,zC,e7,ec];first|rfl|(go_simp;first|done|rfl|omega))|(simp only [zA,zB,zC,e8,ec];first|rfl|(go_simp;first|done|rfl|omega)))
 ·intro a w1 hI hb hj
  have hb':Below wd.heap.size wd w1:=up (Below.refl _ _).drew hb
  exact⟨hj 17 (by decide),hb'⟩
 rintro ts we ⟨h57,hb5⟩
 simp only [fill,List.setIfInBounds_toArray,List.set_cons_succ,List.set_cons_zero]
 rw [h57]
 have HOW5:=hZ (Gn.Own.later HOW.out hb5)
 have HWE:=hZ (up HWD.out hb5)
 have HSP:=hZ (lSpoil12 u1 ar wb.heap.size we HOW5.out HWE.out.size)
 clear h57 hb5 HO2 HOW HWD HS1 HS2 HQ
 go_wp2_with fail
 ((with_reducible refine HSP.out.mono ?_);rintro e wf ⟨rfl,ht⟩)
 have HWF:Hid (Below wb.heap.size wb wf):=hZ (HWE.out.trans (ht.below HWE.out.size (fun q hq=>(HOW5.out.lt q hq).1)))
 have HE:=hZ (eqRow v2 v9 (cutR r) (cutR r) wf (HR2.out.later HWF.out) (HR9.out.later HWF.out) (by have:=HCL.out;omega) true (by simp))
 clear ht HSP HWE HOW5 HAL
 go_wp2_with fail
 ((with_reducible refine HE.out.mono ?_);rintro e wg ⟨rfl,b⟩)
 have HWG:=hZ (up HWF.out b)
 have z0:=(HX7.out.later HWG.out).cell 0
 have z1:=(HX7.out.later HWG.out).cell 1
 have x0:=(HX2.out.later HWG.out).cell 0
 have x1:=(HX2.out.later HWG.out).cell 1
 simp only [zD,zE] at z0 z1 x0 x1
 have q1:=HSA2.out.later HWG.out
 have q2:=HSC2.out.later HWG.out
 have HQ1:=hZ (rSame _ _ _ _ SA.1 SA.1 SA.2 SA.2 wg q1.c q2.c q1.k q2.k true (by simp))
 unfold Sx.v Sx.kv at HQ1
 simp only at HQ1
 rw [HLA.out.1,HLA.out.2] at HQ1
 clear b q1 q2 HWF HE
 go_wp2_with fail
 ((with_reducible refine HQ1.out.mono ?_);rintro e wh ⟨rfl,b⟩)
 have HWH:=hZ (up HWG.out b)
 clear b z0 z1 x0 x1 HQ1 HWG
 have z0:=(HX8.out.later HWH.out).cell 0
 have z1:=(HX8.out.later HWH.out).cell 1
 have x0:=(HY2.out.later HWH.out).cell 0
 have x1:=(HY2.out.later HWH.out).cell 1
 simp only [zD,zE] at z0 z1 x0 x1
 have q1:=HSB2.out.later HWH.out
 have q2:=HSD2.out.later HWH.out
 have HQ1:=hZ (rSame _ _ _ _ SB.1 SB.1 SB.2 SB.2 wh q1.c q2.c q1.k q2.k true (by simp))
 unfold Sx.v Sx.kv at HQ1
 simp only at HQ1
 rw [HLB.out.1,HLB.out.2] at HQ1
 clear q1 q2
 go_wp2_with fail
 ((with_reducible refine HQ1.out.mono ?_);rintro e wi ⟨rfl,b⟩)
 have HWI:=hZ (up HWH.out b)
 clear b z0 z1 x0 x1 HQ1 HWH
 go_wp2_with fail
 ((with_reducible refine (works12 _ (HT2.out.later HWI.out)).mono ?_);rintro e wj ⟨rfl,b⟩)
 have HWJ:=hZ (up HWI.out b)
 clear b
 go_wp2_with fail
 go_ret
 exact⟨rfl,by have:=up HB2.out HWJ.out;first|exact this|(rw [HGP.out] at this;exact this)⟩
end Go.Proofs.YtenfjmdajlhfoabGreatDoor
