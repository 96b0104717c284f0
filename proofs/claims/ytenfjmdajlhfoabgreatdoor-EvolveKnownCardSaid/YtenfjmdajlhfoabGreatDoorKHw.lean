/- Texts. -/
import Derived.Test.YtenfjmdajlhfoabGreatDoorKEvR3
import Derived.Test.YtenfjmdajlhfoabGreatDoorKEvh
set_option maxHeartbeats 32000000
namespace Go.Proofs.YtenfjmdajlhfoabGreatDoor
open Go.RowKit Go.Sort
set_option linter.unusedVariables false
set_option linter.unusedSimpArgs false
set_option maxRecDepth 100000
theorem own_frmH {α:Type} {enc:α→List Value} {k:Nat} {T:TypeId} {W:World} {B:Nat} {v:Value} {l:List α} (h:Gn.Own enc k T W B v l):∃ (a:Option Addr) (c:Nat),v=.slice a l.length c:=by
 rcases h.2 with ⟨rfl,hn⟩|⟨g,cap,cur,rfl,_⟩
 ·exact⟨none,0,by rw [hn]⟩
 ·exact⟨_,_,rfl⟩
structure HVW (w:World) (a0 a1:Int) (v1 v2:Value) (K M:List Sx) (u:World):Prop where
 x:Blk u w.heap.size 39 [.int .i64 a0,.int .i64 a1]
 o1:Gn.Own sxc 2 25 u w.heap.size v1 K
 o2:Gn.Own sxc 2 25 u w.heap.size v2 M
 e1:∀ y∈K,OwnK u w.heap.size y.v y.s.1∧OwnI u w.heap.size y.kv y.s.2
 e2:∀ y∈M,OwnK u w.heap.size y.v y.s.1∧OwnI u w.heap.size y.kv y.s.2
 ne:∀ g,v1.ownBlock=some g→v2.ownBlock≠some g
 b:Below w.heap.size w u
theorem HVW.later {w:World} {a0 a1:Int} {v1 v2:Value} {K M:List Sx} {u u':World} (h:HVW w a0 a1 v1 v2 K M u) (hb:Below u.heap.size u u'):HVW w a0 a1 v1 v2 K M u' :=
 ⟨h.x.later hb,Gn.Own.later h.o1 hb,Gn.Own.later h.o2 hb,fun y hy=>⟨Gn.Own.later (h.e1 y hy).1 hb,Gn.Own.later (h.e1 y hy).2 hb⟩,fun y hy=>⟨Gn.Own.later (h.e2 y hy).1 hb,Gn.Own.later (h.e2 y hy).2 hb⟩,h.ne,up h.b hb⟩
theorem HVW.swap {w:World} {a0 a1:Int} {v1 v2:Value} {K M:List Sx} {u:World} (h:HVW w a0 a1 v1 v2 K M u):HVW w a0 a1 v2 v1 M K u :=
 ⟨h.x,h.o2,h.o1,h.e2,h.e1,fun g h1 h2=>h.ne g h2 h1,h.b⟩
theorem HVW.push {w:World} {a0 a1:Int} {v1 v2 v:Value} {K M:List Sx} {y:Sx} {u u':World} (h:HVW w a0 a1 v1 v2 K M u) (hy:OwnK u w.heap.size y.v y.s.1∧OwnI u w.heap.size y.kv y.s.2)
 (ho:Gn.Own sxc 2 25 u' w.heap.size v (K++[y])) (hg:u.grownBy u' v1.ownBlock) (hl:v.ownBlock=v1.ownBlock ∨ v.ownBlock=some u.heap.size):HVW w a0 a1 v v2 (K++[y]) M u':=by
 have ek:∀ {B:Nat} {v:Value} {l:List Co},OwnK u B v l→OwnK u' B v l:=fun ho=>Gn.Own.kept ho hg (own_apart2 ho h.o1 (by decide))
 have ei:∀ {B:Nat} {v:Value} {l:List Int},OwnI u B v l→OwnI u' B v l:=fun ho=>Gn.Own.kept ho hg (own_apart2 ho h.o1 (by decide))
 have h2:v2.ownBlock=none ∨ v2.ownBlock≠v1.ownBlock:=by
  cases e:v2.ownBlock with
  | none=>exact .inl rfl
  | some g=>exact .inr (fun e2=>h.ne g e2.symm e)
 refine⟨h.x.app2 hg h.o1 (by decide),ho,Gn.Own.kept h.o2 hg h2,fun z hz=>?_,fun z hz=>⟨ek (h.e2 z hz).1,ei (h.e2 z hz).2⟩,fun g e1 e2=>?_,h.b.trans (Gn.below_of_own h.o1 hg h.b.size)⟩
 ·rcases List.mem_append.1 hz with hz|hz
  ·exact⟨ek (h.e1 z hz).1,ei (h.e1 z hz).2⟩
  ·simp at hz
   subst hz
   exact⟨ek hy.1,ei hy.2⟩
 ·rcases hl with hl|hl
  ·exact h.ne g (hl▸e1) e2
  ·rw [hl] at e1
   injection e1 with e1
   have:=(h.o2.lt g e2).2
   omega
theorem HVW.rd1 {w:World} {a0 a1:Int} {v1 v2:Value} {K M:List Sx} {u:World} (h:HVW w a0 a1 v1 v2 K M u):RdSm u u.heap.size v1 K:=⟨Gn.Own.rd sxL h.o1,fun y hy=>⟨RdK.of (h.e1 y hy).1,RdI.of (h.e1 y hy).2⟩⟩
def fewL (L:List Sx) (q:Nat):List Ev.Sm:=((sms L).take q).map fewS
theorem fewL_succ {L:List Sx} {q:Nat} {x:Sx} (h:L[q]?=some x):fewL L (q+1)=fewL L q++[fewS x.s]:=by
 unfold fewL
 rw [List.take_add_one,sms_at h,List.map_append];rfl
theorem fewL_ok {L K:List Sx} {q:Nat} (hin:∀ x∈L,SmIn x.s) (h:sms K=fewL L q):SmsOk K:=fun y hy=>by
 have h1:y.s∈sms K:=List.mem_map.2 ⟨y,hy,rfl⟩
 rw [h] at h1
 obtain⟨s,hs,e⟩:=List.mem_map.1 h1
 obtain⟨x,hx,rfl⟩:=List.mem_map.1 (List.mem_of_mem_take hs)
 rw [← e]
 exact fewS_ok (hin x hx)
theorem go_len:∀ (t:List Ev.Sm) (a:List Co) (r:List Cl.C),(∀ s∈t,s.1.length≤1000000)→r.length≤1000000→(Ev.go a t r).length≤1000000
 | [],a,r,_,h=>h
 | s::t,a,r,hs,h=>go_len t s.1 _ (fun x hx=>hs x (List.mem_cons_of_mem _ hx)) (by rw [Ev.mvd_len];exact hs s (List.mem_cons_self ..))
theorem carry_len {l:List Ev.Sm} {f t:Int} {r:List Cl.C} (hs:∀ s∈l,s.1.length≤1000000) (h:r.length≤1000000):(Ev.carry l f t r).r.length≤1000000:=by
 unfold Ev.carry
 split
 ·simp
 ·split
  ·simp
  ·split
   ·simp
   ·exact go_len _ _ _ (fun s hs2=>hs s (List.mem_of_mem_take (List.mem_of_mem_drop hs2))) h
theorem sms_snoc (K:List Sx) (y:Sx):sms (K++[y])=sms K++[y.s]:=by simp [sms]
theorem evolveChains (v:Value) (L:List Sx) (a0 a1:Int) (rv:Value) (r:List Cl.C) (w:World) (h:RdSm w w.heap.size v L) (hin:∀ x∈L,SmIn x.s) (ha0:Cl.I64 a0) (ha1:Cl.I64 a1) (hr:RdC w w.heap.size rv r) (hri:∀ c∈r,Cl.I64 c.n∧c.s.size≤maxLen) (T:TA w) :
 Calls Tryz.prog 4 #[v,.agg #[.int .i64 a0,.int .i64 a1],rv] w fun e w'=>e=.returned (.bool true)∧Below w.heap.size w w':=by
 have hml:=Gn.Rd.len' h.rd
 have HR:=hZ h
 have HIN:=hZ hin
 have HT:=hZ T
 have HRR:=hZ hr
 have HCL:=hZ (fun (w1:World) (hb:Below w.heap.size w w1)=>lCells12 rv r w1 (hr.later hb) (fun c hc=>(hri c hc).2))
 have hR2:=cutR_ok (fun c hc=>(hri c hc).1:∀ c∈r,Cl.I64 c.n)
 have hRl:=cutR_len r
 obtain⟨la,lc,rfl,_⟩:=Gn.Rd.form h.rd
 generalize cutR r=R at *
 have HR2:=hZ hR2
 have HX0:Hid (HVW w a0 a1 (.slice none 0 0) (.slice none 0 0) [] [] (w.alloc (.cells #[.int .i64 a0,.int .i64 a1] 39))):=hZ
  ⟨Blk.new w _ _,Gn.Own.nil _ _,Gn.Own.nil _ _,fun y hy=>by simp at hy,fun y hy=>by simp at hy,fun g e=>(by cases e),box_new _ _⟩
 clear h hin T hr hri hR2
 go_enter Tryz.func4,Tryz.ntmps4
 go_wp2_with fail
 generalize w.alloc (.cells #[.int .i64 a0,.int .i64 a1] 39)=w0 at *
 obtain⟨g0,hg0⟩:∃ g,w.heap.size=g:=⟨_,rfl⟩
 have HGG:=hZ hg0
 rw [hg0]
 clear hg0
 go_loopw [7,8,9] (fun v1 v2 i wr=>∃ (q:Nat) (K M:List Sx),q≤L.length∧q≤66∧i=.int .i64 (q:Nat)∧Hid (sms K=fewL L q∧sms M=fewL L q)∧Hid (HVW w a0 a1 v1 v2 K M wr)) (fun _ _ i _=>L.length - (intOf i).toNat)
 case atStart=>exact⟨0,[],[],by omega,by omega,by rfl,hZ ⟨by simp [sms,fewL],by simp [sms,fewL]⟩,HX0⟩
 case round =>
  clear HX0
  obtain⟨q,K,M,hq,hq6,rfl,HKM,HX⟩:=hrel
  by_cases hlt:q < L.length
  ·have hlt1:(q:Int) < L.length:=by omega
   by_cases h6:q < 66
   ·have h61:(q:Int) < 66:=by omega
    obtain⟨x,hx⟩:∃ x,L[q]?=some x:=⟨_,List.getElem?_eq_getElem hlt⟩
    have hxm:=List.mem_of_getElem? hx
    have hKl:K.length=q:=by have:=congrArg List.length HKM.out.1;rw [sms_len] at this;unfold fewL at this;rw [List.length_map,List.length_take,sms_len] at this;omega
    have hMl:M.length=q:=by have:=congrArg List.length HKM.out.2;rw [sms_len] at this;unfold fewL at this;rw [List.length_map,List.length_take,sms_len] at this;omega
    obtain⟨S,hS⟩:∃ s,fewS x.s=s:=⟨_,rfl⟩
    have HF:Hid (∀ w1:World,Below w.heap.size w w1→Calls Tryz.prog 11 #[.agg #[x.v,x.kv]] w1 (FPost w1 S.1 S.2)):=hZ (fun w1 hb=>by
     rw [← hS]
     exact lFew12 x.v x.kv x.s.1 x.s.2 w1 ((HR.out.el x hxm).later hb).c ((HR.out.el x hxm).later hb).k (fun c hc=>((HIN.out x hxm).c c hc).2.2.2))
    have HNS:Hid (∀ y:Sx,y.s=S→sms (K++[y])=fewL L (q+1)∧sms (M++[y])=fewL L (q+1)):=hZ (fun y e=>by rw [sms_snoc,sms_snoc,e,HKM.out.1,HKM.out.2,fewL_succ hx,hS];exact⟨rfl,rfl⟩)
    obtain⟨gb,off,rfl,p0,p1⟩:=rdS_cells HR.out HX.out.b hx
    have HP:=hZ (fun (w1:World) (hb:Below w.heap.size w w1)=>(show w1.cell? ⟨gb,off+q * 2,none⟩=some x.v∧w1.cell? ⟨gb,off+q * 2+1,none⟩=some x.kv from by
     obtain⟨b',off',e',p'⟩:=rdS_cells HR.out hb hx
     injection e' with e'
     injection e' with e1 e2
     subst e1 e2
     exact p'))
    obtain⟨x1,x2,x3,x4,xs⟩:=x
    unfold Sx.v Sx.kv at *
    simp only at p0 p1 HF HNS HP
    clear hx hxm HKM hS
    go_wp2_with fail
    ((with_reducible refine (HF.out _ HX.out.b).mono ?_);rintro e w1 ⟨cv,kv,rfl,oc,ok,b1⟩)
    obtain⟨ca,cc,rfl⟩:=own_frmH oc
    obtain⟨ka,kc,rfl⟩:=own_frmH ok
    have HX1:=hZ (HX.out.later b1)
    have OY:=hZ (show OwnK w1 w.heap.size _ _∧OwnI w1 w.heap.size _ _ from ⟨Gn.Own.lower oc HX.out.b.size,Gn.Own.lower ok HX.out.b.size⟩)
    clear oc ok b1 p0 p1 HX
    go_wp2_with (at_builtin
                 refine Gn.wpList_app sxL sxY rfl (.tmp 26) (.tmp 32) rfl w.heap.size _ K rfl (HX1.out.later (box_new _ _)).o1 _ [(⟨ca,cc,ka,kc,S⟩:Sx)] rfl (rd_one 25 sxL w1 (⟨ca,cc,ka,kc,S⟩:Sx) _ rfl) (by simp;omega) (by have:=HX1.out.b.size;rw [World.size_alloc];omega) ?_
                 intro v5 w5 ho5 hg5 hl5 hn5
                 have HX5:=hZ (HVW.push (y:=(⟨ca,cc,ka,kc,S⟩:Sx)) (HX1.out.later (box_new w1 _)) ⟨Gn.Own.later OY.out.1 (box_new w1 _),Gn.Own.later OY.out.2 (box_new w1 _)⟩ ho5 hg5 hl5)
                 obtain⟨p2,p3⟩:=HP.out w5 HX5.out.b
                 clear ho5 hg5 hl5 hn5 HX1 OY)
    have HN1:=(HNS.out ⟨ca,cc,ka,kc,S⟩ rfl).1
    have HN1:=hZ HN1
    ((with_reducible refine (HF.out _ HX5.out.b).mono ?_);rintro e w6 ⟨cv,kv,rfl,oc,ok,b1⟩)
    obtain⟨ca2,cc2,rfl⟩:=own_frmH oc
    obtain⟨ka2,kc2,rfl⟩:=own_frmH ok
    have HX6:=hZ (HVW.swap (HX5.out.later b1))
    have OY6:=hZ (show OwnK w6 w.heap.size _ _∧OwnI w6 w.heap.size _ _ from ⟨Gn.Own.lower oc HX5.out.b.size,Gn.Own.lower ok HX5.out.b.size⟩)
    have HN2:=hZ (HNS.out ⟨ca2,cc2,ka2,kc2,S⟩ rfl).2
    clear oc ok b1 p2 p3 HX5 HNS
    go_wp2_with (at_builtin
                 refine Gn.wpList_app sxL sxY rfl (.tmp 34) (.tmp 40) rfl w.heap.size _ M rfl (HX6.out.later (box_new _ _)).o1 _ [(⟨ca2,cc2,ka2,kc2,S⟩:Sx)] rfl (rd_one 25 sxL w6 (⟨ca2,cc2,ka2,kc2,S⟩:Sx) _ rfl) (by simp;omega) (by have:=HX6.out.b.size;rw [World.size_alloc];omega) ?_
                 intro v7 w7 ho7 hg7 hl7 hn7
                 have HX7:=hZ (HVW.swap (HVW.push (y:=(⟨ca2,cc2,ka2,kc2,S⟩:Sx)) (HX6.out.later (box_new w6 _)) ⟨Gn.Own.later OY6.out.1 (box_new w6 _),Gn.Own.later OY6.out.2 (box_new w6 _)⟩ ho7 hg7 hl7))
                 clear ho7 hg7 hl7 hn7 HX6 OY6)
    go_roundw
    case rel=>exact⟨q+1,_,_,by omega,by omega,by go_num,hZ ⟨HN1.out,HN2.out⟩,HX7⟩
    case measure=>simp [intOf];omega
   ·have h61:¬ (q:Int) < 66:=by omega
    have HOK1:=hZ (fewL_ok HIN.out HKM.out.1)
    have HOK2:=hZ (fewL_ok HIN.out HKM.out.2)
    have HSM:=hZ (HKM.out.2.trans HKM.out.1.symm)
    have hKl:K.length≤66:=by have:=congrArg List.length HKM.out.1;rw [sms_len] at this;unfold fewL at this;rw [List.length_map,List.length_take,sms_len] at this;omega
    have hMl:M.length=K.length:=by have:=congrArg List.length HSM.out;rwa [sms_len,sms_len] at this
    have HML:=hZ hMl
    clear HKM HIN hMl
    obtain⟨ka,kc,rfl⟩:=own_frmH HX.out.o1
    obtain⟨ma,mc,rfl⟩:=own_frmH HX.out.o2
    go_wp2_with fail
    ((with_reducible refine (HCL.out _ HX.out.b).mono ?_);rintro e w1 ⟨u1,rfl,o1,b1⟩)
    have HX1:=hZ (HX.out.later b1)
    have O1:=hZ o1
    have HCR:=hZ (copyRow u1 R w1 (RdC.of o1) (by omega))
    clear b1 o1 HX
    go_wp2_with fail
    ((with_reducible refine HCR.out.mono ?_);rintro e w2 ⟨u2,rfl,o2,b2⟩)
    have HX2:=hZ (HX1.out.later b2)
    have O12:=hZ (Gn.Own.later O1.out b2)
    have O2:=hZ o2
    have hat:=HX2.out.x
    rw [HGG.out] at hat
    have z0:=hat.cell 0
    have z1:=hat.cell 1
    simp only [zD,zE] at z0 z1
    have HAT:=hZ hat
    obtain⟨A,hA⟩:∃ A,Ev.carry (sms K) a0 a1 R=A:=⟨_,rfl⟩
    have HAL:Hid (A.r.length≤1000000):=hZ (by
     rw [← hA]
     exact carry_len (fun s hs=>by obtain⟨y,hy,rfl⟩:=List.mem_map.1 hs;exact (HOK1.out y hy).n) (by omega))
    have HC1:=hZ (cCarryE (.slice ka K.length kc) K HOK1.out w2 (HT.out.later HX2.out.b) HX2.out.rd1 a0 a1 u1 R (RdC.of O12.out) (by omega) (fun c hc=>(HR2.out c hc).1) (fun c hc=>by have:=(HR2.out c hc).2;omega) A hA)
    have hA2:Ev.carry (sms M) a0 a1 R=A:=by rw [HSM.out];exact hA
    have HC2:=hZ (fun (w3:World) (b3:Below w2.heap.size w2 w3)=>rCarry12 (.slice ma M.length mc) M HOK2.out w3 (HX2.out.later b3).swap.rd1 a0 a1 u2 R (RdC.of (Gn.Own.later O2.out b3)) (by omega) (fun c hc=>by have:=(HR2.out c hc).2;omega) ha0 ha1 A hA2)
    clear b2 o2 HCR O1 HX1 hat hA hA2
    go_wp2_with fail
    ((with_reducible refine HC1.out.mono ?_);rintro e w3 ⟨u3,rfl,o3,b3⟩)
    have hat:=HAT.out.later b3
    have z0:=hat.cell 0
    have z1:=hat.cell 1
    simp only [zD,zE] at z0 z1
    have O3:=hZ o3
    have B3:=hZ b3
    have HC3:=hZ (HC2.out w3 b3)
    clear b3 o3 HC1 HC2 hat HAT
    go_wp2_with fail
    ((with_reducible refine HC3.out.mono ?_);rintro e w4 ⟨u4,rfl,o4,b4⟩)
    have B4:=hZ (up B3.out b4)
    have O34:=hZ (Gn.Own.later O3.out b4)
    have O4:=hZ o4
    obtain⟨d,hd⟩:∃ d,Ev.chain (sms K)=d:=⟨_,rfl⟩
    have HD1:=hZ (cChainE (.slice ka K.length kc) K HOK1.out w4 (HT.out.later (up HX2.out.b B4.out)) (HX2.out.later B4.out).rd1 d hd)
    have HD2:=hZ (fun (w5:World) (b5:Below w2.heap.size w2 w5)=>rChain12 (.slice ma M.length mc) M HOK2.out w5 (HX2.out.later b5).swap.rd1 d (by rw [HSM.out];exact hd))
    clear b4 o4 HC3 O3 B3 hd z0 z1
    go_wp2_with fail
    ((with_reducible refine HD1.out.mono ?_);rintro e w5 ⟨rfl,b5⟩)
    have B5:=hZ (up B4.out b5)
    have HD3:=hZ (HD2.out w5 B5.out)
    have O5:=hZ (Gn.Own.later O34.out b5)
    have O45:=hZ (Gn.Own.later O4.out b5)
    clear b5 HD1 HD2 B4 O34 O4
    go_wp2_with fail
    ((with_reducible refine HD3.out.mono ?_);rintro e w6 ⟨rfl,b6⟩)
    have B6:=hZ (up B5.out b6)
    have O6:=hZ (Gn.Own.later O5.out b6)
    have HE:=hZ (eqRow u3 u4 A.r A.r w6 (RdC.of (Gn.Own.later O5.out b6)) (RdC.of (Gn.Own.later O45.out b6)) HAL.out true (by simp))
    clear b6 HD3 B5 O5 O45
    go_wp2_with fail
    ((with_reducible refine HE.out.mono ?_);rintro e w7 ⟨rfl,b7⟩)
    have B7:=hZ (up B6.out b7)
    have O7:=hZ (Gn.Own.later O6.out b7)
    have HS:=hZ (lSpoil12 u3 A.r w2.heap.size w7 O7.out B7.out.size)
    clear b7 HE B6 O6
    go_wp2_with fail
    ((with_reducible refine HS.out.mono ?_);rintro e w8 ⟨rfl,t8⟩)
    have B8:=hZ (B7.out.trans (t8.below B7.out.size (fun i hi=>(O7.out.lt i hi).1)))
    clear t8 HS B7 O7 HAL
    go_wp2_with fail
    go_loopw [15] (fun i wr=>∃ (q:Nat),q≤K.length∧i=.int .i64 (q:Nat)∧Hid (Below w2.heap.size w2 wr)) (fun i _=>K.length - (intOf i).toNat)
    case atStart=>exact⟨0,by omega,by rfl,B8⟩
    case round =>
     clear B8
     obtain⟨p,hp,rfl,HB⟩:=hrel
     have HXB:=hZ (HX2.out.later HB.out)
     by_cases hlt:p < K.length
     ·have hlt1:(p:Int) < K.length:=by omega
      have hlt2:(p:Int) < M.length:=by rw [HML.out];exact hlt1
      obtain⟨y,hy⟩:∃ y,K[p]?=some y:=⟨_,List.getElem?_eq_getElem hlt⟩
      obtain⟨z,hz⟩:∃ z,M[p]?=some z:=⟨_,List.getElem?_eq_getElem (by rw [HML.out];exact hlt)⟩
      have hyz:y.s=z.s:=by
       have h1:=sms_at hy
       have h2:=sms_at hz
       rw [← HSM.out,h2] at h1
       injection h1 with h1
       exact h1.symm
      have hym:=List.mem_of_getElem? hy
      have hzm:=List.mem_of_getElem? hz
      obtain⟨gb,off,rfl,p0,p1⟩:=rdS_cells HXB.out.rd1 (Below.refl _ _) hy
      obtain⟨gc,of2,rfl,q0,q1⟩:=rdS_cells HXB.out.swap.rd1 (Below.refl _ _) hz
      have HSA:=hZ (fun (w9:World) (b9:Below wr.heap.size wr w9)=>rSame y.v z.v y.kv z.kv y.s.1 z.s.1 y.s.2 z.s.2 w9 (RdK.of (Gn.Own.later (HXB.out.e1 y hym).1 b9)) (RdK.of (Gn.Own.later (HXB.out.e2 z hzm).1 b9)) (RdI.of (Gn.Own.later (HXB.out.e1 y hym).2 b9)) (RdI.of (Gn.Own.later (HXB.out.e2 z hzm).2 b9)) true (by rw [hyz];simp))
      have HKY:=hZ (fun (w9:World) (b9:Below wr.heap.size wr w9)=>(show w9.cell? ⟨gb,off+p * 2,none⟩=some y.v∧w9.cell? ⟨gb,off+p * 2+1,none⟩=some y.kv from by
       obtain⟨b',off',e',p'⟩:=rdS_cells HXB.out.rd1 b9 hy
       injection e' with e'
       injection e' with e1 e2
       subst e1 e2
       exact p'))
      have HKZ:=hZ (fun (w9:World) (b9:Below wr.heap.size wr w9)=>(show w9.cell? ⟨gc,of2+p * 2,none⟩=some z.v∧w9.cell? ⟨gc,of2+p * 2+1,none⟩=some z.kv from by
       obtain⟨b',off',e',p'⟩:=rdS_cells HXB.out.swap.rd1 b9 hz
       injection e' with e'
       injection e' with e1 e2
       subst e1 e2
       exact p'))
      obtain⟨y1,y2,y3,y4,ys⟩:=y
      obtain⟨z1,z2,z3,z4,zs⟩:=z
      unfold Sx.v Sx.kv at *
      simp only at p0 p1 q0 q1 HSA HKY HKZ
      clear hy hz hyz hym hzm HXB
      go_wp2_with fail
      go_region_held3 (fun w'=>w'.cell? ⟨gb,off+p * 2,none⟩=some (.slice y1 ys.1.length y2)∧w'.cell? ⟨gb,off+p * 2+1,none⟩=some (.slice y3 ys.2.length y4)∧w'.cell? ⟨gc,of2+p * 2,none⟩=some (.slice z1 zs.1.length z2)∧w'.cell? ⟨gc,of2+p * 2+1,none⟩=some (.slice z3 zs.2.length z4)) (first|exact⟨p0,p1,q0,q1⟩|exact hSS)
       ((first|(go_at_call 21;refine (HSA.out _ (Below.refl _ _).drew).mono ?_;rintro e w9 ⟨rfl,b9⟩;have b9':Below wr.heap.size wr w9:=(by first|exact b9|exact⟨b9.os,b9.tape,b9.output,b9.size,b9.block⟩);have hSS:=(⟨(HKY.out w9 b9').1,(HKY.out w9 b9').2,(HKZ.out w9 b9').1,(HKZ.out w9 b9').2⟩:_∧_∧_∧_);have HB9:=hZ (up HB.out b9');clear b9 b9')))
      all_goals
       go_wp2_with fail
       go_roundw
       case rel=>exact⟨p+1,by omega,by go_num,HB9⟩
       case measure=>simp [intOf];omega
     ·obtain rfl:p=K.length:=by omega
      have hlt1:¬ (K.length:Int) < K.length:=by omega
      have HE:=hZ (eqRow u1 u2 R R wr (RdC.of (Gn.Own.later O12.out HB.out)) (RdC.of (Gn.Own.later O2.out HB.out)) (by omega) true (by simp))
      have HWK:=hZ (fun (w9:World) (b9:Below wr.heap.size wr w9)=>works12 w9 (HT.out.later (up HX2.out.b (up HB.out b9))))
      have HB0:=hZ (up HX2.out.b HB.out)
      clear HXB HX2 O12 O2 HB
      go_wp2_with fail
      ((with_reducible refine HE.out.mono ?_);rintro e wa ⟨rfl,ba⟩)
      have HWA:=hZ (HWK.out wa ba)
      have HBA:=hZ (up HB0.out ba)
      clear ba HE HWK HB0
      go_wp2_with fail
      ((with_reducible refine HWA.out.mono ?_);rintro e wb ⟨rfl,bb⟩)
      go_wp2_with fail
      go_ret
      exact⟨by simp,up HBA.out bb⟩
  ·have hlt1:¬ (q:Int) < L.length:=by omega
   have HOK1:=hZ (fewL_ok HIN.out HKM.out.1)
   have HOK2:=hZ (fewL_ok HIN.out HKM.out.2)
   have HSM:=hZ (HKM.out.2.trans HKM.out.1.symm)
   have hKl:K.length≤66:=by have:=congrArg List.length HKM.out.1;rw [sms_len] at this;unfold fewL at this;rw [List.length_map,List.length_take,sms_len] at this;omega
   have hMl:M.length=K.length:=by have:=congrArg List.length HSM.out;rwa [sms_len,sms_len] at this
   have HML:=hZ hMl
   clear HKM HIN hMl
   obtain⟨ka,kc,rfl⟩:=own_frmH HX.out.o1
   obtain⟨ma,mc,rfl⟩:=own_frmH HX.out.o2
   go_wp2_with fail
   ((with_reducible refine (HCL.out _ HX.out.b).mono ?_);rintro e w1 ⟨u1,rfl,o1,b1⟩)
   have HX1:=hZ (HX.out.later b1)
   have O1:=hZ o1
   have HCR:=hZ (copyRow u1 R w1 (RdC.of o1) (by omega))
   clear b1 o1 HX
   go_wp2_with fail
   ((with_reducible refine HCR.out.mono ?_);rintro e w2 ⟨u2,rfl,o2,b2⟩)
   have HX2:=hZ (HX1.out.later b2)
   have O12:=hZ (Gn.Own.later O1.out b2)
   have O2:=hZ o2
   have hat:=HX2.out.x
   rw [HGG.out] at hat
   have z0:=hat.cell 0
   have z1:=hat.cell 1
   simp only [zD,zE] at z0 z1
   have HAT:=hZ hat
   obtain⟨A,hA⟩:∃ A,Ev.carry (sms K) a0 a1 R=A:=⟨_,rfl⟩
   have HAL:Hid (A.r.length≤1000000):=hZ (by
    rw [← hA]
    exact carry_len (fun s hs=>by obtain⟨y,hy,rfl⟩:=List.mem_map.1 hs;exact (HOK1.out y hy).n) (by omega))
   have HC1:=hZ (cCarryE (.slice ka K.length kc) K HOK1.out w2 (HT.out.later HX2.out.b) HX2.out.rd1 a0 a1 u1 R (RdC.of O12.out) (by omega) (fun c hc=>(HR2.out c hc).1) (fun c hc=>by have:=(HR2.out c hc).2;omega) A hA)
   have hA2:Ev.carry (sms M) a0 a1 R=A:=by rw [HSM.out];exact hA
   have HC2:=hZ (fun (w3:World) (b3:Below w2.heap.size w2 w3)=>rCarry12 (.slice ma M.length mc) M HOK2.out w3 (HX2.out.later b3).swap.rd1 a0 a1 u2 R (RdC.of (Gn.Own.later O2.out b3)) (by omega) (fun c hc=>by have:=(HR2.out c hc).2;omega) ha0 ha1 A hA2)
   clear b2 o2 HCR O1 HX1 hat hA hA2
   go_wp2_with fail
   ((with_reducible refine HC1.out.mono ?_);rintro e w3 ⟨u3,rfl,o3,b3⟩)
   have hat:=HAT.out.later b3
   have z0:=hat.cell 0
   have z1:=hat.cell 1
   simp only [zD,zE] at z0 z1
   have O3:=hZ o3
   have B3:=hZ b3
   have HC3:=hZ (HC2.out w3 b3)
   clear b3 o3 HC1 HC2 hat HAT
   go_wp2_with fail
   ((with_reducible refine HC3.out.mono ?_);rintro e w4 ⟨u4,rfl,o4,b4⟩)
   have B4:=hZ (up B3.out b4)
   have O34:=hZ (Gn.Own.later O3.out b4)
   have O4:=hZ o4
   obtain⟨d,hd⟩:∃ d,Ev.chain (sms K)=d:=⟨_,rfl⟩
   have HD1:=hZ (cChainE (.slice ka K.length kc) K HOK1.out w4 (HT.out.later (up HX2.out.b B4.out)) (HX2.out.later B4.out).rd1 d hd)
   have HD2:=hZ (fun (w5:World) (b5:Below w2.heap.size w2 w5)=>rChain12 (.slice ma M.length mc) M HOK2.out w5 (HX2.out.later b5).swap.rd1 d (by rw [HSM.out];exact hd))
   clear b4 o4 HC3 O3 B3 hd z0 z1
   go_wp2_with fail
   ((with_reducible refine HD1.out.mono ?_);rintro e w5 ⟨rfl,b5⟩)
   have B5:=hZ (up B4.out b5)
   have HD3:=hZ (HD2.out w5 B5.out)
   have O5:=hZ (Gn.Own.later O34.out b5)
   have O45:=hZ (Gn.Own.later O4.out b5)
   clear b5 HD1 HD2 B4 O34 O4
   go_wp2_with fail
   ((with_reducible refine HD3.out.mono ?_);rintro e w6 ⟨rfl,b6⟩)
   have B6:=hZ (up B5.out b6)
   have O6:=hZ (Gn.Own.later O5.out b6)
   have HE:=hZ (eqRow u3 u4 A.r A.r w6 (RdC.of (Gn.Own.later O5.out b6)) (RdC.of (Gn.Own.later O45.out b6)) HAL.out true (by simp))
   clear b6 HD3 B5 O5 O45
   go_wp2_with fail
   ((with_reducible refine HE.out.mono ?_);rintro e w7 ⟨rfl,b7⟩)
   have B7:=hZ (up B6.out b7)
   have O7:=hZ (Gn.Own.later O6.out b7)
   have HS:=hZ (lSpoil12 u3 A.r w2.heap.size w7 O7.out B7.out.size)
   clear b7 HE B6 O6
   go_wp2_with fail
   ((with_reducible refine HS.out.mono ?_);rintro e w8 ⟨rfl,t8⟩)
   have B8:=hZ (B7.out.trans (t8.below B7.out.size (fun i hi=>(O7.out.lt i hi).1)))
   clear t8 HS B7 O7 HAL
   go_wp2_with fail
   go_loopw [15] (fun i wr=>∃ (q:Nat),q≤K.length∧i=.int .i64 (q:Nat)∧Hid (Below w2.heap.size w2 wr)) (fun i _=>K.length - (intOf i).toNat)
   case atStart=>exact⟨0,by omega,by rfl,B8⟩
   case round =>
    clear B8
    obtain⟨p,hp,rfl,HB⟩:=hrel
    have HXB:=hZ (HX2.out.later HB.out)
    by_cases hlt:p < K.length
    ·have hlt1:(p:Int) < K.length:=by omega
     have hlt2:(p:Int) < M.length:=by rw [HML.out];exact hlt1
     obtain⟨y,hy⟩:∃ y,K[p]?=some y:=⟨_,List.getElem?_eq_getElem hlt⟩
     obtain⟨z,hz⟩:∃ z,M[p]?=some z:=⟨_,List.getElem?_eq_getElem (by rw [HML.out];exact hlt)⟩
     have hyz:y.s=z.s:=by
      have h1:=sms_at hy
      have h2:=sms_at hz
      rw [← HSM.out,h2] at h1
      injection h1 with h1
      exact h1.symm
     have hym:=List.mem_of_getElem? hy
     have hzm:=List.mem_of_getElem? hz
     obtain⟨gb,off,rfl,p0,p1⟩:=rdS_cells HXB.out.rd1 (Below.refl _ _) hy
     obtain⟨gc,of2,rfl,q0,q1⟩:=rdS_cells HXB.out.swap.rd1 (Below.refl _ _) hz
     have HSA:=hZ (fun (w9:World) (b9:Below wr.heap.size wr w9)=>rSame y.v z.v y.kv z.kv y.s.1 z.s.1 y.s.2 z.s.2 w9 (RdK.of (Gn.Own.later (HXB.out.e1 y hym).1 b9)) (RdK.of (Gn.Own.later (HXB.out.e2 z hzm).1 b9)) (RdI.of (Gn.Own.later (HXB.out.e1 y hym).2 b9)) (RdI.of (Gn.Own.later (HXB.out.e2 z hzm).2 b9)) true (by rw [hyz];simp))
     have HKY:=hZ (fun (w9:World) (b9:Below wr.heap.size wr w9)=>(show w9.cell? ⟨gb,off+p * 2,none⟩=some y.v∧w9.cell? ⟨gb,off+p * 2+1,none⟩=some y.kv from by
      obtain⟨b',off',e',p'⟩:=rdS_cells HXB.out.rd1 b9 hy
      injection e' with e'
      injection e' with e1 e2
      subst e1 e2
      exact p'))
     have HKZ:=hZ (fun (w9:World) (b9:Below wr.heap.size wr w9)=>(show w9.cell? ⟨gc,of2+p * 2,none⟩=some z.v∧w9.cell? ⟨gc,of2+p * 2+1,none⟩=some z.kv from by
      obtain⟨b',off',e',p'⟩:=rdS_cells HXB.out.swap.rd1 b9 hz
      injection e' with e'
      injection e' with e1 e2
      subst e1 e2
      exact p'))
     obtain⟨y1,y2,y3,y4,ys⟩:=y
     obtain⟨z1,z2,z3,z4,zs⟩:=z
     unfold Sx.v Sx.kv at *
     simp only at p0 p1 q0 q1 HSA HKY HKZ
     clear hy hz hyz hym hzm HXB
     go_wp2_with fail
     go_region_held3 (fun w'=>w'.cell? ⟨gb,off+p * 2,none⟩=some (.slice y1 ys.1.length y2)∧w'.cell? ⟨gb,off+p * 2+1,none⟩=some (.slice y3 ys.2.length y4)∧w'.cell? ⟨gc,of2+p * 2,none⟩=some (.slice z1 zs.1.length z2)∧w'.cell? ⟨gc,of2+p * 2+1,none⟩=some (.slice z3 zs.2.length z4)) (first|exact⟨p0,p1,q0,q1⟩|exact hSS)
      ((first|(go_at_call 21;refine (HSA.out _ (Below.refl _ _).drew).mono ?_;rintro e w9 ⟨rfl,b9⟩;have b9':Below wr.heap.size wr w9:=(by first|exact b9|exact⟨b9.os,b9.tape,b9.output,b9.size,b9.block⟩);have hSS:=(⟨(HKY.out w9 b9').1,(HKY.out w9 b9').2,(HKZ.out w9 b9').1,(HKZ.out w9 b9').2⟩:_∧_∧_∧_);have HB9:=hZ (up HB.out b9');clear b9 b9')))
     all_goals
      go_wp2_with fail
      go_roundw
      case rel=>exact⟨p+1,by omega,by go_num,HB9⟩
      case measure=>simp [intOf];omega
    ·obtain rfl:p=K.length:=by omega
     have hlt1:¬ (K.length:Int) < K.length:=by omega
     have HE:=hZ (eqRow u1 u2 R R wr (RdC.of (Gn.Own.later O12.out HB.out)) (RdC.of (Gn.Own.later O2.out HB.out)) (by omega) true (by simp))
     have HWK:=hZ (fun (w9:World) (b9:Below wr.heap.size wr w9)=>works12 w9 (HT.out.later (up HX2.out.b (up HB.out b9))))
     have HB0:=hZ (up HX2.out.b HB.out)
     clear HXB HX2 O12 O2 HB
     go_wp2_with fail
     ((with_reducible refine HE.out.mono ?_);rintro e wa ⟨rfl,ba⟩)
     have HWA:=hZ (HWK.out wa ba)
     have HBA:=hZ (up HB0.out ba)
     clear ba HE HWK HB0
     go_wp2_with fail
     ((with_reducible refine HWA.out.mono ?_);rintro e wb ⟨rfl,bb⟩)
     go_wp2_with fail
     go_ret
     exact⟨by simp,up HBA.out bb⟩
end Go.Proofs.YtenfjmdajlhfoabGreatDoor
