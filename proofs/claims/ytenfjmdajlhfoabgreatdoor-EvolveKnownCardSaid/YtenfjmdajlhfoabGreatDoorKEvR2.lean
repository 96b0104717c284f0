/- Texts. -/
import Derived.Deep.DeepCutAuto
import Derived.Deep.CutBlock
import Derived.BigRegion
import Derived.Test.YtenfjmdajlhfoabGreatDoorKEvR1
import Derived.Test.YtenfjmdajlhfoabGreatDoorKEvd
set_option maxHeartbeats 8000000
namespace Go.Proofs.YtenfjmdajlhfoabGreatDoor
open Go.RowKit
set_option linter.unusedVariables false
set_option linter.unusedSimpArgs false
set_option maxRecDepth 100000
def lFew12C (l:List Co):List Co:=(l.take 34).map cutK
theorem lFew12 (v kv:Value) (l:List Co) (ks:List Int) (w:World) (h:RdK w w.heap.size v l) (hk:RdI w w.heap.size kv ks) (hs:∀ c∈l,c.nm.size≤maxLen∧c.d.s.size≤maxLen) :
 Calls Tryz.prog 11 #[.agg #[v,kv]] w fun e w'=>FPost w (lFew12C l) (ks.take 10) e w':=by
 have hml:=Gn.Rd.len' h
 have hmk:=Gn.Rd.len' hk
 have hr:=h
 have hrk:=hk
 obtain⟨a,c,rfl,hc,_⟩:=Gn.Rd.form h
 obtain⟨ka,kc,rfl,hkc,_⟩:=Gn.Rd.form hk
 have hru:=rd_to (m:=(min (l.length:Int) 34).toNat) h (by omega)
 have hrk:=rd_to (m:=(min (ks.length:Int) 10).toNat) hk (by omega)
 rw [take_min l 34 34 rfl] at hru
 rw [take_min ks 10 10 rfl] at hrk
 obtain⟨l0,hl0⟩:∃ l0,l.take 34=l0:=⟨_,rfl⟩
 obtain⟨k0,hk0⟩:∃ k0,ks.take 10=k0:=⟨_,rfl⟩
 have hll:l0.length≤34:=by rw [← hl0,List.length_take];omega
 have hlk:k0.length≤10:=by rw [← hk0,List.length_take];omega
 have HS:Hid (∀ c∈l0,c.nm.size≤maxLen∧c.d.s.size≤maxLen):=hZ (fun c hc=>hs c (by rw [← hl0] at hc;exact List.mem_of_mem_take hc))
 have HC:Hid (lFew12C l=l0.map cutK):=hZ (by unfold lFew12C;rw [hl0])
 rw [HC.out,hk0]
 rw [hl0] at hru
 rw [hk0] at hrk
 have b1:=box_new w (.cells #[.slice a l.length c,.slice ka ks.length kc] 25)
 have b2:=box_new (w.alloc (.cells #[.slice a l.length c,.slice ka ks.length kc] 25)) (.cells #[.slice none 0 0,.slice none 0 0] 25)
 have HB:=hZ (up b1 b2)
 have HX:=hZ ((Blk.new w 25 #[.slice a l.length c,.slice ka ks.length kc]).later b2)
 have HY:=hZ (Blk.new (w.alloc (.cells #[.slice a l.length c,.slice ka ks.length kc] 25)) 25 #[nilS,nilS])
 rw [show (w.alloc (.cells #[.slice a l.length c,.slice ka ks.length kc] 25)).heap.size=w.heap.size+1 by simp] at HY
 unfold nilS at HY
 have HSZ:Hid (((w.alloc (.cells #[.slice a l.length c,.slice ka ks.length kc] 25)).alloc (.cells #[.slice none 0 0,.slice none 0 0] 25)).heap.size=w.heap.size+2):=hZ (by simp)
 have HR:=hZ ((hru.later b1).later b2)
 have HRK0:=hZ hrk
 clear h hk hr hru hrk hs hl0 hk0 b1 b2 HC
 go_enter Tryz.func11,Tryz.ntmps11
 go_upto_region 1 with fail
 generalize (w.alloc (.cells #[.slice a l.length c,.slice ka ks.length kc] 25)).alloc (.cells #[.slice none 0 0,.slice none 0 0] 25)=w2 at *
 have x0:=HX.out.cell 0
 have x1:=HX.out.cell 1
 simp only [zD,zE] at x0 x1
 have HCC:=hZ (copyCols _ l0 w2 HR.out (by omega))
 go_wp2_with fail
 ((with_reducible refine HCC.out.mono ?_);rintro e w3 ⟨v3,rfl,ho,hb⟩)
 have hsz:w2.heap.size=w.heap.size+2:=HSZ.out
 have HO3:Hid (OwnK w3 (w.heap.size+2) v3 l0):=hZ (by rw [← hsz];exact ho)
 have HB3:=hZ (HB.out.trans (hb.mono (by omega)))
 have HX3:=hZ (HX.out.later hb)
 have HY3:=hZ (HY.out.later hb)
 have hs3:w.heap.size+2≤w3.heap.size:=by have:=hb.size;omega
 have x0:=HX3.out.cell 0
 have x1:=HX3.out.cell 1
 have x2:=HX3.out.frozen 0
 simp only [zD,zE] at x0 x1
 clear ho hb HB HX HY HR HCC HSZ hsz
 obtain⟨va3,vc3,rfl,_⟩:=Gn.Rd.form (RdK.of HO3.out)
 go_upto_region 2 with fail
 generalize HW4:w3.setCell ⟨w.heap.size,0,none⟩ (.slice va3 l0.length vc3)=W4 at *
 have HX4:Hid (Blk W4 w.heap.size 25 [.slice va3 l0.length vc3,.slice ka ks.length kc]):=hZ (by rw [← HW4];exact Blk.put HX3.out 0 _)
 have HY4:Hid (Blk W4 (w.heap.size+1) 25 [.slice none 0 0,.slice none 0 0]):=hZ (by rw [← HW4];exact HY3.out.far (by simp only;omega) _)
 have HB4:Hid (Below w.heap.size w W4):=hZ (by rw [← HW4];exact HB3.out.setCell (by simp only;omega) _)
 have HO4:Hid (OwnK W4 (w.heap.size+2) (.slice va3 l0.length vc3) l0):=hZ (by rw [← HW4];exact own_far HO3.out (by simp only;omega) _)
 have hs4:w.heap.size+2≤W4.heap.size:=by rw [← HW4];simpa using hs3
 have hrk4:RdI W4 W4.heap.size (.slice ka (min (ks.length:Int) 10).toNat kc) k0:=(Gn.Rd.below HRK0.out HB4.out (Nat.le_refl _)).more HB4.out.size
 have HRK4:=hZ hrk4
 clear x0 x1 x2 HX3 HY3 HB3 HO3 HW4
 have x0:=HX4.out.cell 0
 have x1:=HX4.out.cell 1
 simp only [zD,zE] at x0 x1
 have HCI:=hZ (copyInts _ k0 W4 HRK4.out (by omega))
 go_wp2_with fail
 ((with_reducible refine HCI.out.mono ?_);rintro e w5 ⟨v5,rfl,ho,hb⟩)
 have HX5:=hZ (HX4.out.later hb)
 have HY5:=hZ (HY4.out.later hb)
 have HB5:=hZ (HB4.out.trans (hb.mono (by omega)))
 have HO5:=hZ (Gn.Own.later HO4.out hb)
 have HI5:Hid (OwnI w5 (w.heap.size+2) v5 k0):=hZ (Gn.Own.lower ho hs4)
 have hs5:w.heap.size+2≤w5.heap.size:=by have:=hb.size;omega
 have x0:=HX5.out.cell 0
 have x1:=HX5.out.cell 1
 have x2:=HX5.out.frozen 1
 simp only [zD,zE] at x0 x1
 clear ho hb HX4 HY4 HB4 HO4 HRK4 HCI hrk4 HRK0
 obtain⟨va5,vc5,rfl,_⟩:=Gn.Rd.form (RdI.of HI5.out)
 go_wp2_with fail
 generalize HW6:w5.setCell ⟨w.heap.size,1,none⟩ (.slice va5 k0.length vc5)=W6 at *
 have HF:Hid (FW w l0 k0 (.slice va3 l0.length vc3) (.slice va5 k0.length vc5) W6):=hZ (by
  rw [← HW6]
  exact⟨Blk.put HX5.out 1 _,HY5.out.far (by simp only;omega) _,own_far HO5.out (by simp only;omega) _,own_far HI5.out (by simp only;omega) _,HB5.out.setCell (by simp only;omega) _,by simpa using hs5⟩)
 clear HX5 HY5 HB5 HO5 HI5 x0 x1 x2 HW6 hs5 hs4 hs3
 have hl0:((l0.length:Nat):Int)≤34:=by omega
 go_loopw [3] (fun i wr=>∃ k:Nat,k≤l0.length∧i=.int .i64 (k:Nat)∧Hid (FW w (mixK k l0) k0 (.slice va3 l0.length vc3) (.slice va5 k0.length vc5) wr)) (fun i _=>l0.length - (intOf i).toNat)
 case atStart=>exact⟨0,by omega,by rfl,by rw [mixK_zero];exact HF⟩
 case round =>
  obtain⟨k,hk,rfl,HK⟩:=hrel
  have s0:=HK.out.s.cell 0
  have s1:=HK.out.s.cell 1
  simp only [zD,zE] at s0 s1
  by_cases hlt:k < l0.length
  ·have hlt1:(k:Int) < l0.length:=by omega
   obtain⟨x,hx⟩:∃ x,l0[k]?=some x:=⟨_,List.getElem?_eq_getElem hlt⟩
   have HST:=hZ (mixK_set hx)
   have hzs:=HS.out x (List.mem_of_getElem? hx)
   have hform:∃ g,va3=some ⟨g,0,none⟩:=by
    rcases HK.out.oc.2 with ⟨h1,_⟩|⟨g,cap,cur,h1,_⟩
    ·injection h1 with _ h2 _;omega
    ·injection h1 with h2 _ _;exact⟨g,h2⟩
   obtain⟨gb,rfl⟩:=hform
   obtain⟨gb',off,hgo,p0,p1,p2,p3,p4,p5,p6⟩:=rdK_cells (RdK.of HK.out.oc) (Below.refl _ _) (mixK_at hx)
   injection hgo with hgo
   injection hgo with hg1 hg2 _
   subst hg1 hg2
   simp only [Nat.zero_add] at p0 p1 p2 p3 p4 p5 p6
   unfold maxLen at hzs
   have HS2:=hZ (fun w=>slice_cut x.nm 40 (by omega) (by omega) w)
   have HS3:=hZ (fun w=>slice_cut x.d.s 1100 (by omega) (by omega) w)
   obtain⟨s2,hs2⟩:∃ s2,cutN x.nm 40=s2:=⟨_,rfl⟩
   obtain⟨s3,hs3⟩:∃ s3,cutN x.d.s 1100=s3:=⟨_,rfl⟩
   have HCK:Hid (cutK x=⟨x.id,s2,x.k,x.u,⟨x.d.u,x.d.n,s3⟩⟩):=hZ (by unfold cutK;rw [hs2,hs3])
   rw [hs2] at HS2
   rw [hs3] at HS3
   obtain⟨xi,xm,xk,xu,⟨xa,xb,xc⟩⟩:=x
   simp only at p0 p1 p2 p3 p4 p5 p6 HS2 HS3 HCK hzs
   have bq:=box_new wr (.cells #[.int .i64 xi,.string xm,.int .i64 xk,.bool xu,.bool xa,.int .i64 xb,.string xc] 63)
   have HVQ:=hZ (Blk.new wr 63 #[.int .i64 xi,.string xm,.int .i64 xk,.bool xu,.bool xa,.int .i64 xb,.string xc])
   have HKQ:=hZ (HK.out.later bq)
   have HGQ:=hZ (And.intro (fun g hg=>(HK.out.oc.lt g hg).2) (fun g hg=>(HK.out.ok.lt g hg).2))
   have HSQ:=hZ HK.out.sz
   clear hx hs2 hs3 bq HK
   go_upto_region 7 with fail
   generalize hgq:wr.heap.size=gq at *
   generalize wr.alloc (.cells #[.int .i64 xi,.string xm,.int .i64 xk,.bool xu,.bool xa,.int .i64 xb,.string xc] 63)=wq at *
   clear p0 p1 p2 p3 p4 p5 p6 s0 s1
   have v1:=HVQ.out.cell 1
   have v6:=HVQ.out.cell 6
   have f1:=HVQ.out.frozen 1
   have f6:=HVQ.out.frozen 6
   simp only [zD,zE] at v1 v6
   have t2:=HS2.out wq
   have t3:=HS3.out (wq.setCell ⟨gq,1,none⟩ (.string s2))
   go_upto_region 9 with fail
   have ht:=(((Touch.refl (fun q=>q=gq) wq).setCell (p:=⟨gq,1,none⟩) rfl (.string s2)).setCell (p:=⟨gq,6,none⟩) rfl (.string s3))
   have HK9:=hZ (HKQ.out.touch ht (fun q hq=>by have:=HSQ.out;rw [hq];exact this) (fun g hg=>by have:=HGQ.out.1 g hg;intro e;omega) (fun g hg=>by have:=HGQ.out.2 g hg;intro e;omega))
   have HV9:=hZ (Blk.put (Blk.put HVQ.out 1 (.string s2)) 6 (.string s3))
   clear ht v1 v6 f1 f6 t2 t3 HVQ HKQ
   generalize (wq.setCell ⟨gq,1,none⟩ (.string s2)).setCell ⟨gq,6,none⟩ (.string s3)=w9 at *
   have v0:=HV9.out.cell 0
   have v1:=HV9.out.cell 1
   have v2:=HV9.out.cell 2
   have v3:=HV9.out.cell 3
   have v4:=HV9.out.cell 4
   have v5:=HV9.out.cell 5
   have v6:=HV9.out.cell 6
   have s0:=HK9.out.s.cell 0
   simp only [zD,zE,List.set_cons_succ,List.set_cons_zero] at v0 v1 v2 v3 v4 v5 v6 s0
   have hth:=own_there7 HK9.out.oc (mixK_len k l0) hlt
   have hx9:∃ y,(mixK k l0)[k]?=some y:=⟨_,List.getElem?_eq_getElem (by rw [mixK_len];exact hlt)⟩
   obtain⟨y,hy⟩:=hx9
   obtain⟨gb',off',hgo,p0,p1,p2,p3,p4,p5,p6⟩:=rdK_cells (RdK.of HK9.out.oc) (Below.refl _ _) hy
   injection hgo with hgo
   injection hgo with hg1 hg2 _
   subst hg1 hg2
   simp only [Nat.zero_add] at p0 p1 p2 p3 p4 p5 p6
   have q0:=(hth 0 (by omega)).2
   have q1:=(hth 1 (by omega)).2
   have q2:=(hth 2 (by omega)).2
   have q3:=(hth 3 (by omega)).2
   have q4:=(hth 4 (by omega)).2
   have q5:=(hth 5 (by omega)).2
   have q6:=(hth 6 (by omega)).2
   simp only [Nat.add_zero] at q0
   have HFI:=hZ (HK9.out.put (mixK_len k l0) hlt ⟨xi,s2,xk,xu,⟨xa,xb,s3⟩⟩)
   have HLT:=hZ hlt
   clear hth hy HK9 HV9 HS2 HS3
   go_wp2_with fail
   go_roundw
   case rel=>exact⟨k+1,HLT.out,by go_num,hZ (by rw [← HST.out,HCK.out];exact HFI.out)⟩
   case measure=>have:=HLT.out;simp [intOf];omega
  ·have hlt1:¬ (k:Int) < l0.length:=by omega
   obtain rfl:k=l0.length:=by omega
   have f0:=HK.out.r.cell 0
   have f1:=HK.out.r.cell 1
   have f2:=HK.out.r.frozen 0
   have f3:=HK.out.r.frozen 1
   simp only [zD,zE,nilS] at f0 f1
   have HRS:=hZ (Blk.put (Blk.put HK.out.r 0 (.slice va3 l0.length vc3)) 1 (.slice va5 k0.length vc5))
   have HO1:=hZ (own_far (own_far HK.out.oc (p:=⟨w.heap.size+1,0,none⟩) (by simp only;omega) (.slice va3 l0.length vc3)) (p:=⟨w.heap.size+1,1,none⟩) (by simp only;omega) (.slice va5 k0.length vc5))
   have HO2:=hZ (own_far (own_far HK.out.ok (p:=⟨w.heap.size+1,0,none⟩) (by simp only;omega) (.slice va3 l0.length vc3)) (p:=⟨w.heap.size+1,1,none⟩) (by simp only;omega) (.slice va5 k0.length vc5))
   have HBE:=hZ ((HK.out.b.setCell (p:=⟨w.heap.size+1,0,none⟩) (by simp only;omega) (.slice va3 l0.length vc3)).setCell (p:=⟨w.heap.size+1,1,none⟩) (by simp only;omega) (.slice va5 k0.length vc5))
   rw [mixK_all] at HO1
   clear HK
   go_wp2_with fail
   exact bodyPost_ret (retSf rfl _ _ (w.heap.size+1) (.slice va3 l0.length vc3) (.slice va5 k0.length vc5) rfl HRS.out) rfl ⟨_,_,rfl,Gn.Own.lower HO1.out (by omega),Gn.Own.lower HO2.out (by omega),HBE.out⟩
theorem copyRow (v:Value) (l:List Cl.C) (w:World) (h:RdC w w.heap.size v l) (hl:l.length≤1000000) :
 Calls Tryz.prog 14 #[v] w fun e w'=>∃ v',e=.returned v'∧OwnC w' w.heap.size v' l∧Below w.heap.size w w':=by
 have HR:=hZ h
 have HO:Hid (OwnC w w.heap.size (.slice none 0 0) []):=hZ (Gn.Own.nil _ _)
 clear h
 go_enter Tryz.func14,Tryz.ntmps14
 go_wp2_with (at_builtin
              refine Gn.wpList_app clL clY rfl (.tmp 4) (.tmp 5) rfl w.heap.size (.slice none 0 0) [] rfl HO.out v l rfl HR.out (by simp;omega) (Nat.le_refl _) ?_
              intro v1 w1 ho1 hg1 hl1 hn1)
 go_ret
 exact⟨_,rfl,ho1,Gn.below_of_own HO.out hg1 (Nat.le_refl _)⟩
def mixC (k:Nat) (l:List Cl.C):List Cl.C:=(l.take k).map cutC++l.drop k
theorem mixC_len (k:Nat) (l:List Cl.C):(mixC k l).length=l.length:=by unfold mixC;simp;omega
theorem mixC_at {k:Nat} {l:List Cl.C} {x:Cl.C} (h:l[k]?=some x):(mixC k l)[k]?=some x:=by
 have hk:=(List.getElem?_eq_some_iff.1 h).1
 unfold mixC
 rw [List.getElem?_append_right (by simp;omega)]
 simp [show k - min k l.length=0 by omega,h]
theorem mixC_set {k:Nat} {l:List Cl.C} {x:Cl.C} (h:l[k]?=some x):(mixC k l).set k (cutC x)=mixC (k+1) l:=by
 have hk:=(List.getElem?_eq_some_iff.1 h).1
 unfold mixC
 have hl:((l.take k).map cutC).length=k:=by simp;omega
 rw [List.set_append_right _ _ (by omega),hl,Nat.sub_self,List.take_add_one,h,List.drop_eq_getElem_cons hk]
 have e:l[k]=x:=by rw [List.getElem?_eq_getElem hk] at h;injection h
 simp [e]
theorem mixC_zero (l:List Cl.C):mixC 0 l=l:=by simp [mixC]
theorem mixC_all (l:List Cl.C):mixC l.length l=l.map cutC:=by simp [mixC]
theorem clc_setS:∀ (l:List Cl.C) (i:Nat) (x:Cl.C) (s:ByteArray),l[i]?=some x→(Gn.cells clc l).set (i * 3+2) (.string s)=Gn.cells clc (l.set i ⟨x.u,x.n,s⟩)
 | [],i,x,s,h=>by simp at h
 | z::t,0,x,s,h=>by
  injection h with h;subst h;rfl
 | z::t,i+1,x,s,h=>by
  have ih:=clc_setS t i x s (by simpa using h)
  rw [List.set_cons_succ,Gn.cells_cons,Gn.cells_cons,← ih,show (i+1) * 3+2=i * 3+2+3 by omega]
  rfl
theorem own_putS {w:World} {base g n cap i:Nat} {l:List Cl.C} (h:OwnC w base (.slice (some ⟨g,0,none⟩) n cap) l) (hn:l.length=n) {x:Cl.C} (hx:l[i]?=some x) (s:ByteArray) :
 OwnC (w.setCell ⟨g,i * 3+2,none⟩ (.string s)) base (.slice (some ⟨g,0,none⟩) n cap) (l.set i ⟨x.u,x.n,s⟩):=by
 unfold OwnC Gn.Own at h ⊢
 rw [List.length_set]
 rw [hn] at h ⊢
 have h3:=(h.stored (i * 3+2) (.string s)).1
 rw [clc_setS l i x s hx] at h3
 exact h3
theorem lCells12 (v:Value) (l:List Cl.C) (w:World) (h:RdC w w.heap.size v l) (hs:∀ c∈l,c.s.size≤maxLen) :
 Calls Tryz.prog 12 #[v] w fun e w'=>∃ v',e=.returned v'∧OwnC w' w.heap.size v' (cutR l)∧Below w.heap.size w w':=by
 have hr:=h
 obtain⟨a,c,rfl,hc,_⟩:=Gn.Rd.form h
 have hml:=Gn.Rd.len' h
 have hru:=rd_to (m:=(min (l.length:Int) 40).toNat) h (by omega)
 have e:l.take (min (l.length:Int) 40).toNat=l.take 40:=by
  rcases Nat.lt_or_ge l.length 40 with h|h
  ·rw [List.take_of_length_le (by omega),List.take_of_length_le (by omega)]
  ·congr 1;omega
 rw [e] at hru
 have HR:=hZ hru
 obtain⟨l0,hl0⟩:∃ l0,l.take 40=l0:=⟨_,rfl⟩
 have hll:l0.length≤40:=by rw [← hl0,List.length_take];omega
 have HS:Hid (∀ c∈l0,c.s.size≤maxLen):=hZ (fun c hc=>hs c (by rw [← hl0] at hc;exact List.mem_of_mem_take hc))
 have HC:Hid (cutR l=l0.map cutC):=hZ (by unfold cutR;rw [hl0])
 rw [HC.out]
 rw [hl0] at HR
 clear h hr hru e hl0 hs HC
 go_enter Tryz.func12,Tryz.ntmps12
 go_wp2_with fail
 refine (copyRow _ _ _ HR.out (by omega)).mono ?_
 rintro e w1 ⟨v1,rfl,ho,hb⟩
 have HO:=hZ ho
 have HB:=hZ hb
 clear ho hb HR
 obtain⟨va,vc,rfl,_⟩:=Gn.Rd.form (RdC.of HO.out)
 obtain⟨n,hn⟩:∃ n,l0.length=n:=⟨_,rfl⟩
 rw [hn] at HO hll ⊢
 have HN:=hZ hn
 go_wp2_with fail
 go_loopw [3] (fun i wr=>∃ k:Nat,k≤n∧i=.int .i64 (k:Nat)∧Hid (OwnC wr w.heap.size (.slice va n vc) (mixC k l0))∧Hid (Below w.heap.size w wr)) (fun i _=>n - (intOf i).toNat)
 case atStart=>exact⟨0,by omega,by rfl,by rw [mixC_zero];exact HO,HB⟩
 case round =>
  obtain⟨k,hk,rfl,HK,HU⟩:=hrel
  clear HO HB
  by_cases hlt:k < n
  ·have hlt1:(k:Int) < (n:Int):=by omega
   obtain⟨x,hx⟩:∃ x,l0[k]?=some x:=⟨_,List.getElem?_eq_getElem (by omega)⟩
   have hm:=HS.out x (List.mem_of_getElem? hx)
   unfold maxLen at hm
   obtain⟨gb,rfl⟩:∃ q,va=some ⟨q,0,none⟩:=by
    rcases HK.out.2 with ⟨h1,_⟩|⟨q,cap,cur,h1,_⟩
    ·injection h1 with _ h2 _;omega
    ·injection h1 with h2 _ _;exact⟨q,h2⟩
   obtain⟨gb',off,hgo,p0,p1,p2⟩:=rdC_cells (RdC.of HK.out) (Below.refl _ _) (mixC_at hx)
   injection hgo with hgo
   injection hgo with hg1 hg2 _
   subst hg1 hg2
   simp only [Nat.zero_add] at p0 p1 p2
   have q2:=(own_there3 HK.out (by rw [mixC_len];exact hn) hlt).2.2.2
   have HST:=hZ (mixC_set hx)
   obtain⟨s2,hs2⟩:∃ s2,x.s.extract 0 (min (x.s.size:Int) 1100).toNat=s2:=⟨_,rfl⟩
   have HF:=hZ (own_putS HK.out (by rw [mixC_len];exact hn) (mixC_at hx) s2)
   rw [show (⟨x.u,x.n,s2⟩:Cl.C)=cutC x by rw [← hs2];rfl,HST.out] at HF
   have hgb:=(HK.out.lt gb rfl).1
   have HFI:=hZ (Gn.Own.later HF.out (Below.refl _ _).drew)
   have HUI:=hZ ((HU.out.setCell (p:=⟨gb,k * 3+2,none⟩) hgb (.string s2)).drew)
   obtain⟨xu,xn,xs⟩:=x
   simp only at p0 p1 p2 hm hs2
   have hsl:∀ w,(Instr.slice 9 (.string xs) none (some (.int .i64 (min (xs.size:Int) 1100))) none).run Tryz.prog w=.ok (.string s2) w:=fun w=>by
    rw [run_slice_string_to_if w 9 xs .i64 _ Tryz.underlying9,if_pos (by omega),hs2]
   clear hx hs2 HK HF HST hn
   go_upto_region 5 with fail
   go_region
   all_goals
    go_wp2_with fail
    go_roundw
    case rel=>exact⟨k+1,by omega,by go_num,HFI,HUI⟩
    case measure=>simp [intOf];omega
  ·have hlt1:¬ (k:Int) < (n:Int):=by omega
   obtain rfl:k=n:=by omega
   rw [← hn,mixC_all,hn] at HK
   go_wp2_with fail
   go_ret
   exact⟨_,rfl,HK.out,HU.out⟩
def spoC:Cl.C:=⟨false,-9,⟨#[115,112,111,105,108,116]⟩⟩
theorem lSpoil12 (v:Value) (l:List Cl.C) (B:Nat) (w:World) (h:OwnC w B v l) (hB:B≤w.heap.size) :
 Calls Tryz.prog 20 #[v] w fun e w'=>e=.returned (.tuple #[])∧Touch (fun q=>v.ownBlock=some q) w w':=by
 have HO:=hZ h
 obtain⟨va,vc,hv,_⟩:=Gn.Rd.form (RdC.of h)
 have hml:=Gn.Rd.len' (RdC.of h)
 obtain⟨n,hn⟩:∃ n,l.length=n:=⟨_,rfl⟩
 rw [hn] at hv hml
 subst hv
 clear h
 go_enter Tryz.func20,Tryz.ntmps20
 go_wp2_with fail
 go_loopw [2] (fun i wr=>∃ k:Nat,k≤n∧i=.int .i64 (k:Nat)∧Hid (∃ l',l'.length=n∧OwnC wr B (.slice va n vc) l')∧Hid (Touch (fun q=>(Value.slice va n vc).ownBlock=some q) w wr)) (fun i _=>n - (intOf i).toNat)
 case atStart=>exact⟨0,by omega,by rfl,hZ ⟨l,hn,HO.out⟩,hZ (Touch.refl _ _)⟩
 case round =>
  obtain⟨k,hk,rfl,HK,HU⟩:=hrel
  clear HO
  obtain⟨l',hl',ho⟩:=HK.out
  have HOK:=hZ ho
  clear HK
  by_cases hlt:k < n
  ·have hlt1:(k:Int) < (n:Int):=by omega
   obtain⟨gb,rfl⟩:∃ q,va=some ⟨q,0,none⟩:=by
    rcases ho.2 with ⟨h1,_⟩|⟨q,cap,cur,h1,_⟩
    ·injection h1 with _ h2 _;omega
    ·injection h1 with h2 _ _;exact⟨q,h2⟩
   obtain⟨⟨z0,z1,z2,p0,p1,p2⟩,f0,f1,f2⟩:=own_there3 ho hl' hlt
   have HP:=hZ (own_put3 ho hl' hlt spoC)
   have HL:=hZ hl'
   have HT:=hZ (((HU.out.setCell (p:=⟨gb,k * 3,none⟩) rfl (.bool false)).setCell (p:=⟨gb,k * 3+1,none⟩) rfl (.int .i64 (-9))).setCell (p:=⟨gb,k * 3+2,none⟩) rfl (.string ⟨#[115,112,111,105,108,116]⟩))
   unfold put3W at HP
   clear ho hl' HOK
   go_wp2_with fail
   go_roundw
   case rel=>exact⟨k+1,by omega,by go_num,hZ ⟨_,by rw [List.length_set];exact HL.out,HP.out⟩,HT⟩
   case measure=>simp [intOf];omega
  ·have hlt1:¬ (k:Int) < (n:Int):=by omega
   clear ho
   go_wp2_with fail
   go_end0
   exact⟨rfl,HU.out⟩
structure SmIn (s:Ev.Sm):Prop where
 c:∀ c∈s.1,Cl.I64 c.id∧Cl.I64 c.k∧Cl.I64 c.d.n∧c.nm.size≤maxLen∧c.d.s.size≤maxLen
 i:∀ q∈s.2,Cl.I64 q
def fewS (s:Ev.Sm):Ev.Sm:=(lFew12C s.1,s.2.take 10)
theorem fewS_ok {s:Ev.Sm} (h:SmIn s):SmOk (fewS s):=by
 refine⟨fun c hc=>?_,fun q hq=>h.i q (List.mem_of_mem_take hq),?_,?_⟩
 ·unfold fewS lFew12C at hc
  obtain⟨d,hd,rfl⟩:=List.mem_map.1 hc
  obtain⟨h1,h2,h3,h4,h5⟩:=h.c d (List.mem_of_mem_take hd)
  refine⟨h1,h2,?_,h3,?_⟩
  ·exact Nat.le_trans (cutN_size d.nm 40) (by decide)
  ·exact Nat.le_trans (cutN_size d.d.s 1100) (by decide)
 ·unfold fewS lFew12C;simp;omega
 ·unfold fewS;simp;omega
def FV (B:Nat) (s:Ev.Sm) (v:Value) (u:World):Prop:=∃ cv kv,v=.agg #[cv,kv]∧OwnK u B cv s.1∧OwnI u B kv s.2
def PB (B:Nat) (u:World) (g:Nat) (s:Ev.Sm):Prop:=∃ cv kv,Blk u g 25 [cv,kv]∧OwnK u B cv s.1∧OwnI u B kv s.2
theorem FV.tch {B:Nat} {s:Ev.Sm} {v:Value} {u u':World} {S:Nat→Prop} (h:FV B s v u) (ht:Touch S u u') (hn:∀ g,B≤g→¬ S g):FV B s v u':=by
 obtain⟨cv,kv,e,h1,h2⟩:=h
 exact⟨cv,kv,e,own_tch h1 ht hn,own_tch h2 ht hn⟩
theorem PB.later {B:Nat} {s:Ev.Sm} {g:Nat} {u u':World} (h:PB B u g s) (hb:Below u.heap.size u u'):PB B u' g s:=by
 obtain⟨cv,kv,e,h1,h2⟩:=h
 exact⟨cv,kv,e.later hb,Gn.Own.later h1 hb,Gn.Own.later h2 hb⟩
theorem PB.far {B:Nat} {s:Ev.Sm} {g:Nat} {u:World} (h:PB B u g s) {p:Addr} (hp:p.block≠g) (hB:p.block < B) (v:Value):PB B (u.setCell p v) g s:=by
 obtain⟨cv,kv,e,h1,h2⟩:=h
 exact⟨cv,kv,e.far hp v,own_far h1 (by omega) v,own_far h2 (by omega) v⟩
structure S1 (B g3 g4:Nat) (x0 x1 y0 y1:Value) (s3 s4:Ev.Sm) (rv:Value) (d:Nat→Bool) (ts:Array Value) (u:World):Prop where
 bz:B≤u.heap.size
 sz:2 < ts.size
 a0:d 6=false→Blk u g3 25 [x0,x1]
 a1:d 6=true→PB B u g3 s3
 b0:d 7=false→Blk u g4 25 [y0,y1]
 b1:d 7=true→PB B u g4 s4
 r:d 8=false→ts.getD 2 undef=rv
 da:d 6=true→d 0=true
 db:d 7=true→d 2=true
 dr:d 8=true→d 4=true
section
variable {B g3 g4:Nat} {x0 x1 y0 y1:Value} {s3 s4:Ev.Sm} {rv:Value} {d:Nat→Bool} {ts:Array Value} {u:World}
theorem S1.put (h:S1 B g3 g4 x0 x1 y0 y1 s3 s4 rv d ts u) {j s:Nat} {v:Value} (h6:6≠j) (h7:7≠j) (h8:8≠j) (hs:s≠2) {u':World} (hb:Below u.heap.size u u'):S1 B g3 g4 x0 x1 y0 y1 s3 s4 rv (upd d j) (ts.setIfInBounds s v) u':=by
 refine⟨Nat.le_trans h.bz hb.size,by simp;exact h.sz,?_,?_,?_,?_,?_,?_,?_,?_⟩<;>simp only [upd_no h6,upd_no h7,upd_no h8,getD_put v hs]
 ·exact fun e=>(h.a0 e).later hb
 ·exact fun e=>(h.a1 e).later hb
 ·exact fun e=>(h.b0 e).later hb
 ·exact fun e=>(h.b1 e).later hb
 ·exact h.r
 ·exact fun e=>upd_mono1 (h.da e)
 ·exact fun e=>upd_mono1 (h.db e)
 ·exact fun e=>upd_mono1 (h.dr e)
theorem S1.st3 (h:S1 B g3 g4 x0 x1 y0 y1 s3 s4 rv d ts u) (hd:d 6=false) (h0:d 0=true) {cv kv:Value} (hc:OwnK u B cv s3.1) (hk:OwnI u B kv s3.2) (hg:g3≠g4) (h3:g3 < B) :
 S1 B g3 g4 x0 x1 y0 y1 s3 s4 rv (upd d 6) ts ((u.setCell ⟨g3,0,none⟩ cv).setCell ⟨g3,1,none⟩ kv):=by
 refine⟨by simp;exact h.bz,h.sz,?_,?_,?_,?_,?_,?_,?_,?_⟩<;>simp only [upd_at,upd_no (show 7≠6 by omega),upd_no (show 8≠6 by omega)]
 ·intro e;cases e
 ·exact fun _=>⟨cv,kv,by simpa using Blk.put (Blk.put (h.a0 hd) 0 cv) 1 kv,own_far (own_far hc (by simp only;omega) cv) (by simp only;omega) kv,own_far (own_far hk (by simp only;omega) cv) (by simp only;omega) kv⟩
 ·exact fun e=>((h.b0 e).far (by exact hg) cv).far (by exact hg) kv
 ·exact fun e=>((h.b1 e).far (by exact hg) (by exact h3) cv).far (by exact hg) (by exact h3) kv
 ·exact h.r
 ·exact fun _=>upd_mono1 h0
 ·exact fun e=>upd_mono1 (h.db e)
 ·exact fun e=>upd_mono1 (h.dr e)
theorem S1.st4 (h:S1 B g3 g4 x0 x1 y0 y1 s3 s4 rv d ts u) (hd:d 7=false) (h0:d 2=true) {cv kv:Value} (hc:OwnK u B cv s4.1) (hk:OwnI u B kv s4.2) (hg:g4≠g3) (h4:g4 < B) :
 S1 B g3 g4 x0 x1 y0 y1 s3 s4 rv (upd d 7) ts ((u.setCell ⟨g4,0,none⟩ cv).setCell ⟨g4,1,none⟩ kv):=by
 refine⟨by simp;exact h.bz,h.sz,?_,?_,?_,?_,?_,?_,?_,?_⟩<;>simp only [upd_at,upd_no (show 6≠7 by omega),upd_no (show 8≠7 by omega)]
 ·exact fun e=>((h.a0 e).far (by exact hg) cv).far (by exact hg) kv
 ·exact fun e=>((h.a1 e).far (by exact hg) (by exact h4) cv).far (by exact hg) (by exact h4) kv
 ·intro e;cases e
 ·exact fun _=>⟨cv,kv,by simpa using Blk.put (Blk.put (h.b0 hd) 0 cv) 1 kv,own_far (own_far hc (by simp only;omega) cv) (by simp only;omega) kv,own_far (own_far hk (by simp only;omega) cv) (by simp only;omega) kv⟩
 ·exact h.r
 ·exact fun e=>upd_mono1 (h.da e)
 ·exact fun _=>upd_mono1 h0
 ·exact fun e=>upd_mono1 (h.dr e)
theorem S1.as8 (h:S1 B g3 g4 x0 x1 y0 y1 s3 s4 rv d ts u) (h0:d 4=true) {v:Value}:S1 B g3 g4 x0 x1 y0 y1 s3 s4 rv (upd d 8) (ts.setIfInBounds 2 v) u:=by
 refine⟨h.bz,by simp;exact h.sz,?_,?_,?_,?_,?_,?_,?_,?_⟩<;>simp only [upd_at,upd_no (show 6≠8 by omega),upd_no (show 7≠8 by omega)]
 ·exact h.a0
 ·exact h.a1
 ·exact h.b0
 ·exact h.b1
 ·intro e;cases e
 ·exact fun e=>upd_mono1 (h.da e)
 ·exact fun e=>upd_mono1 (h.db e)
 ·exact fun _=>upd_mono1 h0
end
def bx (B:Nat) (w:World) (q:Nat):Prop:=B≤q∧∃ cs fz,w.heap[q]?=some (.cells cs 25 fz)
def LtB (B:Nat) (w w':World):Prop:=Touch (bx B w) w w'
theorem LtB.refl (B:Nat) (w:World):LtB B w w:=Touch.refl _ _
theorem LtB.trans {B:Nat} {a b c:World} (h:LtB B a b) (k:LtB B b c):LtB B a c :=
 Touch.trans h k (fun q hq=>by
  rcases Nat.lt_or_ge q a.heap.size with hlt|hge
  ·by_cases hs:bx B a q
   ·exact .inl hs
   ·obtain⟨h1,cs,fz,h2⟩:=hq
    rw [h.block q hlt hs] at h2
    exact .inl ⟨h1,cs,fz,h2⟩
  ·exact .inr hge)
theorem LtB.of_below {B:Nat} {w w':World} (h:Below w.heap.size w w'):LtB B w w':=Touch.of_below h
theorem LtB.below {B:Nat} {w w':World} (h:LtB B w w') (hB:B≤w.heap.size):Below B w w':=Touch.below h hB (fun q hq=>hq.1)
theorem LtB.set {B g:Nat} {w:World} {cs:List Value} (h:Blk w g 25 cs) (hg:B≤g) (j:Nat) (v:Value):LtB B w (w.setCell ⟨g,j,none⟩ v) :=
 (Touch.refl _ _).setCell (p:=⟨g,j,none⟩) ⟨hg,_,_,h⟩ v
theorem own_ltB {α:Type} {enc:α→List Value} {k:Nat} {T:TypeId} {w w':World} {B B':Nat} {v:Value} {l:List α} (h:Gn.Own enc k T w B v l) (ht:LtB B' w w') (hT:T≠25):Gn.Own enc k T w' B v l :=
 own_tch2 h ht (fun g hg hs=>by
  obtain⟨_,cs,fz,h2⟩:=hs
  rcases h.2 with ⟨e3,_⟩|⟨g',cap,cur,e3,_,hh,_⟩
  ·rw [e3] at hg;cases hg
  ·rw [e3] at hg
   injection hg with hg
   subst hg
   rw [hh] at h2
   injection h2 with h2
   injection h2 with _ h2 _
   exact hT h2)
theorem FV.ltB {B B':Nat} {s:Ev.Sm} {v:Value} {u u':World} (h:FV B s v u) (ht:LtB B' u u'):FV B s v u':=by
 obtain⟨cv,kv,e,h1,h2⟩:=h
 exact⟨cv,kv,e,own_ltB h1 ht (by decide),own_ltB h2 ht (by decide)⟩
structure S2 (B sa sb ja jb ka kb:Nat) (s3 s4:Ev.Sm) (d:Nat→Bool) (ts:Array Value) (u:World):Prop where
 bz:B≤u.heap.size
 za:sa < ts.size
 zb:sb < ts.size
 ma:d ka=true→d ja=true
 mb:d kb=true→d jb=true
 pa:d ja=true→∃ p,ts.getD sa undef=.pointer (some ⟨p,0,none⟩)∧B≤p∧(d ka=false→Blk u p 25 nilC)∧(d ka=true→PB B u p s3)
 pb:d jb=true→∃ p,ts.getD sb undef=.pointer (some ⟨p,0,none⟩)∧B≤p∧(d kb=false→Blk u p 25 nilC)∧(d kb=true→PB B u p s4)
 ne:d ja=true→d jb=true→ts.getD sa undef≠ts.getD sb undef
theorem PB.lt {B:Nat} {u:World} {g:Nat} {s:Ev.Sm} (h:PB B u g s):g < u.heap.size:=by
 obtain⟨_,_,h1,_⟩:=h
 exact h1.lt
section
variable {B sa sb ja jb ka kb:Nat} {s3 s4:Ev.Sm} {d:Nat→Bool} {ts:Array Value} {u:World}
theorem S2.start (h1:sa < ts.size) (h2:sb < ts.size) (hb:B≤u.heap.size):S2 B sa sb ja jb ka kb s3 s4 (fun _=>false) ts u :=
 ⟨hb,h1,h2,fun e=>(by cases e),fun e=>(by cases e),fun e=>(by cases e),fun e=>(by cases e),fun e=>(by cases e)⟩
theorem S2.put (h:S2 B sa sb ja jb ka kb s3 s4 d ts u) {s' j:Nat} {v:Value} (h1:s'≠sa) (h2:s'≠sb) (h3:ja≠j) (h4:jb≠j) (h5:ka≠j) (h6:kb≠j) {u':World} (hb:Below u.heap.size u u'):S2 B sa sb ja jb ka kb s3 s4 (upd d j) (ts.setIfInBounds s' v) u':=by
 refine⟨Nat.le_trans h.bz hb.size,by simp;exact h.za,by simp;exact h.zb,?_,?_,?_,?_,?_⟩<;>simp only [upd_no h3,upd_no h4,upd_no h5,upd_no h6,getD_put v h1,getD_put v h2]
 ·exact h.ma
 ·exact h.mb
 ·intro e
  obtain⟨p,q1,q2,q3,q4⟩:=h.pa e
  exact⟨p,q1,q2,fun e=>(q3 e).later hb,fun e=>(q4 e).later hb⟩
 ·intro e
  obtain⟨p,q1,q2,q3,q4⟩:=h.pb e
  exact⟨p,q1,q2,fun e=>(q3 e).later hb,fun e=>(q4 e).later hb⟩
 ·exact h.ne
theorem S2.ltA (h:S2 B sa sb ja jb ka kb s3 s4 d ts u) (e:d jb=true):∃ p,ts.getD sb undef=.pointer (some ⟨p,0,none⟩)∧p < u.heap.size:=by
 obtain⟨p,q1,q2,q3,q4⟩:=h.pb e
 refine⟨p,q1,?_⟩
 cases e2:d kb with
 | false=>exact (q3 e2).lt
 | true=>exact (q4 e2).lt
theorem S2.ltB (h:S2 B sa sb ja jb ka kb s3 s4 d ts u) (e:d ja=true):∃ p,ts.getD sa undef=.pointer (some ⟨p,0,none⟩)∧p < u.heap.size:=by
 obtain⟨p,q1,q2,q3,q4⟩:=h.pa e
 refine⟨p,q1,?_⟩
 cases e2:d ka with
 | false=>exact (q3 e2).lt
 | true=>exact (q4 e2).lt
theorem S2.newA (h:S2 B sa sb ja jb ka kb s3 s4 d ts u) (hs:sa≠sb) (h4:jb≠ja) (h5:ka≠ja) (h6:kb≠ja) (hd:d ja=false) :
 S2 B sa sb ja jb ka kb s3 s4 (upd d ja) (ts.setIfInBounds sa (.pointer (some ⟨u.heap.size,0,none⟩))) (u.alloc (.cells #[.slice none 0 0,.slice none 0 0] 25)):=by
 have hb:=box_new u (.cells #[.slice none 0 0,.slice none 0 0] 25)
 have hka:d ka=false:=by cases e:d ka with
  | false=>rfl
  | true=>have:=h.ma e;rw [hd] at this;cases this
 refine⟨Nat.le_trans h.bz hb.size,by simp;exact h.za,by simp;exact h.zb,?_,?_,?_,?_,?_⟩<;>simp only [upd_at,upd_no h4,upd_no h5,upd_no h6,getD_self _ h.za,getD_put _ hs,hka]
 ·intro e;cases e
 ·exact h.mb
 ·exact fun _=>⟨_,rfl,h.bz,fun _=>Blk.new u 25 _,fun e=>(by cases e)⟩
 ·intro e
  obtain⟨p,q1,q2,q3,q4⟩:=h.pb e
  exact⟨p,q1,q2,fun e=>(q3 e).later hb,fun e=>(q4 e).later hb⟩
 ·intro _ e he
  obtain⟨p,q1,q2⟩:=h.ltA e
  rw [q1] at he
  injection he with he
  injection he with he
  injection he with he
  omega
theorem S2.newB (h:S2 B sa sb ja jb ka kb s3 s4 d ts u) (hs:sb≠sa) (h4:ja≠jb) (h5:ka≠jb) (h6:kb≠jb) (hd:d jb=false) :
 S2 B sa sb ja jb ka kb s3 s4 (upd d jb) (ts.setIfInBounds sb (.pointer (some ⟨u.heap.size,0,none⟩))) (u.alloc (.cells #[.slice none 0 0,.slice none 0 0] 25)):=by
 have hb:=box_new u (.cells #[.slice none 0 0,.slice none 0 0] 25)
 have hkb:d kb=false:=by cases e:d kb with
  | false=>rfl
  | true=>have:=h.mb e;rw [hd] at this;cases this
 refine⟨Nat.le_trans h.bz hb.size,by simp;exact h.za,by simp;exact h.zb,?_,?_,?_,?_,?_⟩<;>simp only [upd_at,upd_no h4,upd_no h5,upd_no h6,getD_self _ h.zb,getD_put _ hs,hkb]
 ·exact h.ma
 ·intro e;cases e
 ·intro e
  obtain⟨p,q1,q2,q3,q4⟩:=h.pa e
  exact⟨p,q1,q2,fun e=>(q3 e).later hb,fun e=>(q4 e).later hb⟩
 ·exact fun _=>⟨_,rfl,h.bz,fun _=>Blk.new u 25 _,fun e=>(by cases e)⟩
 ·intro e _ he
  obtain⟨p,q1,q2⟩:=h.ltB e
  rw [q1] at he
  injection he with he
  injection he with he
  injection he with he
  omega
theorem S2.fillA (h:S2 B sa sb ja jb ka kb s3 s4 d ts u) (h4:jb≠ka) (h5:ja≠ka) (h6:kb≠ka) (hj:d ja=true) (hd:d ka=false) {p:Nat} (hp:ts.getD sa undef=.pointer (some ⟨p,0,none⟩)) {cv kv:Value} (hc:OwnK u B cv s3.1) (hk:OwnI u B kv s3.2) :
 S2 B sa sb ja jb ka kb s3 s4 (upd d ka) ts ((u.setCell ⟨p,0,none⟩ cv).setCell ⟨p,1,none⟩ kv)∧LtB B u ((u.setCell ⟨p,0,none⟩ cv).setCell ⟨p,1,none⟩ kv):=by
 obtain⟨p',q1,q2,q3,_⟩:=h.pa hj
 obtain rfl:p=p':=by rw [hp] at q1;injection q1 with q1;injection q1 with q1;injection q1
 have hn:=q3 hd
 have hl:LtB B u ((u.setCell ⟨p,0,none⟩ cv).setCell ⟨p,1,none⟩ kv):=(LtB.set hn q2 0 cv).trans (LtB.set (Blk.put hn 0 cv) q2 1 kv)
 refine⟨⟨by simp;exact h.bz,h.za,h.zb,?_,?_,?_,?_,?_⟩,hl⟩<;>simp only [upd_at,upd_no h4,upd_no h5,upd_no h6]
 ·exact fun _=>hj
 ·exact h.mb
 ·exact fun _=>⟨p,hp,q2,fun e=>(by cases e),fun _=>⟨cv,kv,by simpa [nilC] using Blk.put (Blk.put hn 0 cv) 1 kv,own_ltB hc hl (by decide),own_ltB hk hl (by decide)⟩⟩
 ·intro e
  obtain⟨q,r1,r2,r3,r4⟩:=h.pb e
  have hne:p≠q:=fun e2=>h.ne hj e (by rw [hp,r1,e2])
  refine⟨q,r1,r2,fun e=>((r3 e).far (by exact hne) cv).far (by exact hne) kv,fun e=>?_⟩
  obtain⟨c',k',t1,t2,t3⟩:=r4 e
  exact⟨c',k',(t1.far (by exact hne) cv).far (by exact hne) kv,own_ltB t2 hl (by decide),own_ltB t3 hl (by decide)⟩
 ·exact h.ne
theorem S2.fillB (h:S2 B sa sb ja jb ka kb s3 s4 d ts u) (h4:ja≠kb) (h5:jb≠kb) (h6:ka≠kb) (hj:d jb=true) (hd:d kb=false) {p:Nat} (hp:ts.getD sb undef=.pointer (some ⟨p,0,none⟩)) {cv kv:Value} (hc:OwnK u B cv s4.1) (hk:OwnI u B kv s4.2) :
 S2 B sa sb ja jb ka kb s3 s4 (upd d kb) ts ((u.setCell ⟨p,0,none⟩ cv).setCell ⟨p,1,none⟩ kv)∧LtB B u ((u.setCell ⟨p,0,none⟩ cv).setCell ⟨p,1,none⟩ kv):=by
 obtain⟨p',q1,q2,q3,_⟩:=h.pb hj
 obtain rfl:p=p':=by rw [hp] at q1;injection q1 with q1;injection q1 with q1;injection q1
 have hn:=q3 hd
 have hl:LtB B u ((u.setCell ⟨p,0,none⟩ cv).setCell ⟨p,1,none⟩ kv):=(LtB.set hn q2 0 cv).trans (LtB.set (Blk.put hn 0 cv) q2 1 kv)
 refine⟨⟨by simp;exact h.bz,h.za,h.zb,?_,?_,?_,?_,?_⟩,hl⟩<;>simp only [upd_at,upd_no h4,upd_no h5,upd_no h6]
 ·exact h.ma
 ·exact fun _=>hj
 ·intro e
  obtain⟨q,r1,r2,r3,r4⟩:=h.pa e
  have hne:p≠q:=fun e2=>h.ne e hj (by rw [hp,r1,e2])
  refine⟨q,r1,r2,fun e=>((r3 e).far (by exact hne) cv).far (by exact hne) kv,fun e=>?_⟩
  obtain⟨c',k',t1,t2,t3⟩:=r4 e
  exact⟨c',k',(t1.far (by exact hne) cv).far (by exact hne) kv,own_ltB t2 hl (by decide),own_ltB t3 hl (by decide)⟩
 ·exact fun _=>⟨p,hp,q2,fun e=>(by cases e),fun _=>⟨cv,kv,by simpa [nilC] using Blk.put (Blk.put hn 0 cv) 1 kv,own_ltB hc hl (by decide),own_ltB hk hl (by decide)⟩⟩
 ·exact h.ne
end
end Go.Proofs.YtenfjmdajlhfoabGreatDoor
