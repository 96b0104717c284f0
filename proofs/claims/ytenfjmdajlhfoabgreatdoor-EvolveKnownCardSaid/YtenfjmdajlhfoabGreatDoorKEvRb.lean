/- Texts. -/
import Derived.Test.YtenfjmdajlhfoabGreatDoorKEvRa
import Derived.Test.YtenfjmdajlhfoabGreatDoorKEvb
import Derived.Deep.DeepCutAuto
import Derived.Deep.CutBlock
set_option maxHeartbeats 16000000
namespace Go.Proofs.YtenfjmdajlhfoabGreatDoor
open Go.RowKit Go.Sort
set_option linter.unusedVariables false
set_option linter.unusedSimpArgs false
set_option maxRecDepth 100000
def kjQ {Lt:World→World→Prop} (p q:Nat) (F:Value→World→Prop) (L:Array (Spc Lt)) (j:Nat) (v:Value) (w:World):Prop:=if j=p ∨ j=q then F v w else kjI L j v w
theorem kjQ_later {Lt:World→World→Prop} {p q:Nat} {F:Value→World→Prop} {L:Array (Spc Lt)}:∀ (d:Nat→Bool) (j:Nat) (v:Value) (w w':World),d j=true→kjQ p q F L j v w→Lt w w'→((d p=true ∨ d q=true)→∀ v,F v w→F v w')→kjQ p q F L j v w':=fun d j v w w' hd h hb hX=>by
 unfold kjQ at h ⊢
 by_cases hj:j=p ∨ j=q
 ·rw [if_pos hj] at h ⊢
  refine hX ?_ v h
  rcases hj with rfl|rfl
  ·exact .inl hd
  ·exact .inr hd
 ·rw [if_neg hj] at h ⊢
  exact kjI_later (X:=fun _ _ _=>True) d j v w w' hd h hb trivial
theorem touch_grown12 {w w':World} {row:Option Nat} {S:Nat→Prop} (h:w.grownBy w' row) (hS:∀ k,row=some k→S k):Touch S w w' :=
 ⟨h.os,h.tape,h.output,h.size,fun k hk hn=>h.block k hk (fun e=>hn (hS k e.symm))⟩
theorem rd_blkI {u:World} {b:Nat} {y:Int} (h:Blk u b 3 [.int .i64 y]):RdI u u.heap.size (.slice (some ⟨b,0,none⟩) 1 1) [y] :=
 ⟨_,1,rfl,by simp,by simp [maxLen],by simp,fun _=>⟨b,0,rfl,h.lt,fun i x j q hi hj=>by
  have hi0:i=0:=by
   have:=(List.getElem?_eq_some_iff.1 hi).1
   simp at this;exact this
  subst hi0
  simp at hi
  subst hi
  rw [show 0+0 * 1+j=j by omega,h.cell j]
  exact hj⟩⟩
theorem upd_monok {d:Nat→Bool} {j k:Nat} (h:d k=true):upd d j k=true:=by unfold upd;split<;>first|rfl|exact h
def kidR (l:List Co) (ks:List Int):List Int:=ks.map fun k=>(l.getD k.toNat Sc.co0).id
theorem rKeys12 (x:Sx) (hn:x.s.1.length≤1000000) (hm:x.s.2.length≤1000000) (hk:∀ k∈x.s.2,0≤k∧k < (x.s.1.length:Int)) (w:World) (h:RdS w w.heap.size x) :
 Calls Tryz.prog 69 #[.agg #[x.v,x.kv]] w fun e w'=>∃ u,e=.returned u∧OwnI w' w.heap.size u (kidR x.s.1 x.s.2)∧Below w.heap.size w w':=by
 obtain⟨a1,c1,a2,c2,⟨l,ks⟩⟩:=x
 unfold Sx.v Sx.kv at *
 have hka:=h.c
 have hia:=h.k
 unfold Sx.v at hka
 unfold Sx.kv at hia
 simp only at hka hia hn hm hk ⊢
 obtain⟨p1,hp1⟩:∃ p,l.length=p:=⟨_,rfl⟩
 obtain⟨p2,hp2⟩:∃ p,ks.length=p:=⟨_,rfl⟩
 rw [hp1] at hka hn hk
 rw [hp2] at hia hm
 rw [hp1,hp2]
 have b1:=box_new w (.cells #[.slice a1 p1 c1,.slice a2 p2 c2] 25)
 have HX:=hZ (Blk.new w 25 #[.slice a1 p1 c1,.slice a2 p2 c2])
 have HB:=hZ b1
 have HKA:=hZ (hka.later b1)
 have HIA:=hZ (hia.later b1)
 have HL:=hZ (And.intro hp1 hp2)
 have HK:=hZ hk
 clear h hka hia b1 hp1 hp2 hk
 go_enter Tryz.func69,Tryz.ntmps69
 go_upto_region 1 with fail
 generalize w.alloc (.cells #[.slice a1 p1 c1,.slice a2 p2 c2] 25)=w0 at *
 obtain⟨gp,hgp⟩:∃ g,w.heap.size=g:=⟨_,rfl⟩
 have HGP:=hZ hgp
 rw [hgp] at HX ⊢
 clear hgp
 have HO:Hid (OwnI w0 w0.heap.size (.slice none 0 0) []):=hZ (Gn.Own.nil _ _)
 go_wp2_with fail
 go_loopw [3,4] (fun v i wr=>∃ k:Nat,k≤p2∧i=.int .i64 (k:Nat)∧Hid (OwnI wr w0.heap.size v (kidR l (ks.take k)))∧Hid (Below w0.heap.size w0 wr)) (fun _ i _=>p2 - (intOf i).toNat)
 case atStart=>exact⟨0,by omega,by rfl,HO,hZ (Below.refl _ _)⟩
 case round =>
  obtain⟨k,hk,rfl,HOk,HW⟩:=hrel
  clear HO
  have x0:=(HX.out.later HW.out).cell 0
  have x1:=(HX.out.later HW.out).cell 1
  simp only [zD,zE] at x0 x1
  by_cases hlt:k < p2
  ·have hlt1:(k:Int) < (p2:Int):=by omega
   obtain⟨z,hz⟩:∃ z,ks[k]?=some z:=⟨_,List.getElem?_eq_getElem (by have:=HL.out.2;omega)⟩
   obtain⟨h0,h1⟩:=HK.out z (List.mem_of_getElem? hz)
   obtain⟨q,rfl⟩:=Int.eq_ofNat_of_zero_le h0
   have hq:q < p1:=by omega
   obtain⟨c,hc⟩:∃ c,l[q]?=some c:=⟨_,List.getElem?_eq_getElem (by have:=HL.out.1;omega)⟩
   obtain⟨b2,o2,rfl,z0⟩:=rdI_cell HIA.out HW.out hz
   obtain⟨b1,o1,rfl,y0,_⟩:=rdK_cells HKA.out HW.out hc
   have HE:Hid (kidR l (ks.take k)++[c.id]=kidR l (ks.take (k+1))):=hZ (by
    unfold kidR
    rw [List.take_add_one,hz]
    simp [hc])
   have HLN:Hid ((kidR l (ks.take k)).length+([c.id]:List Int).length≤100000000):=hZ (by unfold kidR;rw [List.length_map,List.length_take];simp only [List.length_cons,List.length_nil];omega)
   generalize c.id=y at *
   clear hc hz
   have HBZ:=hZ (⟨by have h:=(HX.out.lt);exact h,by have:=HKA.out;exact trivial⟩:gp < w0.heap.size∧True)
   have HNS:Hid (∀ a:Nat,(∃ t cs,Blk w0 a t cs) ∨ a < w0.heap.size→¬ u3.ownBlock=some a):=hZ (fun a ha e=>by
    have h2:=(HOk.out.lt a e).1
    rcases ha with ⟨t,cs,hb⟩|hb
    ·have:=hb.lt;omega
    ·omega)
   have hy1:b1 < w0.heap.size:=by
    obtain⟨b',o',e,h',_⟩:=rdK_cells HKA.out (Below.refl _ _) (i:=q) (x:=l.getD q Sc.co0) (by rw [List.getD_eq_getElem?_getD,List.getElem?_eq_getElem (by have:=HL.out.1;omega)];rfl)
    injection e with e;injection e with e _ _;subst e
    exact cell_lt h'
   have hz1:b2 < w0.heap.size:=by
    obtain⟨b',o',e,h'⟩:=rdI_cell HIA.out (Below.refl _ _) (i:=k) (x:=ks.getD k 0) (by rw [List.getD_eq_getElem?_getD,List.getElem?_eq_getElem (by have:=HL.out.2;omega)];rfl)
    injection e with e;injection e with e _ _;subst e
    exact cell_lt h'
   have hg1:gp < w0.heap.size:=HBZ.out.1
   obtain⟨KK,hKK⟩:∃ K,kidR l (ks.take k)=K:=⟨_,rfl⟩
   rw [hKK] at HOk HE HLN
   obtain⟨B,hB⟩:∃ B,w0.heap.size=B:=⟨_,rfl⟩
   have hBr:B≤wr.heap.size:=by rw [← hB];exact HW.out.size
   rw [hB] at HOk hy1 hz1 hg1 HNS
   go_upto_region 5 with fail
   refine region_growA_merge (fun u v=>Touch (fun q=>u3.ownBlock=some q) u v) (fun d (ts:Array Value) u=>(d 12=false→OwnI u B u3 KK)∧(d 12=true→d 11=true)∧(d 13=true→d 12=true)∧(d 13=false→ts.getD 3 undef=u3)∧(d 12=true→d 0=true)) (fun d u v=>(d 12=true ∨ d 13=true)→∀ z,(fun z u=>OwnI u B z (KK++[y])) z u→(fun z u=>OwnI u B z (KK++[y])) z v) (fun u=>Touch.refl _ _) (fun _ _ _ h k=>h.trans k (fun _ h=>.inl h)) (kjQ 12 13 (fun z u=>OwnI u B z (KK++[y])) #[Spc.eq u3,Spc.eq (.pointer (some ⟨gp,0,none⟩)),Spc.eq (.slice (some ⟨b1,o1,none⟩) p1 c1),Spc.eq (.pointer (some ⟨gp,1,none⟩)),Spc.eq (.slice (some ⟨b2,o2,none⟩) p2 c2),Spc.eq (.int .i64 (k:Nat)),Spc.eq (.pointer (some ⟨b2,o2+k,none⟩)),Spc.eq (.int .i64 (q:Nat)),Spc.eq (.pointer (some ⟨b1,o1+q * 7,none⟩)),Spc.eq (.pointer (some ⟨b1,o1+q * 7,none⟩)),Spc.eq (.int .i64 y),⟨fun v1 u=>∃ b,v1=.slice (some ⟨b,0,none⟩) 1 1∧¬ (u3.ownBlock=some b)∧Blk u b 3 [.int .i64 y],fun _ _ _ h hb=>by obtain⟨b,h1,h2,h3⟩:=h;exact⟨b,h1,h2,h3.touch hb h2⟩⟩,Spc.any,Spc.any]) [12,13,14,15,16,17,18,19,20,21,22,23,24,3] (fun ts W=>∃ z,ts.getD 3 undef=z∧OwnI W B z (KK++[y])∧Below B wr W) (by kernel_rfl) (by kernel_rfl) (by kernel_rfl) kjQ_later ⟨fun _=>Gn.Own.later HOk.out (Below.refl _ _).drew,fun h=>(by cases h),fun h=>(by cases h),fun _=>by rfl,fun h=>(by cases h)⟩ ?_ ?_ ?_
   ·intro QQ fd jo o a w1 ho hfd hdd hI hb hs hold hdep
    have hjo:jo < 14:=(Array.getElem?_eq_some_iff.1 ho).1
    skip
    have hbw:Below B wr w1:=Below.trans ((Below.refl B wr).drew) (hb.below hBr (fun q hq=>(HOk.out.lt q hq).1))
    have hsz1:B≤w1.heap.size:=Nat.le_trans hBr hbw.size
    have hfr:¬ (u3.ownBlock=some w1.heap.size):=fun e=>by have:=(HOk.out.lt _ e).2;have:=hbw.size;omega
    have s0:w1.cell? ⟨gp,0,none⟩=some (.slice (some ⟨b1,o1,none⟩) p1 c1):=(hbw.cell (p:=⟨gp,0,none⟩) hg1).trans x0
    have s1:w1.cell? ⟨gp,1,none⟩=some (.slice (some ⟨b2,o2,none⟩) p2 c2):=(hbw.cell (p:=⟨gp,1,none⟩) hg1).trans x1
    have s2:w1.cell? ⟨b2,o2+k,none⟩=some (.int .i64 (q:Nat)):=(hbw.cell (p:=⟨b2,o2+k,none⟩) hz1).trans z0
    have s3:w1.cell? ⟨b1,o1+q * 7,none⟩=some (.int .i64 y):=(hbw.cell (p:=⟨b1,o1+q * 7,none⟩) hy1).trans y0
    have hqi:(q:Int) < (p1:Int):=by omega
    clear x0 x1 z0 y0
    have e1:a.eval (.tmp 1)=.pointer (some ⟨gp,0,none⟩):=by
     show a.tmps.getD 1 undef=_
     rw [Array.getD_eq_getD_getElem?,hold 1 (by decide +kernel)];rfl
    have e4:a.eval (.tmp 4)=.int .i64 (k:Nat):=by
     show a.tmps.getD 4 undef=_
     rw [Array.getD_eq_getD_getElem?,hold 4 (by decide +kernel)];rfl
    have ec:∀ v,a.eval (.const v)=v:=fun _=>rfl
    clear hold hs
    rcases (show jo=0 ∨ jo=1 ∨ jo=2 ∨ jo=3 ∨ jo=4 ∨ jo=5 ∨ jo=6 ∨ jo=7 ∨ jo=8 ∨ jo=9 ∨ jo=10 ∨ jo=11 ∨ jo=12 ∨ jo=13 by omega) with rfl|rfl|rfl|rfl|rfl|rfl|rfl|rfl|rfl|rfl|rfl|rfl|rfl|rfl
    all_goals (have ho2:=ho;simp only [List.getElem?_toArray,zD,zE,Option.some.injEq] at ho2;subst ho2)
    ·have h13:fd 13=false:=by
      cases h:fd 13 with
      | false=>rfl
      | true=>have:=hI.2.2.2.2 (hI.2.2.1 h);rw [hfd] at this;cases this
     have e3:a.eval (.tmp 3)=u3:=hI.2.2.2.1 h13
     refine growA_val (I:=(fun d (ts:Array Value) u=>(d 12=false→OwnI u B u3 KK)∧(d 12=true→d 11=true)∧(d 13=true→d 12=true)∧(d 13=false→ts.getD 3 undef=u3)∧(d 12=true→d 0=true))) (X:=(fun d u v=>(d 12=true ∨ d 13=true)→∀ z,(fun z u=>OwnI u B z (KK++[y])) z u→(fun z u=>OwnI u B z (KK++[y])) z v)) (d:=fd) (a:=a) (w:=w1) u3 w1 ho rfl ?_ (Touch.refl _ _) ⟨fun h=>hI.1 (by simpa [upd] using h),fun h=>upd_monok (hI.2.1 (by simpa [upd] using h)),fun h=>upd_monok (hI.2.2.1 (by simpa [upd] using h)),fun h=>(getD_put _ (by decide)).trans (hI.2.2.2.1 (by simpa [upd] using h)),fun h=>upd_monok (hI.2.2.2.2 (by simpa [upd] using h))⟩ (fun _ _ h=>h) rfl
     unfold execOp;simp only [zA,zB,zC,e3,ec];first|rfl|(go_simp;done)|(go_simp;rfl)
    ·refine growA_val (I:=(fun d (ts:Array Value) u=>(d 12=false→OwnI u B u3 KK)∧(d 12=true→d 11=true)∧(d 13=true→d 12=true)∧(d 13=false→ts.getD 3 undef=u3)∧(d 12=true→d 0=true))) (X:=(fun d u v=>(d 12=true ∨ d 13=true)→∀ z,(fun z u=>OwnI u B z (KK++[y])) z u→(fun z u=>OwnI u B z (KK++[y])) z v)) (d:=fd) (a:=a) (w:=w1) (.pointer (some ⟨gp,0,none⟩)) w1 ho rfl ?_ ((fun u=>Touch.refl _ _) w1) ⟨fun h=>hI.1 (by simpa [upd] using h),fun h=>upd_monok (hI.2.1 (by simpa [upd] using h)),fun h=>upd_monok (hI.2.2.1 (by simpa [upd] using h)),fun h=>(getD_put _ (by decide)).trans (hI.2.2.2.1 (by simpa [upd] using h)),fun h=>upd_monok (hI.2.2.2.2 (by simpa [upd] using h))⟩ (fun _ _ h=>h) rfl
     unfold execOp;simp only [zA,zB,zC,e1,ec];first|rfl|(go_simp;done)|(go_simp;rfl)|(go_simp;omega)
    ·have d0:a.eval (.tmp 13)=.pointer (some ⟨gp,0,none⟩):=hdep ⟨1,.data⟩ (by simp) rfl
     refine growA_val (I:=(fun d (ts:Array Value) u=>(d 12=false→OwnI u B u3 KK)∧(d 12=true→d 11=true)∧(d 13=true→d 12=true)∧(d 13=false→ts.getD 3 undef=u3)∧(d 12=true→d 0=true))) (X:=(fun d u v=>(d 12=true ∨ d 13=true)→∀ z,(fun z u=>OwnI u B z (KK++[y])) z u→(fun z u=>OwnI u B z (KK++[y])) z v)) (d:=fd) (a:=a) (w:=w1) (.slice (some ⟨b1,o1,none⟩) p1 c1) w1 ho rfl ?_ ((fun u=>Touch.refl _ _) w1) ⟨fun h=>hI.1 (by simpa [upd] using h),fun h=>upd_monok (hI.2.1 (by simpa [upd] using h)),fun h=>upd_monok (hI.2.2.1 (by simpa [upd] using h)),fun h=>(getD_put _ (by decide)).trans (hI.2.2.2.1 (by simpa [upd] using h)),fun h=>upd_monok (hI.2.2.2.2 (by simpa [upd] using h))⟩ (fun _ _ h=>h) rfl
     unfold execOp;simp only [zA,zB,zC,d0,ec];first|rfl|(go_simp;done)|(go_simp;rfl)|(go_simp;omega)
    ·refine growA_val (I:=(fun d (ts:Array Value) u=>(d 12=false→OwnI u B u3 KK)∧(d 12=true→d 11=true)∧(d 13=true→d 12=true)∧(d 13=false→ts.getD 3 undef=u3)∧(d 12=true→d 0=true))) (X:=(fun d u v=>(d 12=true ∨ d 13=true)→∀ z,(fun z u=>OwnI u B z (KK++[y])) z u→(fun z u=>OwnI u B z (KK++[y])) z v)) (d:=fd) (a:=a) (w:=w1) (.pointer (some ⟨gp,1,none⟩)) w1 ho rfl ?_ ((fun u=>Touch.refl _ _) w1) ⟨fun h=>hI.1 (by simpa [upd] using h),fun h=>upd_monok (hI.2.1 (by simpa [upd] using h)),fun h=>upd_monok (hI.2.2.1 (by simpa [upd] using h)),fun h=>(getD_put _ (by decide)).trans (hI.2.2.2.1 (by simpa [upd] using h)),fun h=>upd_monok (hI.2.2.2.2 (by simpa [upd] using h))⟩ (fun _ _ h=>h) rfl
     unfold execOp;simp only [zA,zB,zC,e1,ec];first|rfl|(go_simp;done)|(go_simp;rfl)|(go_simp;omega)
    ·have d0:a.eval (.tmp 15)=.pointer (some ⟨gp,1,none⟩):=hdep ⟨3,.data⟩ (by simp) rfl
     refine growA_val (I:=(fun d (ts:Array Value) u=>(d 12=false→OwnI u B u3 KK)∧(d 12=true→d 11=true)∧(d 13=true→d 12=true)∧(d 13=false→ts.getD 3 undef=u3)∧(d 12=true→d 0=true))) (X:=(fun d u v=>(d 12=true ∨ d 13=true)→∀ z,(fun z u=>OwnI u B z (KK++[y])) z u→(fun z u=>OwnI u B z (KK++[y])) z v)) (d:=fd) (a:=a) (w:=w1) (.slice (some ⟨b2,o2,none⟩) p2 c2) w1 ho rfl ?_ ((fun u=>Touch.refl _ _) w1) ⟨fun h=>hI.1 (by simpa [upd] using h),fun h=>upd_monok (hI.2.1 (by simpa [upd] using h)),fun h=>upd_monok (hI.2.2.1 (by simpa [upd] using h)),fun h=>(getD_put _ (by decide)).trans (hI.2.2.2.1 (by simpa [upd] using h)),fun h=>upd_monok (hI.2.2.2.2 (by simpa [upd] using h))⟩ (fun _ _ h=>h) rfl
     unfold execOp;simp only [zA,zB,zC,d0,ec];first|rfl|(go_simp;done)|(go_simp;rfl)|(go_simp;omega)
    ·refine growA_val (I:=(fun d (ts:Array Value) u=>(d 12=false→OwnI u B u3 KK)∧(d 12=true→d 11=true)∧(d 13=true→d 12=true)∧(d 13=false→ts.getD 3 undef=u3)∧(d 12=true→d 0=true))) (X:=(fun d u v=>(d 12=true ∨ d 13=true)→∀ z,(fun z u=>OwnI u B z (KK++[y])) z u→(fun z u=>OwnI u B z (KK++[y])) z v)) (d:=fd) (a:=a) (w:=w1) (.int .i64 (k:Nat)) w1 ho rfl ?_ ((fun u=>Touch.refl _ _) w1) ⟨fun h=>hI.1 (by simpa [upd] using h),fun h=>upd_monok (hI.2.1 (by simpa [upd] using h)),fun h=>upd_monok (hI.2.2.1 (by simpa [upd] using h)),fun h=>(getD_put _ (by decide)).trans (hI.2.2.2.1 (by simpa [upd] using h)),fun h=>upd_monok (hI.2.2.2.2 (by simpa [upd] using h))⟩ (fun _ _ h=>h) rfl
     unfold execOp;simp only [zA,zB,zC,e4,ec];first|rfl|(go_simp;done)|(go_simp;rfl)|(go_simp;omega)
    ·have d0:a.eval (.tmp 16)=.slice (some ⟨b2,o2,none⟩) p2 c2:=hdep ⟨4,.data⟩ (by simp) rfl
     have d1:a.eval (.tmp 17)=.int .i64 (k:Nat):=hdep ⟨5,.data⟩ (by simp) rfl
     refine growA_val (I:=(fun d (ts:Array Value) u=>(d 12=false→OwnI u B u3 KK)∧(d 12=true→d 11=true)∧(d 13=true→d 12=true)∧(d 13=false→ts.getD 3 undef=u3)∧(d 12=true→d 0=true))) (X:=(fun d u v=>(d 12=true ∨ d 13=true)→∀ z,(fun z u=>OwnI u B z (KK++[y])) z u→(fun z u=>OwnI u B z (KK++[y])) z v)) (d:=fd) (a:=a) (w:=w1) (.pointer (some ⟨b2,o2+k,none⟩)) w1 ho rfl ?_ ((fun u=>Touch.refl _ _) w1) ⟨fun h=>hI.1 (by simpa [upd] using h),fun h=>upd_monok (hI.2.1 (by simpa [upd] using h)),fun h=>upd_monok (hI.2.2.1 (by simpa [upd] using h)),fun h=>(getD_put _ (by decide)).trans (hI.2.2.2.1 (by simpa [upd] using h)),fun h=>upd_monok (hI.2.2.2.2 (by simpa [upd] using h))⟩ (fun _ _ h=>h) rfl
     unfold execOp;simp only [zA,zB,zC,d0,d1,ec];first|rfl|(go_simp;done)|(go_simp;rfl)|(go_simp;omega)
    ·have d0:a.eval (.tmp 18)=.pointer (some ⟨b2,o2+k,none⟩):=hdep ⟨6,.data⟩ (by simp) rfl
     refine growA_val (I:=(fun d (ts:Array Value) u=>(d 12=false→OwnI u B u3 KK)∧(d 12=true→d 11=true)∧(d 13=true→d 12=true)∧(d 13=false→ts.getD 3 undef=u3)∧(d 12=true→d 0=true))) (X:=(fun d u v=>(d 12=true ∨ d 13=true)→∀ z,(fun z u=>OwnI u B z (KK++[y])) z u→(fun z u=>OwnI u B z (KK++[y])) z v)) (d:=fd) (a:=a) (w:=w1) (.int .i64 (q:Nat)) w1 ho rfl ?_ ((fun u=>Touch.refl _ _) w1) ⟨fun h=>hI.1 (by simpa [upd] using h),fun h=>upd_monok (hI.2.1 (by simpa [upd] using h)),fun h=>upd_monok (hI.2.2.1 (by simpa [upd] using h)),fun h=>(getD_put _ (by decide)).trans (hI.2.2.2.1 (by simpa [upd] using h)),fun h=>upd_monok (hI.2.2.2.2 (by simpa [upd] using h))⟩ (fun _ _ h=>h) rfl
     unfold execOp;simp only [zA,zB,zC,d0,ec];first|rfl|(go_simp;done)|(go_simp;rfl)|(go_simp;omega)
    ·have d0:a.eval (.tmp 14)=.slice (some ⟨b1,o1,none⟩) p1 c1:=hdep ⟨2,.data⟩ (by simp) rfl
     have d1:a.eval (.tmp 19)=.int .i64 (q:Nat):=hdep ⟨7,.data⟩ (by simp) rfl
     refine growA_val (I:=(fun d (ts:Array Value) u=>(d 12=false→OwnI u B u3 KK)∧(d 12=true→d 11=true)∧(d 13=true→d 12=true)∧(d 13=false→ts.getD 3 undef=u3)∧(d 12=true→d 0=true))) (X:=(fun d u v=>(d 12=true ∨ d 13=true)→∀ z,(fun z u=>OwnI u B z (KK++[y])) z u→(fun z u=>OwnI u B z (KK++[y])) z v)) (d:=fd) (a:=a) (w:=w1) (.pointer (some ⟨b1,o1+q * 7,none⟩)) w1 ho rfl ?_ ((fun u=>Touch.refl _ _) w1) ⟨fun h=>hI.1 (by simpa [upd] using h),fun h=>upd_monok (hI.2.1 (by simpa [upd] using h)),fun h=>upd_monok (hI.2.2.1 (by simpa [upd] using h)),fun h=>(getD_put _ (by decide)).trans (hI.2.2.2.1 (by simpa [upd] using h)),fun h=>upd_monok (hI.2.2.2.2 (by simpa [upd] using h))⟩ (fun _ _ h=>h) rfl
     unfold execOp;simp only [zA,zB,zC,d0,d1,ec];first|rfl|(go_simp;done)|(go_simp;rfl)|(go_simp;omega)
    ·have d0:a.eval (.tmp 20)=.pointer (some ⟨b1,o1+q * 7,none⟩):=hdep ⟨8,.data⟩ (by simp) rfl
     refine growA_val (I:=(fun d (ts:Array Value) u=>(d 12=false→OwnI u B u3 KK)∧(d 12=true→d 11=true)∧(d 13=true→d 12=true)∧(d 13=false→ts.getD 3 undef=u3)∧(d 12=true→d 0=true))) (X:=(fun d u v=>(d 12=true ∨ d 13=true)→∀ z,(fun z u=>OwnI u B z (KK++[y])) z u→(fun z u=>OwnI u B z (KK++[y])) z v)) (d:=fd) (a:=a) (w:=w1) (.pointer (some ⟨b1,o1+q * 7,none⟩)) w1 ho rfl ?_ ((fun u=>Touch.refl _ _) w1) ⟨fun h=>hI.1 (by simpa [upd] using h),fun h=>upd_monok (hI.2.1 (by simpa [upd] using h)),fun h=>upd_monok (hI.2.2.1 (by simpa [upd] using h)),fun h=>(getD_put _ (by decide)).trans (hI.2.2.2.1 (by simpa [upd] using h)),fun h=>upd_monok (hI.2.2.2.2 (by simpa [upd] using h))⟩ (fun _ _ h=>h) rfl
     unfold execOp;simp only [zA,zB,zC,d0,ec];first|rfl|(go_simp;done)|(go_simp;rfl)|(go_simp;omega)
    ·have d0:a.eval (.tmp 21)=.pointer (some ⟨b1,o1+q * 7,none⟩):=hdep ⟨9,.data⟩ (by simp) rfl
     refine growA_val (I:=(fun d (ts:Array Value) u=>(d 12=false→OwnI u B u3 KK)∧(d 12=true→d 11=true)∧(d 13=true→d 12=true)∧(d 13=false→ts.getD 3 undef=u3)∧(d 12=true→d 0=true))) (X:=(fun d u v=>(d 12=true ∨ d 13=true)→∀ z,(fun z u=>OwnI u B z (KK++[y])) z u→(fun z u=>OwnI u B z (KK++[y])) z v)) (d:=fd) (a:=a) (w:=w1) (.int .i64 y) w1 ho rfl ?_ ((fun u=>Touch.refl _ _) w1) ⟨fun h=>hI.1 (by simpa [upd] using h),fun h=>upd_monok (hI.2.1 (by simpa [upd] using h)),fun h=>upd_monok (hI.2.2.1 (by simpa [upd] using h)),fun h=>(getD_put _ (by decide)).trans (hI.2.2.2.1 (by simpa [upd] using h)),fun h=>upd_monok (hI.2.2.2.2 (by simpa [upd] using h))⟩ (fun _ _ h=>h) rfl
     unfold execOp;simp only [zA,zB,zC,d0,ec];first|rfl|(go_simp;done)|(go_simp;rfl)|(go_simp;omega)
    ·have d0:a.eval (.tmp 22)=.int .i64 y:=hdep ⟨10,.data⟩ (by simp) rfl
     refine growA_val (I:=(fun d (ts:Array Value) u=>(d 12=false→OwnI u B u3 KK)∧(d 12=true→d 11=true)∧(d 13=true→d 12=true)∧(d 13=false→ts.getD 3 undef=u3)∧(d 12=true→d 0=true))) (X:=(fun d u v=>(d 12=true ∨ d 13=true)→∀ z,(fun z u=>OwnI u B z (KK++[y])) z u→(fun z u=>OwnI u B z (KK++[y])) z v)) (d:=fd) (a:=a) (w:=w1) (.slice (some ⟨w1.heap.size,0,none⟩) 1 1) (w1.alloc (.cells #[.int .i64 y] 3)) ho rfl ?_ ((Touch.of_below (box_new _ _))) ⟨fun h=>Gn.Own.later (hI.1 (by simpa [upd] using h)) (box_new _ _),fun h=>upd_monok (hI.2.1 (by simpa [upd] using h)),fun h=>upd_monok (hI.2.2.1 (by simpa [upd] using h)),fun h=>(getD_put _ (by decide)).trans (hI.2.2.2.1 (by simpa [upd] using h)),fun h=>upd_monok (hI.2.2.2.2 (by simpa [upd] using h))⟩ (fun h=>by have h11:fd 11=true:=(by rcases h with h|h<;>first|exact hI.2.1 h|exact hI.2.1 (hI.2.2.1 h));rw [hfd] at h11;cases h11) ⟨_,rfl,hfr,Blk.new w1 3 #[.int .i64 y]⟩
     unfold execOp;simp only [zA,zB,zC,d0,ec]
     generalize a.eval=ev at *
     go_simp
    ·obtain⟨b,d1,hbn,hbk⟩:∃ b,a.eval (.tmp 23)=.slice (some ⟨b,0,none⟩) 1 1∧¬ (u3.ownBlock=some b)∧Blk w1 b 3 [.int .i64 y]:=hdep ⟨11,.data⟩ (by simp) rfl
     have d0:a.eval (.tmp 12)=u3:=hdep ⟨0,.data⟩ (by simp) rfl
     have hm1:=hI.1 hfd
     obtain⟨v',w',hrun,ho1,hg1,_,_⟩:=Gn.run_app inL inY w1 23 B u3 KK hm1 (.slice (some ⟨b,0,none⟩) 1 1) [y] (rd_blkI hbk) HLN.out hsz1
     refine growA_val (I:=(fun d (ts:Array Value) u=>(d 12=false→OwnI u B u3 KK)∧(d 12=true→d 11=true)∧(d 13=true→d 12=true)∧(d 13=false→ts.getD 3 undef=u3)∧(d 12=true→d 0=true))) (X:=(fun d u v=>(d 12=true ∨ d 13=true)→∀ z,(fun z u=>OwnI u B z (KK++[y])) z u→(fun z u=>OwnI u B z (KK++[y])) z v)) (d:=fd) (a:=a) (w:=w1) v' w' ho rfl ?_ (touch_grown12 hg1 (fun q hq=>hq)) ⟨fun h=>absurd h (by simp [upd]),fun _=>upd_monok (hdd ⟨11,.data⟩ (by simp) rfl),fun _=>by simp [upd],fun h=>(getD_put _ (by decide)).trans (hI.2.2.2.1 (by simpa [upd] using h)),fun _=>upd_monok (hdd ⟨0,.data⟩ (by simp) rfl)⟩ (fun h=>by
      have h12:fd 12=true:=(by rcases h with h|h<;>first|exact h|exact hI.2.2.1 h)
      rw [hfd] at h12;cases h12) ho1
     unfold execOp resolve
     simp only [zA,zB,zC,d0,d1,ec,invoke,builtin,Sem.run_bind,Sem.run_pure,Result.andThen_ok,hrun]
    ·obtain⟨z,d0,f0⟩:∃ z,a.eval (.tmp 24)=z∧OwnI w1 B z (KK++[y]):=⟨_,rfl,hdep ⟨12,.data⟩ (by simp) rfl⟩
     have h12:fd 12=true:=hdd ⟨12,.data⟩ (by simp) rfl
     refine growA_val (I:=(fun d (ts:Array Value) u=>(d 12=false→OwnI u B u3 KK)∧(d 12=true→d 11=true)∧(d 13=true→d 12=true)∧(d 13=false→ts.getD 3 undef=u3)∧(d 12=true→d 0=true))) (X:=(fun d u v=>(d 12=true ∨ d 13=true)→∀ z,(fun z u=>OwnI u B z (KK++[y])) z u→(fun z u=>OwnI u B z (KK++[y])) z v)) (d:=fd) (a:=a) (w:=w1) z w1 ho rfl ?_ (Touch.refl _ _) ⟨fun h=>absurd h (by simp [upd,h12]),fun _=>upd_monok (hI.2.1 h12),fun _=>upd_monok h12,fun h=>absurd h (by simp [upd]),fun _=>upd_monok (hI.2.2.2.2 h12)⟩ (fun _ _ h=>h) f0
     unfold execOp;simp only [zA,zB,zC,d0,ec];first|rfl|(go_simp;done)|(go_simp;rfl)
   ·intro a w1 hI hb hj
    exact⟨_,rfl,hj 13 (by decide),Below.trans ((Below.refl B wr).drew) (hb.below hBr (fun q hq=>(HOk.out.lt q hq).1))⟩
   rintro ts w6 ⟨z,h3,ho6,hb6⟩
   simp only [fill,List.setIfInBounds_toArray,List.set_cons_succ,List.set_cons_zero]
   rw [h3]
   have HO6:=hZ (HE.out▸ho6)
   have HU6:=hZ (HW.out.trans (hB▸hb6))
   clear h3 ho6 hb6 x0 x1 z0 y0
   go_wp2_with fail
   go_roundw
   case rel=>exact⟨k+1,by omega,by go_num,by rw [hB];exact HO6,HU6⟩
   case measure=>simp [intOf];omega
  ·have hlt1:¬ (k:Int) < (p2:Int):=by omega
   have HE:Hid (ks.take k=ks):=hZ (List.take_of_length_le (by have:=HL.out.2;omega))
   have hsz:=HB.out.size
   have hgp:=HGP.out
   go_wp2_with fail
   go_ret
   exact⟨_,rfl,by have h:=HOk.out;rw [HE.out] at h;exact Gn.Own.lower h (by omega),by have:=up HB.out HW.out;rw [HGP.out] at this;exact this⟩
end Go.Proofs.YtenfjmdajlhfoabGreatDoor
