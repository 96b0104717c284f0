/- Texts. -/
import Derived.Deep.DeepCutAuto
import Derived.Deep.CutBlock
import Derived.Test.YtenfjmdajlhfoabGreatDoorKEvR2
import Derived.Deep.RegionHeld3
set_option maxHeartbeats 16000000
namespace Go.Proofs.YtenfjmdajlhfoabGreatDoor
open Go.RowKit Go.Sort
set_option linter.unusedVariables false
set_option linter.unusedSimpArgs false
set_option maxRecDepth 100000
theorem Ev.hi_max {l:List Co} (h:Sc.okC l=true) {c:Co} (hc:l[l.length - 1]?=some c) (g:Int) (hg:0≤g):Ev.hi g l=max g c.id:=by
 have e:=Ev.hi_last h hc
 have h1:Ev.hi g l < max g c.id+1:=Ev.hi_lt.2 ⟨by omega,fun d hd=>by
  have:=(Ev.hi_lt.1 (show Ev.hi 0 l < c.id+1 by omega)).2 d hd;omega⟩
 have h2:¬ Ev.hi g l < max g c.id:=fun h2=>by
  have h3:=Ev.hi_lt.1 h2
  have:=h3.2 c (List.mem_of_getElem? hc)
  omega
 omega
theorem Ev.hiL_nn (l:List Ev.Sm):0≤Ev.hiL l:=by
 rcases Int.lt_or_le (Ev.hiL l) 0 with h|h
 ·have:=(Ev.hiL_lt.1 h).1;omega
 ·exact h
theorem rChain12 (v:Value) (L:List Sx) (hok:SmsOk L) (w:World) (h:RdSm w w.heap.size v L) (d:Int) (hd:Ev.chain (sms L)=d) :
 Calls Tryz.prog 26 #[v] w fun e w'=>e=.returned (.int .i64 d)∧Below w.heap.size w w':=by
 have hml:=Gn.Rd.len' h.rd
 have HR:=hZ h
 have HOK:=hZ hok
 have HD:=hZ hd
 obtain⟨a,c,rfl,_⟩:=Gn.Rd.form h.rd
 obtain⟨n,hn⟩:∃ n,L.length=n:=⟨_,rfl⟩
 rw [hn] at HR hml ⊢
 have HN:=hZ hn
 clear h hok hd
 go_enter Tryz.func26,Tryz.ntmps26
 by_cases hb:64 < n
 ·have hb1:(n:Int) > 64:=by omega
  obtain rfl:d=5:=by rw [← HD.out];unfold Ev.chain;rw [sms_len,if_pos (by omega)]
  go_wp2_with fail
  go_ret
  exact⟨rfl,Below.refl _ _⟩
 ·have hb1:¬ (n:Int) > 64:=by omega
  go_wp2_with fail
  go_loopw [3] (fun i wr=>∃ k:Nat,k≤n∧i=.int .i64 (k:Nat)∧Hid (∀ j x,j < k→L[j]?=some x→Sc.ck x.s.1 x.s.2=0)∧Hid (Below w.heap.size w wr)) (fun i _=>n - (intOf i).toNat)
  case atStart=>exact⟨0,by omega,by rfl,hZ (fun j x hj=>by omega),hZ (Below.refl _ _)⟩
  case round =>
   obtain⟨k,hk,rfl,HK,HW⟩:=hrel
   by_cases hlt:k < n
   ·have hlt1:(k:Int) < (n:Int):=by omega
    obtain⟨x,hx⟩:∃ x,L[k]?=some x:=⟨_,List.getElem?_eq_getElem (by omega)⟩
    have hxm:=List.mem_of_getElem? hx
    obtain⟨gb,off,rfl,p0,p1⟩:=rdS_cells HR.out HW.out hx
    obtain⟨e0,he0⟩:∃ e,Sc.ck x.s.1 x.s.2=e:=⟨_,rfl⟩
    have hcs:=Sc.ck_cases x.s.1 x.s.2
    rw [he0] at hcs
    have HC:=hZ (rCheckS x.v x.kv x.s.1 x.s.2 wr (((HR.out.el x hxm).later HW.out).c) (((HR.out.el x hxm).later HW.out).k) (HOK.out x hxm).k (HOK.out x hxm).i e0 he0)
    have HNX:Hid (e0=0→∀ j y,j < k+1→L[j]?=some y→Sc.ck y.s.1 y.s.2=0):=hZ (fun e j y hj hy=>by
     by_cases h:j=k
     ·subst h;rw [hx] at hy;injection hy with hy;subst hy;exact he0.trans e
     ·exact HK.out j y (by omega) hy)
    have HBAD:Hid (e0=2→d=2):=hZ (fun e=>by
     rw [← HD.out]
     unfold Ev.chain
     rw [sms_len,if_neg (by omega),Ev.allOk_no (sms_at hx) (he0.trans e)];rfl)
    obtain⟨b1,d1,b2,d2,s⟩:=x
    unfold Sx.v at HC p0
    unfold Sx.kv at HC p1
    clear hx hxm he0 HK
    simp only at HC p0 p1
    go_wp2_with fail
    ((with_reducible refine HC.out.mono ?_);rintro e w1 ⟨rfl,b⟩)
    have HW1:=hZ (up HW.out b)
    clear b HC p0 p1
    rcases hcs with rfl|rfl
    ·have hnx:∀ j y,j < k+1→L[j]?=some y→Sc.ck y.s.1 y.s.2=0:=by have h:=HNX.out;first|exact h rfl|exact h trivial
     have HN2:=hZ hnx
     clear hnx HNX
     go_wp2_with fail
     go_roundw
     case rel=>exact⟨k+1,by omega,by go_num,HN2,HW1⟩
     case measure=>simp [intOf];omega
    ·have hd2:d=2:=by have h:=HBAD.out;first|exact h rfl|exact h trivial
     have HD2:=hZ hd2
     clear hd2
     go_wp2_with fail
     go_ret
     exact⟨by rw [HD2.out];rfl,HW1.out⟩
   ·have hlt1:¬ (k:Int) < (n:Int):=by omega
    obtain rfl:k=n:=by omega
    have HALL:Hid (∀ x∈L,Sc.ck x.s.1 x.s.2=0):=hZ (fun x hx=>by
     obtain⟨j,hj⟩:=List.getElem?_of_mem hx
     exact HK.out j x (by have:=(List.getElem?_eq_some_iff.1 hj).1;omega) hj)
    clear HK
    go_wp2_with fail
    go_loopw [4,5] (fun hv i wr=>∃ q:Nat,q≤k∧i=.int .i64 (q:Nat)∧hv=.int .i64 (Ev.hiL ((sms L).take q))∧Hid (∀ j,j < q→Ev.folAt (sms L) j=true)∧Hid (Below w.heap.size w wr)) (fun _ i _=>k - (intOf i).toNat)
    case atStart=>exact⟨0,by omega,by rfl,by rfl,hZ (fun j hj=>by omega),HW⟩
    case round =>
     obtain⟨q,hq,rfl,rfl,HF,HU⟩:=hrel
     by_cases hlq:q < k
     ·have hlq1:(q:Int) < (k:Int):=by omega
      obtain⟨hh,hhh⟩:∃ h,Ev.hiL ((sms L).take q)=h:=⟨_,rfl⟩
      have hh0:0≤hh:=by rw [← hhh];exact Ev.hiL_nn _
      obtain⟨x,hx⟩:∃ x,L[q]?=some x:=⟨_,List.getElem?_eq_getElem (by omega)⟩
      have hxm:=List.mem_of_getElem? hx
      have hxk:=HALL.out x hxm
      have hxo:=HOK.out x hxm
      obtain⟨z,hz⟩:∃ z,x.s.1[x.s.1.length - 1]?=some z:=⟨_,List.getElem?_eq_getElem (by have:=(Sc.okC_iff.1 (Sc.ck_zero.1 hxk).1).1.1;omega)⟩
      have HHN:Hid (Ev.hiL ((sms L).take (q+1))=max hh z.id):=hZ (by
       rw [List.take_add_one,sms_at hx]
       show Ev.hiL ((sms L).take q++[x.s])=_
       rw [Ev.hiL_snoc,hhh,Ev.hi_max (Sc.ck_zero.1 hxk).1 hz hh hh0])
      have HGR:=hZ (fun (w1:World) (hb:Below w.heap.size w w1)=>rGreatest x.v x.kv x.s.1 w1 ((HR.out.el x hxm).later hb).c hxo.n z hz)
      have HFN:Hid (Ev.folAt (sms L) q=true→∀ j,j < q+1→Ev.folAt (sms L) j=true):=hZ (fun e j hj=>by
       by_cases h:j=q
       ·rw [h];exact e
       ·exact HF.out j (by omega))
      obtain⟨gb,off,hsa,p0,p1⟩:=rdS_cells HR.out (Below.refl _ _) hx
      subst hsa
      have HPX:=hZ (fun (w1:World) (hb:Below w.heap.size w w1)=>(rdS_cells HR.out hb hx))
      rw [hhh]
      generalize z.id=zi at *
      have hrxx:=HR.out.el x hxm
      have HRX:=hZ hrxx
      by_cases hq0:q=0
      ·subst hq0
       obtain⟨wo,hwo⟩:∃ z,z=wr:=⟨_,rfl⟩
       subst hwo
       have HF1:=hZ (HFN.out (by unfold Ev.folAt;simp))
       go_upto_region 12 with fail
       refine region_growI_merge (fun u v:World=>Below u.heap.size u v) (fun _ _=>True) (fun _ _ _=>True) (fun u=>Below.refl _ _) (fun _ _ _ h k=>up h k) (kjI #[Spc.eq (.int .i64 (0:Nat)),Spc.eq (.bool false),Spc.eq (.bool false),Spc.eq undef,Spc.eq undef,Spc.eq undef,Spc.eq undef,Spc.eq undef,Spc.eq undef,Spc.eq undef,Spc.eq undef,Spc.eq undef,Spc.eq undef,Spc.eq undef,Spc.eq undef,Spc.eq (.bool false)]) [27,28,29,30,31,32,33,34,35,36,37,38,39,40,41,42] (fun ts W=>ts.getD 42 undef=.bool false∧Below wo.heap.size wo W) (by kernel_rfl) (by kernel_rfl) (by kernel_rfl) kjI_later trivial ?_ ?_ ?_
       ·intro QQ fd jo o a w1 ho hfd hdd hI hb hs hold hdep
        have hjo:jo < 16:=(Array.getElem?_eq_some_iff.1 ho).1
        have hb':Below wo.heap.size wo w1:=up (Below.refl _ _).drew hb
        have e5:a.eval (.tmp 5)=.int .i64 (0:Nat):=by
         show a.tmps.getD 5 undef=_
         rw [Array.getD_eq_getD_getElem?,hold 5 (by decide +kernel)];rfl
        have ec:∀ v,a.eval (.const v)=v:=fun _=>rfl
        clear hold hs
        rcases (show jo=0 ∨ jo=1 ∨ jo=2 ∨ jo=3 ∨ jo=4 ∨ jo=5 ∨ jo=6 ∨ jo=7 ∨ jo=8 ∨ jo=9 ∨ jo=10 ∨ jo=11 ∨ jo=12 ∨ jo=13 ∨ jo=14 ∨ jo=15 by omega) with rfl|rfl|rfl|rfl|rfl|rfl|rfl|rfl|rfl|rfl|rfl|rfl|rfl|rfl|rfl|rfl
        all_goals (have ho2:=ho;simp only [List.getElem?_toArray,zD,zE,Option.some.injEq] at ho2;subst ho2)
        refine gvT fd (.int .i64 (0:Nat)) ho rfl ?_ rfl;rotate_left
        ·have d0:a.eval (.tmp 27)=.int .i64 (0:Nat):=hdep ⟨0,.data⟩ (by simp) rfl
         refine gvT fd (.bool false) ho rfl ?_ rfl
         unfold execOp;simp only [zA,zB,zC,d0,ec];first|(go_simp;done)|(go_simp;omega)|(go_simp;rfl)
        have d0:a.eval (.tmp 28)=.bool false:=hdep ⟨1,.data⟩ (by simp) rfl;refine gvT fd (.bool false) ho rfl ?_ rfl;rotate_left
        iterate 12 (have eg:a.tmps.getD 29 undef=.bool false:=hdep ⟨2,.guard⟩ (by simp) rfl;exact gnT fd ho (unwantedI rfl (yieldedI rfl eg) (by decide)) rfl)
        have d0:a.eval (.tmp 29)=.bool false:=hdep ⟨2,.data⟩ (by simp) rfl;have d1:a.eval (.tmp 41)=undef:=hdep ⟨14,.data⟩ (by simp) rfl;refine gvT fd (.bool false) ho rfl ?_ rfl;rotate_left
        all_goals (unfold execOp;first|(simp only [zA,zB,zC,d0,d1,ec];first|rfl|(go_simp;first|done|rfl|omega))|(simp only [zA,zB,zC,d0,ec];first|rfl|(go_simp;first|done|rfl|omega))|(simp only [zA,zB,zC,e5,ec];first|rfl|(go_simp;first|done|rfl|omega)))
       ·intro a w1 hI hb hj
        have hb':Below wo.heap.size wo w1:=up (Below.refl _ _).drew hb
        exact⟨hj 15 (by decide),hb'⟩
       rintro ts w6 ⟨h42,hb6⟩
       simp only [fill,List.setIfInBounds_toArray,List.set_cons_succ,List.set_cons_zero]
       rw [h42]
       have HW6:=hZ (up HU.out hb6)
       obtain⟨gb',off',e8,z0,z1⟩:=HPX.out w6 HW6.out
       injection e8 with e8
       injection e8 with e8 e9 _
       subst e8 e9
       clear h42 hb6
       have HGG:=hZ (HGR.out w6 HW6.out)
       unfold Sx.v at z0 HGG
       unfold Sx.kv at z1 HGG
       try simp only [Nat.zero_mul,Nat.add_zero] at z0 z1
       go_wp2_with fail
       ((with_reducible refine HGG.out.mono ?_);rintro e w7 ⟨rfl,b⟩)
       have HW7:=hZ (up HW6.out b)
       clear b z0 z1 HGG
       go_wp2_with fail
       go_roundw
       case rel=>exact⟨_,by omega,by go_num,by rw [HHN.out],HF1,HW7⟩
       case measure=>simp [intOf];omega
      ·obtain⟨q,rfl⟩:∃ z,q=z+1:=⟨q - 1,by omega⟩
       obtain⟨wo,hwo⟩:∃ z,z=wr:=⟨_,rfl⟩
       subst hwo
       obtain⟨y,hy⟩:∃ x,L[q]?=some x:=⟨_,List.getElem?_eq_getElem (by omega)⟩
       have hym:=List.mem_of_getElem? hy
       have hyo:=HOK.out y hym
       have k1:=(Sc.ck_zero.1 (HALL.out y hym)).2
       have k2:=(Sc.ck_zero.1 hxk).2
       have HFO:=hZ (fun (w1:World) (hb:Below w.heap.size w w1)=>rFollows y x hyo.n hxo.n hyo.m hxo.m (Ev.okK_range k1).2 (Ev.okK_range k2).2 (Ev.kidR_kid k1) (Ev.kidR_kid k2) hh w1 ((HR.out.el y hym).later hb) (hrxx.later hb))
       have hfe:Ev.folAt (sms L) (q+1)=Ev.fol y.s x.s hh:=by
        unfold Ev.folAt
        rw [Nat.add_sub_cancel,Ev.getD_at (sms_at hy),Ev.getD_at (sms_at hx),hhh]
        simp
       obtain⟨fb,hfb⟩:∃ b,Ev.fol y.s x.s hh=b:=⟨_,rfl⟩
       rw [hfb] at HFO hfe
       have HFE:=hZ hfe
       have HPY:=hZ (fun (w1:World) (hb:Below w.heap.size w w1)=>(rdS_cells HR.out hb hy))
       have hwk2:((q+1:Nat):Int) - 1=(q:Int):=by omega
       have hwk:IntKind.i64.wrap (((q+1:Nat):Int) - 1)=(q:Int):=by rw [hwk2];exact IntWalk.i64_in (q:Int) ⟨by omega,by omega⟩
       have hwk3:IntKind.i64.wrap (q:Int)=(q:Int):=IntWalk.i64_in (q:Int) ⟨by omega,by omega⟩
       have hqk:(q:Int) < (k:Int):=by omega
       have hqp:(0:Int) < ((q+1:Nat):Int):=by omega
       clear k1 k2 hfb hfe hy
       go_upto_region 12 with fail
       refine region_growI_merge (fun u v:World=>Below u.heap.size u v) (fun _ _=>True) (fun _ _ _=>True) (fun u=>Below.refl _ _) (fun _ _ _ h k=>up h k) (kjI #[Spc.eq (.int .i64 ((q+1:Nat):Int)),Spc.eq (.bool true),Spc.eq (.bool true),Spc.eq (.slice (some ⟨gb,off,none⟩) k c),Spc.eq (.int .i64 ((q+1:Nat):Int)),Spc.eq (.int .i64 (q:Nat)),Spc.eq (.pointer (some ⟨gb,off+q * 2,none⟩)),Spc.eq (.agg #[y.v,y.kv]),Spc.eq (.slice (some ⟨gb,off,none⟩) k c),Spc.eq (.int .i64 ((q+1:Nat):Int)),Spc.eq (.pointer (some ⟨gb,off+(q+1) * 2,none⟩)),Spc.eq (.agg #[x.v,x.kv]),Spc.eq (.int .i64 hh),Spc.eq (.bool fb),Spc.eq (.bool (!fb)),Spc.eq (.bool (!fb))]) [27,28,29,30,31,32,33,34,35,36,37,38,39,40,41,42] (fun ts W=>ts.getD 42 undef=.bool (!fb)∧Below wo.heap.size wo W) (by kernel_rfl) (by kernel_rfl) (by kernel_rfl) kjI_later trivial ?_ ?_ ?_
       ·intro QQ fd jo o a w1 ho hfd hdd hI hb hs hold hdep
        have hjo:jo < 16:=(Array.getElem?_eq_some_iff.1 ho).1
        have hb':Below wo.heap.size wo w1:=up (Below.refl _ _).drew hb
        have hbo:Below w.heap.size w w1:=up HU.out hb'
        obtain⟨gb',off',e8,f0,f1⟩:=HPX.out w1 hbo
        injection e8 with e8
        injection e8 with e8 e9 _
        subst e8 e9
        obtain⟨gb',off',e8,g0,g1⟩:=HPY.out w1 hbo
        injection e8 with e8
        injection e8 with e8 e9 _
        subst e8 e9
        have e0:a.eval (.tmp 0)=.slice (some ⟨gb,off,none⟩) k c:=by
         show a.tmps.getD 0 undef=_
         rw [Array.getD_eq_getD_getElem?,hold 0 (by decide +kernel)];rfl
        have e4:a.eval (.tmp 4)=.int .i64 hh:=by
         show a.tmps.getD 4 undef=_
         rw [Array.getD_eq_getD_getElem?,hold 4 (by decide +kernel)];rfl
        have e5:a.eval (.tmp 5)=.int .i64 ((q+1:Nat):Int):=by
         show a.tmps.getD 5 undef=_
         rw [Array.getD_eq_getD_getElem?,hold 5 (by decide +kernel)];rfl
        have ec:∀ v,a.eval (.const v)=v:=fun _=>rfl
        clear hold hs
        rcases (show jo=0 ∨ jo=1 ∨ jo=2 ∨ jo=3 ∨ jo=4 ∨ jo=5 ∨ jo=6 ∨ jo=7 ∨ jo=8 ∨ jo=9 ∨ jo=10 ∨ jo=11 ∨ jo=12 ∨ jo=13 ∨ jo=14 ∨ jo=15 by omega) with rfl|rfl|rfl|rfl|rfl|rfl|rfl|rfl|rfl|rfl|rfl|rfl|rfl|rfl|rfl|rfl
        all_goals (have ho2:=ho;simp only [List.getElem?_toArray,zD,zE,Option.some.injEq] at ho2;subst ho2)
        all_goals first|(refine (fun (eg:a.tmps.getD 29 undef=.bool true)=>?_) (hdep ⟨2,.guard⟩ ?_ rfl);rotate_left;focus (simp<;>fail))|skip
        refine gvT fd (.int .i64 ((q+1:Nat):Int)) ho rfl ?_ rfl;rotate_left
        ·have d0:a.eval (.tmp 27)=.int .i64 ((q+1:Nat):Int):=hdep ⟨0,.data⟩ (by simp) rfl
         refine gvT fd (.bool true) ho rfl ?_ rfl
         unfold execOp;simp only [zA,zB,zC,d0,ec];first|(go_simp;done)|(go_simp;omega)|(go_simp;rfl)
        have d0:a.eval (.tmp 28)=.bool true:=hdep ⟨1,.data⟩ (by simp) rfl;refine gvT fd (.bool true) ho rfl ?_ rfl;rotate_left
        refine gvT fd (.slice (some ⟨gb,off,none⟩) k c) ho (wantedI rfl (yieldedI rfl eg)) ?_ rfl;rotate_left
        refine gvT fd (.int .i64 ((q+1:Nat):Int)) ho (wantedI rfl (yieldedI rfl eg)) ?_ rfl;rotate_left
        ·have d0:a.eval (.tmp 31)=.int .i64 ((q+1:Nat):Int):=hdep ⟨4,.data⟩ (by simp) rfl
         refine gvT fd (.int .i64 (q:Nat)) ho (wantedI rfl (yieldedI rfl eg)) ?_ rfl
         unfold execOp;simp only [zA,zB,zC,d0,ec]
         go_simp
         first|done|(simp only [hwk];done)|(simp only [hwk2,hwk3];done)|(simp only [hwk,hwk3];done)|(simp [hwk,hwk2,hwk3];done)|(push_cast;simp [hwk3];done)|exact hwk
        have d0:a.eval (.tmp 30)=.slice (some ⟨gb,off,none⟩) k c:=hdep ⟨3,.data⟩ (by simp) rfl;have d1:a.eval (.tmp 32)=.int .i64 (q:Nat):=hdep ⟨5,.data⟩ (by simp) rfl;refine gvT fd (.pointer (some ⟨gb,off+q * 2,none⟩)) ho (wantedI rfl (yieldedI rfl eg)) ?_ rfl;rotate_left
        have d0:a.eval (.tmp 33)=.pointer (some ⟨gb,off+q * 2,none⟩):=hdep ⟨6,.data⟩ (by simp) rfl;refine gvT fd (.agg #[y.v,y.kv]) ho (wantedI rfl (yieldedI rfl eg)) ?_ rfl;rotate_left
        refine gvT fd (.slice (some ⟨gb,off,none⟩) k c) ho (wantedI rfl (yieldedI rfl eg)) ?_ rfl;rotate_left
        refine gvT fd (.int .i64 ((q+1:Nat):Int)) ho (wantedI rfl (yieldedI rfl eg)) ?_ rfl;rotate_left
        have d0:a.eval (.tmp 35)=.slice (some ⟨gb,off,none⟩) k c:=hdep ⟨8,.data⟩ (by simp) rfl;have d1:a.eval (.tmp 36)=.int .i64 ((q+1:Nat):Int):=hdep ⟨9,.data⟩ (by simp) rfl;refine gvT fd (.pointer (some ⟨gb,off+(q+1) * 2,none⟩)) ho (wantedI rfl (yieldedI rfl eg)) ?_ rfl;rotate_left
        have d0:a.eval (.tmp 37)=.pointer (some ⟨gb,off+(q+1) * 2,none⟩):=hdep ⟨10,.data⟩ (by simp) rfl;refine gvT fd (.agg #[x.v,x.kv]) ho (wantedI rfl (yieldedI rfl eg)) ?_ rfl;rotate_left
        refine gvT fd (.int .i64 hh) ho (wantedI rfl (yieldedI rfl eg)) ?_ rfl;rotate_left
        ·have d0:a.eval (.tmp 34)=.agg #[y.v,y.kv]:=hdep ⟨7,.data⟩ (by simp) rfl
         have d1:a.eval (.tmp 38)=.agg #[x.v,x.kv]:=hdep ⟨11,.data⟩ (by simp) rfl
         have d2:a.eval (.tmp 39)=.int .i64 hh:=hdep ⟨12,.data⟩ (by simp) rfl
         refine growI_call (I:=(fun _ _=>True)) (X:=(fun _ _ _=>True)) (d:=fd) (a:=a) (w:=w1) 41 #[.agg #[y.v,y.kv],.agg #[x.v,x.kv],.int .i64 hh] ho (wantedI rfl (yieldedI rfl eg)) ?_ ((HFO.out w1 hbo).mono ?_)
         ·unfold execOp resolve
          simp only [zA,zB,zC,d0,d1,d2,ec]
          rfl
         ·rintro e c1 ⟨rfl,hb2⟩
          exact⟨_,rfl,rfl,hb2,trivial,trivial⟩
        ·have d0:a.eval (.tmp 40)=.bool fb:=hdep ⟨13,.data⟩ (by simp) rfl
         refine gvT fd (.bool (!fb)) ho (wantedI rfl (yieldedI rfl eg)) ?_ rfl
         unfold execOp;simp only [zA,zB,zC,d0,ec];first|(go_simp;done)|(cases fb<;>(go_simp;done))|(cases fb<;>rfl)
        ·have d0:a.eval (.tmp 29)=.bool true:=hdep ⟨2,.data⟩ (by simp) rfl
         have d1:a.eval (.tmp 41)=.bool (!fb):=hdep ⟨14,.data⟩ (by simp) rfl
         refine gvT fd (.bool (!fb)) ho rfl ?_ rfl
         unfold execOp;simp only [zA,zB,zC,d0,d1,ec];first|(go_simp;done)|(cases fb<;>(go_simp;done))|(cases fb<;>rfl)
        all_goals (unfold execOp;first|(simp only [zA,zB,zC,d0,d1,ec];first|rfl|(go_simp;first|done|rfl|omega))|(simp only [zA,zB,zC,d0,ec];first|rfl|(go_simp;first|done|rfl|omega))|(simp only [zA,zB,zC,e0,ec];first|rfl|(go_simp;first|done|rfl|omega))|(simp only [zA,zB,zC,e4,ec];first|rfl|(go_simp;first|done|rfl|omega))|(simp only [zA,zB,zC,e5,ec];first|rfl|(go_simp;first|done|rfl|omega)))
       ·intro a w1 hI hb hj
        have hb':Below wo.heap.size wo w1:=up (Below.refl _ _).drew hb
        exact⟨hj 15 (by decide),hb'⟩
       cases fb with
       | false =>
        have HB2:Hid (d=120):=hZ (by
         rw [← HD.out]
         have e1:=Ev.isCh_no (l:=sms L) (i:=q+1) (by rw [sms_len];omega) HFE.out
         have e2:Ev.allOk (sms L)=true:=by
          unfold Ev.allOk
          rw [List.all_eq_true]
          intro s hs
          obtain⟨x,hx,rfl⟩:=List.mem_map.1 hs
          simpa using HALL.out x hx
         unfold Ev.chain
         rw [sms_len,if_neg (by omega),if_pos e2,e1];rfl)
        rintro ts w6 ⟨h42,hb6⟩
        simp only [fill,List.setIfInBounds_toArray,List.set_cons_succ,List.set_cons_zero]
        rw [h42]
        have HW6:=hZ (up HU.out hb6)
        clear h42 hb6
        go_wp2_with fail
        go_ret
        exact⟨by rw [HB2.out];rfl,HW6.out⟩
       | true =>
        have HF1:=hZ (HFN.out HFE.out)
        rintro ts w6 ⟨h42,hb6⟩
        simp only [fill,List.setIfInBounds_toArray,List.set_cons_succ,List.set_cons_zero]
        rw [h42]
        have HW6:=hZ (up HU.out hb6)
        obtain⟨gb',off',e8,z0,z1⟩:=HPX.out w6 HW6.out
        injection e8 with e8
        injection e8 with e8 e9 _
        subst e8 e9
        clear h42 hb6
        have HGG:=hZ (HGR.out w6 HW6.out)
        unfold Sx.v at z0 HGG
        unfold Sx.kv at z1 HGG
        try simp only [Nat.zero_mul,Nat.add_zero] at z0 z1
        go_wp2_with fail
        ((with_reducible refine HGG.out.mono ?_);rintro e w7 ⟨rfl,b⟩)
        have HW7:=hZ (up HW6.out b)
        clear b z0 z1 HGG
        go_wp2_with fail
        go_roundw
        case rel=>exact⟨_,by omega,by go_num,by rw [HHN.out],HF1,HW7⟩
        case measure=>simp [intOf];omega
     ·have hlq1:¬ (q:Int) < (k:Int):=by omega
      obtain rfl:q=k:=by omega
      have HZ:Hid (d=0):=hZ (by
       rw [← HD.out]
       exact Ev.chain_zero.2 ⟨by rw [sms_len];omega,fun s hs=>by
        obtain⟨x,hx,rfl⟩:=List.mem_map.1 hs
        exact HALL.out x hx,Ev.isCh_iff.2 fun j hj=>HF.out j (by rw [sms_len] at hj;omega)⟩)
      go_wp2_with fail
      go_ret
      exact⟨by rw [HZ.out];rfl,HU.out⟩
theorem Ev.drop_step {l:List Ev.Sm} {t i:Nat} {s:Ev.Sm} (hs:l[i]?=some s) (hi:i < t):(l.take t).drop i=s::(l.take t).drop (i+1):=by
 have h1:(l.take t)[i]?=some s:=by rw [List.getElem?_take_of_lt hi];exact hs
 obtain⟨h2,h3⟩:=List.getElem?_eq_some_iff.1 h1
 rw [List.drop_eq_getElem_cons h2,h3]
theorem rCarry12 (v:Value) (L:List Sx) (hok:SmsOk L) (w:World) (h:RdSm w w.heap.size v L) (f t:Int) (rv:Value) (r:List Cl.C) (hr:RdC w w.heap.size rv r) (hrl:r.length≤1000000) (hrm:∀ c∈r,c.s.size≤1000000) (f0:Cl.I64 f) (t0:Cl.I64 t) (a:Ev.Ans) (ha:Ev.carry (sms L) f t r=a) :
 Calls Tryz.prog 24 #[v,.int .i64 f,.int .i64 t,rv] w (APost w a):=by
 have hml:=Gn.Rd.len' h.rd
 obtain⟨d,hd⟩:∃ d,Ev.chain (sms L)=d:=⟨_,rfl⟩
 have HC:=hZ (rChain12 v L hok w h d hd)
 have HR:=hZ h
 have HOK:=hZ hok
 have HRR:=hZ hr
 obtain⟨la,lc,rfl,_⟩:=Gn.Rd.form h.rd
 obtain⟨ra,rc,rfl,_⟩:=Gn.Rd.form hr
 have HNIL:Hid (∀ w1:World,OwnC w1 w.heap.size (.slice none 0 0) []):=hZ (fun w1=>Gn.Own.nil _ _)
 unfold Ev.carry at ha
 rw [hd] at ha
 clear h hr hok hd
 by_cases hd0:d=0
 ·subst hd0
  rw [if_neg (by simp),sms_len] at ha
  by_cases h1:f < 1
  ·rw [if_pos (.inl h1)] at ha
   subst ha
   go_enter Tryz.func24,Tryz.ntmps24
   go_wp2_with fail
   ((with_reducible refine HC.out.mono ?_);rintro e w1 ⟨rfl,b1⟩)
   go_wp2_with fail
   go_ret2
   exact⟨_,rfl,HNIL.out _,b1⟩
  ·by_cases h2:t < f
   ·rw [if_pos (.inr (.inl h2))] at ha
    subst ha
    have g2:f > t:=h2
    go_enter Tryz.func24,Tryz.ntmps24
    go_wp2_with fail
    ((with_reducible refine HC.out.mono ?_);rintro e w1 ⟨rfl,b1⟩)
    go_wp2_with fail
    go_ret2
    exact⟨_,rfl,HNIL.out _,b1⟩
   ·by_cases h3:(L.length:Int) < t
    ·rw [if_pos (.inr (.inr h3))] at ha
     subst ha
     have g2:¬ f > t:=by omega
     have g3:t > (L.length:Int):=h3
     go_enter Tryz.func24,Tryz.ntmps24
     go_wp2_with fail
     ((with_reducible refine HC.out.mono ?_);rintro e w1 ⟨rfl,b1⟩)
     go_wp2_with fail
     go_ret2
     exact⟨_,rfl,HNIL.out _,b1⟩
    ·rw [if_neg (by omega)] at ha
     obtain⟨f,rfl⟩:∃ f0:Nat,f=(f0:Int)+1:=⟨(f - 1).toNat,by omega⟩
     obtain⟨t,rfl⟩:∃ t0:Nat,t=(t0:Nat):=⟨t.toNat,by omega⟩
     have hft:f+1≤t:=by omega
     have htl:t≤L.length:=by omega
     rw [show ((f:Int)+1).toNat=f+1 by omega,Nat.add_sub_cancel,Int.toNat_natCast] at ha
     obtain⟨x,hx⟩:∃ x,L[f]?=some x:=⟨_,List.getElem?_eq_getElem (by omega)⟩
     rw [Ev.getD_at (sms_at hx)] at ha
     have hxm:=List.mem_of_getElem? hx
     have HX:=hZ hx
     obtain⟨dr,hdr⟩:∃ d,Rw.chkR (tys x.s.1) r=d:=⟨_,rfl⟩
     have HCK:=hZ (fun (w1:World) (b1:Below w.heap.size w w1)=>rowCheckR x.v (.slice ra r.length rc) x.s.1 r w1 ((HR.out.el x hxm).later b1).c (HRR.out.later b1) hrl hrm dr hdr)
     rw [hdr] at ha
     obtain⟨gb,off,rfl,_,_⟩:=rdS_cells HR.out (Below.refl _ _) hx
     have HP:=hZ (fun (w1:World) (hb:Below w.heap.size w w1) (i:Nat) (y:Sx) (hy:L[i]?=some y)=>(show w1.cell? ⟨gb,off+i * 2,none⟩=some y.v∧w1.cell? ⟨gb,off+i * 2+1,none⟩=some y.kv from by
      obtain⟨b',off',e',p'⟩:=rdS_cells HR.out hb hy
      injection e' with e'
      injection e' with e1 e2
      subst e1 e2
      exact p'))
     have g1:¬ (f:Int)+1 < 1:=by omega
     have g2:¬ (f:Int)+1 > (t:Int):=by omega
     have g3:¬ (t:Int) > (L.length:Int):=by omega
     have g4:(f:Int) < L.length:=by omega
     clear hx
     go_enter Tryz.func24,Tryz.ntmps24
     go_wp2_with fail
     ((with_reducible refine HC.out.mono ?_);rintro e w1 ⟨rfl,b1⟩)
     have B1:=hZ b1
     have p0:=(HP.out w1 b1 f x HX.out).1
     have HCK1:=hZ (HCK.out w1 b1)
     obtain⟨x1,x2,x3,x4,xs⟩:=x
     unfold Sx.v at p0 HCK1
     clear b1
     go_wp2_with fail
     ((with_reducible refine HCK1.out.mono ?_);rintro e w2 ⟨rfl,b2⟩)
     have B2:=hZ (up B1.out b2)
     clear b2 HCK1 p0 B1
     by_cases hr0:dr=0
     ·subst hr0
      rw [if_neg (by simp)] at ha
      obtain⟨G,hG⟩:∃ G,Ev.go xs.1 (((sms L).take t).drop (f+1)) r=G:=⟨_,rfl⟩
      have ha:(⟨G,0⟩:Ev.Ans)=a:=by rw [← hG];exact ha
      subst ha
      have HG0:=hZ hG
      have HL0:Hid (r.length=xs.1.length):=hZ (Ev.ok_len hdr)
      have HCP:=hZ (copyRow _ r w2 (HRR.out.later B2.out) hrl)
      clear hG
      go_wp2_with fail
      ((with_reducible refine HCP.out.mono ?_);rintro e w3 ⟨u3,rfl,o3,b3⟩)
      have O3:=hZ (Gn.Own.lower o3 B2.out.size)
      have B3:=hZ (up B2.out b3)
      clear o3 b3 HCP B2
      go_wp2_with fail
      go_loopw [12,13] (fun ov i wr=>∃ (k:Nat) (y:Sx) (cur:List Cl.C),k+1≤t∧i=.int .i64 ((k:Int)+1)∧Hid (L[k]?=some y)∧Hid (cur.length=y.s.1.length)∧Hid (Ev.go y.s.1 (((sms L).take t).drop (k+1)) cur=G)∧Hid (OwnC wr w.heap.size ov cur)∧Hid (Below w.heap.size w wr)) (fun _ i _=>t - (intOf i).toNat)
      case atStart=>exact⟨f,_,r,hft,rfl,HX,HL0,HG0,O3,B3⟩
      case round =>
       clear HG0 O3 B3
       obtain⟨k,y,cur,hk,rfl,HY,HL,HG,HO,HB⟩:=hrel
       by_cases hlt:k+1 < t
       ·have hlt1:(k:Int)+1 < (t:Int):=by omega
        have hk1:(k:Int) < L.length:=by omega
        have hk2:(k:Int)+1 < L.length:=by omega
        have hw1:IntKind.i64.wrap ((k:Int)+1 - 1)=(k:Int):=by rw [show (k:Int)+1 - 1=(k:Int) by omega];exact IntWalk.i64_in _ ⟨by omega,by omega⟩
        have hw2:(k:Int)+1 - 1=(k:Int):=by omega
        have hn1:((k:Int)+1).toNat=k+1:=by omega
        have h01:(0:Int)≤(k:Int)+1:=by omega
        have h02:(0:Int)≤(k:Int):=by omega
        have hw3:IntKind.i64.wrap (k:Int)=(k:Int):=IntWalk.i64_in _ ⟨by omega,by omega⟩
        obtain⟨z,hz⟩:∃ z,L[k+1]?=some z:=⟨_,List.getElem?_eq_getElem (by omega)⟩
        have hym:=List.mem_of_getElem? HY.out
        have hzm:=List.mem_of_getElem? hz
        obtain⟨p0,p1⟩:=HP.out wr HB.out k y HY.out
        obtain⟨q0,q1⟩:=HP.out wr HB.out (k+1) z hz
        have HPY:=hZ (fun w1 hb=>HP.out w1 hb k y HY.out)
        have HPZ:=hZ (fun w1 hb=>HP.out w1 hb (k+1) z hz)
        have HM:=hZ (fun (ov:Value) (w1:World) (hb:Below w.heap.size w w1) (hc:RdC w1 w1.heap.size ov cur)=>rMoved y z (HOK.out y hym).n (HOK.out z hzm).n ov cur w1 ((HR.out.el y hym).later hb) ((HR.out.el z hzm).later hb) hc HL.out)
        have HG2:Hid (Ev.go z.s.1 (((sms L).take t).drop (k+1+1)) (Ev.mvd y.s.1 z.s.1 cur)=G):=hZ (by have:=HG.out;rw [Ev.drop_step (sms_at hz) hlt] at this;exact this)
        have HL2:Hid ((Ev.mvd y.s.1 z.s.1 cur).length=z.s.1.length):=hZ (Ev.mvd_len _ _ _)
        have HZ:=hZ hz
        obtain⟨y1,y2,y3,y4,ys⟩:=y
        obtain⟨z1,z2,z3,z4,zs⟩:=z
        unfold Sx.v Sx.kv at *
        simp only at p0 p1 q0 q1 HM HPY HPZ HG2 HL2
        clear hz hym hzm HL HG HY
        go_wp2_with fail
        go_region_held3 (fun w'=>w'.cell? ⟨gb,off+k * 2,none⟩=some (.slice y1 ys.1.length y2)∧w'.cell? ⟨gb,off+k * 2+1,none⟩=some (.slice y3 ys.2.length y4)∧w'.cell? ⟨gb,off+(k+1) * 2,none⟩=some (.slice z1 zs.1.length z2)∧w'.cell? ⟨gb,off+(k+1) * 2+1,none⟩=some (.slice z3 zs.2.length z4)) (first|exact⟨p0,p1,q0,q1⟩|exact hSS)
         ((first|(go_at_call 39;refine (HM.out _ _ HB.out.drew (RdC.later (RdC.of HO.out) (Below.refl _ _).drew)).mono ?_;rintro e w5 ⟨u5,rfl,o5,b5⟩;have b6:Below wr.heap.size wr w5:=(by first|exact b5|exact⟨b5.os,b5.tape,b5.output,b5.size,b5.block⟩);have HB5:=hZ (up HB.out b6);have hSS:=(⟨(HPY.out w5 HB5.out).1,(HPY.out w5 HB5.out).2,(HPZ.out w5 HB5.out).1,(HPZ.out w5 HB5.out).2⟩:_∧_∧_∧_);have HO5:=hZ (Gn.Own.lower o5 HB.out.size);clear b5 b6 o5)))
        all_goals
         go_wp2_with fail
         go_roundw
         case rel=>exact⟨k+1,⟨z1,z2,z3,z4,zs⟩,_,by omega,by go_num,HZ,HL2,HG2,HO5,HB5⟩
         case measure=>simp [intOf];omega
       ·have hkt:t=k+1:=by omega
        subst hkt
        have hE:cur=G:=by
         have:=HG.out
         rw [List.drop_eq_nil_of_le (by rw [List.length_take];omega)] at this
         exact this
        subst hE
        have hlt1:¬ (k:Int)+1 < (k:Int)+1:=by omega
        have hlt2:¬ (k:Int)+1 < ((k+1:Nat):Int):=by omega
        obtain⟨oa,oc,hov,_⟩:=Gn.Rd.form (RdC.of HO.out)
        subst hov
        clear HG HL HY
        go_wp2_with fail
        go_ret2
        exact⟨_,rfl,HO.out,HB.out⟩
     ·rw [if_pos hr0] at ha
      subst ha
      have hd1:(dr != 0)=true:=by simpa using hr0
      go_wp2_with fail
      go_ret2
      exact⟨_,rfl,HNIL.out _,B2.out⟩
 ·rw [if_pos hd0] at ha
  subst ha
  have hd1:(d != 0)=true:=by simpa using hd0
  go_enter Tryz.func24,Tryz.ntmps24
  go_wp2_with fail
  ((with_reducible refine HC.out.mono ?_);rintro e w1 ⟨rfl,b1⟩)
  go_wp2_with fail
  go_ret2
  exact⟨_,rfl,HNIL.out _,b1⟩
end Go.Proofs.YtenfjmdajlhfoabGreatDoor
