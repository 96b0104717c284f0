/- Texts. -/
import Derived.Test.YtenfjmdajlhfoabGreatDoorKEvRb
import Derived.Deep.DeepCutAuto
import Derived.Deep.CutBlock
import Derived.Test.YtenfjmdajlhfoabGreatDoorKScRC
import Derived.Test.YtenfjmdajlhfoabGreatDoorKEvf
set_option maxHeartbeats 16000000
namespace Go.Proofs.YtenfjmdajlhfoabGreatDoor
open Go.RowKit Go.Sort
set_option linter.unusedVariables false
set_option linter.unusedSimpArgs false
set_option maxRecDepth 100000
theorem false_of12 {b:Bool} {p:Prop} (hb:b=true↔p) (h:¬ p):b=false:=by
 cases b with
 | false=>rfl
 | true=>exact absurd (hb.1 rfl) h
theorem eqInts (v1 v2:Value) (l1 l2:List Int) (w:World) (h1:RdI w w.heap.size v1 l1) (h2:RdI w w.heap.size v2 l2) (hl:l1.length≤1000000) (b:Bool) (hb:b=true↔l1=l2) :
 Calls Tryz.prog 44 #[v1,v2] w fun e w'=>e=.returned (.bool b)∧Below w.heap.size w w':=by
 have HR1:=hZ h1
 have HR2:=hZ h2
 have HB:=hZ hb
 obtain⟨a1,c1,rfl,_⟩:=Gn.Rd.form h1
 obtain⟨a2,c2,rfl,_⟩:=Gn.Rd.form h2
 clear h1 h2 hb
 by_cases hn:l1.length=l2.length
 ·have hn':((l1.length:Int) != (l2.length:Nat))=false:=by simp;omega
  go_enter Tryz.func44,Tryz.ntmps44
  go_wp2_with fail
  go_loopw [5] (fun i wr=>∃ k:Nat,k≤l1.length∧i=.int .i64 (k:Nat)∧Hid (∀ j,j < k→l1[j]?=l2[j]?)∧Hid (Below w.heap.size w wr)) (fun i _=>l1.length - (intOf i).toNat)
  case atStart=>exact⟨0,by omega,by rfl,hZ (fun j hj=>by omega),hZ (Below.refl _ _)⟩
  case round =>
   obtain⟨k,hk,rfl,HE,HU⟩:=hrel
   by_cases hlt:k < l1.length
   ·have hlt1:(k:Int) < l1.length:=by omega
    have hlt2:(k:Int) < l2.length:=by omega
    obtain⟨x,hx⟩:∃ x,l1[k]?=some x:=⟨_,List.getElem?_eq_getElem hlt⟩
    obtain⟨y,hy⟩:∃ y,l2[k]?=some y:=⟨_,List.getElem?_eq_getElem (by omega)⟩
    obtain⟨b1,o1,rfl,p0⟩:=rdI_cell HR1.out HU.out.drew hx
    obtain⟨b2,o2,rfl,q0⟩:=rdI_cell HR2.out HU.out.drew hy
    have HU2:=hZ HU.out.drew
    by_cases hxy:x=y
    ·have e1:((x:Int) != y)=false:=by simpa using hxy
     have HE2:=hZ (show ∀ j,j < k+1→l1[j]?=l2[j]? from fun j hj=>by
      rcases Nat.lt_succ_iff_lt_or_eq.1 hj with h|rfl
      ·exact HE.out j h
      ·rw [hx,hy,hxy])
     clear hx hy hxy hn
     go_wp2_with fail
     go_region
     all_goals
      go_wp2_with fail
      go_roundw
      case rel=>exact⟨k+1,by omega,by go_num,HE2,HU2⟩
      case measure=>simp [intOf];omega
    ·have e1:((x:Int) != y)=true:=by simpa using hxy
     obtain rfl:b=false:=false_of12 HB.out (fun e=>hxy (by rw [e,hy] at hx;injection hx with e;exact e.symm))
     clear hx hy hxy hn
     go_wp2_with fail
     go_region
     all_goals
      go_wp2_with fail
      go_ret
      exact⟨rfl,HU2.out⟩
   ·have hlt1:¬ (k:Int) < l1.length:=by omega
    have hbt:b=true:=HB.out.2 (List.ext_getElem? fun j=>by
     rcases Nat.lt_or_ge j k with h|h
     ·exact HE.out j h
     ·rw [List.getElem?_eq_none (by omega),List.getElem?_eq_none (by omega)])
    subst hbt
    clear hn
    go_wp2_with fail
    go_ret
    exact⟨rfl,HU.out⟩
 ·have hn':((l1.length:Int) != (l2.length:Nat))=true:=by simp;omega
  obtain rfl:b=false:=false_of12 HB.out (fun e=>hn (by rw [e]))
  clear hn
  go_enter Tryz.func44,Tryz.ntmps44
  go_wp2_with fail
  go_ret
  exact⟨rfl,Below.refl _ _⟩
theorem yieldedU12 {ops:Array Oper} {ts:Array Value} {j s:Nat} (h:dstOf ops j=some s) (e:ts.getD s undef=undef):yielded ops ts j=none:=by
 unfold yielded
 have h':(ops[j]?).bind (·.dst)=some s:=h
 rw [h']
 rw [Array.getD_eq_getD_getElem?] at e
 simp only [Option.bind_some]
 cases hh:ts[s]? with
 | none=>rfl
 | some v=>rw [hh] at e;simp only [Option.getD_some] at e;rw [e];rfl
theorem unwantedU12 {o:Oper} {y:Nat→Option Bool} {j:Nat} {b:Bool} (h:o.guard=some (j,b)) (e:y j=none):Region.wanted o y=false:=by
 unfold Region.wanted
 rw [h]
 simp [e]
theorem Ev.fol_col12 {a b:Ev.Sm} {h:Int} {c:Co} (hc:c∈b.1) (hg:Ev.goAt a.1 h c=false):Ev.fol a b h=false:=by
 cases e:Ev.fol a b h with
 | false=>rfl
 | true=>have:=(Ev.fol_iff.1 e).1 c hc;rw [hg] at this;cases this
theorem rFollows (xa xb:Sx) (hN:xa.s.1.length≤1000000) (hM:xb.s.1.length≤1000000) (hN2:xa.s.2.length≤1000000) (hM2:xb.s.2.length≤1000000) (hka0:∀ k∈xa.s.2,0≤k∧k < (xa.s.1.length:Int)) (hkb0:∀ k∈xb.s.2,0≤k∧k < (xb.s.1.length:Int))
 (ha1:kidR xa.s.1 xa.s.2=Ev.kid xa.s) (hb1:kidR xb.s.1 xb.s.2=Ev.kid xb.s) (hh:Int) (w:World) (ha:RdS w w.heap.size xa) (hb:RdS w w.heap.size xb) :
 Calls Tryz.prog 41 #[.agg #[xa.v,xa.kv],.agg #[xb.v,xb.kv],.int .i64 hh] w fun e w'=>e=.returned (.bool (Ev.fol xa.s xb.s hh))∧Below w.heap.size w w':=by
 have HKK:=hZ (fun (w1:World) h=>rKeys12 xa hN hN2 hka0 w1 h)
 have HKL:=hZ (fun (w1:World) h=>rKeys12 xb hM hM2 hkb0 w1 h)
 rw [ha1] at HKK
 rw [hb1] at HKL
 have HKN:=hZ (show (Ev.kid xa.s).length≤1000000 by rw [← ha1];unfold kidR;rw [List.length_map];exact hN2)
 have HRA:=hZ ha
 have HRB:=hZ hb
 obtain⟨a1,c1,a2,c2,⟨la,ka⟩⟩:=xa
 obtain⟨a3,c3,a4,c4,⟨lb,kb⟩⟩:=xb
 have hka:=ha.c
 have hkb:=hb.c
 unfold Sx.v Sx.kv at *
 simp only at hka hkb hN hM HKK HKL ⊢
 obtain⟨p1,hp1⟩:∃ p,la.length=p:=⟨_,rfl⟩
 obtain⟨p2,hp2⟩:∃ p,ka.length=p:=⟨_,rfl⟩
 obtain⟨p3,hp3⟩:∃ p,lb.length=p:=⟨_,rfl⟩
 obtain⟨p4,hp4⟩:∃ p,kb.length=p:=⟨_,rfl⟩
 rw [hp1] at hka hN
 rw [hp3] at hkb hM
 rw [hp1,hp2] at HKK
 rw [hp3,hp4] at HKL
 rw [hp1,hp2,hp3,hp4]
 have b1:=box_new w (.cells #[.slice a1 p1 c1,.slice a2 p2 c2] 25)
 have b2:=up_box b1 (.cells #[.slice a3 p3 c3,.slice a4 p4 c4] 25)
 have HX:=hZ ((Blk.new w 25 #[.slice a1 p1 c1,.slice a2 p2 c2]).later (box_new _ (.cells #[.slice a3 p3 c3,.slice a4 p4 c4] 25)))
 have hy:=Blk.new (w.alloc (.cells #[.slice a1 p1 c1,.slice a2 p2 c2] 25)) 25 #[.slice a3 p3 c3,.slice a4 p4 c4]
 obtain⟨g1,hg1⟩:∃ g,(w.alloc (.cells #[.slice a1 p1 c1,.slice a2 p2 c2] 25)).heap.size=g:=⟨_,rfl⟩
 have hg1':w.heap.size+1=g1:=by rw [← hg1];simp
 rw [hg1] at hy
 have HY:=hZ hy
 have HB:=hZ b2
 have HKA:=hZ (hka.later b2)
 have HKB:=hZ (hkb.later b2)
 have HSA:=hZ (HRA.out.later b2)
 have HSB:=hZ (HRB.out.later b2)
 have HL:=hZ (And.intro hp1 hp3)
 clear ha hb hka hkb b1 b2 hy hp1 hp2 hp3 hp4 HRA HRB ha1 hb1 hka0 hkb0 hN2 hM2
 go_enter Tryz.func41,Tryz.ntmps41
 go_upto_region 1 with fail
 try simp only [hg1']
 generalize (w.alloc (.cells #[.slice a1 p1 c1,.slice a2 p2 c2] 25)).alloc (.cells #[.slice a3 p3 c3,.slice a4 p4 c4] 25)=w0 at *
 obtain⟨gp,hgp⟩:∃ g,w.heap.size=g:=⟨_,rfl⟩
 have HGP:=hZ hgp
 rw [hgp] at HX ⊢
 clear hg1 hg1' hgp
 go_wp2_with fail
 go_loopw [7] (fun i wr=>∃ k:Nat,k≤p3∧i=.int .i64 (k:Nat)∧Hid (∀ j c,j < k→lb[j]?=some c→Ev.goAt la hh c=true)∧Hid (Below w0.heap.size w0 wr)) (fun i _=>p3 - (intOf i).toNat)
 case atStart=>exact⟨0,by omega,by rfl,hZ (fun j c hj=>by omega),hZ (Below.refl _ _)⟩
 case round =>
  obtain⟨k,hk,rfl,HG,HW⟩:=hrel
  have y0:=(HY.out.later HW.out).cell 0
  simp only [zD,zE] at y0
  by_cases hlt:k < p3
  ·have hlt1:(k:Int) < (p3:Int):=by omega
   obtain⟨x,hx⟩:∃ x,lb[k]?=some x:=⟨_,List.getElem?_eq_getElem (by have:=HL.out.2;omega)⟩
   have HXM:=hZ (List.mem_of_getElem? hx)
   have HNX:Hid (Ev.goAt la hh x=true→∀ j c,j < k+1→lb[j]?=some c→Ev.goAt la hh c=true):=hZ (fun e j c hj hc=>by
    by_cases h:j=k
    ·subst h;rw [hx] at hc;injection hc with hc;subst hc;exact e
    ·exact HG.out j c (by omega) hc)
   obtain⟨gk,fk,e3,q0,q1,q2,q3,q4,q5,q6⟩:=rdK_cells HKB.out HW.out hx
   subst e3
   obtain⟨⟨pn,y⟩,hfid⟩:∃ q,Ev.fid la x.id=q:=⟨_,rfl⟩
   have HGO:Hid (Ev.goAt la hh x=if y=true then Ev.stay (la.getD pn Sc.co0) x else decide (hh < x.id)):=hZ (by unfold Ev.goAt;rw [hfid])
   have HPL:=hZ (fun w1 h=>rPlace (.slice a1 p1 c1) (.slice a2 p2 c2) la x.id w1 h (by have:=HL.out.1;omega) pn y hfid)
   have hz:y=true→∃ d,la[pn]?=some d:=fun e=>by
    subst e
    obtain⟨d,hd,_⟩:=Ev.fid_some hfid
    exact⟨d,hd⟩
   have HHZ:=hZ hz
   have HSD:=hZ (fun d w1=>rSame12 d x w1)
   clear hz hx hfid HG
   obtain⟨xi,xm,xk,xu,⟨du,dn,ds⟩⟩:=x
   unfold kov at HSD
   simp only at HGO HPL HSD q0 q1 q2 q3 q4 q5 q6
   have hb5:=box_new wr (.cells #[.int .i64 xi,.string xm,.int .i64 xk,.bool xu,.bool du,.int .i64 dn,.string ds] 63)
   have HC:=hZ (Blk.new wr 63 #[.int .i64 xi,.string xm,.int .i64 xk,.bool xu,.bool du,.int .i64 dn,.string ds])
   have HW5:=hZ (up HW.out hb5)
   clear hb5
   go_upto_region 5 with fail
   obtain⟨gc,hgc⟩:∃ g,wr.heap.size=g:=⟨_,rfl⟩
   rw [hgc] at HC
   simp only [hgc]
   generalize wr.alloc (.cells #[.int .i64 xi,.string xm,.int .i64 xk,.bool xu,.bool du,.int .i64 dn,.string ds] 63)=w5 at *
   clear y0 q0 q1 q2 q3 q4 q5 q6 hgc HW
   have c0:=HC.out.cell 0
   have x0:=(HX.out.later HW5.out).cell 0
   have x1:=(HX.out.later HW5.out).cell 1
   simp only [zD,zE] at c0 x0 x1
   go_wp2_with fail
   ((with_reducible refine (HPL.out _ (HKA.out.later HW5.out)).mono ?_);rintro e w6 ⟨rfl,b⟩)
   clear c0 x0 x1
   have HW6:=hZ (up HW5.out b)
   have HC6:=hZ (HC.out.later b)
   clear b HPL HC HW5
   go_upto_region 6 with fail
   cases y with
   | false =>
    rw [if_neg (by decide)] at HGO
    by_cases hle:xi≤hh
    ·have HBAD:Hid (Ev.fol (la,ka) (lb,kb) hh=false):=hZ (Ev.fol_col12 HXM.out (by rw [HGO.out];simp;omega))
     refine region_growI_merge (fun u v:World=>Below u.heap.size u v) (fun _ _=>True) (fun _ _ _=>True) (fun u=>Below.refl _ _) (fun _ _ _ h k=>up h k) (kjI #[Spc.eq (.bool false),Spc.eq (.bool true),Spc.eq (.bool true),Spc.eq (.pointer (some ⟨gc,0,none⟩)),Spc.eq (.int .i64 xi),Spc.eq (.int .i64 hh),Spc.eq (.bool true),Spc.eq (.bool true),Spc.eq (.bool true),Spc.eq undef,Spc.eq undef,Spc.eq undef,Spc.eq undef,Spc.eq undef,Spc.eq undef,Spc.eq undef,Spc.eq undef,Spc.eq undef,Spc.eq undef,Spc.eq undef,Spc.eq (.bool true)]) [30,31,32,33,34,35,36,37,38,39,40,41,42,43,44,45,46,47,48,49,50] (fun ts W=>ts.getD 50 undef=.bool true∧Below w6.heap.size w6 W) (by kernel_rfl) (by kernel_rfl) (by kernel_rfl) kjI_later trivial ?_ ?_ ?_
     ·intro QQ fd jo o a w1 ho hfd hdd hI hb hs hold hdep
      have hjo:jo < 21:=(Array.getElem?_eq_some_iff.1 ho).1
      have hb':Below w6.heap.size w6 w1:=up (Below.refl _ _).drew hb
      have hbo:Below w0.heap.size w0 w1:=up HW6.out hb'
      have c0:=(HC6.out.later hb').cell 0
      have c1':=(HC6.out.later hb').cell 1
      have c2':=(HC6.out.later hb').cell 2
      have c3':=(HC6.out.later hb').cell 3
      have c4':=(HC6.out.later hb').cell 4
      have c5':=(HC6.out.later hb').cell 5
      have c6':=(HC6.out.later hb').cell 6
      have t0:=(HX.out.later hbo).cell 0
      have t1:=(HX.out.later hbo).cell 1
      simp only [zD,zE] at c0 c1' c2' c3' c4' c5' c6' t0 t1
      have e2:a.eval (.tmp 2)=.int .i64 hh:=by
       show a.tmps.getD 2 undef=_
       rw [Array.getD_eq_getD_getElem?,hold 2 (by decide +kernel)];rfl
      have e3:a.eval (.tmp 3)=.pointer (some ⟨gp,0,none⟩):=by
       show a.tmps.getD 3 undef=_
       rw [Array.getD_eq_getD_getElem?,hold 3 (by decide +kernel)];rfl
      have e8:a.eval (.tmp 8)=.pointer (some ⟨gc,0,none⟩):=by
       show a.tmps.getD 8 undef=_
       rw [Array.getD_eq_getD_getElem?,hold 8 (by decide +kernel)];rfl
      have e9:a.eval (.tmp 9)=.int .i64 (pn:Nat):=by
       show a.tmps.getD 9 undef=_
       rw [Array.getD_eq_getD_getElem?,hold 9 (by decide +kernel)];rfl
      have e10:a.eval (.tmp 10)=.bool false:=by
       show a.tmps.getD 10 undef=_
       rw [Array.getD_eq_getD_getElem?,hold 10 (by decide +kernel)];rfl
      have ec:∀ v,a.eval (.const v)=v:=fun _=>rfl
      clear hold hs
      rcases (show jo=0 ∨ jo=1 ∨ jo=2 ∨ jo=3 ∨ jo=4 ∨ jo=5 ∨ jo=6 ∨ jo=7 ∨ jo=8 ∨ jo=9 ∨ jo=10 ∨ jo=11 ∨ jo=12 ∨ jo=13 ∨ jo=14 ∨ jo=15 ∨ jo=16 ∨ jo=17 ∨ jo=18 ∨ jo=19 ∨ jo=20 by omega) with rfl|rfl|rfl|rfl|rfl|rfl|rfl|rfl|rfl|rfl|rfl|rfl|rfl|rfl|rfl|rfl|rfl|rfl|rfl|rfl|rfl
      all_goals (have ho2:=ho;simp only [List.getElem?_toArray,zD,zE,Option.some.injEq] at ho2;subst ho2)
      all_goals first|(refine (fun (eg:a.tmps.getD 32 undef=.bool true)=>?_) (hdep ⟨2,.guard⟩ ?_ rfl);rotate_left;focus (simp<;>fail))|(refine (fun (eg:a.tmps.getD 38 undef=.bool true)=>?_) (hdep ⟨8,.guard⟩ ?_ rfl);rotate_left;focus (simp<;>fail))|skip
      refine gvT fd (.bool false) ho rfl ?_ rfl;rotate_left
      have d0:a.eval (.tmp 30)=.bool false:=hdep ⟨0,.data⟩ (by simp) rfl;refine gvT fd (.bool true) ho rfl ?_ rfl;rotate_left
      have d0:a.eval (.tmp 31)=.bool true:=hdep ⟨1,.data⟩ (by simp) rfl;refine gvT fd (.bool true) ho rfl ?_ rfl;rotate_left
      refine gvT fd (.pointer (some ⟨gc,0,none⟩)) ho (wantedI rfl (yieldedI rfl eg)) ?_ rfl;rotate_left
      have d0:a.eval (.tmp 33)=.pointer (some ⟨gc,0,none⟩):=hdep ⟨3,.data⟩ (by simp) rfl;refine gvT fd (.int .i64 xi) ho (wantedI rfl (yieldedI rfl eg)) ?_ rfl;rotate_left
      refine gvT fd (.int .i64 hh) ho (wantedI rfl (yieldedI rfl eg)) ?_ rfl;rotate_left
      ·have d0:a.eval (.tmp 34)=.int .i64 xi:=hdep ⟨4,.data⟩ (by simp) rfl
       have d1:a.eval (.tmp 35)=.int .i64 hh:=hdep ⟨5,.data⟩ (by simp) rfl
       refine gvT fd (.bool true) ho (wantedI rfl (yieldedI rfl eg)) ?_ rfl
       unfold execOp;simp only [zA,zB,zC,d0,d1,ec];first|(go_simp;done)|(go_simp;omega)|(go_simp;simp [hle];done)
      have d0:a.eval (.tmp 32)=.bool true:=hdep ⟨2,.data⟩ (by simp) rfl;have d1:a.eval (.tmp 36)=.bool true:=hdep ⟨6,.data⟩ (by simp) rfl;refine gvT fd (.bool true) ho rfl ?_ rfl;rotate_left
      have d0:a.eval (.tmp 37)=.bool true:=hdep ⟨7,.data⟩ (by simp) rfl;refine gvT fd (.bool true) ho rfl ?_ rfl;rotate_left
      iterate 2 (have eg:a.tmps.getD 38 undef=.bool true:=hdep ⟨8,.guard⟩ (by simp) rfl;exact gnT fd ho (unwantedI rfl (yieldedI rfl eg) (by decide)) rfl)
      iterate 8 (have eg:a.tmps.getD 40 undef=undef:=hdep ⟨10,.guard⟩ (by simp) rfl;exact gnT fd ho (unwantedU12 rfl (yieldedU12 rfl eg)) rfl)
      ·exact gnT fd ho (unwantedI rfl (yieldedI rfl eg) (by decide)) rfl
      have d0:a.eval (.tmp 38)=.bool true:=hdep ⟨8,.data⟩ (by simp) rfl;have d1:a.eval (.tmp 49)=undef:=hdep ⟨19,.data⟩ (by simp) rfl;refine gvT fd (.bool true) ho rfl ?_ rfl;rotate_left
      all_goals (unfold execOp;first|(simp only [zA,zB,zC,d0,d1,ec];first|rfl|(go_simp;first|done|rfl|omega))|(simp only [zA,zB,zC,e10,ec];first|rfl|(go_simp;first|done|rfl|omega))|(simp only [zA,zB,zC,d0,ec];first|rfl|(go_simp;first|done|rfl|omega))|(simp only [zA,zB,zC,e2,ec];first|rfl|(go_simp;first|done|rfl|omega))|(simp only [zA,zB,zC,e8,ec];first|rfl|(go_simp;first|done|rfl|omega)))
     ·intro a w1 hI hb hj
      have hb':Below w6.heap.size w6 w1:=up (Below.refl _ _).drew hb
      exact⟨hj 20 (by decide),hb'⟩
     rintro ts w7 ⟨h50,hb7⟩
     simp only [fill,List.setIfInBounds_toArray,List.set_cons_succ,List.set_cons_zero]
     rw [h50]
     have HW7:=hZ (up HW6.out hb7)
     clear h50 hb7 HW6
     go_wp2_with fail
     go_ret
     exact⟨by first|(rw [HBAD.out];done)|(rw [HBAD.out];rfl)|(simp [HBAD.out];done),by have:=up HB.out HW7.out;first|exact this|(rw [HGP.out] at this;exact this)⟩
    ·have hgo:=HNX.out (by rw [HGO.out];simp;omega)
     have HGN:=hZ hgo
     clear hgo HNX
     refine region_growI_merge (fun u v:World=>Below u.heap.size u v) (fun _ _=>True) (fun _ _ _=>True) (fun u=>Below.refl _ _) (fun _ _ _ h k=>up h k) (kjI #[Spc.eq (.bool false),Spc.eq (.bool true),Spc.eq (.bool true),Spc.eq (.pointer (some ⟨gc,0,none⟩)),Spc.eq (.int .i64 xi),Spc.eq (.int .i64 hh),Spc.eq (.bool false),Spc.eq (.bool false),Spc.eq (.bool false),Spc.eq (.bool false),Spc.eq (.bool false),Spc.eq undef,Spc.eq undef,Spc.eq undef,Spc.eq undef,Spc.eq undef,Spc.eq undef,Spc.eq undef,Spc.eq undef,Spc.eq (.bool false),Spc.eq (.bool false)]) [30,31,32,33,34,35,36,37,38,39,40,41,42,43,44,45,46,47,48,49,50] (fun ts W=>ts.getD 50 undef=.bool false∧Below w6.heap.size w6 W) (by kernel_rfl) (by kernel_rfl) (by kernel_rfl) kjI_later trivial ?_ ?_ ?_
     ·intro QQ fd jo o a w1 ho hfd hdd hI hb hs hold hdep
      have hjo:jo < 21:=(Array.getElem?_eq_some_iff.1 ho).1
      have hb':Below w6.heap.size w6 w1:=up (Below.refl _ _).drew hb
      have hbo:Below w0.heap.size w0 w1:=up HW6.out hb'
      have c0:=(HC6.out.later hb').cell 0
      have c1':=(HC6.out.later hb').cell 1
      have c2':=(HC6.out.later hb').cell 2
      have c3':=(HC6.out.later hb').cell 3
      have c4':=(HC6.out.later hb').cell 4
      have c5':=(HC6.out.later hb').cell 5
      have c6':=(HC6.out.later hb').cell 6
      have t0:=(HX.out.later hbo).cell 0
      have t1:=(HX.out.later hbo).cell 1
      simp only [zD,zE] at c0 c1' c2' c3' c4' c5' c6' t0 t1
      have e2:a.eval (.tmp 2)=.int .i64 hh:=by
       show a.tmps.getD 2 undef=_
       rw [Array.getD_eq_getD_getElem?,hold 2 (by decide +kernel)];rfl
      have e3:a.eval (.tmp 3)=.pointer (some ⟨gp,0,none⟩):=by
       show a.tmps.getD 3 undef=_
       rw [Array.getD_eq_getD_getElem?,hold 3 (by decide +kernel)];rfl
      have e8:a.eval (.tmp 8)=.pointer (some ⟨gc,0,none⟩):=by
       show a.tmps.getD 8 undef=_
       rw [Array.getD_eq_getD_getElem?,hold 8 (by decide +kernel)];rfl
      have e9:a.eval (.tmp 9)=.int .i64 (pn:Nat):=by
       show a.tmps.getD 9 undef=_
       rw [Array.getD_eq_getD_getElem?,hold 9 (by decide +kernel)];rfl
      have e10:a.eval (.tmp 10)=.bool false:=by
       show a.tmps.getD 10 undef=_
       rw [Array.getD_eq_getD_getElem?,hold 10 (by decide +kernel)];rfl
      have ec:∀ v,a.eval (.const v)=v:=fun _=>rfl
      clear hold hs
      rcases (show jo=0 ∨ jo=1 ∨ jo=2 ∨ jo=3 ∨ jo=4 ∨ jo=5 ∨ jo=6 ∨ jo=7 ∨ jo=8 ∨ jo=9 ∨ jo=10 ∨ jo=11 ∨ jo=12 ∨ jo=13 ∨ jo=14 ∨ jo=15 ∨ jo=16 ∨ jo=17 ∨ jo=18 ∨ jo=19 ∨ jo=20 by omega) with rfl|rfl|rfl|rfl|rfl|rfl|rfl|rfl|rfl|rfl|rfl|rfl|rfl|rfl|rfl|rfl|rfl|rfl|rfl|rfl|rfl
      all_goals (have ho2:=ho;simp only [List.getElem?_toArray,zD,zE,Option.some.injEq] at ho2;subst ho2)
      all_goals first|(refine (fun (eg:a.tmps.getD 32 undef=.bool true)=>?_) (hdep ⟨2,.guard⟩ ?_ rfl);rotate_left;focus (simp<;>fail))|(refine (fun (eg:a.tmps.getD 38 undef=.bool false)=>?_) (hdep ⟨8,.guard⟩ ?_ rfl);rotate_left;focus (simp<;>fail))|skip
      refine gvT fd (.bool false) ho rfl ?_ rfl;rotate_left
      have d0:a.eval (.tmp 30)=.bool false:=hdep ⟨0,.data⟩ (by simp) rfl;refine gvT fd (.bool true) ho rfl ?_ rfl;rotate_left
      have d0:a.eval (.tmp 31)=.bool true:=hdep ⟨1,.data⟩ (by simp) rfl;refine gvT fd (.bool true) ho rfl ?_ rfl;rotate_left
      refine gvT fd (.pointer (some ⟨gc,0,none⟩)) ho (wantedI rfl (yieldedI rfl eg)) ?_ rfl;rotate_left
      have d0:a.eval (.tmp 33)=.pointer (some ⟨gc,0,none⟩):=hdep ⟨3,.data⟩ (by simp) rfl;refine gvT fd (.int .i64 xi) ho (wantedI rfl (yieldedI rfl eg)) ?_ rfl;rotate_left
      refine gvT fd (.int .i64 hh) ho (wantedI rfl (yieldedI rfl eg)) ?_ rfl;rotate_left
      ·have d0:a.eval (.tmp 34)=.int .i64 xi:=hdep ⟨4,.data⟩ (by simp) rfl
       have d1:a.eval (.tmp 35)=.int .i64 hh:=hdep ⟨5,.data⟩ (by simp) rfl
       refine gvT fd (.bool false) ho (wantedI rfl (yieldedI rfl eg)) ?_ rfl
       unfold execOp;simp only [zA,zB,zC,d0,d1,ec];first|(go_simp;done)|(go_simp;omega)|(go_simp;simp [hle];done)
      have d0:a.eval (.tmp 32)=.bool true:=hdep ⟨2,.data⟩ (by simp) rfl;have d1:a.eval (.tmp 36)=.bool false:=hdep ⟨6,.data⟩ (by simp) rfl;refine gvT fd (.bool false) ho rfl ?_ rfl;rotate_left
      have d0:a.eval (.tmp 37)=.bool false:=hdep ⟨7,.data⟩ (by simp) rfl;refine gvT fd (.bool false) ho rfl ?_ rfl;rotate_left
      refine gvT fd (.bool false) ho (wantedI rfl (yieldedI rfl eg)) ?_ rfl;rotate_left
      have d0:a.eval (.tmp 39)=.bool false:=hdep ⟨9,.data⟩ (by simp) rfl;refine gvT fd (.bool false) ho (wantedI rfl (yieldedI rfl eg)) ?_ rfl;rotate_left
      iterate 8 (have eg:a.tmps.getD 40 undef=.bool false:=hdep ⟨10,.guard⟩ (by simp) rfl;exact gnT fd ho (unwantedI rfl (yieldedI rfl eg) (by decide)) rfl)
      have d0:a.eval (.tmp 40)=.bool false:=hdep ⟨10,.data⟩ (by simp) rfl;have d1:a.eval (.tmp 48)=undef:=hdep ⟨18,.data⟩ (by simp) rfl;refine gvT fd (.bool false) ho (wantedI rfl (yieldedI rfl eg)) ?_ rfl;rotate_left
      have d0:a.eval (.tmp 38)=.bool false:=hdep ⟨8,.data⟩ (by simp) rfl;have d1:a.eval (.tmp 49)=.bool false:=hdep ⟨19,.data⟩ (by simp) rfl;refine gvT fd (.bool false) ho rfl ?_ rfl;rotate_left
      all_goals (unfold execOp;first|(simp only [zA,zB,zC,d0,d1,ec];first|rfl|(go_simp;first|done|rfl|omega))|(simp only [zA,zB,zC,e10,ec];first|rfl|(go_simp;first|done|rfl|omega))|(simp only [zA,zB,zC,d0,ec];first|rfl|(go_simp;first|done|rfl|omega))|(simp only [zA,zB,zC,e2,ec];first|rfl|(go_simp;first|done|rfl|omega))|(simp only [zA,zB,zC,e8,ec];first|rfl|(go_simp;first|done|rfl|omega)))
     ·intro a w1 hI hb hj
      have hb':Below w6.heap.size w6 w1:=up (Below.refl _ _).drew hb
      exact⟨hj 20 (by decide),hb'⟩
     rintro ts w7 ⟨h50,hb7⟩
     simp only [fill,List.setIfInBounds_toArray,List.set_cons_succ,List.set_cons_zero]
     rw [h50]
     have HW7:=hZ (up HW6.out hb7)
     clear h50 hb7 HW6
     go_wp2_with fail
     go_roundw
     case rel=>exact⟨k+1,by omega,by go_num,HGN,HW7⟩
     case measure=>simp [intOf];omega
   | true =>
    rw [if_pos rfl] at HGO
    obtain⟨d,hd⟩:=HHZ.out rfl
    have hgd:la.getD pn Sc.co0=d:=Ev.getD_at hd
    rw [hgd] at HGO
    have hpn:(pn:Int) < (p1:Int):=by have:=(List.getElem?_eq_some_iff.1 hd).1;have:=HL.out.1;omega
    obtain⟨ga,fa,e4,e0,e1',e2,e3',e4',e5,e6⟩:=rdK_cells HKA.out (Below.refl _ _) hd
    subst e4
    have HSE:=hZ (HSD.out d)
    obtain⟨di,dm,dk,dv,⟨eu,en,es⟩⟩:=d
    simp only at HSE e0 e1' e2 e3' e4' e5 e6
    obtain⟨bs,hbs⟩:∃ b,Ev.stay ⟨di,dm,dk,dv,⟨eu,en,es⟩⟩ ⟨xi,xm,xk,xu,⟨du,dn,ds⟩⟩=b:=⟨_,rfl⟩
    rw [hbs] at HGO HSE
    clear hbs hd hgd HHZ HSD
    cases bs with
    | false =>
     have HBAD:Hid (Ev.fol (la,ka) (lb,kb) hh=false):=hZ (Ev.fol_col12 HXM.out HGO.out)
     refine region_growI_merge (fun u v:World=>Below u.heap.size u v) (fun _ _=>True) (fun _ _ _=>True) (fun u=>Below.refl _ _) (fun _ _ _ h k=>up h k) (kjI #[Spc.eq (.bool true),Spc.eq (.bool false),Spc.eq (.bool false),Spc.eq undef,Spc.eq undef,Spc.eq undef,Spc.eq undef,Spc.eq (.bool false),Spc.eq (.bool false),Spc.eq (.bool true),Spc.eq (.bool true),Spc.eq (.pointer (some ⟨gp,0,none⟩)),Spc.eq (.slice (some ⟨ga,fa,none⟩) p1 c1),Spc.eq (.int .i64 (pn:Nat)),Spc.eq (.pointer (some ⟨ga,fa+pn * 7,none⟩)),Spc.eq (.agg #[.int .i64 di,.string dm,.int .i64 dk,.bool dv,.bool eu,.int .i64 en,.string es]),Spc.eq (.agg #[.int .i64 xi,.string xm,.int .i64 xk,.bool xu,.bool du,.int .i64 dn,.string ds]),Spc.eq (.bool false),Spc.eq (.bool true),Spc.eq (.bool true),Spc.eq (.bool true)]) [30,31,32,33,34,35,36,37,38,39,40,41,42,43,44,45,46,47,48,49,50] (fun ts W=>ts.getD 50 undef=.bool true∧Below w6.heap.size w6 W) (by kernel_rfl) (by kernel_rfl) (by kernel_rfl) kjI_later trivial ?_ ?_ ?_
     ·intro QQ fd jo o a w1 ho hfd hdd hI hb hs hold hdep
      have hjo:jo < 21:=(Array.getElem?_eq_some_iff.1 ho).1
      have hb':Below w6.heap.size w6 w1:=up (Below.refl _ _).drew hb
      have hbo:Below w0.heap.size w0 w1:=up HW6.out hb'
      have c0:=(HC6.out.later hb').cell 0
      have c1':=(HC6.out.later hb').cell 1
      have c2':=(HC6.out.later hb').cell 2
      have c3':=(HC6.out.later hb').cell 3
      have c4':=(HC6.out.later hb').cell 4
      have c5':=(HC6.out.later hb').cell 5
      have c6':=(HC6.out.later hb').cell 6
      have t0:=(HX.out.later hbo).cell 0
      have t1:=(HX.out.later hbo).cell 1
      simp only [zD,zE] at c0 c1' c2' c3' c4' c5' c6' t0 t1
      have f0:w1.cell? ⟨ga,fa+pn * 7,none⟩=some (.int .i64 di):=(hbo.cell (p:=⟨ga,fa+pn * 7,none⟩) (cell_lt e0)).trans e0
      have f1:w1.cell? ⟨ga,fa+pn * 7+1,none⟩=some (.string dm):=(hbo.cell (p:=⟨ga,fa+pn * 7+1,none⟩) (cell_lt e1')).trans e1'
      have f2:w1.cell? ⟨ga,fa+pn * 7+2,none⟩=some (.int .i64 dk):=(hbo.cell (p:=⟨ga,fa+pn * 7+2,none⟩) (cell_lt e2)).trans e2
      have f3:w1.cell? ⟨ga,fa+pn * 7+3,none⟩=some (.bool dv):=(hbo.cell (p:=⟨ga,fa+pn * 7+3,none⟩) (cell_lt e3')).trans e3'
      have f4:w1.cell? ⟨ga,fa+pn * 7+4,none⟩=some (.bool eu):=(hbo.cell (p:=⟨ga,fa+pn * 7+4,none⟩) (cell_lt e4')).trans e4'
      have f5:w1.cell? ⟨ga,fa+pn * 7+5,none⟩=some (.int .i64 en):=(hbo.cell (p:=⟨ga,fa+pn * 7+5,none⟩) (cell_lt e5)).trans e5
      have f6:w1.cell? ⟨ga,fa+pn * 7+6,none⟩=some (.string es):=(hbo.cell (p:=⟨ga,fa+pn * 7+6,none⟩) (cell_lt e6)).trans e6
      clear e0 e1' e2 e3' e4' e5 e6
      have e2:a.eval (.tmp 2)=.int .i64 hh:=by
       show a.tmps.getD 2 undef=_
       rw [Array.getD_eq_getD_getElem?,hold 2 (by decide +kernel)];rfl
      have e3:a.eval (.tmp 3)=.pointer (some ⟨gp,0,none⟩):=by
       show a.tmps.getD 3 undef=_
       rw [Array.getD_eq_getD_getElem?,hold 3 (by decide +kernel)];rfl
      have e8:a.eval (.tmp 8)=.pointer (some ⟨gc,0,none⟩):=by
       show a.tmps.getD 8 undef=_
       rw [Array.getD_eq_getD_getElem?,hold 8 (by decide +kernel)];rfl
      have e9:a.eval (.tmp 9)=.int .i64 (pn:Nat):=by
       show a.tmps.getD 9 undef=_
       rw [Array.getD_eq_getD_getElem?,hold 9 (by decide +kernel)];rfl
      have e10:a.eval (.tmp 10)=.bool true:=by
       show a.tmps.getD 10 undef=_
       rw [Array.getD_eq_getD_getElem?,hold 10 (by decide +kernel)];rfl
      have ec:∀ v,a.eval (.const v)=v:=fun _=>rfl
      clear hold hs
      rcases (show jo=0 ∨ jo=1 ∨ jo=2 ∨ jo=3 ∨ jo=4 ∨ jo=5 ∨ jo=6 ∨ jo=7 ∨ jo=8 ∨ jo=9 ∨ jo=10 ∨ jo=11 ∨ jo=12 ∨ jo=13 ∨ jo=14 ∨ jo=15 ∨ jo=16 ∨ jo=17 ∨ jo=18 ∨ jo=19 ∨ jo=20 by omega) with rfl|rfl|rfl|rfl|rfl|rfl|rfl|rfl|rfl|rfl|rfl|rfl|rfl|rfl|rfl|rfl|rfl|rfl|rfl|rfl|rfl
      all_goals (have ho2:=ho;simp only [List.getElem?_toArray,zD,zE,Option.some.injEq] at ho2;subst ho2)
      all_goals first|(refine (fun (eg:a.tmps.getD 38 undef=.bool false)=>?_) (hdep ⟨8,.guard⟩ ?_ rfl);rotate_left;focus (simp<;>fail))|(refine (fun (eg:a.tmps.getD 40 undef=.bool true)=>?_) (hdep ⟨10,.guard⟩ ?_ rfl);rotate_left;focus (simp<;>fail))|skip
      refine gvT fd (.bool true) ho rfl ?_ rfl;rotate_left
      have d0:a.eval (.tmp 30)=.bool true:=hdep ⟨0,.data⟩ (by simp) rfl;refine gvT fd (.bool false) ho rfl ?_ rfl;rotate_left
      have d0:a.eval (.tmp 31)=.bool false:=hdep ⟨1,.data⟩ (by simp) rfl;refine gvT fd (.bool false) ho rfl ?_ rfl;rotate_left
      iterate 4 (have eg:a.tmps.getD 32 undef=.bool false:=hdep ⟨2,.guard⟩ (by simp) rfl;exact gnT fd ho (unwantedI rfl (yieldedI rfl eg) (by decide)) rfl)
      have d0:a.eval (.tmp 32)=.bool false:=hdep ⟨2,.data⟩ (by simp) rfl;have d1:a.eval (.tmp 36)=undef:=hdep ⟨6,.data⟩ (by simp) rfl;refine gvT fd (.bool false) ho rfl ?_ rfl;rotate_left
      have d0:a.eval (.tmp 37)=.bool false:=hdep ⟨7,.data⟩ (by simp) rfl;refine gvT fd (.bool false) ho rfl ?_ rfl;rotate_left
      refine gvT fd (.bool true) ho (wantedI rfl (yieldedI rfl eg)) ?_ rfl;rotate_left
      have d0:a.eval (.tmp 39)=.bool true:=hdep ⟨9,.data⟩ (by simp) rfl;refine gvT fd (.bool true) ho (wantedI rfl (yieldedI rfl eg)) ?_ rfl;rotate_left
      refine gvT fd (.pointer (some ⟨gp,0,none⟩)) ho (wantedI rfl (yieldedI rfl eg)) ?_ rfl;rotate_left
      have d0:a.eval (.tmp 41)=.pointer (some ⟨gp,0,none⟩):=hdep ⟨11,.data⟩ (by simp) rfl;refine gvT fd (.slice (some ⟨ga,fa,none⟩) p1 c1) ho (wantedI rfl (yieldedI rfl eg)) ?_ rfl;rotate_left
      refine gvT fd (.int .i64 (pn:Nat)) ho (wantedI rfl (yieldedI rfl eg)) ?_ rfl;rotate_left
      have d0:a.eval (.tmp 42)=.slice (some ⟨ga,fa,none⟩) p1 c1:=hdep ⟨12,.data⟩ (by simp) rfl;have d1:a.eval (.tmp 43)=.int .i64 (pn:Nat):=hdep ⟨13,.data⟩ (by simp) rfl;refine gvT fd (.pointer (some ⟨ga,fa+pn * 7,none⟩)) ho (wantedI rfl (yieldedI rfl eg)) ?_ rfl;rotate_left
      have d0:a.eval (.tmp 44)=.pointer (some ⟨ga,fa+pn * 7,none⟩):=hdep ⟨14,.data⟩ (by simp) rfl;refine gvT fd (.agg #[.int .i64 di,.string dm,.int .i64 dk,.bool dv,.bool eu,.int .i64 en,.string es]) ho (wantedI rfl (yieldedI rfl eg)) ?_ rfl;rotate_left
      refine gvT fd (.agg #[.int .i64 xi,.string xm,.int .i64 xk,.bool xu,.bool du,.int .i64 dn,.string ds]) ho (wantedI rfl (yieldedI rfl eg)) ?_ rfl;rotate_left
      ·have d0:a.eval (.tmp 45)=.agg #[.int .i64 di,.string dm,.int .i64 dk,.bool dv,.bool eu,.int .i64 en,.string es]:=hdep ⟨15,.data⟩ (by simp) rfl
       have d1:a.eval (.tmp 46)=.agg #[.int .i64 xi,.string xm,.int .i64 xk,.bool xu,.bool du,.int .i64 dn,.string ds]:=hdep ⟨16,.data⟩ (by simp) rfl
       refine growI_call (I:=(fun _ _=>True)) (X:=(fun _ _ _=>True)) (d:=fd) (a:=a) (w:=w1) 68 #[.agg #[.int .i64 di,.string dm,.int .i64 dk,.bool dv,.bool eu,.int .i64 en,.string es],.agg #[.int .i64 xi,.string xm,.int .i64 xk,.bool xu,.bool du,.int .i64 dn,.string ds]] ho (wantedI rfl (yieldedI rfl eg)) ?_ ((HSE.out w1).mono ?_)
       ·unfold execOp resolve
        simp only [zA,zB,zC,d0,d1,ec]
        rfl
       ·rintro e c1 ⟨rfl,hb2⟩
        exact⟨_,rfl,rfl,hb2,trivial,trivial⟩
      have d0:a.eval (.tmp 47)=.bool false:=hdep ⟨17,.data⟩ (by simp) rfl;refine gvT fd (.bool true) ho (wantedI rfl (yieldedI rfl eg)) ?_ rfl;rotate_left
      have d0:a.eval (.tmp 40)=.bool true:=hdep ⟨10,.data⟩ (by simp) rfl;have d1:a.eval (.tmp 48)=.bool true:=hdep ⟨18,.data⟩ (by simp) rfl;refine gvT fd (.bool true) ho (wantedI rfl (yieldedI rfl eg)) ?_ rfl;rotate_left
      have d0:a.eval (.tmp 38)=.bool false:=hdep ⟨8,.data⟩ (by simp) rfl;have d1:a.eval (.tmp 49)=.bool true:=hdep ⟨19,.data⟩ (by simp) rfl;refine gvT fd (.bool true) ho rfl ?_ rfl;rotate_left
      all_goals (unfold execOp;first|(simp only [zA,zB,zC,d0,d1,ec];first|rfl|(go_simp;first|done|rfl|omega))|(simp only [zA,zB,zC,e10,ec];first|rfl|(go_simp;first|done|rfl|omega))|(simp only [zA,zB,zC,d0,ec];first|rfl|(go_simp;first|done|rfl|omega))|(simp only [zA,zB,zC,e3,ec];first|rfl|(go_simp;first|done|rfl|omega))|(simp only [zA,zB,zC,e8,ec];first|rfl|(go_simp;first|done|rfl|omega))|(simp only [zA,zB,zC,e9,ec];first|rfl|(go_simp;first|done|rfl|omega)))
     ·intro a w1 hI hb hj
      have hb':Below w6.heap.size w6 w1:=up (Below.refl _ _).drew hb
      exact⟨hj 20 (by decide),hb'⟩
     rintro ts w7 ⟨h50,hb7⟩
     simp only [fill,List.setIfInBounds_toArray,List.set_cons_succ,List.set_cons_zero]
     rw [h50]
     have HW7:=hZ (up HW6.out hb7)
     clear h50 hb7 HW6
     go_wp2_with fail
     go_ret
     exact⟨by first|(rw [HBAD.out];done)|(rw [HBAD.out];rfl)|(simp [HBAD.out];done),by have:=up HB.out HW7.out;first|exact this|(rw [HGP.out] at this;exact this)⟩
    | true =>
     have hgo:=HNX.out HGO.out
     have HGN:=hZ hgo
     clear hgo HNX
     refine region_growI_merge (fun u v:World=>Below u.heap.size u v) (fun _ _=>True) (fun _ _ _=>True) (fun u=>Below.refl _ _) (fun _ _ _ h k=>up h k) (kjI #[Spc.eq (.bool true),Spc.eq (.bool false),Spc.eq (.bool false),Spc.eq undef,Spc.eq undef,Spc.eq undef,Spc.eq undef,Spc.eq (.bool false),Spc.eq (.bool false),Spc.eq (.bool true),Spc.eq (.bool true),Spc.eq (.pointer (some ⟨gp,0,none⟩)),Spc.eq (.slice (some ⟨ga,fa,none⟩) p1 c1),Spc.eq (.int .i64 (pn:Nat)),Spc.eq (.pointer (some ⟨ga,fa+pn * 7,none⟩)),Spc.eq (.agg #[.int .i64 di,.string dm,.int .i64 dk,.bool dv,.bool eu,.int .i64 en,.string es]),Spc.eq (.agg #[.int .i64 xi,.string xm,.int .i64 xk,.bool xu,.bool du,.int .i64 dn,.string ds]),Spc.eq (.bool true),Spc.eq (.bool false),Spc.eq (.bool false),Spc.eq (.bool false)]) [30,31,32,33,34,35,36,37,38,39,40,41,42,43,44,45,46,47,48,49,50] (fun ts W=>ts.getD 50 undef=.bool false∧Below w6.heap.size w6 W) (by kernel_rfl) (by kernel_rfl) (by kernel_rfl) kjI_later trivial ?_ ?_ ?_
     ·intro QQ fd jo o a w1 ho hfd hdd hI hb hs hold hdep
      have hjo:jo < 21:=(Array.getElem?_eq_some_iff.1 ho).1
      have hb':Below w6.heap.size w6 w1:=up (Below.refl _ _).drew hb
      have hbo:Below w0.heap.size w0 w1:=up HW6.out hb'
      have c0:=(HC6.out.later hb').cell 0
      have c1':=(HC6.out.later hb').cell 1
      have c2':=(HC6.out.later hb').cell 2
      have c3':=(HC6.out.later hb').cell 3
      have c4':=(HC6.out.later hb').cell 4
      have c5':=(HC6.out.later hb').cell 5
      have c6':=(HC6.out.later hb').cell 6
      have t0:=(HX.out.later hbo).cell 0
      have t1:=(HX.out.later hbo).cell 1
      simp only [zD,zE] at c0 c1' c2' c3' c4' c5' c6' t0 t1
      have f0:w1.cell? ⟨ga,fa+pn * 7,none⟩=some (.int .i64 di):=(hbo.cell (p:=⟨ga,fa+pn * 7,none⟩) (cell_lt e0)).trans e0
      have f1:w1.cell? ⟨ga,fa+pn * 7+1,none⟩=some (.string dm):=(hbo.cell (p:=⟨ga,fa+pn * 7+1,none⟩) (cell_lt e1')).trans e1'
      have f2:w1.cell? ⟨ga,fa+pn * 7+2,none⟩=some (.int .i64 dk):=(hbo.cell (p:=⟨ga,fa+pn * 7+2,none⟩) (cell_lt e2)).trans e2
      have f3:w1.cell? ⟨ga,fa+pn * 7+3,none⟩=some (.bool dv):=(hbo.cell (p:=⟨ga,fa+pn * 7+3,none⟩) (cell_lt e3')).trans e3'
      have f4:w1.cell? ⟨ga,fa+pn * 7+4,none⟩=some (.bool eu):=(hbo.cell (p:=⟨ga,fa+pn * 7+4,none⟩) (cell_lt e4')).trans e4'
      have f5:w1.cell? ⟨ga,fa+pn * 7+5,none⟩=some (.int .i64 en):=(hbo.cell (p:=⟨ga,fa+pn * 7+5,none⟩) (cell_lt e5)).trans e5
      have f6:w1.cell? ⟨ga,fa+pn * 7+6,none⟩=some (.string es):=(hbo.cell (p:=⟨ga,fa+pn * 7+6,none⟩) (cell_lt e6)).trans e6
      clear e0 e1' e2 e3' e4' e5 e6
      have e2:a.eval (.tmp 2)=.int .i64 hh:=by
       show a.tmps.getD 2 undef=_
       rw [Array.getD_eq_getD_getElem?,hold 2 (by decide +kernel)];rfl
      have e3:a.eval (.tmp 3)=.pointer (some ⟨gp,0,none⟩):=by
       show a.tmps.getD 3 undef=_
       rw [Array.getD_eq_getD_getElem?,hold 3 (by decide +kernel)];rfl
      have e8:a.eval (.tmp 8)=.pointer (some ⟨gc,0,none⟩):=by
       show a.tmps.getD 8 undef=_
       rw [Array.getD_eq_getD_getElem?,hold 8 (by decide +kernel)];rfl
      have e9:a.eval (.tmp 9)=.int .i64 (pn:Nat):=by
       show a.tmps.getD 9 undef=_
       rw [Array.getD_eq_getD_getElem?,hold 9 (by decide +kernel)];rfl
      have e10:a.eval (.tmp 10)=.bool true:=by
       show a.tmps.getD 10 undef=_
       rw [Array.getD_eq_getD_getElem?,hold 10 (by decide +kernel)];rfl
      have ec:∀ v,a.eval (.const v)=v:=fun _=>rfl
      clear hold hs
      rcases (show jo=0 ∨ jo=1 ∨ jo=2 ∨ jo=3 ∨ jo=4 ∨ jo=5 ∨ jo=6 ∨ jo=7 ∨ jo=8 ∨ jo=9 ∨ jo=10 ∨ jo=11 ∨ jo=12 ∨ jo=13 ∨ jo=14 ∨ jo=15 ∨ jo=16 ∨ jo=17 ∨ jo=18 ∨ jo=19 ∨ jo=20 by omega) with rfl|rfl|rfl|rfl|rfl|rfl|rfl|rfl|rfl|rfl|rfl|rfl|rfl|rfl|rfl|rfl|rfl|rfl|rfl|rfl|rfl
      all_goals (have ho2:=ho;simp only [List.getElem?_toArray,zD,zE,Option.some.injEq] at ho2;subst ho2)
      all_goals first|(refine (fun (eg:a.tmps.getD 38 undef=.bool false)=>?_) (hdep ⟨8,.guard⟩ ?_ rfl);rotate_left;focus (simp<;>fail))|(refine (fun (eg:a.tmps.getD 40 undef=.bool true)=>?_) (hdep ⟨10,.guard⟩ ?_ rfl);rotate_left;focus (simp<;>fail))|skip
      refine gvT fd (.bool true) ho rfl ?_ rfl;rotate_left
      have d0:a.eval (.tmp 30)=.bool true:=hdep ⟨0,.data⟩ (by simp) rfl;refine gvT fd (.bool false) ho rfl ?_ rfl;rotate_left
      have d0:a.eval (.tmp 31)=.bool false:=hdep ⟨1,.data⟩ (by simp) rfl;refine gvT fd (.bool false) ho rfl ?_ rfl;rotate_left
      iterate 4 (have eg:a.tmps.getD 32 undef=.bool false:=hdep ⟨2,.guard⟩ (by simp) rfl;exact gnT fd ho (unwantedI rfl (yieldedI rfl eg) (by decide)) rfl)
      have d0:a.eval (.tmp 32)=.bool false:=hdep ⟨2,.data⟩ (by simp) rfl;have d1:a.eval (.tmp 36)=undef:=hdep ⟨6,.data⟩ (by simp) rfl;refine gvT fd (.bool false) ho rfl ?_ rfl;rotate_left
      have d0:a.eval (.tmp 37)=.bool false:=hdep ⟨7,.data⟩ (by simp) rfl;refine gvT fd (.bool false) ho rfl ?_ rfl;rotate_left
      refine gvT fd (.bool true) ho (wantedI rfl (yieldedI rfl eg)) ?_ rfl;rotate_left
      have d0:a.eval (.tmp 39)=.bool true:=hdep ⟨9,.data⟩ (by simp) rfl;refine gvT fd (.bool true) ho (wantedI rfl (yieldedI rfl eg)) ?_ rfl;rotate_left
      refine gvT fd (.pointer (some ⟨gp,0,none⟩)) ho (wantedI rfl (yieldedI rfl eg)) ?_ rfl;rotate_left
      have d0:a.eval (.tmp 41)=.pointer (some ⟨gp,0,none⟩):=hdep ⟨11,.data⟩ (by simp) rfl;refine gvT fd (.slice (some ⟨ga,fa,none⟩) p1 c1) ho (wantedI rfl (yieldedI rfl eg)) ?_ rfl;rotate_left
      refine gvT fd (.int .i64 (pn:Nat)) ho (wantedI rfl (yieldedI rfl eg)) ?_ rfl;rotate_left
      have d0:a.eval (.tmp 42)=.slice (some ⟨ga,fa,none⟩) p1 c1:=hdep ⟨12,.data⟩ (by simp) rfl;have d1:a.eval (.tmp 43)=.int .i64 (pn:Nat):=hdep ⟨13,.data⟩ (by simp) rfl;refine gvT fd (.pointer (some ⟨ga,fa+pn * 7,none⟩)) ho (wantedI rfl (yieldedI rfl eg)) ?_ rfl;rotate_left
      have d0:a.eval (.tmp 44)=.pointer (some ⟨ga,fa+pn * 7,none⟩):=hdep ⟨14,.data⟩ (by simp) rfl;refine gvT fd (.agg #[.int .i64 di,.string dm,.int .i64 dk,.bool dv,.bool eu,.int .i64 en,.string es]) ho (wantedI rfl (yieldedI rfl eg)) ?_ rfl;rotate_left
      refine gvT fd (.agg #[.int .i64 xi,.string xm,.int .i64 xk,.bool xu,.bool du,.int .i64 dn,.string ds]) ho (wantedI rfl (yieldedI rfl eg)) ?_ rfl;rotate_left
      ·have d0:a.eval (.tmp 45)=.agg #[.int .i64 di,.string dm,.int .i64 dk,.bool dv,.bool eu,.int .i64 en,.string es]:=hdep ⟨15,.data⟩ (by simp) rfl
       have d1:a.eval (.tmp 46)=.agg #[.int .i64 xi,.string xm,.int .i64 xk,.bool xu,.bool du,.int .i64 dn,.string ds]:=hdep ⟨16,.data⟩ (by simp) rfl
       refine growI_call (I:=(fun _ _=>True)) (X:=(fun _ _ _=>True)) (d:=fd) (a:=a) (w:=w1) 68 #[.agg #[.int .i64 di,.string dm,.int .i64 dk,.bool dv,.bool eu,.int .i64 en,.string es],.agg #[.int .i64 xi,.string xm,.int .i64 xk,.bool xu,.bool du,.int .i64 dn,.string ds]] ho (wantedI rfl (yieldedI rfl eg)) ?_ ((HSE.out w1).mono ?_)
       ·unfold execOp resolve
        simp only [zA,zB,zC,d0,d1,ec]
        rfl
       ·rintro e c1 ⟨rfl,hb2⟩
        exact⟨_,rfl,rfl,hb2,trivial,trivial⟩
      have d0:a.eval (.tmp 47)=.bool true:=hdep ⟨17,.data⟩ (by simp) rfl;refine gvT fd (.bool false) ho (wantedI rfl (yieldedI rfl eg)) ?_ rfl;rotate_left
      have d0:a.eval (.tmp 40)=.bool true:=hdep ⟨10,.data⟩ (by simp) rfl;have d1:a.eval (.tmp 48)=.bool false:=hdep ⟨18,.data⟩ (by simp) rfl;refine gvT fd (.bool false) ho (wantedI rfl (yieldedI rfl eg)) ?_ rfl;rotate_left
      have d0:a.eval (.tmp 38)=.bool false:=hdep ⟨8,.data⟩ (by simp) rfl;have d1:a.eval (.tmp 49)=.bool false:=hdep ⟨19,.data⟩ (by simp) rfl;refine gvT fd (.bool false) ho rfl ?_ rfl;rotate_left
      all_goals (unfold execOp;first|(simp only [zA,zB,zC,d0,d1,ec];first|rfl|(go_simp;first|done|rfl|omega))|(simp only [zA,zB,zC,e10,ec];first|rfl|(go_simp;first|done|rfl|omega))|(simp only [zA,zB,zC,d0,ec];first|rfl|(go_simp;first|done|rfl|omega))|(simp only [zA,zB,zC,e3,ec];first|rfl|(go_simp;first|done|rfl|omega))|(simp only [zA,zB,zC,e8,ec];first|rfl|(go_simp;first|done|rfl|omega))|(simp only [zA,zB,zC,e9,ec];first|rfl|(go_simp;first|done|rfl|omega)))
     ·intro a w1 hI hb hj
      have hb':Below w6.heap.size w6 w1:=up (Below.refl _ _).drew hb
      exact⟨hj 20 (by decide),hb'⟩
     rintro ts w7 ⟨h50,hb7⟩
     simp only [fill,List.setIfInBounds_toArray,List.set_cons_succ,List.set_cons_zero]
     rw [h50]
     have HW7:=hZ (up HW6.out hb7)
     clear h50 hb7 HW6
     go_wp2_with fail
     go_roundw
     case rel=>exact⟨k+1,by omega,by go_num,HGN,HW7⟩
     case measure=>simp [intOf];omega
  ·have hlt1:¬ (k:Int) < (p3:Int):=by omega
   obtain⟨rr,hrr⟩:∃ r,Ev.fol (la,ka) (lb,kb) hh=r:=⟨_,rfl⟩
   have HRR:Hid (rr=true↔Ev.kid (la,ka)=Ev.kid (lb,kb)):=hZ (by
    rw [← hrr,Ev.fol_iff]
    refine⟨fun h=>h.2,fun h=>⟨fun c hc=>?_,h⟩⟩
    obtain⟨j,hj⟩:=List.getElem?_of_mem hc
    have:=(List.getElem?_eq_some_iff.1 hj).1
    exact HG.out j c (by have:=HL.out.2;simp only at *;omega) hj)
   have HRF:=hZ hrr
   have HEQ:=hZ (fun w1 v0 v1 (h0:RdI w1 w1.heap.size v0 (Ev.kid (la,ka))) (h1:RdI w1 w1.heap.size v1 (Ev.kid (lb,kb)))=>eqInts v0 v1 _ _ w1 h0 h1 HKN.out rr HRR.out)
   clear hrr
   go_upto_region 8 with fail
   clear y0
   refine region_growI_merge (fun u v:World=>Below u.heap.size u v) (fun _ _=>True) (fun _ _ _=>True) (fun u=>Below.refl _ _) (fun _ _ _ h k=>up h k) (kjI #[Spc.eq (.agg #[.slice a1 p1 c1,.slice a2 p2 c2]),⟨fun v u=>RdI u u.heap.size v (Ev.kid (la,ka)),fun _ _ _ h hb=>Gn.Rd.later h hb⟩,Spc.eq (.agg #[.slice a3 p3 c3,.slice a4 p4 c4]),⟨fun v u=>RdI u u.heap.size v (Ev.kid (lb,kb)),fun _ _ _ h hb=>Gn.Rd.later h hb⟩,Spc.eq (.bool rr),Spc.eq (.bool rr)]) [51,52,53,54,55,6] (fun ts W=>ts.getD 6 undef=.bool rr∧Below wr.heap.size wr W) (by kernel_rfl) (by kernel_rfl) (by kernel_rfl) kjI_later trivial ?_ ?_ ?_
   ·intro QQ fd jo o a w1 ho hfd hdd hI hb hs hold hdep
    have hjo:jo < 6:=(Array.getElem?_eq_some_iff.1 ho).1
    have hb':Below wr.heap.size wr w1:=up (Below.refl _ _).drew hb
    have hbo:Below w0.heap.size w0 w1:=up HW.out hb'
    have t0:=(HX.out.later hbo).cell 0
    have t1:=(HX.out.later hbo).cell 1
    have t2:=(HY.out.later hbo).cell 0
    have t3:=(HY.out.later hbo).cell 1
    simp only [zD,zE] at t0 t1 t2 t3
    have e3:a.eval (.tmp 3)=.pointer (some ⟨gp,0,none⟩):=by
     show a.tmps.getD 3 undef=_
     rw [Array.getD_eq_getD_getElem?,hold 3 (by decide +kernel)];rfl
    have e4:a.eval (.tmp 4)=.pointer (some ⟨g1,0,none⟩):=by
     show a.tmps.getD 4 undef=_
     rw [Array.getD_eq_getD_getElem?,hold 4 (by decide +kernel)];rfl
    have ec:∀ v,a.eval (.const v)=v:=fun _=>rfl
    clear hold hs
    rcases (show jo=0 ∨ jo=1 ∨ jo=2 ∨ jo=3 ∨ jo=4 ∨ jo=5 by omega) with rfl|rfl|rfl|rfl|rfl|rfl
    all_goals (have ho2:=ho;simp only [List.getElem?_toArray,zD,zE,Option.some.injEq] at ho2;subst ho2)
    refine gvT fd (.agg #[.slice a1 p1 c1,.slice a2 p2 c2]) ho rfl ?_ rfl;rotate_left
    ·have d0:a.eval (.tmp 51)=.agg #[.slice a1 p1 c1,.slice a2 p2 c2]:=hdep ⟨0,.data⟩ (by simp) rfl
     refine growI_call (I:=(fun _ _=>True)) (X:=(fun _ _ _=>True)) (d:=fd) (a:=a) (w:=w1) 69 #[.agg #[.slice a1 p1 c1,.slice a2 p2 c2]] ho rfl ?_ ((HKK.out w1 (HSA.out.later hbo)).mono ?_)
     ·unfold execOp resolve
      simp only [zA,zB,zC,d0,ec]
      rfl
     ·rintro e c1 ⟨x,rfl,hp,hb2⟩
      exact⟨_,rfl,(RdI.of hp),hb2,trivial,trivial⟩
    refine gvT fd (.agg #[.slice a3 p3 c3,.slice a4 p4 c4]) ho rfl ?_ rfl;rotate_left
    ·have d0:a.eval (.tmp 53)=.agg #[.slice a3 p3 c3,.slice a4 p4 c4]:=hdep ⟨2,.data⟩ (by simp) rfl
     refine growI_call (I:=(fun _ _=>True)) (X:=(fun _ _ _=>True)) (d:=fd) (a:=a) (w:=w1) 69 #[.agg #[.slice a3 p3 c3,.slice a4 p4 c4]] ho rfl ?_ ((HKL.out w1 (HSB.out.later hbo)).mono ?_)
     ·unfold execOp resolve
      simp only [zA,zB,zC,d0,ec]
      rfl
     ·rintro e c1 ⟨x,rfl,hp,hb2⟩
      exact⟨_,rfl,(RdI.of hp),hb2,trivial,trivial⟩
    ·obtain⟨v0,d0,f0⟩:∃ v,a.eval (.tmp 52)=v∧(fun v u=>RdI u u.heap.size v (Ev.kid (la,ka))) v w1:=⟨_,rfl,hdep ⟨1,.data⟩ (by simp) rfl⟩
     obtain⟨v1,d1,f1⟩:∃ v,a.eval (.tmp 54)=v∧(fun v u=>RdI u u.heap.size v (Ev.kid (lb,kb))) v w1:=⟨_,rfl,hdep ⟨3,.data⟩ (by simp) rfl⟩
     refine growI_call (I:=(fun _ _=>True)) (X:=(fun _ _ _=>True)) (d:=fd) (a:=a) (w:=w1) 44 #[v0,v1] ho rfl ?_ ((HEQ.out w1 v0 v1 f0 f1).mono ?_)
     ·unfold execOp resolve
      simp only [zA,zB,zC,d0,d1,ec]
      rfl
     ·rintro e c1 ⟨rfl,hb2⟩
      exact⟨_,rfl,rfl,hb2,trivial,trivial⟩
    have d0:a.eval (.tmp 55)=.bool rr:=hdep ⟨4,.data⟩ (by simp) rfl;refine gvT fd (.bool rr) ho rfl ?_ rfl;rotate_left
    all_goals (unfold execOp;first|(simp only [zA,zB,zC,d0,ec];first|rfl|(go_simp;first|done|rfl|omega))|(simp only [zA,zB,zC,e3,ec];first|rfl|(go_simp;first|done|rfl|omega))|(simp only [zA,zB,zC,e4,ec];first|rfl|(go_simp;first|done|rfl|omega)))
   ·intro a w1 hI hb hj
    have hb':Below wr.heap.size wr w1:=up (Below.refl _ _).drew hb
    exact⟨hj 5 (by decide),hb'⟩
   rintro ts w9 ⟨h55,hb9⟩
   simp only [fill,List.setIfInBounds_toArray,List.set_cons_succ,List.set_cons_zero]
   rw [h55]
   have HB9:=hZ (up HW.out hb9)
   have hgp:=HGP.out
   clear h55 hb9
   go_wp2_with fail
   go_ret
   exact⟨by first|(rw [HRF.out];done)|(rw [HRF.out];rfl),by have:=up HB.out HB9.out;first|exact this|(rw [HGP.out] at this;exact this)⟩
end Go.Proofs.YtenfjmdajlhfoabGreatDoor
namespace Go.Proofs.YtenfjmdajlhfoabGreatDoor.Ev
open Cl
set_option linter.unusedVariables false
set_option linter.unusedSimpArgs false
theorem kidF_congr {ks ks':List Int}:∀ (l:List Co) (i:Nat),(∀ j:Nat,i≤j→(((j:Nat):Int)∈ks↔((j:Nat):Int)∈ks'))→kidF ks i l=kidF ks' i l
 | [],i,_=>rfl
 | c::t,i,h=>by
  have ih:=kidF_congr t (i+1) (fun j hj=>h j (by omega))
  have h0:=h i (Nat.le_refl _)
  rw [kidF_cons,kidF_cons,ih]
  by_cases e:((i:Nat):Int)∈ks
  ·rw [if_pos e,if_pos (h0.1 e)]
  ·rw [if_neg e,if_neg (fun h=>e (h0.2 h))]
theorem kidF_map:∀ (l:List Co) (i:Nat) (ks:List Int),ks.Pairwise (· < ·)→(∀ k∈ks,(i:Int)≤k∧k < (i:Int)+(l.length:Int))→kidF ks i l=ks.map fun k=>(l.getD (k.toNat - i) Sc.co0).id
 | [],i,ks,_,h=>by
  cases ks with
  | nil=>rfl
  | cons k t=>have:=h k (by simp);simp at this;omega
 | c::t,i,ks,hp,h=>by
  have tl:∀ (k:Int),((i+1:Nat):Int)≤k→((c::t).getD (k.toNat - i) Sc.co0).id=(t.getD (k.toNat - (i+1)) Sc.co0).id:=fun k hk=>by
   rw [show k.toNat - i=(k.toNat - (i+1))+1 by omega,List.getD_cons_succ]
  rw [kidF_cons]
  by_cases e:((i:Nat):Int)∈ks
  ·rw [if_pos e]
   cases ks with
   | nil=>cases e
   | cons k r =>
    obtain⟨h1,h2⟩:=List.pairwise_cons.1 hp
    have hk:=h k (by simp)
    have hki:k=(i:Int):=by
     rcases List.mem_cons.1 e with e|e
     ·exact e.symm
     ·have:=h1 _ e;omega
    have hr:∀ q∈r,((i+1:Nat):Int)≤q∧q < ((i+1:Nat):Int)+(t.length:Int):=fun q hq=>by
     have h3:=h1 q hq
     have h4:=h q (List.mem_cons_of_mem _ hq)
     simp only [List.length_cons] at h4
     omega
    rw [kidF_congr (ks':=r) t (i+1) (fun j hj=>by
     constructor
     ·intro hm
      rcases List.mem_cons.1 hm with e2|e2
      ·omega
      ·exact e2
     ·exact fun hm=>List.mem_cons_of_mem _ hm),kidF_map t (i+1) r h2 hr,List.map_cons]
    congr 1
    ·rw [hki];simp
    ·exact List.map_congr_left fun q hq=>(tl q (hr q hq).1).symm
  ·rw [if_neg e]
   have hr:∀ q∈ks,((i+1:Nat):Int)≤q∧q < ((i+1:Nat):Int)+(t.length:Int):=fun q hq=>by
    have h4:=h q hq
    have h5:q≠(i:Int):=fun e2=>e (e2▸hq)
    simp only [List.length_cons] at h4
    omega
   rw [kidF_map t (i+1) ks hp hr]
   exact List.map_congr_left fun q hq=>(tl q (hr q hq).1).symm
theorem okK_range {l:List Co} {ks:List Int} (h:Sc.okK l ks=true):ks.Pairwise (· < ·)∧∀ k∈ks,0≤k∧k < (l.length:Int):=by
 have hk:=(Sc.okK_iff.1 h).2
 have hp:∀ (i:Nat) (k:Int),ks[i]?=some k→Sc.leastK ks i≤k∧k < (l.length:Int):=fun i k hi=>by
  have:=hk i k hi
  unfold Sc.okKAt at this
  simp only [Bool.and_eq_true,decide_eq_true_eq] at this
  exact this.1
 have h0:∀ (i:Nat) (k:Int),ks[i]?=some k→0≤k:=fun i=>by
  induction i with
  | zero =>
   intro k hi
   have:=(hp 0 k hi).1
   unfold Sc.leastK at this
   simpa using this
  | succ i ih =>
   intro k hi
   obtain⟨z,hz⟩:∃ z,ks[i]?=some z:=⟨_,List.getElem?_eq_getElem (by have:=(List.getElem?_eq_some_iff.1 hi).1;omega)⟩
   have h1:=ih z hz
   have:=(hp (i+1) k hi).1
   unfold Sc.leastK at this
   rw [if_neg (by omega),Nat.add_sub_cancel,getD_at hz] at this
   omega
 refine⟨List.pairwise_iff_getElem.2 fun i j hi hj hij=>?_,fun k hm=>?_⟩
 ·have step:∀ (j:Nat) (hj:j < ks.length),i < j→ks[i] < ks[j]:=fun j=>by
   induction j with
   | zero=>intro _ h;omega
   | succ j ih =>
    intro hj hij
    have:=(hp (j+1) ks[j+1] (List.getElem?_eq_getElem hj)).1
    unfold Sc.leastK at this
    rw [if_neg (by omega),Nat.add_sub_cancel,getD_at (List.getElem?_eq_getElem (by omega:j < ks.length))] at this
    rcases Nat.lt_or_ge i j with h|h
    ·have:=ih (by omega) h;omega
    ·obtain rfl:i=j:=by omega
     omega
  exact step j hj hij
 ·obtain⟨i,hi⟩:=List.getElem?_of_mem hm
  exact⟨h0 i k hi,(hp i k hi).2⟩
theorem kidR_kid {l:List Co} {ks:List Int} (h:Sc.okK l ks=true):kidR l ks=kid (l,ks):=by
 obtain⟨h1,h2⟩:=okK_range h
 unfold kid kidR
 rw [kidF_map l 0 ks h1 (fun k hk=>by have:=h2 k hk;simp;omega)]
 simp
theorem hi_last {l:List Co} (h:Sc.okC l=true) {c:Co} (hc:l[l.length - 1]?=some c):hi 0 l=c.id:=by
 have h1:hi 0 l < c.id+1:=hi_lt.2 ⟨by have:=(okC_at h hc).1;omega,fun d hd=>by
  obtain⟨j,hj⟩:=List.getElem?_of_mem hd
  have hjl:=(List.getElem?_eq_some_iff.1 hj).1
  rcases Nat.lt_or_ge j (l.length - 1) with h2|h2
  ·have:=okC_rise h j (l.length - 1) d c h2 hj hc;omega
  ·rw [show j=l.length - 1 by omega,hc] at hj
   injection hj with hj;subst hj;omega⟩
 have h2:¬ hi 0 l < c.id:=fun h2=>by
  have:=(hi_lt.1 h2).2 c (List.mem_of_getElem? hc);omega
 omega
theorem chain_two (a b:Sm):chain [a,b]=if Sc.ck a.1 a.2≠0 ∨ Sc.ck b.1 b.2≠0 then 2 else if fol a b (hi 0 a.1)=true then 0 else 120:=by
 by_cases h:Sc.ck a.1 a.2≠0 ∨ Sc.ck b.1 b.2≠0
 ·rw [if_pos h]
  have e1:allOk [a,b]=false:=by
   unfold allOk
   rcases h with h|h<;>simp [h]
  unfold chain
  rw [if_neg (by simp),e1];rfl
 ·rw [if_neg h,two_go (Decidable.not_not.1 fun h1=>h (.inl h1)) (Decidable.not_not.1 fun h1=>h (.inr h1))]
  rfl
end Go.Proofs.YtenfjmdajlhfoabGreatDoor.Ev
namespace Go.Proofs.YtenfjmdajlhfoabGreatDoor
open Go.RowKit Go.Sort
set_option linter.unusedVariables false
set_option linter.unusedSimpArgs false
set_option maxRecDepth 100000
theorem rStep12 (xa xb:Sx) (hx:SmOk xa.s) (hy:SmOk xb.s) (w:World) (ha:RdS w w.heap.size xa) (hb:RdS w w.heap.size xb) (d:Int) (hd0:Ev.chain [xa.s,xb.s]=d) :
 Calls Tryz.prog 18 #[.agg #[xa.v,xa.kv],.agg #[xb.v,xb.kv]] w fun e w'=>e=.returned (.int .i64 d)∧Below w.heap.size w w':=by
 have HOA:=hZ hx
 have HOB:=hZ hy
 have HRA:=hZ ha
 have HRB:=hZ hb
 have hd:=(Ev.chain_two _ _).symm.trans hd0
 clear hd0
 obtain⟨ea,hea⟩:∃ e,Sc.ck xa.s.1 xa.s.2=e:=⟨_,rfl⟩
 obtain⟨eb,heb⟩:∃ e,Sc.ck xb.s.1 xb.s.2=e:=⟨_,rfl⟩
 have HC1:=hZ (fun (w1:World) (h:RdS w1 w1.heap.size xa)=>rCheckS xa.v xa.kv xa.s.1 xa.s.2 w1 h.c h.k hx.k hx.i ea hea)
 have HC2:=hZ (fun (w1:World) (h:RdS w1 w1.heap.size xb)=>rCheckS xb.v xb.kv xb.s.1 xb.s.2 w1 h.c h.k hy.k hy.i eb heb)
 have hea2:=Sc.ck_cases xa.s.1 xa.s.2
 have heb2:=Sc.ck_cases xb.s.1 xb.s.2
 rw [hea] at hea2
 rw [heb] at heb2
 have HFO:Hid (ea=0→eb=0→∀ (hh:Int) (w1:World),RdS w1 w1.heap.size xa→RdS w1 w1.heap.size xb→Calls Tryz.prog 41 #[.agg #[xa.v,xa.kv],.agg #[xb.v,xb.kv],.int .i64 hh] w1 fun e w'=>e=.returned (.bool (Ev.fol xa.s xb.s hh))∧Below w1.heap.size w1 w'):=hZ (fun h1 h2 hh w1 r1 r2=>by
  have k1:=(Sc.ck_zero.1 (hea.trans h1)).2
  have k2:=(Sc.ck_zero.1 (heb.trans h2)).2
  exact rFollows xa xb hx.n hy.n hx.m hy.m (Ev.okK_range k1).2 (Ev.okK_range k2).2 (Ev.kidR_kid k1) (Ev.kidR_kid k2) hh w1 r1 r2)
 have HGR:Hid (ea=0→∀ w1:World,RdS w1 w1.heap.size xa→Calls Tryz.prog 42 #[.agg #[xa.v,xa.kv]] w1 fun e w'=>e=.returned (.int .i64 (Ev.hi 0 xa.s.1))∧Below w1.heap.size w1 w'):=hZ (fun h1 w1 r1=>by
  have k1:=(Sc.ck_zero.1 (hea.trans h1)).1
  obtain⟨c,hc⟩:∃ c,xa.s.1[xa.s.1.length - 1]?=some c:=⟨_,List.getElem?_eq_getElem (by have:=(Sc.okC_iff.1 k1).1.1;omega)⟩
  rw [Ev.hi_last k1 hc]
  exact rGreatest xa.v xa.kv xa.s.1 w1 r1.c hx.n c hc)
 obtain⟨a1,c1,a2,c2,⟨la,ka⟩⟩:=xa
 obtain⟨a3,c3,a4,c4,⟨lb,kb⟩⟩:=xb
 unfold Sx.v Sx.kv at *
 simp only at HFO HGR HC1 HC2 hea heb hd ⊢
 obtain⟨p1,hp1⟩:∃ p,la.length=p:=⟨_,rfl⟩
 obtain⟨p2,hp2⟩:∃ p,ka.length=p:=⟨_,rfl⟩
 obtain⟨p3,hp3⟩:∃ p,lb.length=p:=⟨_,rfl⟩
 obtain⟨p4,hp4⟩:∃ p,kb.length=p:=⟨_,rfl⟩
 rw [hp1,hp2] at HFO HGR HC1
 rw [hp3,hp4] at HFO HC2
 rw [hp1,hp2,hp3,hp4]
 have b1:=box_new w (.cells #[.slice a1 p1 c1,.slice a2 p2 c2] 25)
 have b2:=up_box b1 (.cells #[.slice a3 p3 c3,.slice a4 p4 c4] 25)
 have HX:=hZ ((Blk.new w 25 #[.slice a1 p1 c1,.slice a2 p2 c2]).later (box_new _ (.cells #[.slice a3 p3 c3,.slice a4 p4 c4] 25)))
 have hy:=Blk.new (w.alloc (.cells #[.slice a1 p1 c1,.slice a2 p2 c2] 25)) 25 #[.slice a3 p3 c3,.slice a4 p4 c4]
 obtain⟨g1,hg1⟩:∃ g,(w.alloc (.cells #[.slice a1 p1 c1,.slice a2 p2 c2] 25)).heap.size=g:=⟨_,rfl⟩
 have hg1':w.heap.size+1=g1:=by rw [← hg1];simp
 rw [hg1] at hy
 have HY:=hZ hy
 have HB:=hZ b2
 have HSA:=hZ (HRA.out.later b2)
 have HSB:=hZ (HRB.out.later b2)
 rw [hea,heb] at hd
 clear ha hb b1 b2 hy hp1 hp2 hp3 hp4 HRA HRB hea heb
 go_enter Tryz.func18,Tryz.ntmps18
 go_upto_region 1 with fail
 try simp only [hg1']
 generalize (w.alloc (.cells #[.slice a1 p1 c1,.slice a2 p2 c2] 25)).alloc (.cells #[.slice a3 p3 c3,.slice a4 p4 c4] 25)=w0 at *
 obtain⟨gp,hgp⟩:∃ g,w.heap.size=g:=⟨_,rfl⟩
 have HGP:=hZ hgp
 rw [hgp] at HX ⊢
 clear hg1 hg1' hgp
 have x0:=HX.out.cell 0
 have x1:=HX.out.cell 1
 simp only [zD,zE] at x0 x1
 go_wp2_with fail
 ((with_reducible refine (HC1.out _ HSA.out).mono ?_);rintro e w1 ⟨rfl,b⟩)
 have HW1:=hZ b
 clear b x0 x1
 rcases hea2 with rfl|rfl
 ·have y0:=(HY.out.later HW1.out).cell 0
  have y1:=(HY.out.later HW1.out).cell 1
  simp only [zD,zE] at y0 y1
  go_wp2_with fail
  ((with_reducible refine (HC2.out _ (HSB.out.later HW1.out)).mono ?_);rintro e w2 ⟨rfl,b⟩)
  have HW2:=hZ (up HW1.out b)
  clear b y0 y1
  rcases heb2 with rfl|rfl
  ·obtain⟨bf,hbf⟩:∃ b,Ev.fol (la,ka) (lb,kb) (Ev.hi 0 la)=b:=⟨_,rfl⟩
   have HFO2:=hZ (by have h:=HFO.out;first|exact h rfl rfl (Ev.hi 0 la)|exact h trivial rfl (Ev.hi 0 la)|exact h trivial trivial (Ev.hi 0 la))
   have HGR2:=hZ (by first|exact HGR.out rfl|exact HGR.out trivial)
   rw [hbf] at HFO2 hd
   rw [if_neg (by decide)] at hd
   obtain⟨hh,hhh⟩:∃ h,Ev.hi 0 la=h:=⟨_,rfl⟩
   rw [hhh] at HFO2 HGR2
   have HD:=hZ hd
   clear hbf hhh hd HFO HGR
   go_upto_region 3 with fail
   refine region_growI_merge (fun u v:World=>Below u.heap.size u v) (fun _ _=>True) (fun _ _ _=>True) (fun u=>Below.refl _ _) (fun _ _ _ h k=>up h k) (kjI #[Spc.eq (.agg #[.slice a1 p1 c1,.slice a2 p2 c2]),Spc.eq (.agg #[.slice a3 p3 c3,.slice a4 p4 c4]),Spc.eq (.agg #[.slice a1 p1 c1,.slice a2 p2 c2]),Spc.eq (.int .i64 hh),Spc.eq (.bool bf),Spc.eq (.bool (!bf))]) [13,14,15,16,17,18] (fun ts W=>ts.getD 18 undef=.bool (!bf)∧Below w2.heap.size w2 W) (by kernel_rfl) (by kernel_rfl) (by kernel_rfl) kjI_later trivial ?_ ?_ ?_
   ·intro QQ fd jo o a w1 ho hfd hdd hI hb hs hold hdep
    have hjo:jo < 6:=(Array.getElem?_eq_some_iff.1 ho).1
    have hb':Below w2.heap.size w2 w1:=up (Below.refl _ _).drew hb
    have hbo:Below w0.heap.size w0 w1:=up HW2.out hb'
    have t0:=(HX.out.later hbo).cell 0
    have t1:=(HX.out.later hbo).cell 1
    have t2:=(HY.out.later hbo).cell 0
    have t3:=(HY.out.later hbo).cell 1
    simp only [zD,zE] at t0 t1 t2 t3
    have e2:a.eval (.tmp 2)=.pointer (some ⟨gp,0,none⟩):=by
     show a.tmps.getD 2 undef=_
     rw [Array.getD_eq_getD_getElem?,hold 2 (by decide +kernel)];rfl
    have e3:a.eval (.tmp 3)=.pointer (some ⟨g1,0,none⟩):=by
     show a.tmps.getD 3 undef=_
     rw [Array.getD_eq_getD_getElem?,hold 3 (by decide +kernel)];rfl
    have ec:∀ v,a.eval (.const v)=v:=fun _=>rfl
    clear hold hs
    rcases (show jo=0 ∨ jo=1 ∨ jo=2 ∨ jo=3 ∨ jo=4 ∨ jo=5 by omega) with rfl|rfl|rfl|rfl|rfl|rfl
    all_goals (have ho2:=ho;simp only [List.getElem?_toArray,zD,zE,Option.some.injEq] at ho2;subst ho2)
    refine gvT fd (.agg #[.slice a1 p1 c1,.slice a2 p2 c2]) ho rfl ?_ rfl;rotate_left
    refine gvT fd (.agg #[.slice a3 p3 c3,.slice a4 p4 c4]) ho rfl ?_ rfl;rotate_left
    refine gvT fd (.agg #[.slice a1 p1 c1,.slice a2 p2 c2]) ho rfl ?_ rfl;rotate_left
    ·have d0:a.eval (.tmp 15)=.agg #[.slice a1 p1 c1,.slice a2 p2 c2]:=hdep ⟨2,.data⟩ (by simp) rfl
     refine growI_call (I:=(fun _ _=>True)) (X:=(fun _ _ _=>True)) (d:=fd) (a:=a) (w:=w1) 42 #[.agg #[.slice a1 p1 c1,.slice a2 p2 c2]] ho rfl ?_ ((HGR2.out w1 (HSA.out.later hbo)).mono ?_)
     ·unfold execOp resolve
      simp only [zA,zB,zC,d0,ec]
      rfl
     ·rintro e c1 ⟨rfl,hb2⟩
      exact⟨_,rfl,rfl,hb2,trivial,trivial⟩
    ·have d0:a.eval (.tmp 13)=.agg #[.slice a1 p1 c1,.slice a2 p2 c2]:=hdep ⟨0,.data⟩ (by simp) rfl
     have d1:a.eval (.tmp 14)=.agg #[.slice a3 p3 c3,.slice a4 p4 c4]:=hdep ⟨1,.data⟩ (by simp) rfl
     have d2:a.eval (.tmp 16)=.int .i64 hh:=hdep ⟨3,.data⟩ (by simp) rfl
     refine growI_call (I:=(fun _ _=>True)) (X:=(fun _ _ _=>True)) (d:=fd) (a:=a) (w:=w1) 41 #[.agg #[.slice a1 p1 c1,.slice a2 p2 c2],.agg #[.slice a3 p3 c3,.slice a4 p4 c4],.int .i64 hh] ho rfl ?_ ((HFO2.out w1 (HSA.out.later hbo) (HSB.out.later hbo)).mono ?_)
     ·unfold execOp resolve
      simp only [zA,zB,zC,d0,d1,d2,ec]
      rfl
     ·rintro e c1 ⟨rfl,hb2⟩
      exact⟨_,rfl,rfl,hb2,trivial,trivial⟩
    ·have d0:a.eval (.tmp 17)=.bool bf:=hdep ⟨4,.data⟩ (by simp) rfl
     refine gvT fd (.bool (!bf)) ho rfl ?_ rfl
     unfold execOp;simp only [zA,zB,zC,d0,ec];first|(go_simp;done)|(cases bf<;>(go_simp;done))|(cases bf<;>rfl)
    all_goals (unfold execOp;first|(simp only [zA,zB,zC,e2,ec];first|rfl|(go_simp;first|done|rfl|omega))|(simp only [zA,zB,zC,e3,ec];first|rfl|(go_simp;first|done|rfl|omega)))
   ·intro a w1 hI hb hj
    have hb':Below w2.heap.size w2 w1:=up (Below.refl _ _).drew hb
    exact⟨hj 5 (by decide),hb'⟩
   rintro ts w9 ⟨h18,hb9⟩
   simp only [fill,List.setIfInBounds_toArray,List.set_cons_succ,List.set_cons_zero]
   rw [h18]
   have HB9:=hZ (up HW2.out hb9)
   clear h18 hb9
   cases bf with
   | false =>
    go_wp2_with fail
    go_ret
    exact⟨by rw [← HD.out];rfl,by have:=up HB.out HB9.out;first|exact this|(rw [HGP.out] at this;exact this)⟩
   | true =>
    go_wp2_with fail
    go_ret
    exact⟨by rw [← HD.out];rfl,by have:=up HB.out HB9.out;first|exact this|(rw [HGP.out] at this;exact this)⟩
  ·rw [if_pos (by decide)] at hd
   have HD:=hZ hd
   clear hd
   go_wp2_with fail
   go_ret
   exact⟨by rw [← HD.out];rfl,by have:=up HB.out HW2.out;first|exact this|(rw [HGP.out] at this;exact this)⟩
 ·rw [if_pos (by simp)] at hd
  have HD:=hZ hd
  clear hd
  go_wp2_with fail
  go_ret
  exact⟨by rw [← HD.out];rfl,by have:=up HB.out HW1.out;first|exact this|(rw [HGP.out] at this;exact this)⟩
theorem Ev.carry_two (s t:Ev.Sm) (r:List Cl.C):Ev.carry [s,t] 1 2 r=if Ev.chain [s,t]≠0 then ⟨[],Ev.chain [s,t]⟩ else if Rw.chkR (tys s.1) r≠0 then ⟨[],Rw.chkR (tys s.1) r⟩ else ⟨Ev.mvd s.1 t.1 r,0⟩:=by
 unfold Ev.carry
 by_cases h:Ev.chain [s,t]≠0
 ·rw [if_pos h,if_pos h]
 ·rw [if_neg h,if_neg h,if_neg (by simp)]
  rfl
theorem rMove12 (xa xb:Sx) (hx:SmOk xa.s) (hy:SmOk xb.s) (w:World) (ha:RdS w w.heap.size xa) (hb:RdS w w.heap.size xb) (rv:Value) (r:List Cl.C) (hr:RdC w w.heap.size rv r) (hrl:r.length≤1000000) (hrs:∀ c∈r,c.s.size≤1000000) (a:Ev.Ans) (ha0:Ev.carry [xa.s,xb.s] 1 2 r=a) :
 Calls Tryz.prog 16 #[.agg #[xa.v,xa.kv],.agg #[xb.v,xb.kv],rv] w (APost w a):=by
 have ha1:=(Ev.carry_two _ _ _).symm.trans ha0
 clear ha0
 obtain⟨e1,he1⟩:∃ e,Ev.chain [xa.s,xb.s]=e:=⟨_,rfl⟩
 obtain⟨e2,he2⟩:∃ e,Rw.chkR (tys xa.s.1) r=e:=⟨_,rfl⟩
 have HS:=hZ (fun (w1:World) (r1:RdS w1 w1.heap.size xa) (r2:RdS w1 w1.heap.size xb)=>rStep12 xa xb hx hy w1 r1 r2 e1 he1)
 have HC:=hZ (fun (w1:World) (r1:RdS w1 w1.heap.size xa) (h:RdC w1 w1.heap.size rv r)=>rowCheckR xa.v rv xa.s.1 r w1 r1.c h hrl hrs e2 he2)
 have HM:Hid (e2=0→∀ (w1:World),RdS w1 w1.heap.size xa→RdS w1 w1.heap.size xb→RdC w1 w1.heap.size rv r→Calls Tryz.prog 39 #[.agg #[xa.v,xa.kv],.agg #[xb.v,xb.kv],rv] w1 fun e w'=>∃ u,e=.returned u∧OwnC w' w1.heap.size u (Ev.mvd xa.s.1 xb.s.1 r)∧Below w1.heap.size w1 w') :=
  hZ (fun h w1 r1 r2 h3=>rMoved xa xb hx.n hy.n rv r w1 r1 r2 h3 (Ev.ok_len (he2.trans h)))
 rw [he1,he2] at ha1
 have HRA:=hZ ha
 have HRB:=hZ hb
 have HRR:=hZ hr
 obtain⟨a1,c1,a2,c2,⟨la,ka⟩⟩:=xa
 obtain⟨a3,c3,a4,c4,⟨lb,kb⟩⟩:=xb
 unfold Sx.v Sx.kv at *
 simp only at HS HC HM ha1 ⊢
 obtain⟨ar,cr,rfl,_⟩:=Gn.Rd.form hr
 obtain⟨p1,hp1⟩:∃ p,la.length=p:=⟨_,rfl⟩
 obtain⟨p2,hp2⟩:∃ p,ka.length=p:=⟨_,rfl⟩
 obtain⟨p3,hp3⟩:∃ p,lb.length=p:=⟨_,rfl⟩
 obtain⟨p4,hp4⟩:∃ p,kb.length=p:=⟨_,rfl⟩
 obtain⟨pr,hpr⟩:∃ p,r.length=p:=⟨_,rfl⟩
 rw [hp1,hp2,hp3,hp4] at HS
 rw [hp1,hpr] at HC
 rw [hp1,hp2,hp3,hp4,hpr] at HM
 rw [hpr] at HRR
 rw [hp1,hp2,hp3,hp4,hpr]
 have b1:=box_new w (.cells #[.slice a1 p1 c1,.slice a2 p2 c2] 25)
 have b2:=up_box b1 (.cells #[.slice a3 p3 c3,.slice a4 p4 c4] 25)
 have HX:=hZ ((Blk.new w 25 #[.slice a1 p1 c1,.slice a2 p2 c2]).later (box_new _ (.cells #[.slice a3 p3 c3,.slice a4 p4 c4] 25)))
 have hy:=Blk.new (w.alloc (.cells #[.slice a1 p1 c1,.slice a2 p2 c2] 25)) 25 #[.slice a3 p3 c3,.slice a4 p4 c4]
 obtain⟨g1,hg1⟩:∃ g,(w.alloc (.cells #[.slice a1 p1 c1,.slice a2 p2 c2] 25)).heap.size=g:=⟨_,rfl⟩
 have hg1':w.heap.size+1=g1:=by rw [← hg1];simp
 rw [hg1] at hy
 have HY:=hZ hy
 have HB:=hZ b2
 have HSA:=hZ (HRA.out.later b2)
 have HSB:=hZ (HRB.out.later b2)
 have HSR:=hZ (HRR.out.later b2)
 have HA:=hZ ha1
 clear ha hb hr b1 b2 hy hp1 hp2 hp3 hp4 hpr HRA HRB HRR he1 he2 ha1
 go_enter Tryz.func16,Tryz.ntmps16
 go_upto_region 1 with fail
 try simp only [hg1']
 generalize (w.alloc (.cells #[.slice a1 p1 c1,.slice a2 p2 c2] 25)).alloc (.cells #[.slice a3 p3 c3,.slice a4 p4 c4] 25)=w0 at *
 obtain⟨gp,hgp⟩:∃ g,w.heap.size=g:=⟨_,rfl⟩
 have HGP:=hZ hgp
 rw [hgp] at HX ⊢
 clear hg1 hg1' hgp
 have x0:=HX.out.cell 0
 have x1:=HX.out.cell 1
 have y0:=HY.out.cell 0
 have y1:=HY.out.cell 1
 simp only [zD,zE] at x0 x1 y0 y1
 go_wp2_with fail
 ((with_reducible refine (HS.out _ HSA.out HSB.out).mono ?_);rintro e w1 ⟨rfl,b⟩)
 have HW1:=hZ b
 clear b x0 x1 y0 y1
 by_cases h1:e1=0
 ·subst h1
  have x0:=(HX.out.later HW1.out).cell 0
  have x1:=(HX.out.later HW1.out).cell 1
  simp only [zD,zE] at x0 x1
  go_wp2_with fail
  ((with_reducible refine (HC.out _ (HSA.out.later HW1.out) (HSR.out.later HW1.out)).mono ?_);rintro e w2 ⟨rfl,b⟩)
  have HW2:=hZ (up HW1.out b)
  clear b x0 x1
  by_cases h2:e2=0
  ·subst h2
   have x0:=(HX.out.later HW2.out).cell 0
   have x1:=(HX.out.later HW2.out).cell 1
   have y0:=(HY.out.later HW2.out).cell 0
   have y1:=(HY.out.later HW2.out).cell 1
   simp only [zD,zE] at x0 x1 y0 y1
   have HM2:=hZ (by have h:=HM.out;first|exact h rfl w2|exact h trivial w2)
   go_wp2_with fail
   ((with_reducible refine (HM2.out (HSA.out.later HW2.out) (HSB.out.later HW2.out) (HSR.out.later HW2.out)).mono ?_);rintro e w3 ⟨u,rfl,ho,b⟩)
   have HW3:=hZ (up HW2.out b)
   have hsz:=HB.out.size
   have hsz2:=HW2.out.size
   clear x0 x1 y0 y1
   have HO:=hZ (Gn.Own.lower ho (show w.heap.size≤w2.heap.size by have:=HGP.out;omega))
   clear ho b
   go_wp2_with fail
   go_ret2
   refine⟨u,?_,?_,by have:=up HB.out HW3.out;first|exact this|(rw [HGP.out] at this;exact this)⟩
   ·rw [← HA.out];rfl
   ·rw [← HA.out];exact HO.out
  ·have h2b:(e2 == 0)=false:=by simp [h2]
   have h2c:(e2 != 0)=true:=by simp [h2]
   go_wp2_with fail
   go_ret2
   refine⟨.slice none 0 0,?_,?_,by have:=up HB.out HW2.out;first|exact this|(rw [HGP.out] at this;exact this)⟩
   rotate_left
   ·rw [← HA.out,if_neg (by decide),if_pos h2];exact Gn.Own.nil _ _
   ·rw [← HA.out,if_neg (by decide),if_pos h2];rfl
 ·have h1b:(e1 == 0)=false:=by simp [h1]
  have h1c:(e1 != 0)=true:=by simp [h1]
  go_wp2_with fail
  go_ret2
  refine⟨.slice none 0 0,?_,?_,by have:=up HB.out HW1.out;first|exact this|(rw [HGP.out] at this;exact this)⟩
  rotate_left
  ·rw [← HA.out,if_pos h1];exact Gn.Own.nil _ _
  ·rw [← HA.out,if_pos h1];rfl
end Go.Proofs.YtenfjmdajlhfoabGreatDoor
