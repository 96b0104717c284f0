/- Texts. -/
import Derived.Test.YtenfjmdajlhfoabGreatDoorKRef
import Derived.Deep.DeepCutAuto
import Derived.Deep.CutBlock
set_option maxHeartbeats 16000000
namespace Go.Proofs.YtenfjmdajlhfoabGreatDoor
open Go.RowKit
set_option linter.unusedVariables false
set_option linter.unusedSimpArgs false
set_option maxRecDepth 100000
theorem yieldedU {ops:Array Oper} {ts:Array Value} {j s:Nat} (h:dstOf ops j=some s) (e:ts.getD s undef=undef):yielded ops ts j=none:=by
 unfold yielded
 have h':(ops[j]?).bind (·.dst)=some s:=h
 rw [h']
 rw [Array.getD_eq_getD_getElem?] at e
 simp only [Option.bind_some]
 cases hh:ts[s]? with
 | none=>rfl
 | some v=>rw [hh] at e;simp only [Option.getD_some] at e;rw [e];rfl
theorem unwantedU {o:Oper} {y:Nat→Option Bool} {j:Nat} {b:Bool} (h:o.guard=some (j,b)) (e:y j=none):Region.wanted o y=false:=by
 unfold Region.wanted
 rw [h]
 simp [e]
theorem Sc.least_of {l:List Co} {k:Nat} (h:∀ j d,j < k→l[j]?=some d→Sc.okAt l j d=true):∀ i,i≤k→i≤l.length→1≤Sc.least l i
 | 0,_,_=>by simp [Sc.least]
 | i+1,hi,hl=>by
  obtain⟨d,hd⟩:∃ d,l[i]?=some d:=⟨_,List.getElem?_eq_getElem (by omega)⟩
  have h1:=(Sc.okAt_parts.1 (h i d (by omega) hd)).1.1
  have h2:=Sc.least_of h i (by omega) (by omega)
  unfold Sc.least
  rw [if_neg (by omega),Nat.add_sub_cancel,Sc.getD_of hd]
  omega
theorem Sc.okKAt_false {l:List Co} {ks:List Int} {i:Nat} {k:Int} (h:¬ ((Sc.leastK ks i≤k∧k < (l.length:Int))∧(l.getD k.toNat Sc.co0).u=false)):Sc.okKAt l ks i k=false:=by
 cases e:Sc.okKAt l ks i k with
 | false=>rfl
 | true=>exact absurd (Sc.okKAt_parts.1 e) h
theorem Sc.leastK_of {l:List Co} {ks:List Int} {k:Nat} (h:∀ j z,j < k→ks[j]?=some z→Sc.okKAt l ks j z=true):∀ i,i≤k→i≤ks.length→0≤Sc.leastK ks i
 | 0,_,_=>by simp [Sc.leastK]
 | i+1,hi,hl=>by
  obtain⟨d,hd⟩:∃ d,ks[i]?=some d:=⟨_,List.getElem?_eq_getElem (by omega)⟩
  have h1:=(Sc.okKAt_parts.1 (h i d (by omega) hd)).1.1
  have h2:=Sc.leastK_of h i (by omega) (by omega)
  unfold Sc.leastK
  rw [if_neg (by omega),Nat.add_sub_cancel,Sc.getD_of hd]
  omega
theorem Sc.least_succ {l:List Co} {i:Nat} {d:Co} (h:l[i]?=some d):Sc.least l (i+1)=d.id+1:=by
 unfold Sc.least
 rw [if_neg (by omega),Nat.add_sub_cancel,Sc.getD_of h]
theorem Sc.okAt_false {l:List Co} {i:Nat} {c:Co} (h:¬ ((Sc.least l i≤c.id∧c.id≤1048576)∧Sc.name (bl c.nm)=true∧Cl.chk c.u c.k c.d=0∧Sc.fresh l i c=true)):Sc.okAt l i c=false:=by
 cases e:Sc.okAt l i c with
 | false=>rfl
 | true=>exact absurd (Sc.okAt_parts.1 e) h
theorem rCheckS (v kv:Value) (l:List Co) (ks:List Int) (w:World) (h:RdK w w.heap.size v l) (hk0:RdI w w.heap.size kv ks) (hk:∀ c∈l,KOk c) (hi:∀ k∈ks,Cl.I64 k) (d:Int) (hd:Sc.ck l ks=d) :
 Calls Tryz.prog 40 #[.agg #[v,kv]] w fun e w'=>e=.returned (.int .i64 d)∧Below w.heap.size w w':=by
 have hml:=Gn.Rd.len' h
 have hmk:=Gn.Rd.len' hk0
 have HK:=hZ hk
 have HI:=hZ hi
 have HD:=hZ hd
 have b1:=box_new w (.cells #[v,kv] 25)
 have HB:=hZ b1
 have HX:=hZ (Blk.new w 25 #[v,kv])
 have HR:=hZ (h.later b1)
 have HRI:=hZ (hk0.later b1)
 obtain⟨a,cc,rfl,_⟩:=Gn.Rd.form h
 obtain⟨ka,kc,rfl,_⟩:=Gn.Rd.form hk0
 have x0:=HX.out.cell 0
 have x1:=HX.out.cell 1
 simp only [zD,zE] at x0 x1
 clear h hk0 hk hi b1
 go_enter Tryz.func40,Tryz.ntmps40
 go_upto_region 1 with fail
 generalize w.alloc (.cells #[.slice a l.length cc,.slice ka ks.length kc] 25)=w1 at *
 by_cases hA:l.length < 1
 ·have hA1:(l.length:Int) < 1:=by omega
  rw [Sc.ck_no (.inl (by
   cases e:Sc.okC l with
   | false=>rfl
   | true=>have:=(Sc.okC_iff.1 e).1;omega))] at hd
  subst hd
  go_wp2_with fail
  go_ret
  exact⟨rfl,HB.out⟩
 ·have hA1:¬ (l.length:Int) < 1:=by omega
  by_cases hB:l.length > 32
  ·have hB1:(32:Int) < l.length:=by omega
   rw [Sc.ck_no (.inl (by
    cases e:Sc.okC l with
    | false=>rfl
    | true=>have:=(Sc.okC_iff.1 e).1;omega))] at hd
   subst hd
   go_wp2_with fail
   go_ret
   exact⟨rfl,HB.out⟩
  ·have hB1:¬ (32:Int) < l.length:=by omega
   by_cases hC:ks.length > 8
   ·have hC1:(8:Int) < ks.length:=by omega
    rw [Sc.ck_no (.inr (by
     cases e:Sc.okK l ks with
     | false=>rfl
     | true=>have:=(Sc.okK_iff.1 e).1;omega))] at hd
    subst hd
    go_wp2_with fail
    go_ret
    exact⟨rfl,HB.out⟩
   ·have hC1:¬ (8:Int) < ks.length:=by omega
    clear hd
    go_wp2_with fail
    go_loopw [4] (fun i wr=>∃ k:Nat,k≤l.length∧i=.int .i64 (k:Nat)∧Hid (∀ j c,j < k→l[j]?=some c→Sc.okAt l j c=true)∧Hid (Below w1.heap.size w1 wr)) (fun i _=>l.length - (intOf i).toNat)
    case atStart=>exact⟨0,by omega,by rfl,hZ (by intro j c hj;omega),hZ (Below.refl _ _)⟩
    case round =>
     obtain⟨k,hk,rfl,HP,HU1⟩:=hrel
     have HU:=hZ (up HB.out HU1.out)
     by_cases hlt:k < l.length
     ·have hlt1:(k:Int) < l.length:=by omega
      have hk32:(k:Int) < 32:=by omega
      have HLT:=hZ hlt
      obtain⟨c,hx⟩:∃ c,l[k]?=some c:=⟨_,List.getElem?_eq_getElem hlt⟩
      have HCX:=hZ hx
      obtain⟨gb,off,rfl,p0,p1,p2,p3,p4,p5,p6⟩:=rdK_cells HR.out HU1.out hx
      have hko:=HK.out c (List.mem_of_getElem? hx)
      have HLE:=hZ (Sc.least_of HP.out k (Nat.le_refl _) hk)
      obtain⟨N,hN⟩:∃ N,Sc.name (bl c.nm)=N:=⟨_,rfl⟩
      obtain⟨e0,he0⟩:∃ e0,Cl.chk c.u c.k c.d=e0:=⟨_,rfl⟩
      have HIN:=hZ (fun w=>rIsName c.nm w hko.nm N hN)
      have HN:=hZ hN
      have HE:=hZ he0
      obtain⟨xi,xm,xk,xu,⟨xa,xb,xc⟩⟩:=c
      have HCH:=hZ (fun w=>rCheck xu xk ⟨xa,xb,xc⟩ w hko.s e0 he0)
      unfold tv cv at HCH
      simp only at p0 p1 p2 p3 p4 p5 p6 HIN HCH HN HE
      clear hx hN he0 hko
      by_cases hA:xi < 1
      ·go_upto_region 7 with fail
       refine region_growI_merge (fun u v:World=>Below u.heap.size u v) (fun _ _=>True) (fun _ _ _=>True) (fun u=>Below.refl _ _) (fun _ _ _ h k=>up h k) (kjI #[Spc.eq (.slice (some ⟨gb,off,none⟩) l.length cc),Spc.eq (.int .i64 (k:Nat)),Spc.eq (.pointer (some ⟨gb,off+k * 7,none⟩)),Spc.eq (.pointer (some ⟨gb,off+k * 7,none⟩)),Spc.eq (.int .i64 xi),Spc.eq (.bool true),Spc.eq (.bool true),Spc.eq undef,Spc.eq undef,Spc.eq undef,Spc.eq undef,Spc.eq undef,Spc.eq undef,Spc.eq (.bool true),Spc.eq (.bool true),Spc.eq undef,Spc.eq undef,Spc.eq undef,Spc.eq undef,Spc.eq undef,Spc.eq undef,Spc.eq undef,Spc.eq undef,Spc.eq undef,Spc.eq undef,Spc.eq undef,Spc.eq undef,Spc.eq undef,Spc.eq undef,Spc.eq undef,Spc.eq undef,Spc.eq (.bool true),Spc.eq (.bool true),Spc.eq undef,Spc.eq undef,Spc.eq undef,Spc.eq undef,Spc.eq undef,Spc.eq undef,Spc.eq undef,Spc.eq (.bool true),Spc.eq (.bool true),Spc.eq undef,Spc.eq undef,Spc.eq undef,Spc.eq undef,Spc.eq undef,Spc.eq undef,Spc.eq undef,Spc.eq undef,Spc.eq undef,Spc.eq undef,Spc.eq undef,Spc.eq undef,Spc.eq (.bool true)]) [30,31,32,33,34,35,36,37,38,39,40,41,42,43,44,45,46,47,48,49,50,51,52,53,54,55,56,57,58,59,60,61,62,63,64,65,66,67,68,69,70,71,72,73,74,75,76,77,78,79,80,81,82,83,84] (fun ts u=>ts.getD 84 undef=.bool true∧Below wr.heap.size wr u) (by kernel_rfl) (by kernel_rfl) (by kernel_rfl) kjI_later trivial ?_ ?_ ?_
       ·intro QQ fd jo o a w1 ho hfd hdd hI hb hs hold hdep
        have hjo:jo < 55:=(Array.getElem?_eq_some_iff.1 ho).1
        have hb':Below wr.heap.size wr w1:=up (Below.refl _ _).drew hb
        have p0':w1.cell? ⟨gb,off+k * 7,none⟩=some (.int .i64 xi):=(hb'.cell (p:=⟨gb,off+k * 7,none⟩) (cell_lt p0)).trans p0
        have p1':w1.cell? ⟨gb,off+k * 7+1,none⟩=some (.string xm):=(hb'.cell (p:=⟨gb,off+k * 7+1,none⟩) (cell_lt p1)).trans p1
        have p2':w1.cell? ⟨gb,off+k * 7+2,none⟩=some (.int .i64 xk):=(hb'.cell (p:=⟨gb,off+k * 7+2,none⟩) (cell_lt p2)).trans p2
        have p3':w1.cell? ⟨gb,off+k * 7+3,none⟩=some (.bool xu):=(hb'.cell (p:=⟨gb,off+k * 7+3,none⟩) (cell_lt p3)).trans p3
        have p4':w1.cell? ⟨gb,off+k * 7+4,none⟩=some (.bool xa):=(hb'.cell (p:=⟨gb,off+k * 7+4,none⟩) (cell_lt p4)).trans p4
        have p5':w1.cell? ⟨gb,off+k * 7+5,none⟩=some (.int .i64 xb):=(hb'.cell (p:=⟨gb,off+k * 7+5,none⟩) (cell_lt p5)).trans p5
        have p6':w1.cell? ⟨gb,off+k * 7+6,none⟩=some (.string xc):=(hb'.cell (p:=⟨gb,off+k * 7+6,none⟩) (cell_lt p6)).trans p6
        clear p0 p1 p2 p3 p4 p5 p6
        have e3:a.eval (.tmp 3)=.slice (some ⟨gb,off,none⟩) l.length cc:=by
         show a.tmps.getD 3 undef=_
         rw [Array.getD_eq_getD_getElem?,hold 3 (by decide +kernel)];rfl
        have e4:a.eval (.tmp 4)=.int .i64 (k:Nat):=by
         show a.tmps.getD 4 undef=_
         rw [Array.getD_eq_getD_getElem?,hold 4 (by decide +kernel)];rfl
        have ec:∀ v,a.eval (.const v)=v:=fun _=>rfl
        clear hold hs
        rcases (show jo=0 ∨ jo=1 ∨ jo=2 ∨ jo=3 ∨ jo=4 ∨ jo=5 ∨ jo=6 ∨ jo=7 ∨ jo=8 ∨ jo=9 ∨ jo=10 ∨ jo=11 ∨ jo=12 ∨ jo=13 ∨ jo=14 ∨ jo=15 ∨ jo=16 ∨ jo=17 ∨ jo=18 ∨ jo=19 ∨ jo=20 ∨ jo=21 ∨ jo=22 ∨ jo=23 ∨ jo=24 ∨ jo=25 ∨ jo=26 ∨ jo=27 ∨ jo=28 ∨ jo=29 ∨ jo=30 ∨ jo=31 ∨ jo=32 ∨ jo=33 ∨ jo=34 ∨ jo=35 ∨ jo=36 ∨ jo=37 ∨ jo=38 ∨ jo=39 ∨ jo=40 ∨ jo=41 ∨ jo=42 ∨ jo=43 ∨ jo=44 ∨ jo=45 ∨ jo=46 ∨ jo=47 ∨ jo=48 ∨ jo=49 ∨ jo=50 ∨ jo=51 ∨ jo=52 ∨ jo=53 ∨ jo=54 by omega) with rfl|rfl|rfl|rfl|rfl|rfl|rfl|rfl|rfl|rfl|rfl|rfl|rfl|rfl|rfl|rfl|rfl|rfl|rfl|rfl|rfl|rfl|rfl|rfl|rfl|rfl|rfl|rfl|rfl|rfl|rfl|rfl|rfl|rfl|rfl|rfl|rfl|rfl|rfl|rfl|rfl|rfl|rfl|rfl|rfl|rfl|rfl|rfl|rfl|rfl|rfl|rfl|rfl|rfl|rfl
        all_goals (have ho2:=ho;simp only [List.getElem?_toArray,zD,zE,Option.some.injEq] at ho2;subst ho2)
        refine gvT fd (.slice (some ⟨gb,off,none⟩) l.length cc) ho rfl ?_ rfl;rotate_left
        refine gvT fd (.int .i64 (k:Nat)) ho rfl ?_ rfl;rotate_left
        have d0:a.eval (.tmp 30)=.slice (some ⟨gb,off,none⟩) l.length cc:=hdep ⟨0,.data⟩ (by simp) rfl;have d1:a.eval (.tmp 31)=.int .i64 (k:Nat):=hdep ⟨1,.data⟩ (by simp) rfl;refine gvT fd (.pointer (some ⟨gb,off+k * 7,none⟩)) ho rfl ?_ rfl;rotate_left
        have d0:a.eval (.tmp 32)=.pointer (some ⟨gb,off+k * 7,none⟩):=hdep ⟨2,.data⟩ (by simp) rfl;refine gvT fd (.pointer (some ⟨gb,off+k * 7,none⟩)) ho rfl ?_ rfl;rotate_left
        have d0:a.eval (.tmp 33)=.pointer (some ⟨gb,off+k * 7,none⟩):=hdep ⟨3,.data⟩ (by simp) rfl;refine gvT fd (.int .i64 xi) ho rfl ?_ rfl;rotate_left
        have d0:a.eval (.tmp 34)=.int .i64 xi:=hdep ⟨4,.data⟩ (by simp) rfl;refine gvT fd (.bool true) ho rfl ?_ rfl;rotate_left
        have d0:a.eval (.tmp 35)=.bool true:=hdep ⟨5,.data⟩ (by simp) rfl;refine gvT fd (.bool true) ho rfl ?_ rfl;rotate_left
        iterate 6 (have eg:a.tmps.getD 36 undef=.bool true:=hdep ⟨6,.guard⟩ (by simp) rfl;exact gnT fd ho (unwantedI rfl (yieldedI rfl eg) (by decide)) rfl)
        have d0:a.eval (.tmp 36)=.bool true:=hdep ⟨6,.data⟩ (by simp) rfl;have d1:a.eval (.tmp 42)=undef:=hdep ⟨12,.data⟩ (by simp) rfl;refine gvT fd (.bool true) ho rfl ?_ rfl;rotate_left
        have d0:a.eval (.tmp 43)=.bool true:=hdep ⟨13,.data⟩ (by simp) rfl;refine gvT fd (.bool true) ho rfl ?_ rfl;rotate_left
        iterate 3 (have eg:a.tmps.getD 44 undef=.bool true:=hdep ⟨14,.guard⟩ (by simp) rfl;exact gnT fd ho (unwantedI rfl (yieldedI rfl eg) (by decide)) rfl)
        iterate 12 (have eg:a.tmps.getD 47 undef=undef:=hdep ⟨17,.guard⟩ (by simp) rfl;exact gnT fd ho (unwantedU rfl (yieldedU rfl eg)) rfl)
        ·have eg:a.tmps.getD 44 undef=.bool true:=hdep ⟨14,.guard⟩ (by simp) rfl
         exact gnT fd ho (unwantedI rfl (yieldedI rfl eg) (by decide)) rfl
        have d0:a.eval (.tmp 44)=.bool true:=hdep ⟨14,.data⟩ (by simp) rfl;have d1:a.eval (.tmp 60)=undef:=hdep ⟨30,.data⟩ (by simp) rfl;refine gvT fd (.bool true) ho rfl ?_ rfl;rotate_left
        have d0:a.eval (.tmp 61)=.bool true:=hdep ⟨31,.data⟩ (by simp) rfl;refine gvT fd (.bool true) ho rfl ?_ rfl;rotate_left
        iterate 7 (have eg:a.tmps.getD 62 undef=.bool true:=hdep ⟨32,.guard⟩ (by simp) rfl;exact gnT fd ho (unwantedI rfl (yieldedI rfl eg) (by decide)) rfl)
        have d0:a.eval (.tmp 62)=.bool true:=hdep ⟨32,.data⟩ (by simp) rfl;have d1:a.eval (.tmp 69)=undef:=hdep ⟨39,.data⟩ (by simp) rfl;refine gvT fd (.bool true) ho rfl ?_ rfl;rotate_left
        have d0:a.eval (.tmp 70)=.bool true:=hdep ⟨40,.data⟩ (by simp) rfl;refine gvT fd (.bool true) ho rfl ?_ rfl;rotate_left
        iterate 12 (have eg:a.tmps.getD 71 undef=.bool true:=hdep ⟨41,.guard⟩ (by simp) rfl;exact gnT fd ho (unwantedI rfl (yieldedI rfl eg) (by decide)) rfl)
        have d0:a.eval (.tmp 71)=.bool true:=hdep ⟨41,.data⟩ (by simp) rfl;have d1:a.eval (.tmp 83)=undef:=hdep ⟨53,.data⟩ (by simp) rfl;refine gvT fd (.bool true) ho rfl ?_ rfl;rotate_left
        all_goals (unfold execOp;first|(simp only [zA,zB,zC,d0,d1,ec];first|rfl|(go_simp;first|done|rfl|omega))|(simp only [zA,zB,zC,d0,ec];first|rfl|(go_simp;first|done|rfl|omega))|(simp only [zA,zB,zC,e3,ec];first|rfl|(go_simp;first|done|rfl|omega))|(simp only [zA,zB,zC,e4,ec];first|rfl|(go_simp;first|done|rfl|omega)))
       ·intro a w1 hI hb hj
        have hb':Below wr.heap.size wr w1:=up (Below.refl _ _).drew hb
        exact⟨hj 54 (by decide),hb'⟩
       rintro ts w7 ⟨h84,hb7⟩
       simp only [fill,List.setIfInBounds_toArray,List.set_cons_succ,List.set_cons_zero]
       rw [h84]
       have HU7:=hZ (up HU.out hb7)
       have hd2:=HD.out
       rw [Sc.ck_no (.inl (Sc.okC_no HCX.out (Sc.okAt_false (fun hh=>by have:=HLE.out;have:=hh.1.1;simp only at this;omega))))] at hd2
       subst hd2
       clear h84 hb7
       go_wp2_with fail
       go_ret
       exact⟨rfl,HU7.out⟩
      ·by_cases hB:1048576 < xi
       ·go_upto_region 7 with fail
        refine region_growI_merge (fun u v:World=>Below u.heap.size u v) (fun _ _=>True) (fun _ _ _=>True) (fun u=>Below.refl _ _) (fun _ _ _ h k=>up h k) (kjI #[Spc.eq (.slice (some ⟨gb,off,none⟩) l.length cc),Spc.eq (.int .i64 (k:Nat)),Spc.eq (.pointer (some ⟨gb,off+k * 7,none⟩)),Spc.eq (.pointer (some ⟨gb,off+k * 7,none⟩)),Spc.eq (.int .i64 xi),Spc.eq (.bool false),Spc.eq (.bool false),Spc.eq (.slice (some ⟨gb,off,none⟩) l.length cc),Spc.eq (.int .i64 (k:Nat)),Spc.eq (.pointer (some ⟨gb,off+k * 7,none⟩)),Spc.eq (.pointer (some ⟨gb,off+k * 7,none⟩)),Spc.eq (.int .i64 xi),Spc.eq (.bool true),Spc.eq (.bool true),Spc.eq (.bool true),Spc.eq undef,Spc.eq undef,Spc.eq undef,Spc.eq undef,Spc.eq undef,Spc.eq undef,Spc.eq undef,Spc.eq undef,Spc.eq undef,Spc.eq undef,Spc.eq undef,Spc.eq undef,Spc.eq undef,Spc.eq undef,Spc.eq undef,Spc.eq undef,Spc.eq (.bool true),Spc.eq (.bool true),Spc.eq undef,Spc.eq undef,Spc.eq undef,Spc.eq undef,Spc.eq undef,Spc.eq undef,Spc.eq undef,Spc.eq (.bool true),Spc.eq (.bool true),Spc.eq undef,Spc.eq undef,Spc.eq undef,Spc.eq undef,Spc.eq undef,Spc.eq undef,Spc.eq undef,Spc.eq undef,Spc.eq undef,Spc.eq undef,Spc.eq undef,Spc.eq undef,Spc.eq (.bool true)]) [30,31,32,33,34,35,36,37,38,39,40,41,42,43,44,45,46,47,48,49,50,51,52,53,54,55,56,57,58,59,60,61,62,63,64,65,66,67,68,69,70,71,72,73,74,75,76,77,78,79,80,81,82,83,84] (fun ts u=>ts.getD 84 undef=.bool true∧Below wr.heap.size wr u) (by kernel_rfl) (by kernel_rfl) (by kernel_rfl) kjI_later trivial ?_ ?_ ?_
        ·intro QQ fd jo o a w1 ho hfd hdd hI hb hs hold hdep
         have hjo:jo < 55:=(Array.getElem?_eq_some_iff.1 ho).1
         have hb':Below wr.heap.size wr w1:=up (Below.refl _ _).drew hb
         have p0':w1.cell? ⟨gb,off+k * 7,none⟩=some (.int .i64 xi):=(hb'.cell (p:=⟨gb,off+k * 7,none⟩) (cell_lt p0)).trans p0
         have p1':w1.cell? ⟨gb,off+k * 7+1,none⟩=some (.string xm):=(hb'.cell (p:=⟨gb,off+k * 7+1,none⟩) (cell_lt p1)).trans p1
         have p2':w1.cell? ⟨gb,off+k * 7+2,none⟩=some (.int .i64 xk):=(hb'.cell (p:=⟨gb,off+k * 7+2,none⟩) (cell_lt p2)).trans p2
         have p3':w1.cell? ⟨gb,off+k * 7+3,none⟩=some (.bool xu):=(hb'.cell (p:=⟨gb,off+k * 7+3,none⟩) (cell_lt p3)).trans p3
         have p4':w1.cell? ⟨gb,off+k * 7+4,none⟩=some (.bool xa):=(hb'.cell (p:=⟨gb,off+k * 7+4,none⟩) (cell_lt p4)).trans p4
         have p5':w1.cell? ⟨gb,off+k * 7+5,none⟩=some (.int .i64 xb):=(hb'.cell (p:=⟨gb,off+k * 7+5,none⟩) (cell_lt p5)).trans p5
         have p6':w1.cell? ⟨gb,off+k * 7+6,none⟩=some (.string xc):=(hb'.cell (p:=⟨gb,off+k * 7+6,none⟩) (cell_lt p6)).trans p6
         clear p0 p1 p2 p3 p4 p5 p6
         have e3:a.eval (.tmp 3)=.slice (some ⟨gb,off,none⟩) l.length cc:=by
          show a.tmps.getD 3 undef=_
          rw [Array.getD_eq_getD_getElem?,hold 3 (by decide +kernel)];rfl
         have e4:a.eval (.tmp 4)=.int .i64 (k:Nat):=by
          show a.tmps.getD 4 undef=_
          rw [Array.getD_eq_getD_getElem?,hold 4 (by decide +kernel)];rfl
         have ec:∀ v,a.eval (.const v)=v:=fun _=>rfl
         clear hold hs
         rcases (show jo=0 ∨ jo=1 ∨ jo=2 ∨ jo=3 ∨ jo=4 ∨ jo=5 ∨ jo=6 ∨ jo=7 ∨ jo=8 ∨ jo=9 ∨ jo=10 ∨ jo=11 ∨ jo=12 ∨ jo=13 ∨ jo=14 ∨ jo=15 ∨ jo=16 ∨ jo=17 ∨ jo=18 ∨ jo=19 ∨ jo=20 ∨ jo=21 ∨ jo=22 ∨ jo=23 ∨ jo=24 ∨ jo=25 ∨ jo=26 ∨ jo=27 ∨ jo=28 ∨ jo=29 ∨ jo=30 ∨ jo=31 ∨ jo=32 ∨ jo=33 ∨ jo=34 ∨ jo=35 ∨ jo=36 ∨ jo=37 ∨ jo=38 ∨ jo=39 ∨ jo=40 ∨ jo=41 ∨ jo=42 ∨ jo=43 ∨ jo=44 ∨ jo=45 ∨ jo=46 ∨ jo=47 ∨ jo=48 ∨ jo=49 ∨ jo=50 ∨ jo=51 ∨ jo=52 ∨ jo=53 ∨ jo=54 by omega) with rfl|rfl|rfl|rfl|rfl|rfl|rfl|rfl|rfl|rfl|rfl|rfl|rfl|rfl|rfl|rfl|rfl|rfl|rfl|rfl|rfl|rfl|rfl|rfl|rfl|rfl|rfl|rfl|rfl|rfl|rfl|rfl|rfl|rfl|rfl|rfl|rfl|rfl|rfl|rfl|rfl|rfl|rfl|rfl|rfl|rfl|rfl|rfl|rfl|rfl|rfl|rfl|rfl|rfl|rfl
         all_goals (have ho2:=ho;simp only [List.getElem?_toArray,zD,zE,Option.some.injEq] at ho2;subst ho2)
         all_goals first|(refine (fun (eg:a.tmps.getD 36 undef=.bool false)=>?_) (hdep ⟨6,.guard⟩ ?_ rfl);rotate_left;focus (simp<;>fail))|(refine (fun (eg:a.tmps.getD 44 undef=.bool true)=>?_) (hdep ⟨14,.guard⟩ ?_ rfl);rotate_left;focus (simp<;>fail))|skip
         refine gvT fd (.slice (some ⟨gb,off,none⟩) l.length cc) ho rfl ?_ rfl;rotate_left
         refine gvT fd (.int .i64 (k:Nat)) ho rfl ?_ rfl;rotate_left
         have d0:a.eval (.tmp 30)=.slice (some ⟨gb,off,none⟩) l.length cc:=hdep ⟨0,.data⟩ (by simp) rfl;have d1:a.eval (.tmp 31)=.int .i64 (k:Nat):=hdep ⟨1,.data⟩ (by simp) rfl;refine gvT fd (.pointer (some ⟨gb,off+k * 7,none⟩)) ho rfl ?_ rfl;rotate_left
         have d0:a.eval (.tmp 32)=.pointer (some ⟨gb,off+k * 7,none⟩):=hdep ⟨2,.data⟩ (by simp) rfl;refine gvT fd (.pointer (some ⟨gb,off+k * 7,none⟩)) ho rfl ?_ rfl;rotate_left
         have d0:a.eval (.tmp 33)=.pointer (some ⟨gb,off+k * 7,none⟩):=hdep ⟨3,.data⟩ (by simp) rfl;refine gvT fd (.int .i64 xi) ho rfl ?_ rfl;rotate_left
         have d0:a.eval (.tmp 34)=.int .i64 xi:=hdep ⟨4,.data⟩ (by simp) rfl;refine gvT fd (.bool false) ho rfl ?_ rfl;rotate_left
         have d0:a.eval (.tmp 35)=.bool false:=hdep ⟨5,.data⟩ (by simp) rfl;refine gvT fd (.bool false) ho rfl ?_ rfl;rotate_left
         refine gvT fd (.slice (some ⟨gb,off,none⟩) l.length cc) ho (wantedI rfl (yieldedI rfl eg)) ?_ rfl;rotate_left
         refine gvT fd (.int .i64 (k:Nat)) ho (wantedI rfl (yieldedI rfl eg)) ?_ rfl;rotate_left
         have d0:a.eval (.tmp 37)=.slice (some ⟨gb,off,none⟩) l.length cc:=hdep ⟨7,.data⟩ (by simp) rfl;have d1:a.eval (.tmp 38)=.int .i64 (k:Nat):=hdep ⟨8,.data⟩ (by simp) rfl;refine gvT fd (.pointer (some ⟨gb,off+k * 7,none⟩)) ho (wantedI rfl (yieldedI rfl eg)) ?_ rfl;rotate_left
         have d0:a.eval (.tmp 39)=.pointer (some ⟨gb,off+k * 7,none⟩):=hdep ⟨9,.data⟩ (by simp) rfl;refine gvT fd (.pointer (some ⟨gb,off+k * 7,none⟩)) ho (wantedI rfl (yieldedI rfl eg)) ?_ rfl;rotate_left
         have d0:a.eval (.tmp 40)=.pointer (some ⟨gb,off+k * 7,none⟩):=hdep ⟨10,.data⟩ (by simp) rfl;refine gvT fd (.int .i64 xi) ho (wantedI rfl (yieldedI rfl eg)) ?_ rfl;rotate_left
         have d0:a.eval (.tmp 41)=.int .i64 xi:=hdep ⟨11,.data⟩ (by simp) rfl;refine gvT fd (.bool true) ho (wantedI rfl (yieldedI rfl eg)) ?_ rfl;rotate_left
         have d0:a.eval (.tmp 36)=.bool false:=hdep ⟨6,.data⟩ (by simp) rfl;have d1:a.eval (.tmp 42)=.bool true:=hdep ⟨12,.data⟩ (by simp) rfl;refine gvT fd (.bool true) ho rfl ?_ rfl;rotate_left
         have d0:a.eval (.tmp 43)=.bool true:=hdep ⟨13,.data⟩ (by simp) rfl;refine gvT fd (.bool true) ho rfl ?_ rfl;rotate_left
         iterate 3 (have eg:a.tmps.getD 44 undef=.bool true:=hdep ⟨14,.guard⟩ (by simp) rfl;exact gnT fd ho (unwantedI rfl (yieldedI rfl eg) (by decide)) rfl)
         iterate 12 (have eg:a.tmps.getD 47 undef=undef:=hdep ⟨17,.guard⟩ (by simp) rfl;exact gnT fd ho (unwantedU rfl (yieldedU rfl eg)) rfl)
         ·exact gnT fd ho (unwantedI rfl (yieldedI rfl eg) (by decide)) rfl
         have d0:a.eval (.tmp 44)=.bool true:=hdep ⟨14,.data⟩ (by simp) rfl;have d1:a.eval (.tmp 60)=undef:=hdep ⟨30,.data⟩ (by simp) rfl;refine gvT fd (.bool true) ho rfl ?_ rfl;rotate_left
         have d0:a.eval (.tmp 61)=.bool true:=hdep ⟨31,.data⟩ (by simp) rfl;refine gvT fd (.bool true) ho rfl ?_ rfl;rotate_left
         iterate 7 (have eg:a.tmps.getD 62 undef=.bool true:=hdep ⟨32,.guard⟩ (by simp) rfl;exact gnT fd ho (unwantedI rfl (yieldedI rfl eg) (by decide)) rfl)
         have d0:a.eval (.tmp 62)=.bool true:=hdep ⟨32,.data⟩ (by simp) rfl;have d1:a.eval (.tmp 69)=undef:=hdep ⟨39,.data⟩ (by simp) rfl;refine gvT fd (.bool true) ho rfl ?_ rfl;rotate_left
         have d0:a.eval (.tmp 70)=.bool true:=hdep ⟨40,.data⟩ (by simp) rfl;refine gvT fd (.bool true) ho rfl ?_ rfl;rotate_left
         iterate 12 (have eg:a.tmps.getD 71 undef=.bool true:=hdep ⟨41,.guard⟩ (by simp) rfl;exact gnT fd ho (unwantedI rfl (yieldedI rfl eg) (by decide)) rfl)
         have d0:a.eval (.tmp 71)=.bool true:=hdep ⟨41,.data⟩ (by simp) rfl;have d1:a.eval (.tmp 83)=undef:=hdep ⟨53,.data⟩ (by simp) rfl;refine gvT fd (.bool true) ho rfl ?_ rfl;rotate_left
         all_goals (unfold execOp;first|(simp only [zA,zB,zC,d0,d1,ec];first|rfl|(go_simp;first|done|rfl|omega))|(simp only [zA,zB,zC,d0,ec];first|rfl|(go_simp;first|done|rfl|omega))|(simp only [zA,zB,zC,e3,ec];first|rfl|(go_simp;first|done|rfl|omega))|(simp only [zA,zB,zC,e4,ec];first|rfl|(go_simp;first|done|rfl|omega)))
        ·intro a w1 hI hb hj
         have hb':Below wr.heap.size wr w1:=up (Below.refl _ _).drew hb
         exact⟨hj 54 (by decide),hb'⟩
        rintro ts w7 ⟨h84,hb7⟩
        simp only [fill,List.setIfInBounds_toArray,List.set_cons_succ,List.set_cons_zero]
        rw [h84]
        have HU7:=hZ (up HU.out hb7)
        have hd2:=HD.out
        rw [Sc.ck_no (.inl (Sc.okC_no HCX.out (Sc.okAt_false (fun hh=>by have:=hh.1.2;simp only at this;omega))))] at hd2
        subst hd2
        clear h84 hb7
        go_wp2_with fail
        go_ret
        exact⟨rfl,HU7.out⟩
       ·by_cases hP:(0:Int) < k
        ·obtain⟨k1,hk1⟩:∃ k1:Nat,k=k1+1:=⟨k - 1,by omega⟩
         have HKK:=hZ hk1
         have hwk:IntKind.i64.wrap ((k:Int) - 1)=(k1:Nat):=by rw [IntWalk.i64_in _ ⟨by omega,by omega⟩];omega
         obtain⟨y,hy⟩:∃ y,l[k1]?=some y:=⟨_,List.getElem?_eq_getElem (by omega)⟩
         have HY:=hZ hy
         have hlk1:(k1:Int) < l.length:=by omega
         obtain⟨gb',off',hgo,y0,_,_,_,_,_,_⟩:=rdK_cells HR.out HU1.out hy
         injection hgo with hgo
         injection hgo with hg1 hg2 _
         subst hg1 hg2
         obtain⟨yi,ym,yk,yu,yd⟩:=y
         simp only at y0
         clear hk1 hy
         by_cases hC:xi≤yi
         ·go_upto_region 7 with fail
          refine region_growI_merge (fun u v:World=>Below u.heap.size u v) (fun _ _=>True) (fun _ _ _=>True) (fun u=>Below.refl _ _) (fun _ _ _ h k=>up h k) (kjI #[Spc.eq (.slice (some ⟨gb,off,none⟩) l.length cc),Spc.eq (.int .i64 (k:Nat)),Spc.eq (.pointer (some ⟨gb,off+k * 7,none⟩)),Spc.eq (.pointer (some ⟨gb,off+k * 7,none⟩)),Spc.eq (.int .i64 xi),Spc.eq (.bool false),Spc.eq (.bool false),Spc.eq (.slice (some ⟨gb,off,none⟩) l.length cc),Spc.eq (.int .i64 (k:Nat)),Spc.eq (.pointer (some ⟨gb,off+k * 7,none⟩)),Spc.eq (.pointer (some ⟨gb,off+k * 7,none⟩)),Spc.eq (.int .i64 xi),Spc.eq (.bool false),Spc.eq (.bool false),Spc.eq (.bool false),Spc.eq (.int .i64 (k:Nat)),Spc.eq (.bool true),Spc.eq (.bool true),Spc.eq (.slice (some ⟨gb,off,none⟩) l.length cc),Spc.eq (.int .i64 (k:Nat)),Spc.eq (.pointer (some ⟨gb,off+k * 7,none⟩)),Spc.eq (.pointer (some ⟨gb,off+k * 7,none⟩)),Spc.eq (.int .i64 xi),Spc.eq (.slice (some ⟨gb,off,none⟩) l.length cc),Spc.eq (.int .i64 (k:Nat)),Spc.eq (.int .i64 (k1:Nat)),Spc.eq (.pointer (some ⟨gb,off+k1 * 7,none⟩)),Spc.eq (.pointer (some ⟨gb,off+k1 * 7,none⟩)),Spc.eq (.int .i64 yi),Spc.eq (.bool true),Spc.eq (.bool true),Spc.eq (.bool true),Spc.eq (.bool true),Spc.eq undef,Spc.eq undef,Spc.eq undef,Spc.eq undef,Spc.eq undef,Spc.eq undef,Spc.eq undef,Spc.eq (.bool true),Spc.eq (.bool true),Spc.eq undef,Spc.eq undef,Spc.eq undef,Spc.eq undef,Spc.eq undef,Spc.eq undef,Spc.eq undef,Spc.eq undef,Spc.eq undef,Spc.eq undef,Spc.eq undef,Spc.eq undef,Spc.eq (.bool true)]) [30,31,32,33,34,35,36,37,38,39,40,41,42,43,44,45,46,47,48,49,50,51,52,53,54,55,56,57,58,59,60,61,62,63,64,65,66,67,68,69,70,71,72,73,74,75,76,77,78,79,80,81,82,83,84] (fun ts u=>ts.getD 84 undef=.bool true∧Below wr.heap.size wr u) (by kernel_rfl) (by kernel_rfl) (by kernel_rfl) kjI_later trivial ?_ ?_ ?_
          ·intro QQ fd jo o a w1 ho hfd hdd hI hb hs hold hdep
           have hjo:jo < 55:=(Array.getElem?_eq_some_iff.1 ho).1
           have hb':Below wr.heap.size wr w1:=up (Below.refl _ _).drew hb
           have p0':w1.cell? ⟨gb,off+k * 7,none⟩=some (.int .i64 xi):=(hb'.cell (p:=⟨gb,off+k * 7,none⟩) (cell_lt p0)).trans p0
           have p1':w1.cell? ⟨gb,off+k * 7+1,none⟩=some (.string xm):=(hb'.cell (p:=⟨gb,off+k * 7+1,none⟩) (cell_lt p1)).trans p1
           have p2':w1.cell? ⟨gb,off+k * 7+2,none⟩=some (.int .i64 xk):=(hb'.cell (p:=⟨gb,off+k * 7+2,none⟩) (cell_lt p2)).trans p2
           have p3':w1.cell? ⟨gb,off+k * 7+3,none⟩=some (.bool xu):=(hb'.cell (p:=⟨gb,off+k * 7+3,none⟩) (cell_lt p3)).trans p3
           have p4':w1.cell? ⟨gb,off+k * 7+4,none⟩=some (.bool xa):=(hb'.cell (p:=⟨gb,off+k * 7+4,none⟩) (cell_lt p4)).trans p4
           have p5':w1.cell? ⟨gb,off+k * 7+5,none⟩=some (.int .i64 xb):=(hb'.cell (p:=⟨gb,off+k * 7+5,none⟩) (cell_lt p5)).trans p5
           have p6':w1.cell? ⟨gb,off+k * 7+6,none⟩=some (.string xc):=(hb'.cell (p:=⟨gb,off+k * 7+6,none⟩) (cell_lt p6)).trans p6
           have y0':w1.cell? ⟨gb,off+k1 * 7,none⟩=some (.int .i64 yi):=(hb'.cell (p:=⟨gb,off+k1 * 7,none⟩) (cell_lt y0)).trans y0
           clear p0 p1 p2 p3 p4 p5 p6 y0
           have e3:a.eval (.tmp 3)=.slice (some ⟨gb,off,none⟩) l.length cc:=by
            show a.tmps.getD 3 undef=_
            rw [Array.getD_eq_getD_getElem?,hold 3 (by decide +kernel)];rfl
           have e4:a.eval (.tmp 4)=.int .i64 (k:Nat):=by
            show a.tmps.getD 4 undef=_
            rw [Array.getD_eq_getD_getElem?,hold 4 (by decide +kernel)];rfl
           have ec:∀ v,a.eval (.const v)=v:=fun _=>rfl
           clear hold hs
           rcases (show jo=0 ∨ jo=1 ∨ jo=2 ∨ jo=3 ∨ jo=4 ∨ jo=5 ∨ jo=6 ∨ jo=7 ∨ jo=8 ∨ jo=9 ∨ jo=10 ∨ jo=11 ∨ jo=12 ∨ jo=13 ∨ jo=14 ∨ jo=15 ∨ jo=16 ∨ jo=17 ∨ jo=18 ∨ jo=19 ∨ jo=20 ∨ jo=21 ∨ jo=22 ∨ jo=23 ∨ jo=24 ∨ jo=25 ∨ jo=26 ∨ jo=27 ∨ jo=28 ∨ jo=29 ∨ jo=30 ∨ jo=31 ∨ jo=32 ∨ jo=33 ∨ jo=34 ∨ jo=35 ∨ jo=36 ∨ jo=37 ∨ jo=38 ∨ jo=39 ∨ jo=40 ∨ jo=41 ∨ jo=42 ∨ jo=43 ∨ jo=44 ∨ jo=45 ∨ jo=46 ∨ jo=47 ∨ jo=48 ∨ jo=49 ∨ jo=50 ∨ jo=51 ∨ jo=52 ∨ jo=53 ∨ jo=54 by omega) with rfl|rfl|rfl|rfl|rfl|rfl|rfl|rfl|rfl|rfl|rfl|rfl|rfl|rfl|rfl|rfl|rfl|rfl|rfl|rfl|rfl|rfl|rfl|rfl|rfl|rfl|rfl|rfl|rfl|rfl|rfl|rfl|rfl|rfl|rfl|rfl|rfl|rfl|rfl|rfl|rfl|rfl|rfl|rfl|rfl|rfl|rfl|rfl|rfl|rfl|rfl|rfl|rfl|rfl|rfl
           all_goals (have ho2:=ho;simp only [List.getElem?_toArray,zD,zE,Option.some.injEq] at ho2;subst ho2)
           all_goals first|(refine (fun (eg:a.tmps.getD 36 undef=.bool false)=>?_) (hdep ⟨6,.guard⟩ ?_ rfl);rotate_left;focus (simp<;>fail))|(refine (fun (eg:a.tmps.getD 44 undef=.bool false)=>?_) (hdep ⟨14,.guard⟩ ?_ rfl);rotate_left;focus (simp<;>fail))|(refine (fun (eg:a.tmps.getD 47 undef=.bool true)=>?_) (hdep ⟨17,.guard⟩ ?_ rfl);rotate_left;focus (simp<;>fail))|skip
           refine gvT fd (.slice (some ⟨gb,off,none⟩) l.length cc) ho rfl ?_ rfl;rotate_left
           refine gvT fd (.int .i64 (k:Nat)) ho rfl ?_ rfl;rotate_left
           have d0:a.eval (.tmp 30)=.slice (some ⟨gb,off,none⟩) l.length cc:=hdep ⟨0,.data⟩ (by simp) rfl;have d1:a.eval (.tmp 31)=.int .i64 (k:Nat):=hdep ⟨1,.data⟩ (by simp) rfl;refine gvT fd (.pointer (some ⟨gb,off+k * 7,none⟩)) ho rfl ?_ rfl;rotate_left
           have d0:a.eval (.tmp 32)=.pointer (some ⟨gb,off+k * 7,none⟩):=hdep ⟨2,.data⟩ (by simp) rfl;refine gvT fd (.pointer (some ⟨gb,off+k * 7,none⟩)) ho rfl ?_ rfl;rotate_left
           have d0:a.eval (.tmp 33)=.pointer (some ⟨gb,off+k * 7,none⟩):=hdep ⟨3,.data⟩ (by simp) rfl;refine gvT fd (.int .i64 xi) ho rfl ?_ rfl;rotate_left
           have d0:a.eval (.tmp 34)=.int .i64 xi:=hdep ⟨4,.data⟩ (by simp) rfl;refine gvT fd (.bool false) ho rfl ?_ rfl;rotate_left
           have d0:a.eval (.tmp 35)=.bool false:=hdep ⟨5,.data⟩ (by simp) rfl;refine gvT fd (.bool false) ho rfl ?_ rfl;rotate_left
           refine gvT fd (.slice (some ⟨gb,off,none⟩) l.length cc) ho (wantedI rfl (yieldedI rfl eg)) ?_ rfl;rotate_left
           refine gvT fd (.int .i64 (k:Nat)) ho (wantedI rfl (yieldedI rfl eg)) ?_ rfl;rotate_left
           have d0:a.eval (.tmp 37)=.slice (some ⟨gb,off,none⟩) l.length cc:=hdep ⟨7,.data⟩ (by simp) rfl;have d1:a.eval (.tmp 38)=.int .i64 (k:Nat):=hdep ⟨8,.data⟩ (by simp) rfl;refine gvT fd (.pointer (some ⟨gb,off+k * 7,none⟩)) ho (wantedI rfl (yieldedI rfl eg)) ?_ rfl;rotate_left
           have d0:a.eval (.tmp 39)=.pointer (some ⟨gb,off+k * 7,none⟩):=hdep ⟨9,.data⟩ (by simp) rfl;refine gvT fd (.pointer (some ⟨gb,off+k * 7,none⟩)) ho (wantedI rfl (yieldedI rfl eg)) ?_ rfl;rotate_left
           have d0:a.eval (.tmp 40)=.pointer (some ⟨gb,off+k * 7,none⟩):=hdep ⟨10,.data⟩ (by simp) rfl;refine gvT fd (.int .i64 xi) ho (wantedI rfl (yieldedI rfl eg)) ?_ rfl;rotate_left
           have d0:a.eval (.tmp 41)=.int .i64 xi:=hdep ⟨11,.data⟩ (by simp) rfl;refine gvT fd (.bool false) ho (wantedI rfl (yieldedI rfl eg)) ?_ rfl;rotate_left
           have d0:a.eval (.tmp 36)=.bool false:=hdep ⟨6,.data⟩ (by simp) rfl;have d1:a.eval (.tmp 42)=.bool false:=hdep ⟨12,.data⟩ (by simp) rfl;refine gvT fd (.bool false) ho rfl ?_ rfl;rotate_left
           have d0:a.eval (.tmp 43)=.bool false:=hdep ⟨13,.data⟩ (by simp) rfl;refine gvT fd (.bool false) ho rfl ?_ rfl;rotate_left
           refine gvT fd (.int .i64 (k:Nat)) ho (wantedI rfl (yieldedI rfl eg)) ?_ rfl;rotate_left
           have d0:a.eval (.tmp 45)=.int .i64 (k:Nat):=hdep ⟨15,.data⟩ (by simp) rfl;refine gvT fd (.bool true) ho (wantedI rfl (yieldedI rfl eg)) ?_ rfl;rotate_left
           have d0:a.eval (.tmp 46)=.bool true:=hdep ⟨16,.data⟩ (by simp) rfl;refine gvT fd (.bool true) ho (wantedI rfl (yieldedI rfl eg)) ?_ rfl;rotate_left
           refine gvT fd (.slice (some ⟨gb,off,none⟩) l.length cc) ho (wantedI rfl (yieldedI rfl eg)) ?_ rfl;rotate_left
           refine gvT fd (.int .i64 (k:Nat)) ho (wantedI rfl (yieldedI rfl eg)) ?_ rfl;rotate_left
           have d0:a.eval (.tmp 48)=.slice (some ⟨gb,off,none⟩) l.length cc:=hdep ⟨18,.data⟩ (by simp) rfl;have d1:a.eval (.tmp 49)=.int .i64 (k:Nat):=hdep ⟨19,.data⟩ (by simp) rfl;refine gvT fd (.pointer (some ⟨gb,off+k * 7,none⟩)) ho (wantedI rfl (yieldedI rfl eg)) ?_ rfl;rotate_left
           have d0:a.eval (.tmp 50)=.pointer (some ⟨gb,off+k * 7,none⟩):=hdep ⟨20,.data⟩ (by simp) rfl;refine gvT fd (.pointer (some ⟨gb,off+k * 7,none⟩)) ho (wantedI rfl (yieldedI rfl eg)) ?_ rfl;rotate_left
           have d0:a.eval (.tmp 51)=.pointer (some ⟨gb,off+k * 7,none⟩):=hdep ⟨21,.data⟩ (by simp) rfl;refine gvT fd (.int .i64 xi) ho (wantedI rfl (yieldedI rfl eg)) ?_ rfl;rotate_left
           refine gvT fd (.slice (some ⟨gb,off,none⟩) l.length cc) ho (wantedI rfl (yieldedI rfl eg)) ?_ rfl;rotate_left
           refine gvT fd (.int .i64 (k:Nat)) ho (wantedI rfl (yieldedI rfl eg)) ?_ rfl;rotate_left
           ·have d0:a.eval (.tmp 54)=.int .i64 (k:Nat):=hdep ⟨24,.data⟩ (by simp) rfl
            refine gvT fd (.int .i64 (k1:Nat)) ho (wantedI rfl (yieldedI rfl eg)) ?_ rfl
            unfold execOp;simp only [zA,zB,zC,d0,ec];first|(go_simp;done)|(go_simp;rw [hwk])|(go_simp;exact hwk)|(go_simp;omega)
           have d0:a.eval (.tmp 53)=.slice (some ⟨gb,off,none⟩) l.length cc:=hdep ⟨23,.data⟩ (by simp) rfl;have d1:a.eval (.tmp 55)=.int .i64 (k1:Nat):=hdep ⟨25,.data⟩ (by simp) rfl;refine gvT fd (.pointer (some ⟨gb,off+k1 * 7,none⟩)) ho (wantedI rfl (yieldedI rfl eg)) ?_ rfl;rotate_left
           have d0:a.eval (.tmp 56)=.pointer (some ⟨gb,off+k1 * 7,none⟩):=hdep ⟨26,.data⟩ (by simp) rfl;refine gvT fd (.pointer (some ⟨gb,off+k1 * 7,none⟩)) ho (wantedI rfl (yieldedI rfl eg)) ?_ rfl;rotate_left
           have d0:a.eval (.tmp 57)=.pointer (some ⟨gb,off+k1 * 7,none⟩):=hdep ⟨27,.data⟩ (by simp) rfl;refine gvT fd (.int .i64 yi) ho (wantedI rfl (yieldedI rfl eg)) ?_ rfl;rotate_left
           have d0:a.eval (.tmp 52)=.int .i64 xi:=hdep ⟨22,.data⟩ (by simp) rfl;have d1:a.eval (.tmp 58)=.int .i64 yi:=hdep ⟨28,.data⟩ (by simp) rfl;refine gvT fd (.bool true) ho (wantedI rfl (yieldedI rfl eg)) ?_ rfl;rotate_left
           have d0:a.eval (.tmp 47)=.bool true:=hdep ⟨17,.data⟩ (by simp) rfl;have d1:a.eval (.tmp 59)=.bool true:=hdep ⟨29,.data⟩ (by simp) rfl;refine gvT fd (.bool true) ho (wantedI rfl (yieldedI rfl eg)) ?_ rfl;rotate_left
           have d0:a.eval (.tmp 44)=.bool false:=hdep ⟨14,.data⟩ (by simp) rfl;have d1:a.eval (.tmp 60)=.bool true:=hdep ⟨30,.data⟩ (by simp) rfl;refine gvT fd (.bool true) ho rfl ?_ rfl;rotate_left
           have d0:a.eval (.tmp 61)=.bool true:=hdep ⟨31,.data⟩ (by simp) rfl;refine gvT fd (.bool true) ho rfl ?_ rfl;rotate_left
           iterate 7 (have eg:a.tmps.getD 62 undef=.bool true:=hdep ⟨32,.guard⟩ (by simp) rfl;exact gnT fd ho (unwantedI rfl (yieldedI rfl eg) (by decide)) rfl)
           have d0:a.eval (.tmp 62)=.bool true:=hdep ⟨32,.data⟩ (by simp) rfl;have d1:a.eval (.tmp 69)=undef:=hdep ⟨39,.data⟩ (by simp) rfl;refine gvT fd (.bool true) ho rfl ?_ rfl;rotate_left
           have d0:a.eval (.tmp 70)=.bool true:=hdep ⟨40,.data⟩ (by simp) rfl;refine gvT fd (.bool true) ho rfl ?_ rfl;rotate_left
           iterate 12 (have eg:a.tmps.getD 71 undef=.bool true:=hdep ⟨41,.guard⟩ (by simp) rfl;exact gnT fd ho (unwantedI rfl (yieldedI rfl eg) (by decide)) rfl)
           have d0:a.eval (.tmp 71)=.bool true:=hdep ⟨41,.data⟩ (by simp) rfl;have d1:a.eval (.tmp 83)=undef:=hdep ⟨53,.data⟩ (by simp) rfl;refine gvT fd (.bool true) ho rfl ?_ rfl;rotate_left
           all_goals (unfold execOp;first|(simp only [zA,zB,zC,d0,d1,ec];first|rfl|(go_simp;first|done|rfl|omega))|(simp only [zA,zB,zC,d0,ec];first|rfl|(go_simp;first|done|rfl|omega))|(simp only [zA,zB,zC,e3,ec];first|rfl|(go_simp;first|done|rfl|omega))|(simp only [zA,zB,zC,e4,ec];first|rfl|(go_simp;first|done|rfl|omega)))
          ·intro a w1 hI hb hj
           have hb':Below wr.heap.size wr w1:=up (Below.refl _ _).drew hb
           exact⟨hj 54 (by decide),hb'⟩
          rintro ts w7 ⟨h84,hb7⟩
          simp only [fill,List.setIfInBounds_toArray,List.set_cons_succ,List.set_cons_zero]
          rw [h84]
          have HU7:=hZ (up HU.out hb7)
          have hd2:=HD.out
          rw [Sc.ck_no (.inl (Sc.okC_no HCX.out (Sc.okAt_false (fun hh=>by have:=hh.1.1;rw [HKK.out,Sc.least_succ HY.out] at this;simp only at this;omega))))] at hd2
          subst hd2
          clear h84 hb7
          go_wp2_with fail
          go_ret
          exact⟨rfl,HU7.out⟩
         ·cases N with
          | false =>
           go_upto_region 7 with fail
           refine region_growI_merge (fun u v:World=>Below u.heap.size u v) (fun _ _=>True) (fun _ _ _=>True) (fun u=>Below.refl _ _) (fun _ _ _ h k=>up h k) (kjI #[Spc.eq (.slice (some ⟨gb,off,none⟩) l.length cc),Spc.eq (.int .i64 (k:Nat)),Spc.eq (.pointer (some ⟨gb,off+k * 7,none⟩)),Spc.eq (.pointer (some ⟨gb,off+k * 7,none⟩)),Spc.eq (.int .i64 xi),Spc.eq (.bool false),Spc.eq (.bool false),Spc.eq (.slice (some ⟨gb,off,none⟩) l.length cc),Spc.eq (.int .i64 (k:Nat)),Spc.eq (.pointer (some ⟨gb,off+k * 7,none⟩)),Spc.eq (.pointer (some ⟨gb,off+k * 7,none⟩)),Spc.eq (.int .i64 xi),Spc.eq (.bool false),Spc.eq (.bool false),Spc.eq (.bool false),Spc.eq (.int .i64 (k:Nat)),Spc.eq (.bool true),Spc.eq (.bool true),Spc.eq (.slice (some ⟨gb,off,none⟩) l.length cc),Spc.eq (.int .i64 (k:Nat)),Spc.eq (.pointer (some ⟨gb,off+k * 7,none⟩)),Spc.eq (.pointer (some ⟨gb,off+k * 7,none⟩)),Spc.eq (.int .i64 xi),Spc.eq (.slice (some ⟨gb,off,none⟩) l.length cc),Spc.eq (.int .i64 (k:Nat)),Spc.eq (.int .i64 (k1:Nat)),Spc.eq (.pointer (some ⟨gb,off+k1 * 7,none⟩)),Spc.eq (.pointer (some ⟨gb,off+k1 * 7,none⟩)),Spc.eq (.int .i64 yi),Spc.eq (.bool false),Spc.eq (.bool false),Spc.eq (.bool false),Spc.eq (.bool false),Spc.eq (.slice (some ⟨gb,off,none⟩) l.length cc),Spc.eq (.int .i64 (k:Nat)),Spc.eq (.pointer (some ⟨gb,off+k * 7,none⟩)),Spc.eq (.pointer (some ⟨gb,off+k * 7+1,none⟩)),Spc.eq (.string xm),Spc.eq (.bool false),Spc.eq (.bool true),Spc.eq (.bool true),Spc.eq (.bool true),Spc.eq undef,Spc.eq undef,Spc.eq undef,Spc.eq undef,Spc.eq undef,Spc.eq undef,Spc.eq undef,Spc.eq undef,Spc.eq undef,Spc.eq undef,Spc.eq undef,Spc.eq undef,Spc.eq (.bool true)]) [30,31,32,33,34,35,36,37,38,39,40,41,42,43,44,45,46,47,48,49,50,51,52,53,54,55,56,57,58,59,60,61,62,63,64,65,66,67,68,69,70,71,72,73,74,75,76,77,78,79,80,81,82,83,84] (fun ts u=>ts.getD 84 undef=.bool true∧Below wr.heap.size wr u) (by kernel_rfl) (by kernel_rfl) (by kernel_rfl) kjI_later trivial ?_ ?_ ?_
           ·intro QQ fd jo o a w1 ho hfd hdd hI hb hs hold hdep
            have hjo:jo < 55:=(Array.getElem?_eq_some_iff.1 ho).1
            have hb':Below wr.heap.size wr w1:=up (Below.refl _ _).drew hb
            have p0':w1.cell? ⟨gb,off+k * 7,none⟩=some (.int .i64 xi):=(hb'.cell (p:=⟨gb,off+k * 7,none⟩) (cell_lt p0)).trans p0
            have p1':w1.cell? ⟨gb,off+k * 7+1,none⟩=some (.string xm):=(hb'.cell (p:=⟨gb,off+k * 7+1,none⟩) (cell_lt p1)).trans p1
            have p2':w1.cell? ⟨gb,off+k * 7+2,none⟩=some (.int .i64 xk):=(hb'.cell (p:=⟨gb,off+k * 7+2,none⟩) (cell_lt p2)).trans p2
            have p3':w1.cell? ⟨gb,off+k * 7+3,none⟩=some (.bool xu):=(hb'.cell (p:=⟨gb,off+k * 7+3,none⟩) (cell_lt p3)).trans p3
            have p4':w1.cell? ⟨gb,off+k * 7+4,none⟩=some (.bool xa):=(hb'.cell (p:=⟨gb,off+k * 7+4,none⟩) (cell_lt p4)).trans p4
            have p5':w1.cell? ⟨gb,off+k * 7+5,none⟩=some (.int .i64 xb):=(hb'.cell (p:=⟨gb,off+k * 7+5,none⟩) (cell_lt p5)).trans p5
            have p6':w1.cell? ⟨gb,off+k * 7+6,none⟩=some (.string xc):=(hb'.cell (p:=⟨gb,off+k * 7+6,none⟩) (cell_lt p6)).trans p6
            have y0':w1.cell? ⟨gb,off+k1 * 7,none⟩=some (.int .i64 yi):=(hb'.cell (p:=⟨gb,off+k1 * 7,none⟩) (cell_lt y0)).trans y0
            clear p0 p1 p2 p3 p4 p5 p6 y0
            have e3:a.eval (.tmp 3)=.slice (some ⟨gb,off,none⟩) l.length cc:=by
             show a.tmps.getD 3 undef=_
             rw [Array.getD_eq_getD_getElem?,hold 3 (by decide +kernel)];rfl
            have e4:a.eval (.tmp 4)=.int .i64 (k:Nat):=by
             show a.tmps.getD 4 undef=_
             rw [Array.getD_eq_getD_getElem?,hold 4 (by decide +kernel)];rfl
            have ec:∀ v,a.eval (.const v)=v:=fun _=>rfl
            clear hold hs
            rcases (show jo=0 ∨ jo=1 ∨ jo=2 ∨ jo=3 ∨ jo=4 ∨ jo=5 ∨ jo=6 ∨ jo=7 ∨ jo=8 ∨ jo=9 ∨ jo=10 ∨ jo=11 ∨ jo=12 ∨ jo=13 ∨ jo=14 ∨ jo=15 ∨ jo=16 ∨ jo=17 ∨ jo=18 ∨ jo=19 ∨ jo=20 ∨ jo=21 ∨ jo=22 ∨ jo=23 ∨ jo=24 ∨ jo=25 ∨ jo=26 ∨ jo=27 ∨ jo=28 ∨ jo=29 ∨ jo=30 ∨ jo=31 ∨ jo=32 ∨ jo=33 ∨ jo=34 ∨ jo=35 ∨ jo=36 ∨ jo=37 ∨ jo=38 ∨ jo=39 ∨ jo=40 ∨ jo=41 ∨ jo=42 ∨ jo=43 ∨ jo=44 ∨ jo=45 ∨ jo=46 ∨ jo=47 ∨ jo=48 ∨ jo=49 ∨ jo=50 ∨ jo=51 ∨ jo=52 ∨ jo=53 ∨ jo=54 by omega) with rfl|rfl|rfl|rfl|rfl|rfl|rfl|rfl|rfl|rfl|rfl|rfl|rfl|rfl|rfl|rfl|rfl|rfl|rfl|rfl|rfl|rfl|rfl|rfl|rfl|rfl|rfl|rfl|rfl|rfl|rfl|rfl|rfl|rfl|rfl|rfl|rfl|rfl|rfl|rfl|rfl|rfl|rfl|rfl|rfl|rfl|rfl|rfl|rfl|rfl|rfl|rfl|rfl|rfl|rfl
            all_goals (have ho2:=ho;simp only [List.getElem?_toArray,zD,zE,Option.some.injEq] at ho2;subst ho2)
            all_goals first|(refine (fun (eg:a.tmps.getD 36 undef=.bool false)=>?_) (hdep ⟨6,.guard⟩ ?_ rfl);rotate_left;focus (simp<;>fail))|(refine (fun (eg:a.tmps.getD 44 undef=.bool false)=>?_) (hdep ⟨14,.guard⟩ ?_ rfl);rotate_left;focus (simp<;>fail))|(refine (fun (eg:a.tmps.getD 47 undef=.bool true)=>?_) (hdep ⟨17,.guard⟩ ?_ rfl);rotate_left;focus (simp<;>fail))|(refine (fun (eg:a.tmps.getD 62 undef=.bool false)=>?_) (hdep ⟨32,.guard⟩ ?_ rfl);rotate_left;focus (simp<;>fail))|skip
            refine gvT fd (.slice (some ⟨gb,off,none⟩) l.length cc) ho rfl ?_ rfl;rotate_left
            refine gvT fd (.int .i64 (k:Nat)) ho rfl ?_ rfl;rotate_left
            have d0:a.eval (.tmp 30)=.slice (some ⟨gb,off,none⟩) l.length cc:=hdep ⟨0,.data⟩ (by simp) rfl;have d1:a.eval (.tmp 31)=.int .i64 (k:Nat):=hdep ⟨1,.data⟩ (by simp) rfl;refine gvT fd (.pointer (some ⟨gb,off+k * 7,none⟩)) ho rfl ?_ rfl;rotate_left
            have d0:a.eval (.tmp 32)=.pointer (some ⟨gb,off+k * 7,none⟩):=hdep ⟨2,.data⟩ (by simp) rfl;refine gvT fd (.pointer (some ⟨gb,off+k * 7,none⟩)) ho rfl ?_ rfl;rotate_left
            have d0:a.eval (.tmp 33)=.pointer (some ⟨gb,off+k * 7,none⟩):=hdep ⟨3,.data⟩ (by simp) rfl;refine gvT fd (.int .i64 xi) ho rfl ?_ rfl;rotate_left
            have d0:a.eval (.tmp 34)=.int .i64 xi:=hdep ⟨4,.data⟩ (by simp) rfl;refine gvT fd (.bool false) ho rfl ?_ rfl;rotate_left
            have d0:a.eval (.tmp 35)=.bool false:=hdep ⟨5,.data⟩ (by simp) rfl;refine gvT fd (.bool false) ho rfl ?_ rfl;rotate_left
            refine gvT fd (.slice (some ⟨gb,off,none⟩) l.length cc) ho (wantedI rfl (yieldedI rfl eg)) ?_ rfl;rotate_left
            refine gvT fd (.int .i64 (k:Nat)) ho (wantedI rfl (yieldedI rfl eg)) ?_ rfl;rotate_left
            have d0:a.eval (.tmp 37)=.slice (some ⟨gb,off,none⟩) l.length cc:=hdep ⟨7,.data⟩ (by simp) rfl;have d1:a.eval (.tmp 38)=.int .i64 (k:Nat):=hdep ⟨8,.data⟩ (by simp) rfl;refine gvT fd (.pointer (some ⟨gb,off+k * 7,none⟩)) ho (wantedI rfl (yieldedI rfl eg)) ?_ rfl;rotate_left
            have d0:a.eval (.tmp 39)=.pointer (some ⟨gb,off+k * 7,none⟩):=hdep ⟨9,.data⟩ (by simp) rfl;refine gvT fd (.pointer (some ⟨gb,off+k * 7,none⟩)) ho (wantedI rfl (yieldedI rfl eg)) ?_ rfl;rotate_left
            have d0:a.eval (.tmp 40)=.pointer (some ⟨gb,off+k * 7,none⟩):=hdep ⟨10,.data⟩ (by simp) rfl;refine gvT fd (.int .i64 xi) ho (wantedI rfl (yieldedI rfl eg)) ?_ rfl;rotate_left
            have d0:a.eval (.tmp 41)=.int .i64 xi:=hdep ⟨11,.data⟩ (by simp) rfl;refine gvT fd (.bool false) ho (wantedI rfl (yieldedI rfl eg)) ?_ rfl;rotate_left
            have d0:a.eval (.tmp 36)=.bool false:=hdep ⟨6,.data⟩ (by simp) rfl;have d1:a.eval (.tmp 42)=.bool false:=hdep ⟨12,.data⟩ (by simp) rfl;refine gvT fd (.bool false) ho rfl ?_ rfl;rotate_left
            have d0:a.eval (.tmp 43)=.bool false:=hdep ⟨13,.data⟩ (by simp) rfl;refine gvT fd (.bool false) ho rfl ?_ rfl;rotate_left
            refine gvT fd (.int .i64 (k:Nat)) ho (wantedI rfl (yieldedI rfl eg)) ?_ rfl;rotate_left
            have d0:a.eval (.tmp 45)=.int .i64 (k:Nat):=hdep ⟨15,.data⟩ (by simp) rfl;refine gvT fd (.bool true) ho (wantedI rfl (yieldedI rfl eg)) ?_ rfl;rotate_left
            have d0:a.eval (.tmp 46)=.bool true:=hdep ⟨16,.data⟩ (by simp) rfl;refine gvT fd (.bool true) ho (wantedI rfl (yieldedI rfl eg)) ?_ rfl;rotate_left
            refine gvT fd (.slice (some ⟨gb,off,none⟩) l.length cc) ho (wantedI rfl (yieldedI rfl eg)) ?_ rfl;rotate_left
            refine gvT fd (.int .i64 (k:Nat)) ho (wantedI rfl (yieldedI rfl eg)) ?_ rfl;rotate_left
            have d0:a.eval (.tmp 48)=.slice (some ⟨gb,off,none⟩) l.length cc:=hdep ⟨18,.data⟩ (by simp) rfl;have d1:a.eval (.tmp 49)=.int .i64 (k:Nat):=hdep ⟨19,.data⟩ (by simp) rfl;refine gvT fd (.pointer (some ⟨gb,off+k * 7,none⟩)) ho (wantedI rfl (yieldedI rfl eg)) ?_ rfl;rotate_left
            have d0:a.eval (.tmp 50)=.pointer (some ⟨gb,off+k * 7,none⟩):=hdep ⟨20,.data⟩ (by simp) rfl;refine gvT fd (.pointer (some ⟨gb,off+k * 7,none⟩)) ho (wantedI rfl (yieldedI rfl eg)) ?_ rfl;rotate_left
            have d0:a.eval (.tmp 51)=.pointer (some ⟨gb,off+k * 7,none⟩):=hdep ⟨21,.data⟩ (by simp) rfl;refine gvT fd (.int .i64 xi) ho (wantedI rfl (yieldedI rfl eg)) ?_ rfl;rotate_left
            refine gvT fd (.slice (some ⟨gb,off,none⟩) l.length cc) ho (wantedI rfl (yieldedI rfl eg)) ?_ rfl;rotate_left
            refine gvT fd (.int .i64 (k:Nat)) ho (wantedI rfl (yieldedI rfl eg)) ?_ rfl;rotate_left
            ·have d0:a.eval (.tmp 54)=.int .i64 (k:Nat):=hdep ⟨24,.data⟩ (by simp) rfl
             refine gvT fd (.int .i64 (k1:Nat)) ho (wantedI rfl (yieldedI rfl eg)) ?_ rfl
             unfold execOp;simp only [zA,zB,zC,d0,ec];first|(go_simp;done)|(go_simp;rw [hwk])|(go_simp;exact hwk)|(go_simp;omega)
            have d0:a.eval (.tmp 53)=.slice (some ⟨gb,off,none⟩) l.length cc:=hdep ⟨23,.data⟩ (by simp) rfl;have d1:a.eval (.tmp 55)=.int .i64 (k1:Nat):=hdep ⟨25,.data⟩ (by simp) rfl;refine gvT fd (.pointer (some ⟨gb,off+k1 * 7,none⟩)) ho (wantedI rfl (yieldedI rfl eg)) ?_ rfl;rotate_left
            have d0:a.eval (.tmp 56)=.pointer (some ⟨gb,off+k1 * 7,none⟩):=hdep ⟨26,.data⟩ (by simp) rfl;refine gvT fd (.pointer (some ⟨gb,off+k1 * 7,none⟩)) ho (wantedI rfl (yieldedI rfl eg)) ?_ rfl;rotate_left
            have d0:a.eval (.tmp 57)=.pointer (some ⟨gb,off+k1 * 7,none⟩):=hdep ⟨27,.data⟩ (by simp) rfl;refine gvT fd (.int .i64 yi) ho (wantedI rfl (yieldedI rfl eg)) ?_ rfl;rotate_left
            have d0:a.eval (.tmp 52)=.int .i64 xi:=hdep ⟨22,.data⟩ (by simp) rfl;have d1:a.eval (.tmp 58)=.int .i64 yi:=hdep ⟨28,.data⟩ (by simp) rfl;refine gvT fd (.bool false) ho (wantedI rfl (yieldedI rfl eg)) ?_ rfl;rotate_left
            have d0:a.eval (.tmp 47)=.bool true:=hdep ⟨17,.data⟩ (by simp) rfl;have d1:a.eval (.tmp 59)=.bool false:=hdep ⟨29,.data⟩ (by simp) rfl;refine gvT fd (.bool false) ho (wantedI rfl (yieldedI rfl eg)) ?_ rfl;rotate_left
            have d0:a.eval (.tmp 44)=.bool false:=hdep ⟨14,.data⟩ (by simp) rfl;have d1:a.eval (.tmp 60)=.bool false:=hdep ⟨30,.data⟩ (by simp) rfl;refine gvT fd (.bool false) ho rfl ?_ rfl;rotate_left
            have d0:a.eval (.tmp 61)=.bool false:=hdep ⟨31,.data⟩ (by simp) rfl;refine gvT fd (.bool false) ho rfl ?_ rfl;rotate_left
            refine gvT fd (.slice (some ⟨gb,off,none⟩) l.length cc) ho (wantedI rfl (yieldedI rfl eg)) ?_ rfl;rotate_left
            refine gvT fd (.int .i64 (k:Nat)) ho (wantedI rfl (yieldedI rfl eg)) ?_ rfl;rotate_left
            have d0:a.eval (.tmp 63)=.slice (some ⟨gb,off,none⟩) l.length cc:=hdep ⟨33,.data⟩ (by simp) rfl;have d1:a.eval (.tmp 64)=.int .i64 (k:Nat):=hdep ⟨34,.data⟩ (by simp) rfl;refine gvT fd (.pointer (some ⟨gb,off+k * 7,none⟩)) ho (wantedI rfl (yieldedI rfl eg)) ?_ rfl;rotate_left
            have d0:a.eval (.tmp 65)=.pointer (some ⟨gb,off+k * 7,none⟩):=hdep ⟨35,.data⟩ (by simp) rfl;refine gvT fd (.pointer (some ⟨gb,off+k * 7+1,none⟩)) ho (wantedI rfl (yieldedI rfl eg)) ?_ rfl;rotate_left
            have d0:a.eval (.tmp 66)=.pointer (some ⟨gb,off+k * 7+1,none⟩):=hdep ⟨36,.data⟩ (by simp) rfl;refine gvT fd (.string xm) ho (wantedI rfl (yieldedI rfl eg)) ?_ rfl;rotate_left
            ·have d0:a.eval (.tmp 67)=.string xm:=hdep ⟨37,.data⟩ (by simp) rfl
             refine growI_call (I:=(fun _ _=>True)) (X:=(fun _ _ _=>True)) (d:=fd) (a:=a) (w:=w1) 67 #[.string xm] ho (wantedI rfl (yieldedI rfl eg)) ?_ ((HIN.out w1).mono ?_)
             ·unfold execOp resolve
              simp only [zA,zB,zC,d0,ec]
              rfl
             ·rintro e c1 ⟨rfl,rfl⟩
              exact⟨_,rfl,rfl,(Below.refl _ _),trivial,trivial⟩
            have d0:a.eval (.tmp 68)=.bool false:=hdep ⟨38,.data⟩ (by simp) rfl;refine gvT fd (.bool true) ho (wantedI rfl (yieldedI rfl eg)) ?_ rfl;rotate_left
            have d0:a.eval (.tmp 62)=.bool false:=hdep ⟨32,.data⟩ (by simp) rfl;have d1:a.eval (.tmp 69)=.bool true:=hdep ⟨39,.data⟩ (by simp) rfl;refine gvT fd (.bool true) ho rfl ?_ rfl;rotate_left
            have d0:a.eval (.tmp 70)=.bool true:=hdep ⟨40,.data⟩ (by simp) rfl;refine gvT fd (.bool true) ho rfl ?_ rfl;rotate_left
            iterate 12 (have eg:a.tmps.getD 71 undef=.bool true:=hdep ⟨41,.guard⟩ (by simp) rfl;exact gnT fd ho (unwantedI rfl (yieldedI rfl eg) (by decide)) rfl)
            have d0:a.eval (.tmp 71)=.bool true:=hdep ⟨41,.data⟩ (by simp) rfl;have d1:a.eval (.tmp 83)=undef:=hdep ⟨53,.data⟩ (by simp) rfl;refine gvT fd (.bool true) ho rfl ?_ rfl;rotate_left
            all_goals (unfold execOp;first|(simp only [zA,zB,zC,d0,d1,ec];first|rfl|(go_simp;first|done|rfl|omega))|(simp only [zA,zB,zC,d0,ec];first|rfl|(go_simp;first|done|rfl|omega))|(simp only [zA,zB,zC,e3,ec];first|rfl|(go_simp;first|done|rfl|omega))|(simp only [zA,zB,zC,e4,ec];first|rfl|(go_simp;first|done|rfl|omega)))
           ·intro a w1 hI hb hj
            have hb':Below wr.heap.size wr w1:=up (Below.refl _ _).drew hb
            exact⟨hj 54 (by decide),hb'⟩
           rintro ts w7 ⟨h84,hb7⟩
           simp only [fill,List.setIfInBounds_toArray,List.set_cons_succ,List.set_cons_zero]
           rw [h84]
           have HU7:=hZ (up HU.out hb7)
           have hd2:=HD.out
           rw [Sc.ck_no (.inl (Sc.okC_no HCX.out (Sc.okAt_false (fun hh=>by have:=hh.2.1;rw [HN.out] at this;cases this))))] at hd2
           subst hd2
           clear h84 hb7
           go_wp2_with fail
           go_ret
           exact⟨rfl,HU7.out⟩
          | true =>
           by_cases hE:e0=0
           ·have hE1:(e0:Int)=0:=by omega
            have HOKP:Hid (Sc.least l k≤xi∧xi≤1048576):=hZ (by rw [HKK.out,Sc.least_succ HY.out];exact⟨by show yi+1≤xi;omega,by omega⟩)
            go_upto_region 7 with fail
            refine region_growI_merge (fun u v:World=>Below u.heap.size u v) (fun _ _=>True) (fun _ _ _=>True) (fun u=>Below.refl _ _) (fun _ _ _ h k=>up h k) (kjI #[Spc.eq (.slice (some ⟨gb,off,none⟩) l.length cc),Spc.eq (.int .i64 (k:Nat)),Spc.eq (.pointer (some ⟨gb,off+k * 7,none⟩)),Spc.eq (.pointer (some ⟨gb,off+k * 7,none⟩)),Spc.eq (.int .i64 xi),Spc.eq (.bool false),Spc.eq (.bool false),Spc.eq (.slice (some ⟨gb,off,none⟩) l.length cc),Spc.eq (.int .i64 (k:Nat)),Spc.eq (.pointer (some ⟨gb,off+k * 7,none⟩)),Spc.eq (.pointer (some ⟨gb,off+k * 7,none⟩)),Spc.eq (.int .i64 xi),Spc.eq (.bool false),Spc.eq (.bool false),Spc.eq (.bool false),Spc.eq (.int .i64 (k:Nat)),Spc.eq (.bool true),Spc.eq (.bool true),Spc.eq (.slice (some ⟨gb,off,none⟩) l.length cc),Spc.eq (.int .i64 (k:Nat)),Spc.eq (.pointer (some ⟨gb,off+k * 7,none⟩)),Spc.eq (.pointer (some ⟨gb,off+k * 7,none⟩)),Spc.eq (.int .i64 xi),Spc.eq (.slice (some ⟨gb,off,none⟩) l.length cc),Spc.eq (.int .i64 (k:Nat)),Spc.eq (.int .i64 (k1:Nat)),Spc.eq (.pointer (some ⟨gb,off+k1 * 7,none⟩)),Spc.eq (.pointer (some ⟨gb,off+k1 * 7,none⟩)),Spc.eq (.int .i64 yi),Spc.eq (.bool false),Spc.eq (.bool false),Spc.eq (.bool false),Spc.eq (.bool false),Spc.eq (.slice (some ⟨gb,off,none⟩) l.length cc),Spc.eq (.int .i64 (k:Nat)),Spc.eq (.pointer (some ⟨gb,off+k * 7,none⟩)),Spc.eq (.pointer (some ⟨gb,off+k * 7+1,none⟩)),Spc.eq (.string xm),Spc.eq (.bool true),Spc.eq (.bool false),Spc.eq (.bool false),Spc.eq (.bool false),Spc.eq (.slice (some ⟨gb,off,none⟩) l.length cc),Spc.eq (.int .i64 (k:Nat)),Spc.eq (.pointer (some ⟨gb,off+k * 7,none⟩)),Spc.eq (.pointer (some ⟨gb,off+k * 7+2,none⟩)),Spc.eq (.agg #[.int .i64 xk,.bool xu]),Spc.eq (.slice (some ⟨gb,off,none⟩) l.length cc),Spc.eq (.int .i64 (k:Nat)),Spc.eq (.pointer (some ⟨gb,off+k * 7,none⟩)),Spc.eq (.pointer (some ⟨gb,off+k * 7+4,none⟩)),Spc.eq (.agg #[.bool xa,.int .i64 xb,.string xc]),Spc.eq (.int .i64 (e0:Nat)),Spc.eq (.bool false),Spc.eq (.bool false)]) [30,31,32,33,34,35,36,37,38,39,40,41,42,43,44,45,46,47,48,49,50,51,52,53,54,55,56,57,58,59,60,61,62,63,64,65,66,67,68,69,70,71,72,73,74,75,76,77,78,79,80,81,82,83,84] (fun ts u=>ts.getD 84 undef=.bool false∧Below wr.heap.size wr u) (by kernel_rfl) (by kernel_rfl) (by kernel_rfl) kjI_later trivial ?_ ?_ ?_
            ·intro QQ fd jo o a w1 ho hfd hdd hI hb hs hold hdep
             have hjo:jo < 55:=(Array.getElem?_eq_some_iff.1 ho).1
             have hb':Below wr.heap.size wr w1:=up (Below.refl _ _).drew hb
             have p0':w1.cell? ⟨gb,off+k * 7,none⟩=some (.int .i64 xi):=(hb'.cell (p:=⟨gb,off+k * 7,none⟩) (cell_lt p0)).trans p0
             have p1':w1.cell? ⟨gb,off+k * 7+1,none⟩=some (.string xm):=(hb'.cell (p:=⟨gb,off+k * 7+1,none⟩) (cell_lt p1)).trans p1
             have p2':w1.cell? ⟨gb,off+k * 7+2,none⟩=some (.int .i64 xk):=(hb'.cell (p:=⟨gb,off+k * 7+2,none⟩) (cell_lt p2)).trans p2
             have p3':w1.cell? ⟨gb,off+k * 7+3,none⟩=some (.bool xu):=(hb'.cell (p:=⟨gb,off+k * 7+3,none⟩) (cell_lt p3)).trans p3
             have p4':w1.cell? ⟨gb,off+k * 7+4,none⟩=some (.bool xa):=(hb'.cell (p:=⟨gb,off+k * 7+4,none⟩) (cell_lt p4)).trans p4
             have p5':w1.cell? ⟨gb,off+k * 7+5,none⟩=some (.int .i64 xb):=(hb'.cell (p:=⟨gb,off+k * 7+5,none⟩) (cell_lt p5)).trans p5
             have p6':w1.cell? ⟨gb,off+k * 7+6,none⟩=some (.string xc):=(hb'.cell (p:=⟨gb,off+k * 7+6,none⟩) (cell_lt p6)).trans p6
             have y0':w1.cell? ⟨gb,off+k1 * 7,none⟩=some (.int .i64 yi):=(hb'.cell (p:=⟨gb,off+k1 * 7,none⟩) (cell_lt y0)).trans y0
             clear p0 p1 p2 p3 p4 p5 p6 y0
             have e3:a.eval (.tmp 3)=.slice (some ⟨gb,off,none⟩) l.length cc:=by
              show a.tmps.getD 3 undef=_
              rw [Array.getD_eq_getD_getElem?,hold 3 (by decide +kernel)];rfl
             have e4:a.eval (.tmp 4)=.int .i64 (k:Nat):=by
              show a.tmps.getD 4 undef=_
              rw [Array.getD_eq_getD_getElem?,hold 4 (by decide +kernel)];rfl
             have ec:∀ v,a.eval (.const v)=v:=fun _=>rfl
             clear hold hs
             rcases (show jo=0 ∨ jo=1 ∨ jo=2 ∨ jo=3 ∨ jo=4 ∨ jo=5 ∨ jo=6 ∨ jo=7 ∨ jo=8 ∨ jo=9 ∨ jo=10 ∨ jo=11 ∨ jo=12 ∨ jo=13 ∨ jo=14 ∨ jo=15 ∨ jo=16 ∨ jo=17 ∨ jo=18 ∨ jo=19 ∨ jo=20 ∨ jo=21 ∨ jo=22 ∨ jo=23 ∨ jo=24 ∨ jo=25 ∨ jo=26 ∨ jo=27 ∨ jo=28 ∨ jo=29 ∨ jo=30 ∨ jo=31 ∨ jo=32 ∨ jo=33 ∨ jo=34 ∨ jo=35 ∨ jo=36 ∨ jo=37 ∨ jo=38 ∨ jo=39 ∨ jo=40 ∨ jo=41 ∨ jo=42 ∨ jo=43 ∨ jo=44 ∨ jo=45 ∨ jo=46 ∨ jo=47 ∨ jo=48 ∨ jo=49 ∨ jo=50 ∨ jo=51 ∨ jo=52 ∨ jo=53 ∨ jo=54 by omega) with rfl|rfl|rfl|rfl|rfl|rfl|rfl|rfl|rfl|rfl|rfl|rfl|rfl|rfl|rfl|rfl|rfl|rfl|rfl|rfl|rfl|rfl|rfl|rfl|rfl|rfl|rfl|rfl|rfl|rfl|rfl|rfl|rfl|rfl|rfl|rfl|rfl|rfl|rfl|rfl|rfl|rfl|rfl|rfl|rfl|rfl|rfl|rfl|rfl|rfl|rfl|rfl|rfl|rfl|rfl
             all_goals (have ho2:=ho;simp only [List.getElem?_toArray,zD,zE,Option.some.injEq] at ho2;subst ho2)
             all_goals first|(refine (fun (eg:a.tmps.getD 36 undef=.bool false)=>?_) (hdep ⟨6,.guard⟩ ?_ rfl);rotate_left;focus (simp<;>fail))|(refine (fun (eg:a.tmps.getD 44 undef=.bool false)=>?_) (hdep ⟨14,.guard⟩ ?_ rfl);rotate_left;focus (simp<;>fail))|(refine (fun (eg:a.tmps.getD 47 undef=.bool true)=>?_) (hdep ⟨17,.guard⟩ ?_ rfl);rotate_left;focus (simp<;>fail))|(refine (fun (eg:a.tmps.getD 62 undef=.bool false)=>?_) (hdep ⟨32,.guard⟩ ?_ rfl);rotate_left;focus (simp<;>fail))|(refine (fun (eg:a.tmps.getD 71 undef=.bool false)=>?_) (hdep ⟨41,.guard⟩ ?_ rfl);rotate_left;focus (simp<;>fail))|skip
             refine gvT fd (.slice (some ⟨gb,off,none⟩) l.length cc) ho rfl ?_ rfl;rotate_left
             refine gvT fd (.int .i64 (k:Nat)) ho rfl ?_ rfl;rotate_left
             have d0:a.eval (.tmp 30)=.slice (some ⟨gb,off,none⟩) l.length cc:=hdep ⟨0,.data⟩ (by simp) rfl;have d1:a.eval (.tmp 31)=.int .i64 (k:Nat):=hdep ⟨1,.data⟩ (by simp) rfl;refine gvT fd (.pointer (some ⟨gb,off+k * 7,none⟩)) ho rfl ?_ rfl;rotate_left
             have d0:a.eval (.tmp 32)=.pointer (some ⟨gb,off+k * 7,none⟩):=hdep ⟨2,.data⟩ (by simp) rfl;refine gvT fd (.pointer (some ⟨gb,off+k * 7,none⟩)) ho rfl ?_ rfl;rotate_left
             have d0:a.eval (.tmp 33)=.pointer (some ⟨gb,off+k * 7,none⟩):=hdep ⟨3,.data⟩ (by simp) rfl;refine gvT fd (.int .i64 xi) ho rfl ?_ rfl;rotate_left
             have d0:a.eval (.tmp 34)=.int .i64 xi:=hdep ⟨4,.data⟩ (by simp) rfl;refine gvT fd (.bool false) ho rfl ?_ rfl;rotate_left
             have d0:a.eval (.tmp 35)=.bool false:=hdep ⟨5,.data⟩ (by simp) rfl;refine gvT fd (.bool false) ho rfl ?_ rfl;rotate_left
             refine gvT fd (.slice (some ⟨gb,off,none⟩) l.length cc) ho (wantedI rfl (yieldedI rfl eg)) ?_ rfl;rotate_left
             refine gvT fd (.int .i64 (k:Nat)) ho (wantedI rfl (yieldedI rfl eg)) ?_ rfl;rotate_left
             have d0:a.eval (.tmp 37)=.slice (some ⟨gb,off,none⟩) l.length cc:=hdep ⟨7,.data⟩ (by simp) rfl;have d1:a.eval (.tmp 38)=.int .i64 (k:Nat):=hdep ⟨8,.data⟩ (by simp) rfl;refine gvT fd (.pointer (some ⟨gb,off+k * 7,none⟩)) ho (wantedI rfl (yieldedI rfl eg)) ?_ rfl;rotate_left
             have d0:a.eval (.tmp 39)=.pointer (some ⟨gb,off+k * 7,none⟩):=hdep ⟨9,.data⟩ (by simp) rfl;refine gvT fd (.pointer (some ⟨gb,off+k * 7,none⟩)) ho (wantedI rfl (yieldedI rfl eg)) ?_ rfl;rotate_left
             have d0:a.eval (.tmp 40)=.pointer (some ⟨gb,off+k * 7,none⟩):=hdep ⟨10,.data⟩ (by simp) rfl;refine gvT fd (.int .i64 xi) ho (wantedI rfl (yieldedI rfl eg)) ?_ rfl;rotate_left
             have d0:a.eval (.tmp 41)=.int .i64 xi:=hdep ⟨11,.data⟩ (by simp) rfl;refine gvT fd (.bool false) ho (wantedI rfl (yieldedI rfl eg)) ?_ rfl;rotate_left
             have d0:a.eval (.tmp 36)=.bool false:=hdep ⟨6,.data⟩ (by simp) rfl;have d1:a.eval (.tmp 42)=.bool false:=hdep ⟨12,.data⟩ (by simp) rfl;refine gvT fd (.bool false) ho rfl ?_ rfl;rotate_left
             have d0:a.eval (.tmp 43)=.bool false:=hdep ⟨13,.data⟩ (by simp) rfl;refine gvT fd (.bool false) ho rfl ?_ rfl;rotate_left
             refine gvT fd (.int .i64 (k:Nat)) ho (wantedI rfl (yieldedI rfl eg)) ?_ rfl;rotate_left
             have d0:a.eval (.tmp 45)=.int .i64 (k:Nat):=hdep ⟨15,.data⟩ (by simp) rfl;refine gvT fd (.bool true) ho (wantedI rfl (yieldedI rfl eg)) ?_ rfl;rotate_left
             have d0:a.eval (.tmp 46)=.bool true:=hdep ⟨16,.data⟩ (by simp) rfl;refine gvT fd (.bool true) ho (wantedI rfl (yieldedI rfl eg)) ?_ rfl;rotate_left
             refine gvT fd (.slice (some ⟨gb,off,none⟩) l.length cc) ho (wantedI rfl (yieldedI rfl eg)) ?_ rfl;rotate_left
             refine gvT fd (.int .i64 (k:Nat)) ho (wantedI rfl (yieldedI rfl eg)) ?_ rfl;rotate_left
             have d0:a.eval (.tmp 48)=.slice (some ⟨gb,off,none⟩) l.length cc:=hdep ⟨18,.data⟩ (by simp) rfl;have d1:a.eval (.tmp 49)=.int .i64 (k:Nat):=hdep ⟨19,.data⟩ (by simp) rfl;refine gvT fd (.pointer (some ⟨gb,off+k * 7,none⟩)) ho (wantedI rfl (yieldedI rfl eg)) ?_ rfl;rotate_left
             have d0:a.eval (.tmp 50)=.pointer (some ⟨gb,off+k * 7,none⟩):=hdep ⟨20,.data⟩ (by simp) rfl;refine gvT fd (.pointer (some ⟨gb,off+k * 7,none⟩)) ho (wantedI rfl (yieldedI rfl eg)) ?_ rfl;rotate_left
             have d0:a.eval (.tmp 51)=.pointer (some ⟨gb,off+k * 7,none⟩):=hdep ⟨21,.data⟩ (by simp) rfl;refine gvT fd (.int .i64 xi) ho (wantedI rfl (yieldedI rfl eg)) ?_ rfl;rotate_left
             refine gvT fd (.slice (some ⟨gb,off,none⟩) l.length cc) ho (wantedI rfl (yieldedI rfl eg)) ?_ rfl;rotate_left
             refine gvT fd (.int .i64 (k:Nat)) ho (wantedI rfl (yieldedI rfl eg)) ?_ rfl;rotate_left
             ·have d0:a.eval (.tmp 54)=.int .i64 (k:Nat):=hdep ⟨24,.data⟩ (by simp) rfl
              refine gvT fd (.int .i64 (k1:Nat)) ho (wantedI rfl (yieldedI rfl eg)) ?_ rfl
              unfold execOp;simp only [zA,zB,zC,d0,ec];first|(go_simp;done)|(go_simp;rw [hwk])|(go_simp;exact hwk)|(go_simp;omega)
             have d0:a.eval (.tmp 53)=.slice (some ⟨gb,off,none⟩) l.length cc:=hdep ⟨23,.data⟩ (by simp) rfl;have d1:a.eval (.tmp 55)=.int .i64 (k1:Nat):=hdep ⟨25,.data⟩ (by simp) rfl;refine gvT fd (.pointer (some ⟨gb,off+k1 * 7,none⟩)) ho (wantedI rfl (yieldedI rfl eg)) ?_ rfl;rotate_left
             have d0:a.eval (.tmp 56)=.pointer (some ⟨gb,off+k1 * 7,none⟩):=hdep ⟨26,.data⟩ (by simp) rfl;refine gvT fd (.pointer (some ⟨gb,off+k1 * 7,none⟩)) ho (wantedI rfl (yieldedI rfl eg)) ?_ rfl;rotate_left
             have d0:a.eval (.tmp 57)=.pointer (some ⟨gb,off+k1 * 7,none⟩):=hdep ⟨27,.data⟩ (by simp) rfl;refine gvT fd (.int .i64 yi) ho (wantedI rfl (yieldedI rfl eg)) ?_ rfl;rotate_left
             have d0:a.eval (.tmp 52)=.int .i64 xi:=hdep ⟨22,.data⟩ (by simp) rfl;have d1:a.eval (.tmp 58)=.int .i64 yi:=hdep ⟨28,.data⟩ (by simp) rfl;refine gvT fd (.bool false) ho (wantedI rfl (yieldedI rfl eg)) ?_ rfl;rotate_left
             have d0:a.eval (.tmp 47)=.bool true:=hdep ⟨17,.data⟩ (by simp) rfl;have d1:a.eval (.tmp 59)=.bool false:=hdep ⟨29,.data⟩ (by simp) rfl;refine gvT fd (.bool false) ho (wantedI rfl (yieldedI rfl eg)) ?_ rfl;rotate_left
             have d0:a.eval (.tmp 44)=.bool false:=hdep ⟨14,.data⟩ (by simp) rfl;have d1:a.eval (.tmp 60)=.bool false:=hdep ⟨30,.data⟩ (by simp) rfl;refine gvT fd (.bool false) ho rfl ?_ rfl;rotate_left
             have d0:a.eval (.tmp 61)=.bool false:=hdep ⟨31,.data⟩ (by simp) rfl;refine gvT fd (.bool false) ho rfl ?_ rfl;rotate_left
             refine gvT fd (.slice (some ⟨gb,off,none⟩) l.length cc) ho (wantedI rfl (yieldedI rfl eg)) ?_ rfl;rotate_left
             refine gvT fd (.int .i64 (k:Nat)) ho (wantedI rfl (yieldedI rfl eg)) ?_ rfl;rotate_left
             have d0:a.eval (.tmp 63)=.slice (some ⟨gb,off,none⟩) l.length cc:=hdep ⟨33,.data⟩ (by simp) rfl;have d1:a.eval (.tmp 64)=.int .i64 (k:Nat):=hdep ⟨34,.data⟩ (by simp) rfl;refine gvT fd (.pointer (some ⟨gb,off+k * 7,none⟩)) ho (wantedI rfl (yieldedI rfl eg)) ?_ rfl;rotate_left
             have d0:a.eval (.tmp 65)=.pointer (some ⟨gb,off+k * 7,none⟩):=hdep ⟨35,.data⟩ (by simp) rfl;refine gvT fd (.pointer (some ⟨gb,off+k * 7+1,none⟩)) ho (wantedI rfl (yieldedI rfl eg)) ?_ rfl;rotate_left
             have d0:a.eval (.tmp 66)=.pointer (some ⟨gb,off+k * 7+1,none⟩):=hdep ⟨36,.data⟩ (by simp) rfl;refine gvT fd (.string xm) ho (wantedI rfl (yieldedI rfl eg)) ?_ rfl;rotate_left
             ·have d0:a.eval (.tmp 67)=.string xm:=hdep ⟨37,.data⟩ (by simp) rfl
              refine growI_call (I:=(fun _ _=>True)) (X:=(fun _ _ _=>True)) (d:=fd) (a:=a) (w:=w1) 67 #[.string xm] ho (wantedI rfl (yieldedI rfl eg)) ?_ ((HIN.out w1).mono ?_)
              ·unfold execOp resolve
               simp only [zA,zB,zC,d0,ec]
               rfl
              ·rintro e c1 ⟨rfl,rfl⟩
               exact⟨_,rfl,rfl,(Below.refl _ _),trivial,trivial⟩
             have d0:a.eval (.tmp 68)=.bool true:=hdep ⟨38,.data⟩ (by simp) rfl;refine gvT fd (.bool false) ho (wantedI rfl (yieldedI rfl eg)) ?_ rfl;rotate_left
             have d0:a.eval (.tmp 62)=.bool false:=hdep ⟨32,.data⟩ (by simp) rfl;have d1:a.eval (.tmp 69)=.bool false:=hdep ⟨39,.data⟩ (by simp) rfl;refine gvT fd (.bool false) ho rfl ?_ rfl;rotate_left
             have d0:a.eval (.tmp 70)=.bool false:=hdep ⟨40,.data⟩ (by simp) rfl;refine gvT fd (.bool false) ho rfl ?_ rfl;rotate_left
             refine gvT fd (.slice (some ⟨gb,off,none⟩) l.length cc) ho (wantedI rfl (yieldedI rfl eg)) ?_ rfl;rotate_left
             refine gvT fd (.int .i64 (k:Nat)) ho (wantedI rfl (yieldedI rfl eg)) ?_ rfl;rotate_left
             have d0:a.eval (.tmp 72)=.slice (some ⟨gb,off,none⟩) l.length cc:=hdep ⟨42,.data⟩ (by simp) rfl;have d1:a.eval (.tmp 73)=.int .i64 (k:Nat):=hdep ⟨43,.data⟩ (by simp) rfl;refine gvT fd (.pointer (some ⟨gb,off+k * 7,none⟩)) ho (wantedI rfl (yieldedI rfl eg)) ?_ rfl;rotate_left
             have d0:a.eval (.tmp 74)=.pointer (some ⟨gb,off+k * 7,none⟩):=hdep ⟨44,.data⟩ (by simp) rfl;refine gvT fd (.pointer (some ⟨gb,off+k * 7+2,none⟩)) ho (wantedI rfl (yieldedI rfl eg)) ?_ rfl;rotate_left
             have d0:a.eval (.tmp 75)=.pointer (some ⟨gb,off+k * 7+2,none⟩):=hdep ⟨45,.data⟩ (by simp) rfl;refine gvT fd (.agg #[.int .i64 xk,.bool xu]) ho (wantedI rfl (yieldedI rfl eg)) ?_ rfl;rotate_left
             refine gvT fd (.slice (some ⟨gb,off,none⟩) l.length cc) ho (wantedI rfl (yieldedI rfl eg)) ?_ rfl;rotate_left
             refine gvT fd (.int .i64 (k:Nat)) ho (wantedI rfl (yieldedI rfl eg)) ?_ rfl;rotate_left
             have d0:a.eval (.tmp 77)=.slice (some ⟨gb,off,none⟩) l.length cc:=hdep ⟨47,.data⟩ (by simp) rfl;have d1:a.eval (.tmp 78)=.int .i64 (k:Nat):=hdep ⟨48,.data⟩ (by simp) rfl;refine gvT fd (.pointer (some ⟨gb,off+k * 7,none⟩)) ho (wantedI rfl (yieldedI rfl eg)) ?_ rfl;rotate_left
             have d0:a.eval (.tmp 79)=.pointer (some ⟨gb,off+k * 7,none⟩):=hdep ⟨49,.data⟩ (by simp) rfl;refine gvT fd (.pointer (some ⟨gb,off+k * 7+4,none⟩)) ho (wantedI rfl (yieldedI rfl eg)) ?_ rfl;rotate_left
             have d0:a.eval (.tmp 80)=.pointer (some ⟨gb,off+k * 7+4,none⟩):=hdep ⟨50,.data⟩ (by simp) rfl;refine gvT fd (.agg #[.bool xa,.int .i64 xb,.string xc]) ho (wantedI rfl (yieldedI rfl eg)) ?_ rfl;rotate_left
             ·have d0:a.eval (.tmp 76)=.agg #[.int .i64 xk,.bool xu]:=hdep ⟨46,.data⟩ (by simp) rfl
              have d1:a.eval (.tmp 81)=.agg #[.bool xa,.int .i64 xb,.string xc]:=hdep ⟨51,.data⟩ (by simp) rfl
              refine growI_call (I:=(fun _ _=>True)) (X:=(fun _ _ _=>True)) (d:=fd) (a:=a) (w:=w1) 65 #[.agg #[.int .i64 xk,.bool xu],.agg #[.bool xa,.int .i64 xb,.string xc]] ho (wantedI rfl (yieldedI rfl eg)) ?_ ((HCH.out w1).mono ?_)
              ·unfold execOp resolve
               simp only [zA,zB,zC,d0,d1,ec]
               rfl
              ·rintro e c1 ⟨rfl,hb2⟩
               exact⟨_,rfl,rfl,hb2,trivial,trivial⟩
             have d0:a.eval (.tmp 82)=.int .i64 (e0:Nat):=hdep ⟨52,.data⟩ (by simp) rfl;refine gvT fd (.bool false) ho (wantedI rfl (yieldedI rfl eg)) ?_ rfl;rotate_left
             have d0:a.eval (.tmp 71)=.bool false:=hdep ⟨41,.data⟩ (by simp) rfl;have d1:a.eval (.tmp 83)=.bool false:=hdep ⟨53,.data⟩ (by simp) rfl;refine gvT fd (.bool false) ho rfl ?_ rfl;rotate_left
             all_goals (unfold execOp;first|(simp only [zA,zB,zC,d0,d1,ec];first|rfl|(go_simp;first|done|rfl|omega))|(simp only [zA,zB,zC,d0,ec];first|rfl|(go_simp;first|done|rfl|omega))|(simp only [zA,zB,zC,e3,ec];first|rfl|(go_simp;first|done|rfl|omega))|(simp only [zA,zB,zC,e4,ec];first|rfl|(go_simp;first|done|rfl|omega)))
            ·intro a w1 hI hb hj
             have hb':Below wr.heap.size wr w1:=up (Below.refl _ _).drew hb
             exact⟨hj 54 (by decide),hb'⟩
            rintro ts w7 ⟨h84,hb7⟩
            simp only [fill,List.setIfInBounds_toArray,List.set_cons_succ,List.set_cons_zero]
            rw [h84]
            have HU7:=hZ (up HU1.out hb7)
            clear h84 hb7 HU HU1 p0 p1 p2 p3 p4 p5 p6 HIN HCH
            go_wp2_with fail
            go_loopw [5] (fun i wr=>∃ q:Nat,q≤k∧i=.int .i64 (q:Nat)∧Hid (∀ j c',j < q→l[j]?=some c'→bl c'.nm≠bl xm)∧Hid (Below w1.heap.size w1 wr)) (fun i _=>k - (intOf i).toNat)
            case atStart=>exact⟨0,by omega,by rfl,hZ (by intro j c hj;omega),HU7⟩
            case round =>
             clear HU7
             obtain⟨q,hq,rfl,HQ,HU2⟩:=hrel
             obtain⟨gb',off',hgo,_,p1,_,_,_,_,_⟩:=rdK_cells HR.out HU2.out HCX.out
             injection hgo with hgo
             injection hgo with hg1 hg2 _
             subst hg1 hg2
             simp only at p1
             by_cases hqk:q < k
             ·have hqk1:(q:Int) < k:=by omega
              have HQK:=hZ hqk
              obtain⟨y2,hy2⟩:∃ y,l[q]?=some y:=⟨_,List.getElem?_eq_getElem (by have:=HLT.out;omega)⟩
              have HY2:=hZ hy2
              have hql1:(q:Int) < l.length:=by have:=HLT.out;omega
              obtain⟨gb',off',hgo,_,z1,_,_,_,_,_⟩:=rdK_cells HR.out HU2.out hy2
              injection hgo with hgo
              injection hgo with hg1 hg2 _
              subst hg1 hg2
              obtain⟨yi2,ym2,yk2,yu2,yd2⟩:=y2
              simp only at z1
              by_cases hnm:bl ym2=bl xm
              ·have hqq:(ym2.toList == xm.toList)=true:=by rw [eq_bl];simpa using hnm
               have hd2:=HD.out
               rw [Sc.ck_no (.inl (Sc.okC_no HCX.out (Sc.okAt_false (fun hh=>by
                have hf:=hh.2.2.2
                unfold Sc.fresh at hf
                rw [List.all_eq_true] at hf
                have:=hf _ (List.mem_of_getElem? (i:=q) (by rw [List.getElem?_take_of_lt HQK.out];exact HY2.out))
                simp only [decide_eq_true_eq] at this
                exact this hnm))))] at hd2
               subst hd2
               clear hy2 hnm
               go_upto_region 12 with fail
               go_region
               all_goals
                go_wp2_with fail
                go_ret
                exact⟨rfl,(up HB.out HU2.out).trans ((Below.refl _ _).drew.mono (up HB.out HU2.out).size)⟩
              ·have hqq:(ym2.toList == xm.toList)=false:=by rw [eq_bl];simpa using hnm
               have HNE:Hid (∀ j c',j < q+1→l[j]?=some c'→bl c'.nm≠bl xm):=hZ (fun j c' hj hc=>by
                rcases Nat.lt_or_ge j q with h|h
                ·exact HQ.out j c' h hc
                ·obtain rfl:j=q:=by omega
                 rw [HY2.out] at hc;injection hc with hc;subst hc;exact hnm)
               clear hy2 hnm
               go_upto_region 12 with fail
               go_region
               all_goals
                go_wp2_with fail
                go_roundw
                case rel=>exact⟨q+1,HQK.out,by go_num,HNE,hZ (HU2.out.trans ((Below.refl _ _).drew.mono HU2.out.size))⟩
                case measure=>have:=HQK.out;simp [intOf];omega
             ·have hqk1:¬ (q:Int) < k:=by omega
              obtain rfl:q=k:=by omega
              have HNP:Hid (∀ j c,j < q+1→l[j]?=some c→Sc.okAt l j c=true):=hZ (fun j c' hj hc=>by
               rcases Nat.lt_or_ge j q with h|h
               ·exact HP.out j c' h hc
               ·obtain rfl:j=q:=by omega
                rw [HCX.out] at hc;injection hc with hc;subst hc
                refine Sc.okAt_parts.2 ⟨HOKP.out,HN.out,by rw [HE.out];exact hE,?_⟩
                unfold Sc.fresh
                rw [List.all_eq_true]
                intro d hd
                obtain⟨i,hi⟩:=List.getElem?_of_mem hd
                have hij:i < j:=by
                 have:=(List.getElem?_eq_some_iff.1 hi).1
                 simp at this;omega
                rw [List.getElem?_take_of_lt hij] at hi
                have:=HQ.out i d hij hi
                simpa using this)
              clear HQ p1
              go_wp2_with fail
              go_roundw
              case rel=>exact⟨q+1,HLT.out,by go_num,HNP,HU2⟩
              case measure=>have:=HLT.out;simp [intOf];omega
           ·have hE1:¬ (e0:Int)=0:=by omega
            go_upto_region 7 with fail
            refine region_growI_merge (fun u v:World=>Below u.heap.size u v) (fun _ _=>True) (fun _ _ _=>True) (fun u=>Below.refl _ _) (fun _ _ _ h k=>up h k) (kjI #[Spc.eq (.slice (some ⟨gb,off,none⟩) l.length cc),Spc.eq (.int .i64 (k:Nat)),Spc.eq (.pointer (some ⟨gb,off+k * 7,none⟩)),Spc.eq (.pointer (some ⟨gb,off+k * 7,none⟩)),Spc.eq (.int .i64 xi),Spc.eq (.bool false),Spc.eq (.bool false),Spc.eq (.slice (some ⟨gb,off,none⟩) l.length cc),Spc.eq (.int .i64 (k:Nat)),Spc.eq (.pointer (some ⟨gb,off+k * 7,none⟩)),Spc.eq (.pointer (some ⟨gb,off+k * 7,none⟩)),Spc.eq (.int .i64 xi),Spc.eq (.bool false),Spc.eq (.bool false),Spc.eq (.bool false),Spc.eq (.int .i64 (k:Nat)),Spc.eq (.bool true),Spc.eq (.bool true),Spc.eq (.slice (some ⟨gb,off,none⟩) l.length cc),Spc.eq (.int .i64 (k:Nat)),Spc.eq (.pointer (some ⟨gb,off+k * 7,none⟩)),Spc.eq (.pointer (some ⟨gb,off+k * 7,none⟩)),Spc.eq (.int .i64 xi),Spc.eq (.slice (some ⟨gb,off,none⟩) l.length cc),Spc.eq (.int .i64 (k:Nat)),Spc.eq (.int .i64 (k1:Nat)),Spc.eq (.pointer (some ⟨gb,off+k1 * 7,none⟩)),Spc.eq (.pointer (some ⟨gb,off+k1 * 7,none⟩)),Spc.eq (.int .i64 yi),Spc.eq (.bool false),Spc.eq (.bool false),Spc.eq (.bool false),Spc.eq (.bool false),Spc.eq (.slice (some ⟨gb,off,none⟩) l.length cc),Spc.eq (.int .i64 (k:Nat)),Spc.eq (.pointer (some ⟨gb,off+k * 7,none⟩)),Spc.eq (.pointer (some ⟨gb,off+k * 7+1,none⟩)),Spc.eq (.string xm),Spc.eq (.bool true),Spc.eq (.bool false),Spc.eq (.bool false),Spc.eq (.bool false),Spc.eq (.slice (some ⟨gb,off,none⟩) l.length cc),Spc.eq (.int .i64 (k:Nat)),Spc.eq (.pointer (some ⟨gb,off+k * 7,none⟩)),Spc.eq (.pointer (some ⟨gb,off+k * 7+2,none⟩)),Spc.eq (.agg #[.int .i64 xk,.bool xu]),Spc.eq (.slice (some ⟨gb,off,none⟩) l.length cc),Spc.eq (.int .i64 (k:Nat)),Spc.eq (.pointer (some ⟨gb,off+k * 7,none⟩)),Spc.eq (.pointer (some ⟨gb,off+k * 7+4,none⟩)),Spc.eq (.agg #[.bool xa,.int .i64 xb,.string xc]),Spc.eq (.int .i64 (e0:Nat)),Spc.eq (.bool true),Spc.eq (.bool true)]) [30,31,32,33,34,35,36,37,38,39,40,41,42,43,44,45,46,47,48,49,50,51,52,53,54,55,56,57,58,59,60,61,62,63,64,65,66,67,68,69,70,71,72,73,74,75,76,77,78,79,80,81,82,83,84] (fun ts u=>ts.getD 84 undef=.bool true∧Below wr.heap.size wr u) (by kernel_rfl) (by kernel_rfl) (by kernel_rfl) kjI_later trivial ?_ ?_ ?_
            ·intro QQ fd jo o a w1 ho hfd hdd hI hb hs hold hdep
             have hjo:jo < 55:=(Array.getElem?_eq_some_iff.1 ho).1
             have hb':Below wr.heap.size wr w1:=up (Below.refl _ _).drew hb
             have p0':w1.cell? ⟨gb,off+k * 7,none⟩=some (.int .i64 xi):=(hb'.cell (p:=⟨gb,off+k * 7,none⟩) (cell_lt p0)).trans p0
             have p1':w1.cell? ⟨gb,off+k * 7+1,none⟩=some (.string xm):=(hb'.cell (p:=⟨gb,off+k * 7+1,none⟩) (cell_lt p1)).trans p1
             have p2':w1.cell? ⟨gb,off+k * 7+2,none⟩=some (.int .i64 xk):=(hb'.cell (p:=⟨gb,off+k * 7+2,none⟩) (cell_lt p2)).trans p2
             have p3':w1.cell? ⟨gb,off+k * 7+3,none⟩=some (.bool xu):=(hb'.cell (p:=⟨gb,off+k * 7+3,none⟩) (cell_lt p3)).trans p3
             have p4':w1.cell? ⟨gb,off+k * 7+4,none⟩=some (.bool xa):=(hb'.cell (p:=⟨gb,off+k * 7+4,none⟩) (cell_lt p4)).trans p4
             have p5':w1.cell? ⟨gb,off+k * 7+5,none⟩=some (.int .i64 xb):=(hb'.cell (p:=⟨gb,off+k * 7+5,none⟩) (cell_lt p5)).trans p5
             have p6':w1.cell? ⟨gb,off+k * 7+6,none⟩=some (.string xc):=(hb'.cell (p:=⟨gb,off+k * 7+6,none⟩) (cell_lt p6)).trans p6
             have y0':w1.cell? ⟨gb,off+k1 * 7,none⟩=some (.int .i64 yi):=(hb'.cell (p:=⟨gb,off+k1 * 7,none⟩) (cell_lt y0)).trans y0
             clear p0 p1 p2 p3 p4 p5 p6 y0
             have e3:a.eval (.tmp 3)=.slice (some ⟨gb,off,none⟩) l.length cc:=by
              show a.tmps.getD 3 undef=_
              rw [Array.getD_eq_getD_getElem?,hold 3 (by decide +kernel)];rfl
             have e4:a.eval (.tmp 4)=.int .i64 (k:Nat):=by
              show a.tmps.getD 4 undef=_
              rw [Array.getD_eq_getD_getElem?,hold 4 (by decide +kernel)];rfl
             have ec:∀ v,a.eval (.const v)=v:=fun _=>rfl
             clear hold hs
             rcases (show jo=0 ∨ jo=1 ∨ jo=2 ∨ jo=3 ∨ jo=4 ∨ jo=5 ∨ jo=6 ∨ jo=7 ∨ jo=8 ∨ jo=9 ∨ jo=10 ∨ jo=11 ∨ jo=12 ∨ jo=13 ∨ jo=14 ∨ jo=15 ∨ jo=16 ∨ jo=17 ∨ jo=18 ∨ jo=19 ∨ jo=20 ∨ jo=21 ∨ jo=22 ∨ jo=23 ∨ jo=24 ∨ jo=25 ∨ jo=26 ∨ jo=27 ∨ jo=28 ∨ jo=29 ∨ jo=30 ∨ jo=31 ∨ jo=32 ∨ jo=33 ∨ jo=34 ∨ jo=35 ∨ jo=36 ∨ jo=37 ∨ jo=38 ∨ jo=39 ∨ jo=40 ∨ jo=41 ∨ jo=42 ∨ jo=43 ∨ jo=44 ∨ jo=45 ∨ jo=46 ∨ jo=47 ∨ jo=48 ∨ jo=49 ∨ jo=50 ∨ jo=51 ∨ jo=52 ∨ jo=53 ∨ jo=54 by omega) with rfl|rfl|rfl|rfl|rfl|rfl|rfl|rfl|rfl|rfl|rfl|rfl|rfl|rfl|rfl|rfl|rfl|rfl|rfl|rfl|rfl|rfl|rfl|rfl|rfl|rfl|rfl|rfl|rfl|rfl|rfl|rfl|rfl|rfl|rfl|rfl|rfl|rfl|rfl|rfl|rfl|rfl|rfl|rfl|rfl|rfl|rfl|rfl|rfl|rfl|rfl|rfl|rfl|rfl|rfl
             all_goals (have ho2:=ho;simp only [List.getElem?_toArray,zD,zE,Option.some.injEq] at ho2;subst ho2)
             all_goals first|(refine (fun (eg:a.tmps.getD 36 undef=.bool false)=>?_) (hdep ⟨6,.guard⟩ ?_ rfl);rotate_left;focus (simp<;>fail))|(refine (fun (eg:a.tmps.getD 44 undef=.bool false)=>?_) (hdep ⟨14,.guard⟩ ?_ rfl);rotate_left;focus (simp<;>fail))|(refine (fun (eg:a.tmps.getD 47 undef=.bool true)=>?_) (hdep ⟨17,.guard⟩ ?_ rfl);rotate_left;focus (simp<;>fail))|(refine (fun (eg:a.tmps.getD 62 undef=.bool false)=>?_) (hdep ⟨32,.guard⟩ ?_ rfl);rotate_left;focus (simp<;>fail))|(refine (fun (eg:a.tmps.getD 71 undef=.bool false)=>?_) (hdep ⟨41,.guard⟩ ?_ rfl);rotate_left;focus (simp<;>fail))|skip
             refine gvT fd (.slice (some ⟨gb,off,none⟩) l.length cc) ho rfl ?_ rfl;rotate_left
             refine gvT fd (.int .i64 (k:Nat)) ho rfl ?_ rfl;rotate_left
             have d0:a.eval (.tmp 30)=.slice (some ⟨gb,off,none⟩) l.length cc:=hdep ⟨0,.data⟩ (by simp) rfl;have d1:a.eval (.tmp 31)=.int .i64 (k:Nat):=hdep ⟨1,.data⟩ (by simp) rfl;refine gvT fd (.pointer (some ⟨gb,off+k * 7,none⟩)) ho rfl ?_ rfl;rotate_left
             have d0:a.eval (.tmp 32)=.pointer (some ⟨gb,off+k * 7,none⟩):=hdep ⟨2,.data⟩ (by simp) rfl;refine gvT fd (.pointer (some ⟨gb,off+k * 7,none⟩)) ho rfl ?_ rfl;rotate_left
             have d0:a.eval (.tmp 33)=.pointer (some ⟨gb,off+k * 7,none⟩):=hdep ⟨3,.data⟩ (by simp) rfl;refine gvT fd (.int .i64 xi) ho rfl ?_ rfl;rotate_left
             have d0:a.eval (.tmp 34)=.int .i64 xi:=hdep ⟨4,.data⟩ (by simp) rfl;refine gvT fd (.bool false) ho rfl ?_ rfl;rotate_left
             have d0:a.eval (.tmp 35)=.bool false:=hdep ⟨5,.data⟩ (by simp) rfl;refine gvT fd (.bool false) ho rfl ?_ rfl;rotate_left
             refine gvT fd (.slice (some ⟨gb,off,none⟩) l.length cc) ho (wantedI rfl (yieldedI rfl eg)) ?_ rfl;rotate_left
             refine gvT fd (.int .i64 (k:Nat)) ho (wantedI rfl (yieldedI rfl eg)) ?_ rfl;rotate_left
             have d0:a.eval (.tmp 37)=.slice (some ⟨gb,off,none⟩) l.length cc:=hdep ⟨7,.data⟩ (by simp) rfl;have d1:a.eval (.tmp 38)=.int .i64 (k:Nat):=hdep ⟨8,.data⟩ (by simp) rfl;refine gvT fd (.pointer (some ⟨gb,off+k * 7,none⟩)) ho (wantedI rfl (yieldedI rfl eg)) ?_ rfl;rotate_left
             have d0:a.eval (.tmp 39)=.pointer (some ⟨gb,off+k * 7,none⟩):=hdep ⟨9,.data⟩ (by simp) rfl;refine gvT fd (.pointer (some ⟨gb,off+k * 7,none⟩)) ho (wantedI rfl (yieldedI rfl eg)) ?_ rfl;rotate_left
             have d0:a.eval (.tmp 40)=.pointer (some ⟨gb,off+k * 7,none⟩):=hdep ⟨10,.data⟩ (by simp) rfl;refine gvT fd (.int .i64 xi) ho (wantedI rfl (yieldedI rfl eg)) ?_ rfl;rotate_left
             have d0:a.eval (.tmp 41)=.int .i64 xi:=hdep ⟨11,.data⟩ (by simp) rfl;refine gvT fd (.bool false) ho (wantedI rfl (yieldedI rfl eg)) ?_ rfl;rotate_left
             have d0:a.eval (.tmp 36)=.bool false:=hdep ⟨6,.data⟩ (by simp) rfl;have d1:a.eval (.tmp 42)=.bool false:=hdep ⟨12,.data⟩ (by simp) rfl;refine gvT fd (.bool false) ho rfl ?_ rfl;rotate_left
             have d0:a.eval (.tmp 43)=.bool false:=hdep ⟨13,.data⟩ (by simp) rfl;refine gvT fd (.bool false) ho rfl ?_ rfl;rotate_left
             refine gvT fd (.int .i64 (k:Nat)) ho (wantedI rfl (yieldedI rfl eg)) ?_ rfl;rotate_left
             have d0:a.eval (.tmp 45)=.int .i64 (k:Nat):=hdep ⟨15,.data⟩ (by simp) rfl;refine gvT fd (.bool true) ho (wantedI rfl (yieldedI rfl eg)) ?_ rfl;rotate_left
             have d0:a.eval (.tmp 46)=.bool true:=hdep ⟨16,.data⟩ (by simp) rfl;refine gvT fd (.bool true) ho (wantedI rfl (yieldedI rfl eg)) ?_ rfl;rotate_left
             refine gvT fd (.slice (some ⟨gb,off,none⟩) l.length cc) ho (wantedI rfl (yieldedI rfl eg)) ?_ rfl;rotate_left
             refine gvT fd (.int .i64 (k:Nat)) ho (wantedI rfl (yieldedI rfl eg)) ?_ rfl;rotate_left
             have d0:a.eval (.tmp 48)=.slice (some ⟨gb,off,none⟩) l.length cc:=hdep ⟨18,.data⟩ (by simp) rfl;have d1:a.eval (.tmp 49)=.int .i64 (k:Nat):=hdep ⟨19,.data⟩ (by simp) rfl;refine gvT fd (.pointer (some ⟨gb,off+k * 7,none⟩)) ho (wantedI rfl (yieldedI rfl eg)) ?_ rfl;rotate_left
             have d0:a.eval (.tmp 50)=.pointer (some ⟨gb,off+k * 7,none⟩):=hdep ⟨20,.data⟩ (by simp) rfl;refine gvT fd (.pointer (some ⟨gb,off+k * 7,none⟩)) ho (wantedI rfl (yieldedI rfl eg)) ?_ rfl;rotate_left
             have d0:a.eval (.tmp 51)=.pointer (some ⟨gb,off+k * 7,none⟩):=hdep ⟨21,.data⟩ (by simp) rfl;refine gvT fd (.int .i64 xi) ho (wantedI rfl (yieldedI rfl eg)) ?_ rfl;rotate_left
             refine gvT fd (.slice (some ⟨gb,off,none⟩) l.length cc) ho (wantedI rfl (yieldedI rfl eg)) ?_ rfl;rotate_left
             refine gvT fd (.int .i64 (k:Nat)) ho (wantedI rfl (yieldedI rfl eg)) ?_ rfl;rotate_left
             ·have d0:a.eval (.tmp 54)=.int .i64 (k:Nat):=hdep ⟨24,.data⟩ (by simp) rfl
              refine gvT fd (.int .i64 (k1:Nat)) ho (wantedI rfl (yieldedI rfl eg)) ?_ rfl
              unfold execOp;simp only [zA,zB,zC,d0,ec];first|(go_simp;done)|(go_simp;rw [hwk])|(go_simp;exact hwk)|(go_simp;omega)
             have d0:a.eval (.tmp 53)=.slice (some ⟨gb,off,none⟩) l.length cc:=hdep ⟨23,.data⟩ (by simp) rfl;have d1:a.eval (.tmp 55)=.int .i64 (k1:Nat):=hdep ⟨25,.data⟩ (by simp) rfl;refine gvT fd (.pointer (some ⟨gb,off+k1 * 7,none⟩)) ho (wantedI rfl (yieldedI rfl eg)) ?_ rfl;rotate_left
             have d0:a.eval (.tmp 56)=.pointer (some ⟨gb,off+k1 * 7,none⟩):=hdep ⟨26,.data⟩ (by simp) rfl;refine gvT fd (.pointer (some ⟨gb,off+k1 * 7,none⟩)) ho (wantedI rfl (yieldedI rfl eg)) ?_ rfl;rotate_left
             have d0:a.eval (.tmp 57)=.pointer (some ⟨gb,off+k1 * 7,none⟩):=hdep ⟨27,.data⟩ (by simp) rfl;refine gvT fd (.int .i64 yi) ho (wantedI rfl (yieldedI rfl eg)) ?_ rfl;rotate_left
             have d0:a.eval (.tmp 52)=.int .i64 xi:=hdep ⟨22,.data⟩ (by simp) rfl;have d1:a.eval (.tmp 58)=.int .i64 yi:=hdep ⟨28,.data⟩ (by simp) rfl;refine gvT fd (.bool false) ho (wantedI rfl (yieldedI rfl eg)) ?_ rfl;rotate_left
             have d0:a.eval (.tmp 47)=.bool true:=hdep ⟨17,.data⟩ (by simp) rfl;have d1:a.eval (.tmp 59)=.bool false:=hdep ⟨29,.data⟩ (by simp) rfl;refine gvT fd (.bool false) ho (wantedI rfl (yieldedI rfl eg)) ?_ rfl;rotate_left
             have d0:a.eval (.tmp 44)=.bool false:=hdep ⟨14,.data⟩ (by simp) rfl;have d1:a.eval (.tmp 60)=.bool false:=hdep ⟨30,.data⟩ (by simp) rfl;refine gvT fd (.bool false) ho rfl ?_ rfl;rotate_left
             have d0:a.eval (.tmp 61)=.bool false:=hdep ⟨31,.data⟩ (by simp) rfl;refine gvT fd (.bool false) ho rfl ?_ rfl;rotate_left
             refine gvT fd (.slice (some ⟨gb,off,none⟩) l.length cc) ho (wantedI rfl (yieldedI rfl eg)) ?_ rfl;rotate_left
             refine gvT fd (.int .i64 (k:Nat)) ho (wantedI rfl (yieldedI rfl eg)) ?_ rfl;rotate_left
             have d0:a.eval (.tmp 63)=.slice (some ⟨gb,off,none⟩) l.length cc:=hdep ⟨33,.data⟩ (by simp) rfl;have d1:a.eval (.tmp 64)=.int .i64 (k:Nat):=hdep ⟨34,.data⟩ (by simp) rfl;refine gvT fd (.pointer (some ⟨gb,off+k * 7,none⟩)) ho (wantedI rfl (yieldedI rfl eg)) ?_ rfl;rotate_left
             have d0:a.eval (.tmp 65)=.pointer (some ⟨gb,off+k * 7,none⟩):=hdep ⟨35,.data⟩ (by simp) rfl;refine gvT fd (.pointer (some ⟨gb,off+k * 7+1,none⟩)) ho (wantedI rfl (yieldedI rfl eg)) ?_ rfl;rotate_left
             have d0:a.eval (.tmp 66)=.pointer (some ⟨gb,off+k * 7+1,none⟩):=hdep ⟨36,.data⟩ (by simp) rfl;refine gvT fd (.string xm) ho (wantedI rfl (yieldedI rfl eg)) ?_ rfl;rotate_left
             ·have d0:a.eval (.tmp 67)=.string xm:=hdep ⟨37,.data⟩ (by simp) rfl
              refine growI_call (I:=(fun _ _=>True)) (X:=(fun _ _ _=>True)) (d:=fd) (a:=a) (w:=w1) 67 #[.string xm] ho (wantedI rfl (yieldedI rfl eg)) ?_ ((HIN.out w1).mono ?_)
              ·unfold execOp resolve
               simp only [zA,zB,zC,d0,ec]
               rfl
              ·rintro e c1 ⟨rfl,rfl⟩
               exact⟨_,rfl,rfl,(Below.refl _ _),trivial,trivial⟩
             have d0:a.eval (.tmp 68)=.bool true:=hdep ⟨38,.data⟩ (by simp) rfl;refine gvT fd (.bool false) ho (wantedI rfl (yieldedI rfl eg)) ?_ rfl;rotate_left
             have d0:a.eval (.tmp 62)=.bool false:=hdep ⟨32,.data⟩ (by simp) rfl;have d1:a.eval (.tmp 69)=.bool false:=hdep ⟨39,.data⟩ (by simp) rfl;refine gvT fd (.bool false) ho rfl ?_ rfl;rotate_left
             have d0:a.eval (.tmp 70)=.bool false:=hdep ⟨40,.data⟩ (by simp) rfl;refine gvT fd (.bool false) ho rfl ?_ rfl;rotate_left
             refine gvT fd (.slice (some ⟨gb,off,none⟩) l.length cc) ho (wantedI rfl (yieldedI rfl eg)) ?_ rfl;rotate_left
             refine gvT fd (.int .i64 (k:Nat)) ho (wantedI rfl (yieldedI rfl eg)) ?_ rfl;rotate_left
             have d0:a.eval (.tmp 72)=.slice (some ⟨gb,off,none⟩) l.length cc:=hdep ⟨42,.data⟩ (by simp) rfl;have d1:a.eval (.tmp 73)=.int .i64 (k:Nat):=hdep ⟨43,.data⟩ (by simp) rfl;refine gvT fd (.pointer (some ⟨gb,off+k * 7,none⟩)) ho (wantedI rfl (yieldedI rfl eg)) ?_ rfl;rotate_left
             have d0:a.eval (.tmp 74)=.pointer (some ⟨gb,off+k * 7,none⟩):=hdep ⟨44,.data⟩ (by simp) rfl;refine gvT fd (.pointer (some ⟨gb,off+k * 7+2,none⟩)) ho (wantedI rfl (yieldedI rfl eg)) ?_ rfl;rotate_left
             have d0:a.eval (.tmp 75)=.pointer (some ⟨gb,off+k * 7+2,none⟩):=hdep ⟨45,.data⟩ (by simp) rfl;refine gvT fd (.agg #[.int .i64 xk,.bool xu]) ho (wantedI rfl (yieldedI rfl eg)) ?_ rfl;rotate_left
             refine gvT fd (.slice (some ⟨gb,off,none⟩) l.length cc) ho (wantedI rfl (yieldedI rfl eg)) ?_ rfl;rotate_left
             refine gvT fd (.int .i64 (k:Nat)) ho (wantedI rfl (yieldedI rfl eg)) ?_ rfl;rotate_left
             have d0:a.eval (.tmp 77)=.slice (some ⟨gb,off,none⟩) l.length cc:=hdep ⟨47,.data⟩ (by simp) rfl;have d1:a.eval (.tmp 78)=.int .i64 (k:Nat):=hdep ⟨48,.data⟩ (by simp) rfl;refine gvT fd (.pointer (some ⟨gb,off+k * 7,none⟩)) ho (wantedI rfl (yieldedI rfl eg)) ?_ rfl;rotate_left
             have d0:a.eval (.tmp 79)=.pointer (some ⟨gb,off+k * 7,none⟩):=hdep ⟨49,.data⟩ (by simp) rfl;refine gvT fd (.pointer (some ⟨gb,off+k * 7+4,none⟩)) ho (wantedI rfl (yieldedI rfl eg)) ?_ rfl;rotate_left
             have d0:a.eval (.tmp 80)=.pointer (some ⟨gb,off+k * 7+4,none⟩):=hdep ⟨50,.data⟩ (by simp) rfl;refine gvT fd (.agg #[.bool xa,.int .i64 xb,.string xc]) ho (wantedI rfl (yieldedI rfl eg)) ?_ rfl;rotate_left
             ·have d0:a.eval (.tmp 76)=.agg #[.int .i64 xk,.bool xu]:=hdep ⟨46,.data⟩ (by simp) rfl
              have d1:a.eval (.tmp 81)=.agg #[.bool xa,.int .i64 xb,.string xc]:=hdep ⟨51,.data⟩ (by simp) rfl
              refine growI_call (I:=(fun _ _=>True)) (X:=(fun _ _ _=>True)) (d:=fd) (a:=a) (w:=w1) 65 #[.agg #[.int .i64 xk,.bool xu],.agg #[.bool xa,.int .i64 xb,.string xc]] ho (wantedI rfl (yieldedI rfl eg)) ?_ ((HCH.out w1).mono ?_)
              ·unfold execOp resolve
               simp only [zA,zB,zC,d0,d1,ec]
               rfl
              ·rintro e c1 ⟨rfl,hb2⟩
               exact⟨_,rfl,rfl,hb2,trivial,trivial⟩
             have d0:a.eval (.tmp 82)=.int .i64 (e0:Nat):=hdep ⟨52,.data⟩ (by simp) rfl;refine gvT fd (.bool true) ho (wantedI rfl (yieldedI rfl eg)) ?_ rfl;rotate_left
             have d0:a.eval (.tmp 71)=.bool false:=hdep ⟨41,.data⟩ (by simp) rfl;have d1:a.eval (.tmp 83)=.bool true:=hdep ⟨53,.data⟩ (by simp) rfl;refine gvT fd (.bool true) ho rfl ?_ rfl;rotate_left
             all_goals (unfold execOp;first|(simp only [zA,zB,zC,d0,d1,ec];first|rfl|(go_simp;first|done|rfl|omega))|(simp only [zA,zB,zC,d0,ec];first|rfl|(go_simp;first|done|rfl|omega))|(simp only [zA,zB,zC,e3,ec];first|rfl|(go_simp;first|done|rfl|omega))|(simp only [zA,zB,zC,e4,ec];first|rfl|(go_simp;first|done|rfl|omega)))
            ·intro a w1 hI hb hj
             have hb':Below wr.heap.size wr w1:=up (Below.refl _ _).drew hb
             exact⟨hj 54 (by decide),hb'⟩
            rintro ts w7 ⟨h84,hb7⟩
            simp only [fill,List.setIfInBounds_toArray,List.set_cons_succ,List.set_cons_zero]
            rw [h84]
            have HU7:=hZ (up HU.out hb7)
            have hd2:=HD.out
            rw [Sc.ck_no (.inl (Sc.okC_no HCX.out (Sc.okAt_false (fun hh=>by have:=hh.2.2.1;rw [HE.out] at this;exact hE this))))] at hd2
            subst hd2
            clear h84 hb7
            go_wp2_with fail
            go_ret
            exact⟨rfl,HU7.out⟩
        ·cases N with
         | false =>
          go_upto_region 7 with fail
          refine region_growI_merge (fun u v:World=>Below u.heap.size u v) (fun _ _=>True) (fun _ _ _=>True) (fun u=>Below.refl _ _) (fun _ _ _ h k=>up h k) (kjI #[Spc.eq (.slice (some ⟨gb,off,none⟩) l.length cc),Spc.eq (.int .i64 (k:Nat)),Spc.eq (.pointer (some ⟨gb,off+k * 7,none⟩)),Spc.eq (.pointer (some ⟨gb,off+k * 7,none⟩)),Spc.eq (.int .i64 xi),Spc.eq (.bool false),Spc.eq (.bool false),Spc.eq (.slice (some ⟨gb,off,none⟩) l.length cc),Spc.eq (.int .i64 (k:Nat)),Spc.eq (.pointer (some ⟨gb,off+k * 7,none⟩)),Spc.eq (.pointer (some ⟨gb,off+k * 7,none⟩)),Spc.eq (.int .i64 xi),Spc.eq (.bool false),Spc.eq (.bool false),Spc.eq (.bool false),Spc.eq (.int .i64 (k:Nat)),Spc.eq (.bool false),Spc.eq (.bool false),Spc.eq undef,Spc.eq undef,Spc.eq undef,Spc.eq undef,Spc.eq undef,Spc.eq undef,Spc.eq undef,Spc.eq undef,Spc.eq undef,Spc.eq undef,Spc.eq undef,Spc.eq undef,Spc.eq (.bool false),Spc.eq (.bool false),Spc.eq (.bool false),Spc.eq (.slice (some ⟨gb,off,none⟩) l.length cc),Spc.eq (.int .i64 (k:Nat)),Spc.eq (.pointer (some ⟨gb,off+k * 7,none⟩)),Spc.eq (.pointer (some ⟨gb,off+k * 7+1,none⟩)),Spc.eq (.string xm),Spc.eq (.bool false),Spc.eq (.bool true),Spc.eq (.bool true),Spc.eq (.bool true),Spc.eq undef,Spc.eq undef,Spc.eq undef,Spc.eq undef,Spc.eq undef,Spc.eq undef,Spc.eq undef,Spc.eq undef,Spc.eq undef,Spc.eq undef,Spc.eq undef,Spc.eq undef,Spc.eq (.bool true)]) [30,31,32,33,34,35,36,37,38,39,40,41,42,43,44,45,46,47,48,49,50,51,52,53,54,55,56,57,58,59,60,61,62,63,64,65,66,67,68,69,70,71,72,73,74,75,76,77,78,79,80,81,82,83,84] (fun ts u=>ts.getD 84 undef=.bool true∧Below wr.heap.size wr u) (by kernel_rfl) (by kernel_rfl) (by kernel_rfl) kjI_later trivial ?_ ?_ ?_
          ·intro QQ fd jo o a w1 ho hfd hdd hI hb hs hold hdep
           have hjo:jo < 55:=(Array.getElem?_eq_some_iff.1 ho).1
           have hb':Below wr.heap.size wr w1:=up (Below.refl _ _).drew hb
           have p0':w1.cell? ⟨gb,off+k * 7,none⟩=some (.int .i64 xi):=(hb'.cell (p:=⟨gb,off+k * 7,none⟩) (cell_lt p0)).trans p0
           have p1':w1.cell? ⟨gb,off+k * 7+1,none⟩=some (.string xm):=(hb'.cell (p:=⟨gb,off+k * 7+1,none⟩) (cell_lt p1)).trans p1
           have p2':w1.cell? ⟨gb,off+k * 7+2,none⟩=some (.int .i64 xk):=(hb'.cell (p:=⟨gb,off+k * 7+2,none⟩) (cell_lt p2)).trans p2
           have p3':w1.cell? ⟨gb,off+k * 7+3,none⟩=some (.bool xu):=(hb'.cell (p:=⟨gb,off+k * 7+3,none⟩) (cell_lt p3)).trans p3
           have p4':w1.cell? ⟨gb,off+k * 7+4,none⟩=some (.bool xa):=(hb'.cell (p:=⟨gb,off+k * 7+4,none⟩) (cell_lt p4)).trans p4
           have p5':w1.cell? ⟨gb,off+k * 7+5,none⟩=some (.int .i64 xb):=(hb'.cell (p:=⟨gb,off+k * 7+5,none⟩) (cell_lt p5)).trans p5
           have p6':w1.cell? ⟨gb,off+k * 7+6,none⟩=some (.string xc):=(hb'.cell (p:=⟨gb,off+k * 7+6,none⟩) (cell_lt p6)).trans p6
           clear p0 p1 p2 p3 p4 p5 p6
           have e3:a.eval (.tmp 3)=.slice (some ⟨gb,off,none⟩) l.length cc:=by
            show a.tmps.getD 3 undef=_
            rw [Array.getD_eq_getD_getElem?,hold 3 (by decide +kernel)];rfl
           have e4:a.eval (.tmp 4)=.int .i64 (k:Nat):=by
            show a.tmps.getD 4 undef=_
            rw [Array.getD_eq_getD_getElem?,hold 4 (by decide +kernel)];rfl
           have ec:∀ v,a.eval (.const v)=v:=fun _=>rfl
           clear hold hs
           rcases (show jo=0 ∨ jo=1 ∨ jo=2 ∨ jo=3 ∨ jo=4 ∨ jo=5 ∨ jo=6 ∨ jo=7 ∨ jo=8 ∨ jo=9 ∨ jo=10 ∨ jo=11 ∨ jo=12 ∨ jo=13 ∨ jo=14 ∨ jo=15 ∨ jo=16 ∨ jo=17 ∨ jo=18 ∨ jo=19 ∨ jo=20 ∨ jo=21 ∨ jo=22 ∨ jo=23 ∨ jo=24 ∨ jo=25 ∨ jo=26 ∨ jo=27 ∨ jo=28 ∨ jo=29 ∨ jo=30 ∨ jo=31 ∨ jo=32 ∨ jo=33 ∨ jo=34 ∨ jo=35 ∨ jo=36 ∨ jo=37 ∨ jo=38 ∨ jo=39 ∨ jo=40 ∨ jo=41 ∨ jo=42 ∨ jo=43 ∨ jo=44 ∨ jo=45 ∨ jo=46 ∨ jo=47 ∨ jo=48 ∨ jo=49 ∨ jo=50 ∨ jo=51 ∨ jo=52 ∨ jo=53 ∨ jo=54 by omega) with rfl|rfl|rfl|rfl|rfl|rfl|rfl|rfl|rfl|rfl|rfl|rfl|rfl|rfl|rfl|rfl|rfl|rfl|rfl|rfl|rfl|rfl|rfl|rfl|rfl|rfl|rfl|rfl|rfl|rfl|rfl|rfl|rfl|rfl|rfl|rfl|rfl|rfl|rfl|rfl|rfl|rfl|rfl|rfl|rfl|rfl|rfl|rfl|rfl|rfl|rfl|rfl|rfl|rfl|rfl
           all_goals (have ho2:=ho;simp only [List.getElem?_toArray,zD,zE,Option.some.injEq] at ho2;subst ho2)
           all_goals first|(refine (fun (eg:a.tmps.getD 36 undef=.bool false)=>?_) (hdep ⟨6,.guard⟩ ?_ rfl);rotate_left;focus (simp<;>fail))|(refine (fun (eg:a.tmps.getD 44 undef=.bool false)=>?_) (hdep ⟨14,.guard⟩ ?_ rfl);rotate_left;focus (simp<;>fail))|(refine (fun (eg:a.tmps.getD 62 undef=.bool false)=>?_) (hdep ⟨32,.guard⟩ ?_ rfl);rotate_left;focus (simp<;>fail))|skip
           refine gvT fd (.slice (some ⟨gb,off,none⟩) l.length cc) ho rfl ?_ rfl;rotate_left
           refine gvT fd (.int .i64 (k:Nat)) ho rfl ?_ rfl;rotate_left
           have d0:a.eval (.tmp 30)=.slice (some ⟨gb,off,none⟩) l.length cc:=hdep ⟨0,.data⟩ (by simp) rfl;have d1:a.eval (.tmp 31)=.int .i64 (k:Nat):=hdep ⟨1,.data⟩ (by simp) rfl;refine gvT fd (.pointer (some ⟨gb,off+k * 7,none⟩)) ho rfl ?_ rfl;rotate_left
           have d0:a.eval (.tmp 32)=.pointer (some ⟨gb,off+k * 7,none⟩):=hdep ⟨2,.data⟩ (by simp) rfl;refine gvT fd (.pointer (some ⟨gb,off+k * 7,none⟩)) ho rfl ?_ rfl;rotate_left
           have d0:a.eval (.tmp 33)=.pointer (some ⟨gb,off+k * 7,none⟩):=hdep ⟨3,.data⟩ (by simp) rfl;refine gvT fd (.int .i64 xi) ho rfl ?_ rfl;rotate_left
           have d0:a.eval (.tmp 34)=.int .i64 xi:=hdep ⟨4,.data⟩ (by simp) rfl;refine gvT fd (.bool false) ho rfl ?_ rfl;rotate_left
           have d0:a.eval (.tmp 35)=.bool false:=hdep ⟨5,.data⟩ (by simp) rfl;refine gvT fd (.bool false) ho rfl ?_ rfl;rotate_left
           refine gvT fd (.slice (some ⟨gb,off,none⟩) l.length cc) ho (wantedI rfl (yieldedI rfl eg)) ?_ rfl;rotate_left
           refine gvT fd (.int .i64 (k:Nat)) ho (wantedI rfl (yieldedI rfl eg)) ?_ rfl;rotate_left
           have d0:a.eval (.tmp 37)=.slice (some ⟨gb,off,none⟩) l.length cc:=hdep ⟨7,.data⟩ (by simp) rfl;have d1:a.eval (.tmp 38)=.int .i64 (k:Nat):=hdep ⟨8,.data⟩ (by simp) rfl;refine gvT fd (.pointer (some ⟨gb,off+k * 7,none⟩)) ho (wantedI rfl (yieldedI rfl eg)) ?_ rfl;rotate_left
           have d0:a.eval (.tmp 39)=.pointer (some ⟨gb,off+k * 7,none⟩):=hdep ⟨9,.data⟩ (by simp) rfl;refine gvT fd (.pointer (some ⟨gb,off+k * 7,none⟩)) ho (wantedI rfl (yieldedI rfl eg)) ?_ rfl;rotate_left
           have d0:a.eval (.tmp 40)=.pointer (some ⟨gb,off+k * 7,none⟩):=hdep ⟨10,.data⟩ (by simp) rfl;refine gvT fd (.int .i64 xi) ho (wantedI rfl (yieldedI rfl eg)) ?_ rfl;rotate_left
           have d0:a.eval (.tmp 41)=.int .i64 xi:=hdep ⟨11,.data⟩ (by simp) rfl;refine gvT fd (.bool false) ho (wantedI rfl (yieldedI rfl eg)) ?_ rfl;rotate_left
           have d0:a.eval (.tmp 36)=.bool false:=hdep ⟨6,.data⟩ (by simp) rfl;have d1:a.eval (.tmp 42)=.bool false:=hdep ⟨12,.data⟩ (by simp) rfl;refine gvT fd (.bool false) ho rfl ?_ rfl;rotate_left
           have d0:a.eval (.tmp 43)=.bool false:=hdep ⟨13,.data⟩ (by simp) rfl;refine gvT fd (.bool false) ho rfl ?_ rfl;rotate_left
           refine gvT fd (.int .i64 (k:Nat)) ho (wantedI rfl (yieldedI rfl eg)) ?_ rfl;rotate_left
           have d0:a.eval (.tmp 45)=.int .i64 (k:Nat):=hdep ⟨15,.data⟩ (by simp) rfl;refine gvT fd (.bool false) ho (wantedI rfl (yieldedI rfl eg)) ?_ rfl;rotate_left
           have d0:a.eval (.tmp 46)=.bool false:=hdep ⟨16,.data⟩ (by simp) rfl;refine gvT fd (.bool false) ho (wantedI rfl (yieldedI rfl eg)) ?_ rfl;rotate_left
           iterate 12 (have eg:a.tmps.getD 47 undef=.bool false:=hdep ⟨17,.guard⟩ (by simp) rfl;exact gnT fd ho (unwantedI rfl (yieldedI rfl eg) (by decide)) rfl)
           have d0:a.eval (.tmp 47)=.bool false:=hdep ⟨17,.data⟩ (by simp) rfl;have d1:a.eval (.tmp 59)=undef:=hdep ⟨29,.data⟩ (by simp) rfl;refine gvT fd (.bool false) ho (wantedI rfl (yieldedI rfl eg)) ?_ rfl;rotate_left
           have d0:a.eval (.tmp 44)=.bool false:=hdep ⟨14,.data⟩ (by simp) rfl;have d1:a.eval (.tmp 60)=.bool false:=hdep ⟨30,.data⟩ (by simp) rfl;refine gvT fd (.bool false) ho rfl ?_ rfl;rotate_left
           have d0:a.eval (.tmp 61)=.bool false:=hdep ⟨31,.data⟩ (by simp) rfl;refine gvT fd (.bool false) ho rfl ?_ rfl;rotate_left
           refine gvT fd (.slice (some ⟨gb,off,none⟩) l.length cc) ho (wantedI rfl (yieldedI rfl eg)) ?_ rfl;rotate_left
           refine gvT fd (.int .i64 (k:Nat)) ho (wantedI rfl (yieldedI rfl eg)) ?_ rfl;rotate_left
           have d0:a.eval (.tmp 63)=.slice (some ⟨gb,off,none⟩) l.length cc:=hdep ⟨33,.data⟩ (by simp) rfl;have d1:a.eval (.tmp 64)=.int .i64 (k:Nat):=hdep ⟨34,.data⟩ (by simp) rfl;refine gvT fd (.pointer (some ⟨gb,off+k * 7,none⟩)) ho (wantedI rfl (yieldedI rfl eg)) ?_ rfl;rotate_left
           have d0:a.eval (.tmp 65)=.pointer (some ⟨gb,off+k * 7,none⟩):=hdep ⟨35,.data⟩ (by simp) rfl;refine gvT fd (.pointer (some ⟨gb,off+k * 7+1,none⟩)) ho (wantedI rfl (yieldedI rfl eg)) ?_ rfl;rotate_left
           have d0:a.eval (.tmp 66)=.pointer (some ⟨gb,off+k * 7+1,none⟩):=hdep ⟨36,.data⟩ (by simp) rfl;refine gvT fd (.string xm) ho (wantedI rfl (yieldedI rfl eg)) ?_ rfl;rotate_left
           ·have d0:a.eval (.tmp 67)=.string xm:=hdep ⟨37,.data⟩ (by simp) rfl
            refine growI_call (I:=(fun _ _=>True)) (X:=(fun _ _ _=>True)) (d:=fd) (a:=a) (w:=w1) 67 #[.string xm] ho (wantedI rfl (yieldedI rfl eg)) ?_ ((HIN.out w1).mono ?_)
            ·unfold execOp resolve
             simp only [zA,zB,zC,d0,ec]
             rfl
            ·rintro e c1 ⟨rfl,rfl⟩
             exact⟨_,rfl,rfl,(Below.refl _ _),trivial,trivial⟩
           have d0:a.eval (.tmp 68)=.bool false:=hdep ⟨38,.data⟩ (by simp) rfl;refine gvT fd (.bool true) ho (wantedI rfl (yieldedI rfl eg)) ?_ rfl;rotate_left
           have d0:a.eval (.tmp 62)=.bool false:=hdep ⟨32,.data⟩ (by simp) rfl;have d1:a.eval (.tmp 69)=.bool true:=hdep ⟨39,.data⟩ (by simp) rfl;refine gvT fd (.bool true) ho rfl ?_ rfl;rotate_left
           have d0:a.eval (.tmp 70)=.bool true:=hdep ⟨40,.data⟩ (by simp) rfl;refine gvT fd (.bool true) ho rfl ?_ rfl;rotate_left
           iterate 12 (have eg:a.tmps.getD 71 undef=.bool true:=hdep ⟨41,.guard⟩ (by simp) rfl;exact gnT fd ho (unwantedI rfl (yieldedI rfl eg) (by decide)) rfl)
           have d0:a.eval (.tmp 71)=.bool true:=hdep ⟨41,.data⟩ (by simp) rfl;have d1:a.eval (.tmp 83)=undef:=hdep ⟨53,.data⟩ (by simp) rfl;refine gvT fd (.bool true) ho rfl ?_ rfl;rotate_left
           all_goals (unfold execOp;first|(simp only [zA,zB,zC,d0,d1,ec];first|rfl|(go_simp;first|done|rfl|omega))|(simp only [zA,zB,zC,d0,ec];first|rfl|(go_simp;first|done|rfl|omega))|(simp only [zA,zB,zC,e3,ec];first|rfl|(go_simp;first|done|rfl|omega))|(simp only [zA,zB,zC,e4,ec];first|rfl|(go_simp;first|done|rfl|omega)))
          ·intro a w1 hI hb hj
           have hb':Below wr.heap.size wr w1:=up (Below.refl _ _).drew hb
           exact⟨hj 54 (by decide),hb'⟩
          rintro ts w7 ⟨h84,hb7⟩
          simp only [fill,List.setIfInBounds_toArray,List.set_cons_succ,List.set_cons_zero]
          rw [h84]
          have HU7:=hZ (up HU.out hb7)
          have hd2:=HD.out
          rw [Sc.ck_no (.inl (Sc.okC_no HCX.out (Sc.okAt_false (fun hh=>by have:=hh.2.1;rw [HN.out] at this;cases this))))] at hd2
          subst hd2
          clear h84 hb7
          go_wp2_with fail
          go_ret
          exact⟨rfl,HU7.out⟩
         | true =>
          by_cases hE:e0=0
          ·have hE1:(e0:Int)=0:=by omega
           have HOKP:Hid (Sc.least l k≤xi∧xi≤1048576):=hZ (by rw [show k=0 by omega];exact⟨by show (1:Int)≤xi;omega,by omega⟩)
           go_upto_region 7 with fail
           refine region_growI_merge (fun u v:World=>Below u.heap.size u v) (fun _ _=>True) (fun _ _ _=>True) (fun u=>Below.refl _ _) (fun _ _ _ h k=>up h k) (kjI #[Spc.eq (.slice (some ⟨gb,off,none⟩) l.length cc),Spc.eq (.int .i64 (k:Nat)),Spc.eq (.pointer (some ⟨gb,off+k * 7,none⟩)),Spc.eq (.pointer (some ⟨gb,off+k * 7,none⟩)),Spc.eq (.int .i64 xi),Spc.eq (.bool false),Spc.eq (.bool false),Spc.eq (.slice (some ⟨gb,off,none⟩) l.length cc),Spc.eq (.int .i64 (k:Nat)),Spc.eq (.pointer (some ⟨gb,off+k * 7,none⟩)),Spc.eq (.pointer (some ⟨gb,off+k * 7,none⟩)),Spc.eq (.int .i64 xi),Spc.eq (.bool false),Spc.eq (.bool false),Spc.eq (.bool false),Spc.eq (.int .i64 (k:Nat)),Spc.eq (.bool false),Spc.eq (.bool false),Spc.eq undef,Spc.eq undef,Spc.eq undef,Spc.eq undef,Spc.eq undef,Spc.eq undef,Spc.eq undef,Spc.eq undef,Spc.eq undef,Spc.eq undef,Spc.eq undef,Spc.eq undef,Spc.eq (.bool false),Spc.eq (.bool false),Spc.eq (.bool false),Spc.eq (.slice (some ⟨gb,off,none⟩) l.length cc),Spc.eq (.int .i64 (k:Nat)),Spc.eq (.pointer (some ⟨gb,off+k * 7,none⟩)),Spc.eq (.pointer (some ⟨gb,off+k * 7+1,none⟩)),Spc.eq (.string xm),Spc.eq (.bool true),Spc.eq (.bool false),Spc.eq (.bool false),Spc.eq (.bool false),Spc.eq (.slice (some ⟨gb,off,none⟩) l.length cc),Spc.eq (.int .i64 (k:Nat)),Spc.eq (.pointer (some ⟨gb,off+k * 7,none⟩)),Spc.eq (.pointer (some ⟨gb,off+k * 7+2,none⟩)),Spc.eq (.agg #[.int .i64 xk,.bool xu]),Spc.eq (.slice (some ⟨gb,off,none⟩) l.length cc),Spc.eq (.int .i64 (k:Nat)),Spc.eq (.pointer (some ⟨gb,off+k * 7,none⟩)),Spc.eq (.pointer (some ⟨gb,off+k * 7+4,none⟩)),Spc.eq (.agg #[.bool xa,.int .i64 xb,.string xc]),Spc.eq (.int .i64 (e0:Nat)),Spc.eq (.bool false),Spc.eq (.bool false)]) [30,31,32,33,34,35,36,37,38,39,40,41,42,43,44,45,46,47,48,49,50,51,52,53,54,55,56,57,58,59,60,61,62,63,64,65,66,67,68,69,70,71,72,73,74,75,76,77,78,79,80,81,82,83,84] (fun ts u=>ts.getD 84 undef=.bool false∧Below wr.heap.size wr u) (by kernel_rfl) (by kernel_rfl) (by kernel_rfl) kjI_later trivial ?_ ?_ ?_
           ·intro QQ fd jo o a w1 ho hfd hdd hI hb hs hold hdep
            have hjo:jo < 55:=(Array.getElem?_eq_some_iff.1 ho).1
            have hb':Below wr.heap.size wr w1:=up (Below.refl _ _).drew hb
            have p0':w1.cell? ⟨gb,off+k * 7,none⟩=some (.int .i64 xi):=(hb'.cell (p:=⟨gb,off+k * 7,none⟩) (cell_lt p0)).trans p0
            have p1':w1.cell? ⟨gb,off+k * 7+1,none⟩=some (.string xm):=(hb'.cell (p:=⟨gb,off+k * 7+1,none⟩) (cell_lt p1)).trans p1
            have p2':w1.cell? ⟨gb,off+k * 7+2,none⟩=some (.int .i64 xk):=(hb'.cell (p:=⟨gb,off+k * 7+2,none⟩) (cell_lt p2)).trans p2
            have p3':w1.cell? ⟨gb,off+k * 7+3,none⟩=some (.bool xu):=(hb'.cell (p:=⟨gb,off+k * 7+3,none⟩) (cell_lt p3)).trans p3
            have p4':w1.cell? ⟨gb,off+k * 7+4,none⟩=some (.bool xa):=(hb'.cell (p:=⟨gb,off+k * 7+4,none⟩) (cell_lt p4)).trans p4
            have p5':w1.cell? ⟨gb,off+k * 7+5,none⟩=some (.int .i64 xb):=(hb'.cell (p:=⟨gb,off+k * 7+5,none⟩) (cell_lt p5)).trans p5
            have p6':w1.cell? ⟨gb,off+k * 7+6,none⟩=some (.string xc):=(hb'.cell (p:=⟨gb,off+k * 7+6,none⟩) (cell_lt p6)).trans p6
            clear p0 p1 p2 p3 p4 p5 p6
            have e3:a.eval (.tmp 3)=.slice (some ⟨gb,off,none⟩) l.length cc:=by
             show a.tmps.getD 3 undef=_
             rw [Array.getD_eq_getD_getElem?,hold 3 (by decide +kernel)];rfl
            have e4:a.eval (.tmp 4)=.int .i64 (k:Nat):=by
             show a.tmps.getD 4 undef=_
             rw [Array.getD_eq_getD_getElem?,hold 4 (by decide +kernel)];rfl
            have ec:∀ v,a.eval (.const v)=v:=fun _=>rfl
            clear hold hs
            rcases (show jo=0 ∨ jo=1 ∨ jo=2 ∨ jo=3 ∨ jo=4 ∨ jo=5 ∨ jo=6 ∨ jo=7 ∨ jo=8 ∨ jo=9 ∨ jo=10 ∨ jo=11 ∨ jo=12 ∨ jo=13 ∨ jo=14 ∨ jo=15 ∨ jo=16 ∨ jo=17 ∨ jo=18 ∨ jo=19 ∨ jo=20 ∨ jo=21 ∨ jo=22 ∨ jo=23 ∨ jo=24 ∨ jo=25 ∨ jo=26 ∨ jo=27 ∨ jo=28 ∨ jo=29 ∨ jo=30 ∨ jo=31 ∨ jo=32 ∨ jo=33 ∨ jo=34 ∨ jo=35 ∨ jo=36 ∨ jo=37 ∨ jo=38 ∨ jo=39 ∨ jo=40 ∨ jo=41 ∨ jo=42 ∨ jo=43 ∨ jo=44 ∨ jo=45 ∨ jo=46 ∨ jo=47 ∨ jo=48 ∨ jo=49 ∨ jo=50 ∨ jo=51 ∨ jo=52 ∨ jo=53 ∨ jo=54 by omega) with rfl|rfl|rfl|rfl|rfl|rfl|rfl|rfl|rfl|rfl|rfl|rfl|rfl|rfl|rfl|rfl|rfl|rfl|rfl|rfl|rfl|rfl|rfl|rfl|rfl|rfl|rfl|rfl|rfl|rfl|rfl|rfl|rfl|rfl|rfl|rfl|rfl|rfl|rfl|rfl|rfl|rfl|rfl|rfl|rfl|rfl|rfl|rfl|rfl|rfl|rfl|rfl|rfl|rfl|rfl
            all_goals (have ho2:=ho;simp only [List.getElem?_toArray,zD,zE,Option.some.injEq] at ho2;subst ho2)
            all_goals first|(refine (fun (eg:a.tmps.getD 36 undef=.bool false)=>?_) (hdep ⟨6,.guard⟩ ?_ rfl);rotate_left;focus (simp<;>fail))|(refine (fun (eg:a.tmps.getD 44 undef=.bool false)=>?_) (hdep ⟨14,.guard⟩ ?_ rfl);rotate_left;focus (simp<;>fail))|(refine (fun (eg:a.tmps.getD 62 undef=.bool false)=>?_) (hdep ⟨32,.guard⟩ ?_ rfl);rotate_left;focus (simp<;>fail))|(refine (fun (eg:a.tmps.getD 71 undef=.bool false)=>?_) (hdep ⟨41,.guard⟩ ?_ rfl);rotate_left;focus (simp<;>fail))|skip
            refine gvT fd (.slice (some ⟨gb,off,none⟩) l.length cc) ho rfl ?_ rfl;rotate_left
            refine gvT fd (.int .i64 (k:Nat)) ho rfl ?_ rfl;rotate_left
            have d0:a.eval (.tmp 30)=.slice (some ⟨gb,off,none⟩) l.length cc:=hdep ⟨0,.data⟩ (by simp) rfl;have d1:a.eval (.tmp 31)=.int .i64 (k:Nat):=hdep ⟨1,.data⟩ (by simp) rfl;refine gvT fd (.pointer (some ⟨gb,off+k * 7,none⟩)) ho rfl ?_ rfl;rotate_left
            have d0:a.eval (.tmp 32)=.pointer (some ⟨gb,off+k * 7,none⟩):=hdep ⟨2,.data⟩ (by simp) rfl;refine gvT fd (.pointer (some ⟨gb,off+k * 7,none⟩)) ho rfl ?_ rfl;rotate_left
            have d0:a.eval (.tmp 33)=.pointer (some ⟨gb,off+k * 7,none⟩):=hdep ⟨3,.data⟩ (by simp) rfl;refine gvT fd (.int .i64 xi) ho rfl ?_ rfl;rotate_left
            have d0:a.eval (.tmp 34)=.int .i64 xi:=hdep ⟨4,.data⟩ (by simp) rfl;refine gvT fd (.bool false) ho rfl ?_ rfl;rotate_left
            have d0:a.eval (.tmp 35)=.bool false:=hdep ⟨5,.data⟩ (by simp) rfl;refine gvT fd (.bool false) ho rfl ?_ rfl;rotate_left
            refine gvT fd (.slice (some ⟨gb,off,none⟩) l.length cc) ho (wantedI rfl (yieldedI rfl eg)) ?_ rfl;rotate_left
            refine gvT fd (.int .i64 (k:Nat)) ho (wantedI rfl (yieldedI rfl eg)) ?_ rfl;rotate_left
            have d0:a.eval (.tmp 37)=.slice (some ⟨gb,off,none⟩) l.length cc:=hdep ⟨7,.data⟩ (by simp) rfl;have d1:a.eval (.tmp 38)=.int .i64 (k:Nat):=hdep ⟨8,.data⟩ (by simp) rfl;refine gvT fd (.pointer (some ⟨gb,off+k * 7,none⟩)) ho (wantedI rfl (yieldedI rfl eg)) ?_ rfl;rotate_left
            have d0:a.eval (.tmp 39)=.pointer (some ⟨gb,off+k * 7,none⟩):=hdep ⟨9,.data⟩ (by simp) rfl;refine gvT fd (.pointer (some ⟨gb,off+k * 7,none⟩)) ho (wantedI rfl (yieldedI rfl eg)) ?_ rfl;rotate_left
            have d0:a.eval (.tmp 40)=.pointer (some ⟨gb,off+k * 7,none⟩):=hdep ⟨10,.data⟩ (by simp) rfl;refine gvT fd (.int .i64 xi) ho (wantedI rfl (yieldedI rfl eg)) ?_ rfl;rotate_left
            have d0:a.eval (.tmp 41)=.int .i64 xi:=hdep ⟨11,.data⟩ (by simp) rfl;refine gvT fd (.bool false) ho (wantedI rfl (yieldedI rfl eg)) ?_ rfl;rotate_left
            have d0:a.eval (.tmp 36)=.bool false:=hdep ⟨6,.data⟩ (by simp) rfl;have d1:a.eval (.tmp 42)=.bool false:=hdep ⟨12,.data⟩ (by simp) rfl;refine gvT fd (.bool false) ho rfl ?_ rfl;rotate_left
            have d0:a.eval (.tmp 43)=.bool false:=hdep ⟨13,.data⟩ (by simp) rfl;refine gvT fd (.bool false) ho rfl ?_ rfl;rotate_left
            refine gvT fd (.int .i64 (k:Nat)) ho (wantedI rfl (yieldedI rfl eg)) ?_ rfl;rotate_left
            have d0:a.eval (.tmp 45)=.int .i64 (k:Nat):=hdep ⟨15,.data⟩ (by simp) rfl;refine gvT fd (.bool false) ho (wantedI rfl (yieldedI rfl eg)) ?_ rfl;rotate_left
            have d0:a.eval (.tmp 46)=.bool false:=hdep ⟨16,.data⟩ (by simp) rfl;refine gvT fd (.bool false) ho (wantedI rfl (yieldedI rfl eg)) ?_ rfl;rotate_left
            iterate 12 (have eg:a.tmps.getD 47 undef=.bool false:=hdep ⟨17,.guard⟩ (by simp) rfl;exact gnT fd ho (unwantedI rfl (yieldedI rfl eg) (by decide)) rfl)
            have d0:a.eval (.tmp 47)=.bool false:=hdep ⟨17,.data⟩ (by simp) rfl;have d1:a.eval (.tmp 59)=undef:=hdep ⟨29,.data⟩ (by simp) rfl;refine gvT fd (.bool false) ho (wantedI rfl (yieldedI rfl eg)) ?_ rfl;rotate_left
            have d0:a.eval (.tmp 44)=.bool false:=hdep ⟨14,.data⟩ (by simp) rfl;have d1:a.eval (.tmp 60)=.bool false:=hdep ⟨30,.data⟩ (by simp) rfl;refine gvT fd (.bool false) ho rfl ?_ rfl;rotate_left
            have d0:a.eval (.tmp 61)=.bool false:=hdep ⟨31,.data⟩ (by simp) rfl;refine gvT fd (.bool false) ho rfl ?_ rfl;rotate_left
            refine gvT fd (.slice (some ⟨gb,off,none⟩) l.length cc) ho (wantedI rfl (yieldedI rfl eg)) ?_ rfl;rotate_left
            refine gvT fd (.int .i64 (k:Nat)) ho (wantedI rfl (yieldedI rfl eg)) ?_ rfl;rotate_left
            have d0:a.eval (.tmp 63)=.slice (some ⟨gb,off,none⟩) l.length cc:=hdep ⟨33,.data⟩ (by simp) rfl;have d1:a.eval (.tmp 64)=.int .i64 (k:Nat):=hdep ⟨34,.data⟩ (by simp) rfl;refine gvT fd (.pointer (some ⟨gb,off+k * 7,none⟩)) ho (wantedI rfl (yieldedI rfl eg)) ?_ rfl;rotate_left
            have d0:a.eval (.tmp 65)=.pointer (some ⟨gb,off+k * 7,none⟩):=hdep ⟨35,.data⟩ (by simp) rfl;refine gvT fd (.pointer (some ⟨gb,off+k * 7+1,none⟩)) ho (wantedI rfl (yieldedI rfl eg)) ?_ rfl;rotate_left
            have d0:a.eval (.tmp 66)=.pointer (some ⟨gb,off+k * 7+1,none⟩):=hdep ⟨36,.data⟩ (by simp) rfl;refine gvT fd (.string xm) ho (wantedI rfl (yieldedI rfl eg)) ?_ rfl;rotate_left
            ·have d0:a.eval (.tmp 67)=.string xm:=hdep ⟨37,.data⟩ (by simp) rfl
             refine growI_call (I:=(fun _ _=>True)) (X:=(fun _ _ _=>True)) (d:=fd) (a:=a) (w:=w1) 67 #[.string xm] ho (wantedI rfl (yieldedI rfl eg)) ?_ ((HIN.out w1).mono ?_)
             ·unfold execOp resolve
              simp only [zA,zB,zC,d0,ec]
              rfl
             ·rintro e c1 ⟨rfl,rfl⟩
              exact⟨_,rfl,rfl,(Below.refl _ _),trivial,trivial⟩
            have d0:a.eval (.tmp 68)=.bool true:=hdep ⟨38,.data⟩ (by simp) rfl;refine gvT fd (.bool false) ho (wantedI rfl (yieldedI rfl eg)) ?_ rfl;rotate_left
            have d0:a.eval (.tmp 62)=.bool false:=hdep ⟨32,.data⟩ (by simp) rfl;have d1:a.eval (.tmp 69)=.bool false:=hdep ⟨39,.data⟩ (by simp) rfl;refine gvT fd (.bool false) ho rfl ?_ rfl;rotate_left
            have d0:a.eval (.tmp 70)=.bool false:=hdep ⟨40,.data⟩ (by simp) rfl;refine gvT fd (.bool false) ho rfl ?_ rfl;rotate_left
            refine gvT fd (.slice (some ⟨gb,off,none⟩) l.length cc) ho (wantedI rfl (yieldedI rfl eg)) ?_ rfl;rotate_left
            refine gvT fd (.int .i64 (k:Nat)) ho (wantedI rfl (yieldedI rfl eg)) ?_ rfl;rotate_left
            have d0:a.eval (.tmp 72)=.slice (some ⟨gb,off,none⟩) l.length cc:=hdep ⟨42,.data⟩ (by simp) rfl;have d1:a.eval (.tmp 73)=.int .i64 (k:Nat):=hdep ⟨43,.data⟩ (by simp) rfl;refine gvT fd (.pointer (some ⟨gb,off+k * 7,none⟩)) ho (wantedI rfl (yieldedI rfl eg)) ?_ rfl;rotate_left
            have d0:a.eval (.tmp 74)=.pointer (some ⟨gb,off+k * 7,none⟩):=hdep ⟨44,.data⟩ (by simp) rfl;refine gvT fd (.pointer (some ⟨gb,off+k * 7+2,none⟩)) ho (wantedI rfl (yieldedI rfl eg)) ?_ rfl;rotate_left
            have d0:a.eval (.tmp 75)=.pointer (some ⟨gb,off+k * 7+2,none⟩):=hdep ⟨45,.data⟩ (by simp) rfl;refine gvT fd (.agg #[.int .i64 xk,.bool xu]) ho (wantedI rfl (yieldedI rfl eg)) ?_ rfl;rotate_left
            refine gvT fd (.slice (some ⟨gb,off,none⟩) l.length cc) ho (wantedI rfl (yieldedI rfl eg)) ?_ rfl;rotate_left
            refine gvT fd (.int .i64 (k:Nat)) ho (wantedI rfl (yieldedI rfl eg)) ?_ rfl;rotate_left
            have d0:a.eval (.tmp 77)=.slice (some ⟨gb,off,none⟩) l.length cc:=hdep ⟨47,.data⟩ (by simp) rfl;have d1:a.eval (.tmp 78)=.int .i64 (k:Nat):=hdep ⟨48,.data⟩ (by simp) rfl;refine gvT fd (.pointer (some ⟨gb,off+k * 7,none⟩)) ho (wantedI rfl (yieldedI rfl eg)) ?_ rfl;rotate_left
            have d0:a.eval (.tmp 79)=.pointer (some ⟨gb,off+k * 7,none⟩):=hdep ⟨49,.data⟩ (by simp) rfl;refine gvT fd (.pointer (some ⟨gb,off+k * 7+4,none⟩)) ho (wantedI rfl (yieldedI rfl eg)) ?_ rfl;rotate_left
            have d0:a.eval (.tmp 80)=.pointer (some ⟨gb,off+k * 7+4,none⟩):=hdep ⟨50,.data⟩ (by simp) rfl;refine gvT fd (.agg #[.bool xa,.int .i64 xb,.string xc]) ho (wantedI rfl (yieldedI rfl eg)) ?_ rfl;rotate_left
            ·have d0:a.eval (.tmp 76)=.agg #[.int .i64 xk,.bool xu]:=hdep ⟨46,.data⟩ (by simp) rfl
             have d1:a.eval (.tmp 81)=.agg #[.bool xa,.int .i64 xb,.string xc]:=hdep ⟨51,.data⟩ (by simp) rfl
             refine growI_call (I:=(fun _ _=>True)) (X:=(fun _ _ _=>True)) (d:=fd) (a:=a) (w:=w1) 65 #[.agg #[.int .i64 xk,.bool xu],.agg #[.bool xa,.int .i64 xb,.string xc]] ho (wantedI rfl (yieldedI rfl eg)) ?_ ((HCH.out w1).mono ?_)
             ·unfold execOp resolve
              simp only [zA,zB,zC,d0,d1,ec]
              rfl
             ·rintro e c1 ⟨rfl,hb2⟩
              exact⟨_,rfl,rfl,hb2,trivial,trivial⟩
            have d0:a.eval (.tmp 82)=.int .i64 (e0:Nat):=hdep ⟨52,.data⟩ (by simp) rfl;refine gvT fd (.bool false) ho (wantedI rfl (yieldedI rfl eg)) ?_ rfl;rotate_left
            have d0:a.eval (.tmp 71)=.bool false:=hdep ⟨41,.data⟩ (by simp) rfl;have d1:a.eval (.tmp 83)=.bool false:=hdep ⟨53,.data⟩ (by simp) rfl;refine gvT fd (.bool false) ho rfl ?_ rfl;rotate_left
            all_goals (unfold execOp;first|(simp only [zA,zB,zC,d0,d1,ec];first|rfl|(go_simp;first|done|rfl|omega))|(simp only [zA,zB,zC,d0,ec];first|rfl|(go_simp;first|done|rfl|omega))|(simp only [zA,zB,zC,e3,ec];first|rfl|(go_simp;first|done|rfl|omega))|(simp only [zA,zB,zC,e4,ec];first|rfl|(go_simp;first|done|rfl|omega)))
           ·intro a w1 hI hb hj
            have hb':Below wr.heap.size wr w1:=up (Below.refl _ _).drew hb
            exact⟨hj 54 (by decide),hb'⟩
           rintro ts w7 ⟨h84,hb7⟩
           simp only [fill,List.setIfInBounds_toArray,List.set_cons_succ,List.set_cons_zero]
           rw [h84]
           have HU7:=hZ (up HU1.out hb7)
           clear h84 hb7 HU HU1 p0 p1 p2 p3 p4 p5 p6 HIN HCH
           go_wp2_with fail
           go_loopw [5] (fun i wr=>∃ q:Nat,q≤k∧i=.int .i64 (q:Nat)∧Hid (∀ j c',j < q→l[j]?=some c'→bl c'.nm≠bl xm)∧Hid (Below w1.heap.size w1 wr)) (fun i _=>k - (intOf i).toNat)
           case atStart=>exact⟨0,by omega,by rfl,hZ (by intro j c hj;omega),HU7⟩
           case round =>
            clear HU7
            obtain⟨q,hq,rfl,HQ,HU2⟩:=hrel
            obtain⟨gb',off',hgo,_,p1,_,_,_,_,_⟩:=rdK_cells HR.out HU2.out HCX.out
            injection hgo with hgo
            injection hgo with hg1 hg2 _
            subst hg1 hg2
            simp only at p1
            by_cases hqk:q < k
            ·exact absurd hqk (by omega)
            ·have hqk1:¬ (q:Int) < k:=by omega
             obtain rfl:q=k:=by omega
             have HNP:Hid (∀ j c,j < q+1→l[j]?=some c→Sc.okAt l j c=true):=hZ (fun j c' hj hc=>by
              rcases Nat.lt_or_ge j q with h|h
              ·exact HP.out j c' h hc
              ·obtain rfl:j=q:=by omega
               rw [HCX.out] at hc;injection hc with hc;subst hc
               refine Sc.okAt_parts.2 ⟨HOKP.out,HN.out,by rw [HE.out];exact hE,?_⟩
               unfold Sc.fresh
               rw [List.all_eq_true]
               intro d hd
               obtain⟨i,hi⟩:=List.getElem?_of_mem hd
               have hij:i < j:=by
                have:=(List.getElem?_eq_some_iff.1 hi).1
                simp at this;omega
               rw [List.getElem?_take_of_lt hij] at hi
               have:=HQ.out i d hij hi
               simpa using this)
             clear HQ p1
             go_wp2_with fail
             go_roundw
             case rel=>exact⟨q+1,HLT.out,by go_num,HNP,HU2⟩
             case measure=>have:=HLT.out;simp [intOf];omega
          ·have hE1:¬ (e0:Int)=0:=by omega
           go_upto_region 7 with fail
           refine region_growI_merge (fun u v:World=>Below u.heap.size u v) (fun _ _=>True) (fun _ _ _=>True) (fun u=>Below.refl _ _) (fun _ _ _ h k=>up h k) (kjI #[Spc.eq (.slice (some ⟨gb,off,none⟩) l.length cc),Spc.eq (.int .i64 (k:Nat)),Spc.eq (.pointer (some ⟨gb,off+k * 7,none⟩)),Spc.eq (.pointer (some ⟨gb,off+k * 7,none⟩)),Spc.eq (.int .i64 xi),Spc.eq (.bool false),Spc.eq (.bool false),Spc.eq (.slice (some ⟨gb,off,none⟩) l.length cc),Spc.eq (.int .i64 (k:Nat)),Spc.eq (.pointer (some ⟨gb,off+k * 7,none⟩)),Spc.eq (.pointer (some ⟨gb,off+k * 7,none⟩)),Spc.eq (.int .i64 xi),Spc.eq (.bool false),Spc.eq (.bool false),Spc.eq (.bool false),Spc.eq (.int .i64 (k:Nat)),Spc.eq (.bool false),Spc.eq (.bool false),Spc.eq undef,Spc.eq undef,Spc.eq undef,Spc.eq undef,Spc.eq undef,Spc.eq undef,Spc.eq undef,Spc.eq undef,Spc.eq undef,Spc.eq undef,Spc.eq undef,Spc.eq undef,Spc.eq (.bool false),Spc.eq (.bool false),Spc.eq (.bool false),Spc.eq (.slice (some ⟨gb,off,none⟩) l.length cc),Spc.eq (.int .i64 (k:Nat)),Spc.eq (.pointer (some ⟨gb,off+k * 7,none⟩)),Spc.eq (.pointer (some ⟨gb,off+k * 7+1,none⟩)),Spc.eq (.string xm),Spc.eq (.bool true),Spc.eq (.bool false),Spc.eq (.bool false),Spc.eq (.bool false),Spc.eq (.slice (some ⟨gb,off,none⟩) l.length cc),Spc.eq (.int .i64 (k:Nat)),Spc.eq (.pointer (some ⟨gb,off+k * 7,none⟩)),Spc.eq (.pointer (some ⟨gb,off+k * 7+2,none⟩)),Spc.eq (.agg #[.int .i64 xk,.bool xu]),Spc.eq (.slice (some ⟨gb,off,none⟩) l.length cc),Spc.eq (.int .i64 (k:Nat)),Spc.eq (.pointer (some ⟨gb,off+k * 7,none⟩)),Spc.eq (.pointer (some ⟨gb,off+k * 7+4,none⟩)),Spc.eq (.agg #[.bool xa,.int .i64 xb,.string xc]),Spc.eq (.int .i64 (e0:Nat)),Spc.eq (.bool true),Spc.eq (.bool true)]) [30,31,32,33,34,35,36,37,38,39,40,41,42,43,44,45,46,47,48,49,50,51,52,53,54,55,56,57,58,59,60,61,62,63,64,65,66,67,68,69,70,71,72,73,74,75,76,77,78,79,80,81,82,83,84] (fun ts u=>ts.getD 84 undef=.bool true∧Below wr.heap.size wr u) (by kernel_rfl) (by kernel_rfl) (by kernel_rfl) kjI_later trivial ?_ ?_ ?_
           ·intro QQ fd jo o a w1 ho hfd hdd hI hb hs hold hdep
            have hjo:jo < 55:=(Array.getElem?_eq_some_iff.1 ho).1
            have hb':Below wr.heap.size wr w1:=up (Below.refl _ _).drew hb
            have p0':w1.cell? ⟨gb,off+k * 7,none⟩=some (.int .i64 xi):=(hb'.cell (p:=⟨gb,off+k * 7,none⟩) (cell_lt p0)).trans p0
            have p1':w1.cell? ⟨gb,off+k * 7+1,none⟩=some (.string xm):=(hb'.cell (p:=⟨gb,off+k * 7+1,none⟩) (cell_lt p1)).trans p1
            have p2':w1.cell? ⟨gb,off+k * 7+2,none⟩=some (.int .i64 xk):=(hb'.cell (p:=⟨gb,off+k * 7+2,none⟩) (cell_lt p2)).trans p2
            have p3':w1.cell? ⟨gb,off+k * 7+3,none⟩=some (.bool xu):=(hb'.cell (p:=⟨gb,off+k * 7+3,none⟩) (cell_lt p3)).trans p3
            have p4':w1.cell? ⟨gb,off+k * 7+4,none⟩=some (.bool xa):=(hb'.cell (p:=⟨gb,off+k * 7+4,none⟩) (cell_lt p4)).trans p4
            have p5':w1.cell? ⟨gb,off+k * 7+5,none⟩=some (.int .i64 xb):=(hb'.cell (p:=⟨gb,off+k * 7+5,none⟩) (cell_lt p5)).trans p5
            have p6':w1.cell? ⟨gb,off+k * 7+6,none⟩=some (.string xc):=(hb'.cell (p:=⟨gb,off+k * 7+6,none⟩) (cell_lt p6)).trans p6
            clear p0 p1 p2 p3 p4 p5 p6
            have e3:a.eval (.tmp 3)=.slice (some ⟨gb,off,none⟩) l.length cc:=by
             show a.tmps.getD 3 undef=_
             rw [Array.getD_eq_getD_getElem?,hold 3 (by decide +kernel)];rfl
            have e4:a.eval (.tmp 4)=.int .i64 (k:Nat):=by
             show a.tmps.getD 4 undef=_
             rw [Array.getD_eq_getD_getElem?,hold 4 (by decide +kernel)];rfl
            have ec:∀ v,a.eval (.const v)=v:=fun _=>rfl
            clear hold hs
            rcases (show jo=0 ∨ jo=1 ∨ jo=2 ∨ jo=3 ∨ jo=4 ∨ jo=5 ∨ jo=6 ∨ jo=7 ∨ jo=8 ∨ jo=9 ∨ jo=10 ∨ jo=11 ∨ jo=12 ∨ jo=13 ∨ jo=14 ∨ jo=15 ∨ jo=16 ∨ jo=17 ∨ jo=18 ∨ jo=19 ∨ jo=20 ∨ jo=21 ∨ jo=22 ∨ jo=23 ∨ jo=24 ∨ jo=25 ∨ jo=26 ∨ jo=27 ∨ jo=28 ∨ jo=29 ∨ jo=30 ∨ jo=31 ∨ jo=32 ∨ jo=33 ∨ jo=34 ∨ jo=35 ∨ jo=36 ∨ jo=37 ∨ jo=38 ∨ jo=39 ∨ jo=40 ∨ jo=41 ∨ jo=42 ∨ jo=43 ∨ jo=44 ∨ jo=45 ∨ jo=46 ∨ jo=47 ∨ jo=48 ∨ jo=49 ∨ jo=50 ∨ jo=51 ∨ jo=52 ∨ jo=53 ∨ jo=54 by omega) with rfl|rfl|rfl|rfl|rfl|rfl|rfl|rfl|rfl|rfl|rfl|rfl|rfl|rfl|rfl|rfl|rfl|rfl|rfl|rfl|rfl|rfl|rfl|rfl|rfl|rfl|rfl|rfl|rfl|rfl|rfl|rfl|rfl|rfl|rfl|rfl|rfl|rfl|rfl|rfl|rfl|rfl|rfl|rfl|rfl|rfl|rfl|rfl|rfl|rfl|rfl|rfl|rfl|rfl|rfl
            all_goals (have ho2:=ho;simp only [List.getElem?_toArray,zD,zE,Option.some.injEq] at ho2;subst ho2)
            all_goals first|(refine (fun (eg:a.tmps.getD 36 undef=.bool false)=>?_) (hdep ⟨6,.guard⟩ ?_ rfl);rotate_left;focus (simp<;>fail))|(refine (fun (eg:a.tmps.getD 44 undef=.bool false)=>?_) (hdep ⟨14,.guard⟩ ?_ rfl);rotate_left;focus (simp<;>fail))|(refine (fun (eg:a.tmps.getD 62 undef=.bool false)=>?_) (hdep ⟨32,.guard⟩ ?_ rfl);rotate_left;focus (simp<;>fail))|(refine (fun (eg:a.tmps.getD 71 undef=.bool false)=>?_) (hdep ⟨41,.guard⟩ ?_ rfl);rotate_left;focus (simp<;>fail))|skip
            refine gvT fd (.slice (some ⟨gb,off,none⟩) l.length cc) ho rfl ?_ rfl;rotate_left
            refine gvT fd (.int .i64 (k:Nat)) ho rfl ?_ rfl;rotate_left
            have d0:a.eval (.tmp 30)=.slice (some ⟨gb,off,none⟩) l.length cc:=hdep ⟨0,.data⟩ (by simp) rfl;have d1:a.eval (.tmp 31)=.int .i64 (k:Nat):=hdep ⟨1,.data⟩ (by simp) rfl;refine gvT fd (.pointer (some ⟨gb,off+k * 7,none⟩)) ho rfl ?_ rfl;rotate_left
            have d0:a.eval (.tmp 32)=.pointer (some ⟨gb,off+k * 7,none⟩):=hdep ⟨2,.data⟩ (by simp) rfl;refine gvT fd (.pointer (some ⟨gb,off+k * 7,none⟩)) ho rfl ?_ rfl;rotate_left
            have d0:a.eval (.tmp 33)=.pointer (some ⟨gb,off+k * 7,none⟩):=hdep ⟨3,.data⟩ (by simp) rfl;refine gvT fd (.int .i64 xi) ho rfl ?_ rfl;rotate_left
            have d0:a.eval (.tmp 34)=.int .i64 xi:=hdep ⟨4,.data⟩ (by simp) rfl;refine gvT fd (.bool false) ho rfl ?_ rfl;rotate_left
            have d0:a.eval (.tmp 35)=.bool false:=hdep ⟨5,.data⟩ (by simp) rfl;refine gvT fd (.bool false) ho rfl ?_ rfl;rotate_left
            refine gvT fd (.slice (some ⟨gb,off,none⟩) l.length cc) ho (wantedI rfl (yieldedI rfl eg)) ?_ rfl;rotate_left
            refine gvT fd (.int .i64 (k:Nat)) ho (wantedI rfl (yieldedI rfl eg)) ?_ rfl;rotate_left
            have d0:a.eval (.tmp 37)=.slice (some ⟨gb,off,none⟩) l.length cc:=hdep ⟨7,.data⟩ (by simp) rfl;have d1:a.eval (.tmp 38)=.int .i64 (k:Nat):=hdep ⟨8,.data⟩ (by simp) rfl;refine gvT fd (.pointer (some ⟨gb,off+k * 7,none⟩)) ho (wantedI rfl (yieldedI rfl eg)) ?_ rfl;rotate_left
            have d0:a.eval (.tmp 39)=.pointer (some ⟨gb,off+k * 7,none⟩):=hdep ⟨9,.data⟩ (by simp) rfl;refine gvT fd (.pointer (some ⟨gb,off+k * 7,none⟩)) ho (wantedI rfl (yieldedI rfl eg)) ?_ rfl;rotate_left
            have d0:a.eval (.tmp 40)=.pointer (some ⟨gb,off+k * 7,none⟩):=hdep ⟨10,.data⟩ (by simp) rfl;refine gvT fd (.int .i64 xi) ho (wantedI rfl (yieldedI rfl eg)) ?_ rfl;rotate_left
            have d0:a.eval (.tmp 41)=.int .i64 xi:=hdep ⟨11,.data⟩ (by simp) rfl;refine gvT fd (.bool false) ho (wantedI rfl (yieldedI rfl eg)) ?_ rfl;rotate_left
            have d0:a.eval (.tmp 36)=.bool false:=hdep ⟨6,.data⟩ (by simp) rfl;have d1:a.eval (.tmp 42)=.bool false:=hdep ⟨12,.data⟩ (by simp) rfl;refine gvT fd (.bool false) ho rfl ?_ rfl;rotate_left
            have d0:a.eval (.tmp 43)=.bool false:=hdep ⟨13,.data⟩ (by simp) rfl;refine gvT fd (.bool false) ho rfl ?_ rfl;rotate_left
            refine gvT fd (.int .i64 (k:Nat)) ho (wantedI rfl (yieldedI rfl eg)) ?_ rfl;rotate_left
            have d0:a.eval (.tmp 45)=.int .i64 (k:Nat):=hdep ⟨15,.data⟩ (by simp) rfl;refine gvT fd (.bool false) ho (wantedI rfl (yieldedI rfl eg)) ?_ rfl;rotate_left
            have d0:a.eval (.tmp 46)=.bool false:=hdep ⟨16,.data⟩ (by simp) rfl;refine gvT fd (.bool false) ho (wantedI rfl (yieldedI rfl eg)) ?_ rfl;rotate_left
            iterate 12 (have eg:a.tmps.getD 47 undef=.bool false:=hdep ⟨17,.guard⟩ (by simp) rfl;exact gnT fd ho (unwantedI rfl (yieldedI rfl eg) (by decide)) rfl)
            have d0:a.eval (.tmp 47)=.bool false:=hdep ⟨17,.data⟩ (by simp) rfl;have d1:a.eval (.tmp 59)=undef:=hdep ⟨29,.data⟩ (by simp) rfl;refine gvT fd (.bool false) ho (wantedI rfl (yieldedI rfl eg)) ?_ rfl;rotate_left
            have d0:a.eval (.tmp 44)=.bool false:=hdep ⟨14,.data⟩ (by simp) rfl;have d1:a.eval (.tmp 60)=.bool false:=hdep ⟨30,.data⟩ (by simp) rfl;refine gvT fd (.bool false) ho rfl ?_ rfl;rotate_left
            have d0:a.eval (.tmp 61)=.bool false:=hdep ⟨31,.data⟩ (by simp) rfl;refine gvT fd (.bool false) ho rfl ?_ rfl;rotate_left
            refine gvT fd (.slice (some ⟨gb,off,none⟩) l.length cc) ho (wantedI rfl (yieldedI rfl eg)) ?_ rfl;rotate_left
            refine gvT fd (.int .i64 (k:Nat)) ho (wantedI rfl (yieldedI rfl eg)) ?_ rfl;rotate_left
            have d0:a.eval (.tmp 63)=.slice (some ⟨gb,off,none⟩) l.length cc:=hdep ⟨33,.data⟩ (by simp) rfl;have d1:a.eval (.tmp 64)=.int .i64 (k:Nat):=hdep ⟨34,.data⟩ (by simp) rfl;refine gvT fd (.pointer (some ⟨gb,off+k * 7,none⟩)) ho (wantedI rfl (yieldedI rfl eg)) ?_ rfl;rotate_left
            have d0:a.eval (.tmp 65)=.pointer (some ⟨gb,off+k * 7,none⟩):=hdep ⟨35,.data⟩ (by simp) rfl;refine gvT fd (.pointer (some ⟨gb,off+k * 7+1,none⟩)) ho (wantedI rfl (yieldedI rfl eg)) ?_ rfl;rotate_left
            have d0:a.eval (.tmp 66)=.pointer (some ⟨gb,off+k * 7+1,none⟩):=hdep ⟨36,.data⟩ (by simp) rfl;refine gvT fd (.string xm) ho (wantedI rfl (yieldedI rfl eg)) ?_ rfl;rotate_left
            ·have d0:a.eval (.tmp 67)=.string xm:=hdep ⟨37,.data⟩ (by simp) rfl
             refine growI_call (I:=(fun _ _=>True)) (X:=(fun _ _ _=>True)) (d:=fd) (a:=a) (w:=w1) 67 #[.string xm] ho (wantedI rfl (yieldedI rfl eg)) ?_ ((HIN.out w1).mono ?_)
             ·unfold execOp resolve
              simp only [zA,zB,zC,d0,ec]
              rfl
             ·rintro e c1 ⟨rfl,rfl⟩
              exact⟨_,rfl,rfl,(Below.refl _ _),trivial,trivial⟩
            have d0:a.eval (.tmp 68)=.bool true:=hdep ⟨38,.data⟩ (by simp) rfl;refine gvT fd (.bool false) ho (wantedI rfl (yieldedI rfl eg)) ?_ rfl;rotate_left
            have d0:a.eval (.tmp 62)=.bool false:=hdep ⟨32,.data⟩ (by simp) rfl;have d1:a.eval (.tmp 69)=.bool false:=hdep ⟨39,.data⟩ (by simp) rfl;refine gvT fd (.bool false) ho rfl ?_ rfl;rotate_left
            have d0:a.eval (.tmp 70)=.bool false:=hdep ⟨40,.data⟩ (by simp) rfl;refine gvT fd (.bool false) ho rfl ?_ rfl;rotate_left
            refine gvT fd (.slice (some ⟨gb,off,none⟩) l.length cc) ho (wantedI rfl (yieldedI rfl eg)) ?_ rfl;rotate_left
            refine gvT fd (.int .i64 (k:Nat)) ho (wantedI rfl (yieldedI rfl eg)) ?_ rfl;rotate_left
            have d0:a.eval (.tmp 72)=.slice (some ⟨gb,off,none⟩) l.length cc:=hdep ⟨42,.data⟩ (by simp) rfl;have d1:a.eval (.tmp 73)=.int .i64 (k:Nat):=hdep ⟨43,.data⟩ (by simp) rfl;refine gvT fd (.pointer (some ⟨gb,off+k * 7,none⟩)) ho (wantedI rfl (yieldedI rfl eg)) ?_ rfl;rotate_left
            have d0:a.eval (.tmp 74)=.pointer (some ⟨gb,off+k * 7,none⟩):=hdep ⟨44,.data⟩ (by simp) rfl;refine gvT fd (.pointer (some ⟨gb,off+k * 7+2,none⟩)) ho (wantedI rfl (yieldedI rfl eg)) ?_ rfl;rotate_left
            have d0:a.eval (.tmp 75)=.pointer (some ⟨gb,off+k * 7+2,none⟩):=hdep ⟨45,.data⟩ (by simp) rfl;refine gvT fd (.agg #[.int .i64 xk,.bool xu]) ho (wantedI rfl (yieldedI rfl eg)) ?_ rfl;rotate_left
            refine gvT fd (.slice (some ⟨gb,off,none⟩) l.length cc) ho (wantedI rfl (yieldedI rfl eg)) ?_ rfl;rotate_left
            refine gvT fd (.int .i64 (k:Nat)) ho (wantedI rfl (yieldedI rfl eg)) ?_ rfl;rotate_left
            have d0:a.eval (.tmp 77)=.slice (some ⟨gb,off,none⟩) l.length cc:=hdep ⟨47,.data⟩ (by simp) rfl;have d1:a.eval (.tmp 78)=.int .i64 (k:Nat):=hdep ⟨48,.data⟩ (by simp) rfl;refine gvT fd (.pointer (some ⟨gb,off+k * 7,none⟩)) ho (wantedI rfl (yieldedI rfl eg)) ?_ rfl;rotate_left
            have d0:a.eval (.tmp 79)=.pointer (some ⟨gb,off+k * 7,none⟩):=hdep ⟨49,.data⟩ (by simp) rfl;refine gvT fd (.pointer (some ⟨gb,off+k * 7+4,none⟩)) ho (wantedI rfl (yieldedI rfl eg)) ?_ rfl;rotate_left
            have d0:a.eval (.tmp 80)=.pointer (some ⟨gb,off+k * 7+4,none⟩):=hdep ⟨50,.data⟩ (by simp) rfl;refine gvT fd (.agg #[.bool xa,.int .i64 xb,.string xc]) ho (wantedI rfl (yieldedI rfl eg)) ?_ rfl;rotate_left
            ·have d0:a.eval (.tmp 76)=.agg #[.int .i64 xk,.bool xu]:=hdep ⟨46,.data⟩ (by simp) rfl
             have d1:a.eval (.tmp 81)=.agg #[.bool xa,.int .i64 xb,.string xc]:=hdep ⟨51,.data⟩ (by simp) rfl
             refine growI_call (I:=(fun _ _=>True)) (X:=(fun _ _ _=>True)) (d:=fd) (a:=a) (w:=w1) 65 #[.agg #[.int .i64 xk,.bool xu],.agg #[.bool xa,.int .i64 xb,.string xc]] ho (wantedI rfl (yieldedI rfl eg)) ?_ ((HCH.out w1).mono ?_)
             ·unfold execOp resolve
              simp only [zA,zB,zC,d0,d1,ec]
              rfl
             ·rintro e c1 ⟨rfl,hb2⟩
              exact⟨_,rfl,rfl,hb2,trivial,trivial⟩
            have d0:a.eval (.tmp 82)=.int .i64 (e0:Nat):=hdep ⟨52,.data⟩ (by simp) rfl;refine gvT fd (.bool true) ho (wantedI rfl (yieldedI rfl eg)) ?_ rfl;rotate_left
            have d0:a.eval (.tmp 71)=.bool false:=hdep ⟨41,.data⟩ (by simp) rfl;have d1:a.eval (.tmp 83)=.bool true:=hdep ⟨53,.data⟩ (by simp) rfl;refine gvT fd (.bool true) ho rfl ?_ rfl;rotate_left
            all_goals (unfold execOp;first|(simp only [zA,zB,zC,d0,d1,ec];first|rfl|(go_simp;first|done|rfl|omega))|(simp only [zA,zB,zC,d0,ec];first|rfl|(go_simp;first|done|rfl|omega))|(simp only [zA,zB,zC,e3,ec];first|rfl|(go_simp;first|done|rfl|omega))|(simp only [zA,zB,zC,e4,ec];first|rfl|(go_simp;first|done|rfl|omega)))
           ·intro a w1 hI hb hj
            have hb':Below wr.heap.size wr w1:=up (Below.refl _ _).drew hb
            exact⟨hj 54 (by decide),hb'⟩
           rintro ts w7 ⟨h84,hb7⟩
           simp only [fill,List.setIfInBounds_toArray,List.set_cons_succ,List.set_cons_zero]
           rw [h84]
           have HU7:=hZ (up HU.out hb7)
           have hd2:=HD.out
           rw [Sc.ck_no (.inl (Sc.okC_no HCX.out (Sc.okAt_false (fun hh=>by have:=hh.2.2.1;rw [HE.out] at this;exact hE this))))] at hd2
           subst hd2
           clear h84 hb7
           go_wp2_with fail
           go_ret
           exact⟨rfl,HU7.out⟩
     ·have hlt1:¬ (k:Int) < l.length:=by omega
      obtain rfl:k=l.length:=by omega
      have HOC:Hid (Sc.okC l=true):=hZ (Sc.okC_iff.2 ⟨by omega,fun i c hc=>HP.out i c (List.getElem?_eq_some_iff.1 hc).1 hc⟩)
      have y1:=(HU1.out.cell (p:=⟨w.heap.size,1,none⟩) (cell_lt x1)).trans x1
      clear HP hk
      go_wp2_with fail
      clear y1
      go_loopw [6] (fun i wr=>∃ q:Nat,q≤ks.length∧i=.int .i64 (q:Nat)∧Hid (∀ j z,j < q→ks[j]?=some z→Sc.okKAt l ks j z=true)∧Hid (Below w1.heap.size w1 wr)) (fun i _=>ks.length - (intOf i).toNat)
      case atStart=>exact⟨0,by omega,by rfl,hZ (by intro j c hj;omega),HU1⟩
      case round =>
       clear HU1 HU
       obtain⟨q,hq,rfl,HQ,HU1⟩:=hrel
       have HU:=hZ (up HB.out HU1.out)
       have y1:=(HU1.out.cell (p:=⟨w.heap.size,1,none⟩) (cell_lt x1)).trans x1
       by_cases hlt:q < ks.length
       ·have hlt1:(q:Int) < ks.length:=by omega
        have hq8:(q:Int) < 16:=by omega
        have HLT:=hZ hlt
        obtain⟨z,hz⟩:∃ z,ks[q]?=some z:=⟨_,List.getElem?_eq_getElem hlt⟩
        have HZ:=hZ hz
        obtain⟨gk,ok,rfl,p0⟩:=rdI_cell HRI.out HU1.out hz
        have hzi:=HI.out z (List.mem_of_getElem? hz)
        have hzi0:=hzi.1
        have hzi1:=hzi.2
        have HLK:Hid (0≤Sc.leastK ks q):=hZ (by
         cases q with
         | zero=>simp [Sc.leastK]
         | succ q =>
          obtain⟨y,hy⟩:∃ y,ks[q]?=some y:=⟨_,List.getElem?_eq_getElem (by omega)⟩
          have h1:=(Sc.okKAt_parts.1 (HQ.out q y (by omega) hy)).1.1
          have h2:0≤Sc.leastK ks q:=Sc.leastK_of HQ.out q (by omega) (by omega)
          unfold Sc.leastK
          rw [if_neg (by omega),Nat.add_sub_cancel,Sc.getD_of hy]
          omega)
        clear hz hzi
        by_cases hA:z < 0
        ·have hd2:=HD.out
         rw [Sc.ck_no (.inr (Sc.okK_no HZ.out (Sc.okKAt_false (fun hh=>by have:=HLK.out;have:=hh.1.1;omega))))] at hd2
         subst hd2
         go_wp2_with fail
         go_ret
         exact⟨rfl,HU.out⟩
        ·obtain⟨zn,rfl⟩:∃ zn:Nat,z=zn:=⟨z.toNat,by omega⟩
         by_cases hB:l.length≤zn
         ·have hB1:(l.length:Int)≤zn:=by omega
          have hd2:=HD.out
          rw [Sc.ck_no (.inr (Sc.okK_no HZ.out (Sc.okKAt_false (fun hh=>by have:=hh.1.2;omega))))] at hd2
          subst hd2
          clear hB
          go_wp2_with fail
          go_ret
          exact⟨rfl,HU.out⟩
         ·have hB1:¬ (l.length:Int)≤zn:=by omega
          have hB2:(zn:Int) < l.length:=by omega
          obtain⟨c,hx⟩:∃ c,l[zn]?=some c:=⟨_,List.getElem?_eq_getElem (by omega)⟩
          have HCX:=hZ hx
          obtain⟨gb,off,rfl,_,_,_,u3,_,_,_⟩:=rdK_cells HR.out HU1.out hx
          obtain⟨xi,xm,xk,xu,xd⟩:=c
          simp only at u3
          clear hx hB
          by_cases hP:(0:Int) < q
          ·obtain⟨q1,hq1⟩:∃ q1:Nat,q=q1+1:=⟨q - 1,by omega⟩
           have HQQ:=hZ hq1
           have hwk:IntKind.i64.wrap ((q:Int) - 1)=(q1:Nat):=by rw [IntWalk.i64_in _ ⟨by omega,by omega⟩];omega
           have hqm:(q:Int) - 1=(q1:Nat):=by omega
           obtain⟨y,hy⟩:∃ y,ks[q1]?=some y:=⟨_,List.getElem?_eq_getElem (by omega)⟩
           have HY:=hZ hy
           have hlq1:(q1:Int) < ks.length:=by omega
           obtain⟨gk',ok',hgo,t0⟩:=rdI_cell HRI.out HU1.out hy
           injection hgo with hgo
           injection hgo with hg1 hg2 _
           subst hg1 hg2
           have HLQ:Hid (Sc.leastK ks q=y+1):=hZ (by rw [hq1];unfold Sc.leastK;rw [if_neg (by omega),Nat.add_sub_cancel,Sc.getD_of hy])
           clear hq1 hy
           by_cases hC:(zn:Int)≤y
           ·have hd2:=HD.out
            rw [Sc.ck_no (.inr (Sc.okK_no HZ.out (Sc.okKAt_false (fun hh=>by have:=hh.1.1;rw [HLQ.out] at this;omega))))] at hd2
            subst hd2
            go_wp2_with fail
            go_ret
            exact⟨rfl,HU.out⟩
           ·cases xu with
            | true =>
             have hd2:=HD.out
             rw [Sc.ck_no (.inr (Sc.okK_no HZ.out (Sc.okKAt_false (fun hh=>by have:=hh.2;rw [Int.toNat_natCast,Sc.getD_of HCX.out] at this;cases this))))] at hd2
             subst hd2
             go_wp2_with fail
             go_ret
             exact⟨rfl,HU.out⟩
            | false =>
             have HNQ:Hid (∀ j z,j < q+1→ks[j]?=some z→Sc.okKAt l ks j z=true):=hZ (fun j z hj hc=>by
              rcases Nat.lt_or_ge j q with h|h
              ·exact HQ.out j z h hc
              ·obtain rfl:j=q:=by omega
               rw [HZ.out] at hc;injection hc with hc;subst hc
               refine Sc.okKAt_parts.2 ⟨⟨by rw [HLQ.out];omega,hB2⟩,by rw [Int.toNat_natCast,Sc.getD_of HCX.out]⟩)
             go_wp2_with fail
             go_roundw
             case rel=>exact⟨q+1,HLT.out,by go_num,HNQ,HU1⟩
             case measure=>have:=HLT.out;simp [intOf];omega
          ·cases xu with
           | true =>
            have hd2:=HD.out
            rw [Sc.ck_no (.inr (Sc.okK_no HZ.out (Sc.okKAt_false (fun hh=>by have:=hh.2;rw [Int.toNat_natCast,Sc.getD_of HCX.out] at this;cases this))))] at hd2
            subst hd2
            go_wp2_with fail
            go_ret
            exact⟨rfl,HU.out⟩
           | false =>
            have HNQ:Hid (∀ j z,j < q+1→ks[j]?=some z→Sc.okKAt l ks j z=true):=hZ (fun j z hj hc=>by
             rcases Nat.lt_or_ge j q with h|h
             ·exact HQ.out j z h hc
             ·obtain rfl:j=q:=by omega
              rw [HZ.out] at hc;injection hc with hc;subst hc
              refine Sc.okKAt_parts.2 ⟨⟨by rw [show j=0 by omega];show (0:Int)≤zn;omega,hB2⟩,by rw [Int.toNat_natCast,Sc.getD_of HCX.out]⟩)
            go_wp2_with fail
            go_roundw
            case rel=>exact⟨q+1,HLT.out,by go_num,HNQ,HU1⟩
            case measure=>have:=HLT.out;simp [intOf];omega
       ·have hlt1:¬ (q:Int) < ks.length:=by omega
        obtain rfl:q=ks.length:=by omega
        have hd2:=HD.out
        rw [Sc.ck_ok HOC.out (Sc.okK_iff.2 ⟨by omega,fun i k hk=>HQ.out i k (List.getElem?_eq_some_iff.1 hk).1 hk⟩)] at hd2
        subst hd2
        go_wp2_with fail
        go_ret
        exact⟨rfl,HU.out⟩
end Go.Proofs.YtenfjmdajlhfoabGreatDoor
