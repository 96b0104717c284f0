/- Texts. -/
import Derived.Test.YtenfjmdajlhfoabGreatDoorKEvStW
import Derived.Test.YtenfjmdajlhfoabGreatDoorKHw
import Derived.Deep.DeepCutAuto
import Derived.Deep.CutBlock
set_option maxHeartbeats 16000000
namespace Go.Proofs.YtenfjmdajlhfoabGreatDoor
open Go.RowKit Go.Sort
set_option linter.unusedVariables false
set_option linter.unusedSimpArgs false
set_option maxRecDepth 100000
structure SmRd (s:Ev.Sm):Prop where
 i:SmIn s
 n:s.1.length≤1000
 m:∀ c∈s.1,Cl.may c.k=true
theorem smrd_nil:SmRd ([],[]):=⟨⟨(fun c hc=>by cases hc),(fun c hc=>by cases hc)⟩,Nat.zero_le _,(fun c hc=>by cases hc)⟩
theorem textFrom_long (K:List Int):∀ (l:List Co) (i:Nat),l.length≤(Sc.textFrom K i l).length
 | [],i=>Nat.zero_le _
 | c::t,i=>by
  have h:=textFrom_long K t (i+1)
  unfold Sc.textFrom
  simp [Sc.line]
  omega
theorem parse_smrd (t:List Nat) (ht:t.length≤1000) (he:(Sc.parse t).e=0):SmRd ((Sc.parse t).cs,(Sc.parse t).ks):=by
 have hp:Sc.parse t=Sc.prs t 0 [] []:=by unfold Sc.parse;rw [if_neg (by omega)]
 rw [hp] at he ⊢
 obtain⟨l,Kl,h1,h2,_,_,h5,h6,h7⟩:=Sc.prs_back t.length t (Nat.le_refl _) 0 [] [] he
 rw [h1,h2]
 have hl:=textFrom_long Kl l 0
 rw [h7] at hl
 refine⟨⟨fun c hc=>?_,fun q hq=>?_⟩,by simpa using Nat.le_trans hl ht,fun c hc=>(h5 c (by simpa using hc)).may.1⟩
 ·have hc':=h5 c (by simpa using hc)
  have ho:=col_ok hc'
  exact⟨ho.id,ho.k,ho.n,Nat.le_trans ho.nm (by decide),Nat.le_trans ho.s (by decide)⟩
 ·have:=h6 q (by simpa using hq)
  have:(l.length:Int)≤1000:=by omega
  constructor<;>omega
def Ev.slN (s:ByteArray):ByteArray:=⟨(s.data.toList.flatMap fun b=>if b=47 then [10] else [b]).toArray⟩
noncomputable def Ev.rdS (s:ByteArray):Ev.Sm:=if (Sc.parse (bl (Ev.slN s))).e=0 then ((Sc.parse (bl (Ev.slN s))).cs,(Sc.parse (bl (Ev.slN s))).ks) else ([],[])
theorem Ev.slN_size (s:ByteArray):(Ev.slN s).size=s.size:=by
 have h1:∀ l:List UInt8,(l.flatMap fun b=>if b=47 then [10] else [b]).length=l.length:=fun l=>by
  induction l with
  | nil=>rfl
  | cons x l ih=>rw [List.flatMap_cons,List.length_append,ih];split<;>simp<;>omega
 unfold Ev.slN
 show (s.data.toList.flatMap fun b=>if b=47 then [10] else [b]).length=_
 rw [h1];rfl
theorem rdS_ok (s:ByteArray) (hs:s.size≤1000):SmRd (Ev.rdS s):=by
 unfold Ev.rdS
 split
 ·next h=>exact parse_smrd _ (by rw [bl_length,Ev.slN_size];omega) h
 ·exact smrd_nil
namespace Ev
open Cl Sc
def eK1:Co:=⟨1,⟨#[107]⟩,2,false,⟨false,0,⟨#[]⟩⟩⟩
def sK:Sm:=([eK1],[0])
theorem colK1:Col eK1:=⟨by decide,by decide,by decide,by decide +kernel,by constructor<;>decide⟩
theorem preK1:pre eK1 true=[49,32,107,32,105,110,116,51,50,42,32,48]:=by
 show Jr.dnum ((1:Nat):Int)++32::([107]++32::([105,110,116,51,50,42]++32::bl (itS ((0:Nat):Int))))=_
 rw [dn 1 (by decide),bl_its 0 (by decide)];rfl
def tK:List Nat:=[49,32,107,32,105,110,116,51,50,42,32,48]++10::[]
theorem pK:parse tK=⟨[eK1],[0],0,0⟩:=one tK eK1 true _ preK1 colK1 rfl (by decide) (by decide +kernel)
theorem rdS_K:rdS ⟨#[49,32,107,32,105,110,116,51,50,42,32,48,47]⟩=sK:=by
 unfold rdS
 rw [show bl (slN ⟨#[49,32,107,32,105,110,116,51,50,42,32,48,47]⟩)=tK from by decide +kernel,pK];rfl
theorem chK64:chain (List.replicate 64 sK)=0:=by decide +kernel
theorem chK65:chain (List.replicate 65 sK)=5:=by decide +kernel
end Ev
theorem smInK:SmIn Ev.sK:=(rdS_ok ⟨#[49,32,107,32,105,110,116,51,50,42,32,48,47]⟩ (by decide)).i |> (fun h=>by rwa [Ev.rdS_K] at h)
theorem smOkK:SmOk Ev.sK:=⟨fun c hc=>by
 have:c=Ev.eK1:=by simpa [Ev.sK] using hc
 subst this;exact col_ok Ev.colK1,fun q hq=>by
 have:q=0:=by simpa [Ev.sK] using hq
 subst this;constructor<;>omega,by decide,by decide⟩
theorem sms_rep (x:Sx) (n:Nat):sms (List.replicate n x)=List.replicate n x.s:=by simp [sms]
theorem lReadK (s:ByteArray) (hs:s.size≤1000) (w:World) (T:TA w) :
 Calls Tryz.prog 35 #[.string s] w fun e w'=>SPost w (Ev.rdS s) e w':=by
 obtain⟨t,htd⟩:∃ t:ByteArray,Ev.slN s=t:=⟨_,rfl⟩
 have ht:(s.data.toList.flatMap fun b=>if b=47 then [10] else [b])=t.data.toList:=by rw [← htd];rfl
 have hm:t.size≤1000:=by rw [← htd,Ev.slN_size];exact hs
 obtain⟨a,ha⟩:∃ a,Sc.parse (bl t)=a:=⟨_,rfl⟩
 have hrd:Ev.rdS s=if a.e=0 then (a.cs,a.ks) else ([],[]):=by unfold Ev.rdS;rw [htd,ha]
 obtain⟨Q,hQ⟩:∃ Q,Ev.rdS s=Q:=⟨_,rfl⟩
 rw [hQ] at hrd ⊢
 clear hQ htd
 have hYq:∀ w1:World,Below w.heap.size w w1→Calls Tryz.prog 64 #[.string s,.string ⟨#[47]⟩,.string ⟨#[10]⟩] w1 fun e w'=>e=.returned (.string t)∧Below w1.heap.size w1 w':=fun w1 hb=>by
  obtain⟨m,hm2⟩:=(T.later hb).mx
  have hcount:Lib.countB s ⟨#[47]⟩≤s.size:=Lib.countB_le ⟨#[47]⟩ (by decide) s.size s (Nat.le_refl _)
  rw [← repl47 s t ht]
  exact Tryz.strings_ReplaceAll s ⟨#[47]⟩ ⟨#[10]⟩ m w1 (by omega) hm2 (by decide) (by show s.size+_ * 1≤_;omega)
 have HZ:=hZ hYq
 have HP:=hZ (fun w1 (hb:Below w.heap.size w w1)=>cParse t (by omega) w1 (T.later hb) _ ha)
 have HB:=hZ (box_new w (.cells #[.slice none 0 0,.slice none 0 0] 25))
 have HRD:=hZ hrd
 clear hYq T ha ht hm hs hrd
 obtain⟨cs,ks,n,e⟩:=a
 go_enter Tryz.func35,Tryz.ntmps35
 go_wp2_with fail
 ((with_reducible refine (HZ.out _ HB.out).mono ?_);rintro ee w1 ⟨rfl,b1⟩)
 have HB1:=hZ (up HB.out b1)
 have HR1:=hZ ((Blk.new w 25 #[.slice none 0 0,.slice none 0 0]).later b1)
 clear b1 HB
 go_wp2_with fail
 ((with_reducible refine (HP.out _ HB1.out).mono ?_);rintro ee w2 ⟨cv,kv,rfl,oc,ok,b2⟩)
 simp only at oc ok HRD ⊢
 obtain⟨a1,c1,rfl⟩:=own_slice oc
 obtain⟨a2,c2,rfl⟩:=own_slice ok
 have HB2:=hZ (up HB1.out b2)
 have HR2:=hZ (HR1.out.later b2)
 have HOC:=hZ (Gn.Own.lower (Gn.Own.later oc (box_new w2 (.cells #[.slice a1 cs.length c1,.slice a2 ks.length c2] 25))) HB1.out.size)
 have HOK:=hZ (Gn.Own.lower (Gn.Own.later ok (box_new w2 (.cells #[.slice a1 cs.length c1,.slice a2 ks.length c2] 25))) HB1.out.size)
 have HR3:=hZ (HR2.out.later (box_new w2 (.cells #[.slice a1 cs.length c1,.slice a2 ks.length c2] 25)))
 have q0:=HR3.out.cell 0
 have q1:=HR3.out.cell 1
 have q2:=HR3.out.frozen 0
 have q3:=HR3.out.frozen 1
 simp only [zD,zE] at q0 q1
 have HX:=hZ (Blk.put (Blk.put HR3.out 0 (.slice a1 cs.length c1)) 1 (.slice a2 ks.length c2))
 have HB3:=hZ (((up_box HB2.out (.cells #[.slice a1 cs.length c1,.slice a2 ks.length c2] 25)).setCell (p:=⟨w.heap.size,0,none⟩) (Nat.le_refl _) (.slice a1 cs.length c1)).setCell (p:=⟨w.heap.size,1,none⟩) (Nat.le_refl _) (.slice a2 ks.length c2))
 have HN:Hid ((∀ g,(Value.slice a1 cs.length c1).ownBlock=some g→g≠w.heap.size)∧(∀ g,(Value.slice a2 ks.length c2).ownBlock=some g→g≠w.heap.size)):=hZ ⟨fun g hg=>by have:=(oc.lt g hg).1;have:=HB1.out.size;have:=HR1.out.lt;omega,fun g hg=>by have:=(ok.lt g hg).1;have:=HR1.out.lt;omega⟩
 clear oc ok b2 HB1 HR1 HZ HP
 have HX0:=hZ (Blk.put (Blk.put HR3.out 0 (.slice none 0 0)) 1 (.slice none 0 0))
 have HB0:=hZ (((up_box HB2.out (.cells #[.slice a1 cs.length c1,.slice a2 ks.length c2] 25)).setCell (p:=⟨w.heap.size,0,none⟩) (Nat.le_refl _) (.slice none 0 0)).setCell (p:=⟨w.heap.size,1,none⟩) (Nat.le_refl _) (.slice none 0 0))
 clear HR2 HB2
 by_cases he:e=0
 ·have hq:=HRD.out
  rw [if_pos he] at hq
  subst hq
  clear HRD
  go_wp2_with fail
  refine bodyPost_ret (retSE rfl _ _ w.heap.size _ _ rfl HX.out) rfl ⟨⟨a1,c1,a2,c2,(cs,ks)⟩,rfl,rfl,?_,?_,HB3.out⟩
  ·exact own_other (own_other HOC.out HN.out.1 _) HN.out.1 _
  ·exact own_other (own_other HOK.out HN.out.2 _) HN.out.2 _
 ·have hq:=HRD.out
  rw [if_neg he] at hq
  subst hq
  clear HRD
  go_wp2_with fail
  exact bodyPost_ret (retSE rfl _ _ w.heap.size _ _ rfl HX0.out) rfl ⟨⟨none,0,none,0,([],[])⟩,rfl,rfl,Gn.Own.nil _ _,Gn.Own.nil _ _,HB0.out⟩
def txK:List ByteArray:=[⟨#[49,32,107,32,105,110,116,51,50,42,32,48,47]⟩,⟨#[49,32,107,32,105,110,116,54,52,42,32,48,47]⟩,⟨#[49,32,107,32,115,116,114,105,110,103,42,32,34,34,47]⟩,⟨#[49,32,107,32,105,110,116,51,50,42,32,49,47]⟩,⟨#[49,32,107,32,105,110,116,51,50,42,32,48,47,50,32,118,32,105,110,116,51,50,32,48,47]⟩,⟨#[49,32,107,32,105,110,116,51,50,42,32,48,47,50,32,118,32,105,110,116,54,52,32,48,47]⟩,⟨#[49,32,107,32,105,110,116,51,50,42,32,48,47,50,32,118,32,105,110,116,51,50,63,32,48,47]⟩,⟨#[49,32,107,32,105,110,116,51,50,42,32,48,47,50,32,118,32,105,110,116,51,50,63,32,110,117,108,108,47]⟩,⟨#[49,32,107,32,105,110,116,51,50,42,32,48,47,50,32,118,32,105,110,116,54,52,63,32,110,117,108,108,47]⟩,⟨#[49,32,107,32,105,110,116,51,50,42,32,48,47,50,32,118,32,98,111,111,108,32,102,97,108,115,101,47]⟩,⟨#[49,32,107,32,105,110,116,51,50,42,32,48,47,50,32,118,32,105,110,116,51,50,42,32,48,47]⟩,⟨#[49,32,107,32,105,110,116,51,50,32,48,47,50,32,118,32,105,110,116,51,50,42,32,48,47]⟩,⟨#[49,32,107,32,105,110,116,51,50,32,48,47]⟩,⟨#[49,32,107,32,105,110,116,51,50,42,32,48,47,51,32,118,32,105,110,116,51,50,32,48,47]⟩,⟨#[49,32,107,32,105,110,116,51,50,42,32,48,47,50,32,119,32,105,110,116,51,50,32,48,47]⟩,⟨#[49,32,107,32,105,110,116,51,50,42,32,48,47,50,32,118,32,105,110,116,51,50,32,48,47,51,32,119,32,98,121,116,101,115,32,120,102,102,47]⟩,⟨#[49,32,107,32,105,110,116,51,50,42,32,48,47,49,48,52,56,53,55,54,32,122,32,98,111,111,108,32,116,114,117,101,47]⟩,⟨#[50,32,107,32,105,110,116,51,50,42,32,48,47]⟩]
theorem txK_size:∀ t∈txK,t.size≤1000:=by decide
abbrev txV:Array Value:=#[.string ⟨#[49,32,107,32,105,110,116,51,50,42,32,48,47]⟩,.string ⟨#[49,32,107,32,105,110,116,54,52,42,32,48,47]⟩,.string ⟨#[49,32,107,32,115,116,114,105,110,103,42,32,34,34,47]⟩,.string ⟨#[49,32,107,32,105,110,116,51,50,42,32,49,47]⟩,.string ⟨#[49,32,107,32,105,110,116,51,50,42,32,48,47,50,32,118,32,105,110,116,51,50,32,48,47]⟩,.string ⟨#[49,32,107,32,105,110,116,51,50,42,32,48,47,50,32,118,32,105,110,116,54,52,32,48,47]⟩,.string ⟨#[49,32,107,32,105,110,116,51,50,42,32,48,47,50,32,118,32,105,110,116,51,50,63,32,48,47]⟩,.string ⟨#[49,32,107,32,105,110,116,51,50,42,32,48,47,50,32,118,32,105,110,116,51,50,63,32,110,117,108,108,47]⟩,.string ⟨#[49,32,107,32,105,110,116,51,50,42,32,48,47,50,32,118,32,105,110,116,54,52,63,32,110,117,108,108,47]⟩,.string ⟨#[49,32,107,32,105,110,116,51,50,42,32,48,47,50,32,118,32,98,111,111,108,32,102,97,108,115,101,47]⟩,.string ⟨#[49,32,107,32,105,110,116,51,50,42,32,48,47,50,32,118,32,105,110,116,51,50,42,32,48,47]⟩,.string ⟨#[49,32,107,32,105,110,116,51,50,32,48,47,50,32,118,32,105,110,116,51,50,42,32,48,47]⟩,.string ⟨#[49,32,107,32,105,110,116,51,50,32,48,47]⟩,.string ⟨#[49,32,107,32,105,110,116,51,50,42,32,48,47,51,32,118,32,105,110,116,51,50,32,48,47]⟩,.string ⟨#[49,32,107,32,105,110,116,51,50,42,32,48,47,50,32,119,32,105,110,116,51,50,32,48,47]⟩,.string ⟨#[49,32,107,32,105,110,116,51,50,42,32,48,47,50,32,118,32,105,110,116,51,50,32,48,47,51,32,119,32,98,121,116,101,115,32,120,102,102,47]⟩,.string ⟨#[49,32,107,32,105,110,116,51,50,42,32,48,47,49,48,52,56,53,55,54,32,122,32,98,111,111,108,32,116,114,117,101,47]⟩,.string ⟨#[50,32,107,32,105,110,116,51,50,42,32,48,47]⟩]
theorem txV_eq:txV.toList=txK.map .string:=rfl
theorem rdI_lit (w:World) (l:List Int) (cs:Array Value) (hcs:cs=(Gn.cells inc l).toArray) (hl:l.length≤100):RdI (w.alloc (.cells cs 3)) (w.alloc (.cells cs 3)).heap.size (.slice (some ⟨w.heap.size,0,none⟩) l.length l.length) l :=
 RdI.of (Gn.Own.lit (T:=3) inL w 0 l cs l.length l.length hcs rfl rfl (by simp [maxLen];omega) (Nat.zero_le _))
theorem rdS_nil {w:World}:RdS w w.heap.size ⟨none,0,none,0,([],[])⟩:=⟨RdK.of (Gn.Own.nil _ 0),RdI.of (Gn.Own.nil _ 0)⟩
def enK:List Int:=[-9223372036854775808,-1,0,1,2,64,65,9223372036854775807]
def enV:Array Value:=#[.int .i64 (-9223372036854775808),.int .i64 (-1),.int .i64 0,.int .i64 1,.int .i64 2,.int .i64 64,.int .i64 65,.int .i64 9223372036854775807]
theorem enK_ok:∀ x∈enK,Cl.I64 x:=fun x hx=>by
 simp [enK] at hx
 rcases hx with rfl|rfl|rfl|rfl|rfl|rfl|rfl|rfl<;>(constructor<;>omega)
theorem i73:∀ x∈([7,3]:List Int),Cl.I64 x:=fun x hx=>by simp at hx;rcases hx with rfl|rfl<;>(constructor<;>omega)
theorem i5:∀ x∈([5]:List Int),Cl.I64 x:=fun x hx=>by simp at hx;subst hx;constructor<;>omega
theorem rowK (n:List Int) (l:List Co) (hl:l.length≤1000) (h:∀ x∈n,Cl.I64 x):∀ c∈Ev.rowF n 0 l,Cl.I64 c.n∧c.s.size≤maxLen:=fun c hc =>
 ⟨(Ev.rowF_all n l (by omega) h c hc).1,Nat.le_trans (Ev.rowF_all n l (by omega) h c hc).2 (by decide)⟩
theorem evolveKnown (w:World) (T:TA w):Calls Tryz.prog 10 #[] w fun e w'=>e=.returned (.bool true)∧Below w.heap.size w w':=by
 have HT:=hZ T
 have HTX:=hZ (Blk.new w 9 txV)
 have HB0:=hZ (box_new w (.cells txV 9))
 clear T
 go_enter Tryz.func10,Tryz.ntmps10
 go_wp2_with fail
 obtain⟨w0,hw0⟩:∃ u,w.alloc (.cells txV 9)=u:=⟨_,rfl⟩
 rw [hw0] at HB0 HTX ⊢
 obtain⟨gt,hgt⟩:∃ g,w.heap.size=g:=⟨_,rfl⟩
 have HGT:=hZ hgt
 rw [hgt] at HTX ⊢
 clear hgt hw0
 have HTX:Hid (Blk w0 gt 9 (txK.map .string)):=HTX
 go_loopw [2] (fun i wr=>∃ (p:Nat),p≤18∧i=.int .i64 (p:Nat)∧Hid (Below w0.heap.size w0 wr)) (fun i _=>18 - (intOf i).toNat)
 case atStart=>exact⟨0,by omega,by rfl,hZ (Below.refl _ _)⟩
 case round =>
  obtain⟨p,hp,rfl,HB⟩:=hrel
  by_cases hlt:p < 18
  ·have hlt1:(p:Int) < 18:=by omega
   go_wp2_with fail
   go_loopw [3] (fun i wr=>∃ (q:Nat),q≤18∧i=.int .i64 (q:Nat)∧Hid (Below w0.heap.size w0 wr)) (fun i _=>18 - (intOf i).toNat)
   case atStart=>exact⟨0,by omega,by rfl,HB⟩
   case round =>
    clear HB
    obtain⟨q,hq,rfl,HB⟩:=hrel
    by_cases hlq:q < 18
    ·have hlq1:(q:Int) < 18:=by omega
     obtain⟨tp,htp⟩:∃ t,txK[p]?=some t:=⟨_,List.getElem?_eq_getElem (show p < txK.length from hlt)⟩
     obtain⟨tq,htq⟩:∃ t,txK[q]?=some t:=⟨_,List.getElem?_eq_getElem (show q < txK.length from hlq)⟩
     have HWW:=hZ (up HB0.out HB.out)
     have HRP:=hZ (fun w1 (b:Below wr.heap.size wr w1)=>lReadK tp (txK_size tp (List.mem_of_getElem? htp)) w1 (HT.out.later (up HWW.out b)))
     have HRQ:=hZ (fun w1 (b:Below wr.heap.size wr w1)=>lReadK tq (txK_size tq (List.mem_of_getElem? htq)) w1 (HT.out.later (up HWW.out b)))
     have HSP:=hZ (rdS_ok tp (txK_size tp (List.mem_of_getElem? htp)))
     have HSQ:=hZ (rdS_ok tq (txK_size tq (List.mem_of_getElem? htq)))
     have HTP:Hid (∀ w1,Below wr.heap.size wr w1→w1.cell? ⟨gt,p,none⟩=some (.string tp)∧w1.cell? ⟨gt,q,none⟩=some (.string tq)):=hZ (fun w1 b=>by
      have h:=(HTX.out.later HB.out).later b
      have h1:=h.cell p
      have h2:=h.cell q
      rw [List.getElem?_map,htp] at h1
      rw [List.getElem?_map,htq] at h2
      exact⟨h1,h2⟩)
     generalize Ev.rdS tp=SP at *
     generalize Ev.rdS tq=SQ at *
     clear htp htq
     go_upto_region 8 with fail
     refine region_growA_merge (fun u v=>LtB wr.heap.size u v) (S2 wr.heap.size 4 5 10 11 12 13 SP SQ) (fun _ _ _=>True) (fun u=>LtB.refl _ _) (fun _ _ _ h k=>LtB.trans h k) (kjI #[Spc.eq (.slice (some ⟨gt,0,none⟩) 18 18),Spc.eq (.int .i64 (p:Nat)),Spc.eq (.pointer (some ⟨gt,p,none⟩)),Spc.eq (.string tp),⟨fun v u=>FV wr.heap.size SP v u,fun _ _ _ h hb=>h.ltB hb⟩,Spc.eq (.slice (some ⟨gt,0,none⟩) 18 18),Spc.eq (.int .i64 (q:Nat)),Spc.eq (.pointer (some ⟨gt,q,none⟩)),Spc.eq (.string tq),⟨fun v u=>FV wr.heap.size SQ v u,fun _ _ _ h hb=>h.ltB hb⟩,Spc.any,Spc.any,Spc.any,Spc.any]) [25,26,27,28,29,30,31,32,33,34,4,5] (fun ts W=>∃ p4 p5,ts.getD 4 undef=.pointer (some ⟨p4,0,none⟩)∧ts.getD 5 undef=.pointer (some ⟨p5,0,none⟩)∧PB wr.heap.size W p4 SP∧PB wr.heap.size W p5 SQ∧Below wr.heap.size wr W) (by kernel_rfl) (by kernel_rfl) (by kernel_rfl) kjI_later (S2.start (Nat.lt_of_lt_of_eq (show 4 < 143 by decide) (Eq.symm (by rfl))) (Nat.lt_of_lt_of_eq (show 5 < 143 by decide) (Eq.symm (by rfl))) (Nat.le_refl _)) ?_ ?_ ?_
     ·intro QQ fd jo o a w1 ho hfd hdd hI hb hs hold hdep
      have hjo:jo < 14:=(Array.getElem?_eq_some_iff.1 ho).1
      skip
      have hbw:Below wr.heap.size wr w1:=(Below.refl _ _).drew.trans (LtB.below hb (Nat.le_refl _))
      obtain⟨t0,t1⟩:=HTP.out w1 hbw
      have e1:a.eval (.tmp 1)=.slice (some ⟨gt,0,none⟩) 18 18:=by
       show a.tmps.getD 1 undef=_
       rw [Array.getD_eq_getD_getElem?,hold 1 (by decide +kernel)];rfl
      have e2:a.eval (.tmp 2)=.int .i64 (p:Nat):=by
       show a.tmps.getD 2 undef=_
       rw [Array.getD_eq_getD_getElem?,hold 2 (by decide +kernel)];rfl
      have e3:a.eval (.tmp 3)=.int .i64 (q:Nat):=by
       show a.tmps.getD 3 undef=_
       rw [Array.getD_eq_getD_getElem?,hold 3 (by decide +kernel)];rfl
      have ec:∀ v,a.eval (.const v)=v:=fun _=>rfl
      clear hold hs
      rcases (show jo=0 ∨ jo=1 ∨ jo=2 ∨ jo=3 ∨ jo=4 ∨ jo=5 ∨ jo=6 ∨ jo=7 ∨ jo=8 ∨ jo=9 ∨ jo=10 ∨ jo=11 ∨ jo=12 ∨ jo=13 by omega) with rfl|rfl|rfl|rfl|rfl|rfl|rfl|rfl|rfl|rfl|rfl|rfl|rfl|rfl
      all_goals (have ho2:=ho;simp only [List.getElem?_toArray,zD,zE,Option.some.injEq] at ho2;subst ho2)
      refine growA_val (I:=(S2 wr.heap.size 4 5 10 11 12 13 SP SQ)) (X:=(fun _ _ _=>True)) (d:=fd) (a:=a) (w:=w1) (.slice (some ⟨gt,0,none⟩) 18 18) w1 ho rfl ?_ ((fun u=>LtB.refl _ _) w1) (hI.put (by decide) (by decide) (by decide) (by decide) (by decide) (by decide) (Below.refl _ _)) trivial rfl;rotate_left
      refine growA_val (I:=(S2 wr.heap.size 4 5 10 11 12 13 SP SQ)) (X:=(fun _ _ _=>True)) (d:=fd) (a:=a) (w:=w1) (.int .i64 (p:Nat)) w1 ho rfl ?_ ((fun u=>LtB.refl _ _) w1) (hI.put (by decide) (by decide) (by decide) (by decide) (by decide) (by decide) (Below.refl _ _)) trivial rfl;rotate_left
      have d0:a.eval (.tmp 25)=.slice (some ⟨gt,0,none⟩) 18 18:=hdep ⟨0,.data⟩ (by simp) rfl;have d1:a.eval (.tmp 26)=.int .i64 (p:Nat):=hdep ⟨1,.data⟩ (by simp) rfl;refine growA_val (I:=(S2 wr.heap.size 4 5 10 11 12 13 SP SQ)) (X:=(fun _ _ _=>True)) (d:=fd) (a:=a) (w:=w1) (.pointer (some ⟨gt,p,none⟩)) w1 ho rfl ?_ ((fun u=>LtB.refl _ _) w1) (hI.put (by decide) (by decide) (by decide) (by decide) (by decide) (by decide) (Below.refl _ _)) trivial rfl;rotate_left
      have d0:a.eval (.tmp 27)=.pointer (some ⟨gt,p,none⟩):=hdep ⟨2,.data⟩ (by simp) rfl;refine growA_val (I:=(S2 wr.heap.size 4 5 10 11 12 13 SP SQ)) (X:=(fun _ _ _=>True)) (d:=fd) (a:=a) (w:=w1) (.string tp) w1 ho rfl ?_ ((fun u=>LtB.refl _ _) w1) (hI.put (by decide) (by decide) (by decide) (by decide) (by decide) (by decide) (Below.refl _ _)) trivial rfl;rotate_left
      ·have d0:a.eval (.tmp 28)=.string tp:=hdep ⟨3,.data⟩ (by simp) rfl
       refine growA_call (I:=(S2 wr.heap.size 4 5 10 11 12 13 SP SQ)) (X:=(fun _ _ _=>True)) (d:=fd) (a:=a) (w:=w1) 35 #[.string tp] ho rfl ?_ ((HRP.out w1 hbw).mono ?_)
       ·unfold execOp resolve
        simp only [zA,zB,zC,d0,ec]
        rfl
       ·rintro e c1 ⟨x,hxs,rfl,q1,q2,hb2⟩
        exact⟨_,rfl,⟨_,_,rfl,Gn.Own.lower q1 hI.bz,Gn.Own.lower q2 hI.bz⟩,(LtB.of_below hb2),(hI.put (by decide) (by decide) (by decide) (by decide) (by decide) (by decide) hb2),trivial⟩
      refine growA_val (I:=(S2 wr.heap.size 4 5 10 11 12 13 SP SQ)) (X:=(fun _ _ _=>True)) (d:=fd) (a:=a) (w:=w1) (.slice (some ⟨gt,0,none⟩) 18 18) w1 ho rfl ?_ ((fun u=>LtB.refl _ _) w1) (hI.put (by decide) (by decide) (by decide) (by decide) (by decide) (by decide) (Below.refl _ _)) trivial rfl;rotate_left
      refine growA_val (I:=(S2 wr.heap.size 4 5 10 11 12 13 SP SQ)) (X:=(fun _ _ _=>True)) (d:=fd) (a:=a) (w:=w1) (.int .i64 (q:Nat)) w1 ho rfl ?_ ((fun u=>LtB.refl _ _) w1) (hI.put (by decide) (by decide) (by decide) (by decide) (by decide) (by decide) (Below.refl _ _)) trivial rfl;rotate_left
      have d0:a.eval (.tmp 30)=.slice (some ⟨gt,0,none⟩) 18 18:=hdep ⟨5,.data⟩ (by simp) rfl;have d1:a.eval (.tmp 31)=.int .i64 (q:Nat):=hdep ⟨6,.data⟩ (by simp) rfl;refine growA_val (I:=(S2 wr.heap.size 4 5 10 11 12 13 SP SQ)) (X:=(fun _ _ _=>True)) (d:=fd) (a:=a) (w:=w1) (.pointer (some ⟨gt,q,none⟩)) w1 ho rfl ?_ ((fun u=>LtB.refl _ _) w1) (hI.put (by decide) (by decide) (by decide) (by decide) (by decide) (by decide) (Below.refl _ _)) trivial rfl;rotate_left
      have d0:a.eval (.tmp 32)=.pointer (some ⟨gt,q,none⟩):=hdep ⟨7,.data⟩ (by simp) rfl;refine growA_val (I:=(S2 wr.heap.size 4 5 10 11 12 13 SP SQ)) (X:=(fun _ _ _=>True)) (d:=fd) (a:=a) (w:=w1) (.string tq) w1 ho rfl ?_ ((fun u=>LtB.refl _ _) w1) (hI.put (by decide) (by decide) (by decide) (by decide) (by decide) (by decide) (Below.refl _ _)) trivial rfl;rotate_left
      ·have d0:a.eval (.tmp 33)=.string tq:=hdep ⟨8,.data⟩ (by simp) rfl
       refine growA_call (I:=(S2 wr.heap.size 4 5 10 11 12 13 SP SQ)) (X:=(fun _ _ _=>True)) (d:=fd) (a:=a) (w:=w1) 35 #[.string tq] ho rfl ?_ ((HRQ.out w1 hbw).mono ?_)
       ·unfold execOp resolve
        simp only [zA,zB,zC,d0,ec]
        rfl
       ·rintro e c1 ⟨x,hxs,rfl,q1,q2,hb2⟩
        exact⟨_,rfl,⟨_,_,rfl,Gn.Own.lower q1 hI.bz,Gn.Own.lower q2 hI.bz⟩,(LtB.of_below hb2),(hI.put (by decide) (by decide) (by decide) (by decide) (by decide) (by decide) hb2),trivial⟩
      ·refine growA_val (I:=(S2 wr.heap.size 4 5 10 11 12 13 SP SQ)) (X:=(fun _ _ _=>True)) (d:=fd) (a:=a) (w:=w1) (.pointer (some ⟨w1.heap.size,0,none⟩)) (w1.alloc (.cells #[.slice none 0 0,.slice none 0 0] 25)) ho rfl ?_ (LtB.of_below (box_new _ _)) (hI.newA (by decide) (by decide) (by decide) (by decide) hfd) trivial trivial
       unfold execOp
       go_simp
       first|done|rfl
      ·refine growA_val (I:=(S2 wr.heap.size 4 5 10 11 12 13 SP SQ)) (X:=(fun _ _ _=>True)) (d:=fd) (a:=a) (w:=w1) (.pointer (some ⟨w1.heap.size,0,none⟩)) (w1.alloc (.cells #[.slice none 0 0,.slice none 0 0] 25)) ho rfl ?_ (LtB.of_below (box_new _ _)) (hI.newB (by decide) (by decide) (by decide) (by decide) hfd) trivial trivial
       unfold execOp
       go_simp
       first|done|rfl
      ·have hjd:fd 10=true:=hdd ⟨10,.data⟩ (by simp) rfl
       obtain⟨p,hp,hpB,hpz,_⟩:=hI.pa hjd
       have hz:=hpz hfd
       unfold nilC at hz
       obtain⟨cv,kv,d2,q1,q2⟩:FV wr.heap.size SP (a.eval (.tmp 29)) w1:=hdep ⟨4,.data⟩ (by simp) rfl
       obtain⟨sv1,sv2,ev,_⟩:=Gn.Rd.form (RdK.of q1)
       obtain⟨sv3,sv4,ek,_⟩:=Gn.Rd.form (RdI.of q2)
       have d1:a.eval (.tmp 4)=.pointer (some ⟨p,0,none⟩):=hp
       have f0:=hz.frozen 0
       have f1:=hz.frozen 1
       have y0:=hz.cell 0
       have y1:=hz.cell 1
       simp only [zD,zE] at y0 y1
       have hF:=hI.fillA (by decide) (by decide) (by decide) hjd hfd hp q1 q2
       refine growA_skip (I:=(S2 wr.heap.size 4 5 10 11 12 13 SP SQ)) (X:=(fun _ _ _=>True)) (d:=fd) (a:=a) (w:=w1) ((w1.setCell ⟨p,0,none⟩ cv).setCell ⟨p,1,none⟩ kv) ho rfl rfl ?_ hF.2 hF.1 trivial trivial
       subst ev ek
       unfold execOp;simp only [d1,d2,ec]
       go_simp
      ·have hjd:fd 11=true:=hdd ⟨11,.data⟩ (by simp) rfl
       obtain⟨p,hp,hpB,hpz,_⟩:=hI.pb hjd
       have hz:=hpz hfd
       unfold nilC at hz
       obtain⟨cv,kv,d2,q1,q2⟩:FV wr.heap.size SQ (a.eval (.tmp 34)) w1:=hdep ⟨9,.data⟩ (by simp) rfl
       obtain⟨sv1,sv2,ev,_⟩:=Gn.Rd.form (RdK.of q1)
       obtain⟨sv3,sv4,ek,_⟩:=Gn.Rd.form (RdI.of q2)
       have d1:a.eval (.tmp 5)=.pointer (some ⟨p,0,none⟩):=hp
       have f0:=hz.frozen 0
       have f1:=hz.frozen 1
       have y0:=hz.cell 0
       have y1:=hz.cell 1
       simp only [zD,zE] at y0 y1
       have hF:=hI.fillB (by decide) (by decide) (by decide) hjd hfd hp q1 q2
       refine growA_skip (I:=(S2 wr.heap.size 4 5 10 11 12 13 SP SQ)) (X:=(fun _ _ _=>True)) (d:=fd) (a:=a) (w:=w1) ((w1.setCell ⟨p,0,none⟩ cv).setCell ⟨p,1,none⟩ kv) ho rfl rfl ?_ hF.2 hF.1 trivial trivial
       subst ev ek
       unfold execOp;simp only [d1,d2,ec]
       go_simp
      all_goals (unfold execOp;first|(simp only [zA,zB,zC,d0,d1,ec];first|rfl|(go_simp;first|done|rfl|omega))|(simp only [zA,zB,zC,d0,ec];first|rfl|(go_simp;first|done|rfl|omega))|(simp only [zA,zB,zC,e1,ec];first|rfl|(go_simp;first|done|rfl|omega))|(simp only [zA,zB,zC,e2,ec];first|rfl|(go_simp;first|done|rfl|omega))|(simp only [zA,zB,zC,e3,ec];first|rfl|(go_simp;first|done|rfl|omega)))
     ·intro a w1 hI hb hj
      obtain⟨p4,k1,_,_,k2⟩:=hI.pa (by decide)
      obtain⟨p5,m1,_,_,m2⟩:=hI.pb (by decide)
      exact⟨p4,p5,k1,m1,k2 (by decide),m2 (by decide),(Below.refl _ _).drew.trans (LtB.below hb (Nat.le_refl _))⟩
     rintro ts w8 ⟨p4,p5,h4,h5,hp4,hp5,hb8⟩
     simp only [fill,List.setIfInBounds_toArray,List.set_cons_succ,List.set_cons_zero]
     rw [h4,h5]
     obtain⟨cv4,kv4,t4,oc4,ok4⟩:=hp4
     obtain⟨cv5,kv5,t5,oc5,ok5⟩:=hp5
     obtain⟨s1,n1,rfl,_⟩:=Gn.Rd.form (RdK.of oc4)
     obtain⟨s2,n2,rfl,_⟩:=Gn.Rd.form (RdI.of ok4)
     obtain⟨s3,n3,rfl,_⟩:=Gn.Rd.form (RdK.of oc5)
     obtain⟨s4,n4,rfl,_⟩:=Gn.Rd.form (RdI.of ok5)
     have HX4:=hZ t4
     have HX5:=hZ t5
     have HSA:Hid (RdS w8 w8.heap.size ⟨s1,n1,s2,n2,SP⟩):=hZ ⟨RdK.of oc4,RdI.of ok4⟩
     have HSB:Hid (RdS w8 w8.heap.size ⟨s3,n3,s4,n4,SQ⟩):=hZ ⟨RdK.of oc5,RdI.of ok5⟩
     have HT8:=hZ (HT.out.later (up HWW.out hb8))
     have HB8:=hZ (up HB.out hb8)
     have HW1:=hZ (fun (w1:World) (v:Value) (h:RdS w1 w1.heap.size ⟨s1,n1,s2,n2,SP⟩) (h2:RdI w1 w1.heap.size v [7,3])=>lRowOf _ v SP.1 [7,3] w1 h.c h2 HSP.out.n HSP.out.m i73)
     have HW2:=hZ (fun (w1:World) (v:Value) (h:RdS w1 w1.heap.size ⟨s1,n1,s2,n2,SP⟩) (h2:RdI w1 w1.heap.size v [5])=>lRowOf _ v SP.1 [5] w1 h.c h2 HSP.out.n HSP.out.m i5)
     have HW3:=hZ (fun (w1:World) (h:RdS w1 w1.heap.size ⟨s3,n3,s4,n4,SQ⟩)=>lRowOf _ (.slice none 0 0) SQ.1 [] w1 h.c (RdI.of (Gn.Own.nil _ 0)) HSQ.out.n HSQ.out.m (fun x hx=>by cases hx))
     have HR1:=hZ (rowK [7,3] SP.1 HSP.out.n i73)
     have HR2:=hZ (rowK [5] SP.1 HSP.out.n i5)
     have HR3:=hZ (rowK [] SQ.1 HSQ.out.n (fun x hx=>by cases hx))
     generalize Ev.rowF [7,3] 0 SP.1=R1 at *
     generalize Ev.rowF [5] 0 SP.1=R2 at *
     generalize Ev.rowF [] 0 SQ.1=R3 at *
     have HST:=hZ (fun (w1:World) (b:Below w8.heap.size w8 w1) (v:Value) (R:List Cl.C) (hr:RdC w1 w1.heap.size v R) (hri:∀ c∈R,Cl.I64 c.n∧c.s.size≤maxLen)=>evolveSteps _ _ HSP.out.i HSQ.out.i v R w1 (HSA.out.later b) (HSB.out.later b) hr hri (HT8.out.later b))
     have HC2:=hZ (fun (w1:World) (b:Below w8.heap.size w8 w1) (v u:Value) (R:List Cl.C) (h:RdSm w1 w1.heap.size v [⟨s1,n1,s2,n2,SP⟩,⟨s3,n3,s4,n4,SQ⟩]) (hr:RdC w1 w1.heap.size u R) (hri:∀ c∈R,Cl.I64 c.n∧c.s.size≤maxLen)=>evolveChains v _ 1 2 u R w1 h (fun x hx=>by simp at hx;rcases hx with rfl|rfl;exact HSP.out.i;exact HSQ.out.i) ⟨by omega,by omega⟩ ⟨by omega,by omega⟩ hr hri (HT8.out.later b))
     have HC3:=hZ (fun (w1:World) (b:Below w8.heap.size w8 w1) (v u:Value) (R:List Cl.C) (h:RdSm w1 w1.heap.size v [⟨s1,n1,s2,n2,SP⟩,⟨s3,n3,s4,n4,SQ⟩,⟨s1,n1,s2,n2,SP⟩]) (hr:RdC w1 w1.heap.size u R) (hri:∀ c∈R,Cl.I64 c.n∧c.s.size≤maxLen)=>evolveChains v _ 2 3 u R w1 h (fun x hx=>by simp at hx;rcases hx with rfl|rfl|rfl;exact HSP.out.i;exact HSQ.out.i;exact HSP.out.i) ⟨by omega,by omega⟩ ⟨by omega,by omega⟩ hr hri (HT8.out.later b))
     unfold Sx.v Sx.kv at HST
     unfold Sx.v at HW1 HW2 HW3
     simp only at HST HW1 HW2 HW3
     clear h4 h5 t4 t5 oc4 oc5 ok4 ok5 hb8 HRP HRQ HTP HB HWW
     go_upto_region 9 with fail
     refine region_growI_merge (fun u v:World=>Below u.heap.size u v) (fun _ _=>True) (fun _ _ _=>True) (fun u=>Below.refl _ _) (fun _ _ _ h k=>up h k) (kjI #[Spc.eq (.agg #[.slice s1 SP.1.length n1,.slice s2 SP.2.length n2]),Spc.eq (.agg #[.slice s3 SQ.1.length n3,.slice s4 SQ.2.length n4]),Spc.eq (.pointer (some ⟨p4,0,none⟩)),Spc.eq (.slice s1 SP.1.length n1),⟨fun v u=>RdI u u.heap.size v [7,3],fun _ _ _ h hb=>h.later hb⟩,⟨fun v u=>RdC u u.heap.size v R1,fun _ _ _ h hb=>h.later hb⟩,Spc.eq (.bool true),Spc.eq (.bool false),Spc.eq (.bool false),Spc.eq (.agg #[.slice s1 SP.1.length n1,.slice s2 SP.2.length n2]),Spc.eq (.agg #[.slice s3 SQ.1.length n3,.slice s4 SQ.2.length n4]),Spc.eq (.bool true),Spc.eq (.bool false),Spc.eq (.bool false),Spc.eq (.bool false),Spc.eq (.agg #[.slice s1 SP.1.length n1,.slice s2 SP.2.length n2]),Spc.eq (.agg #[.slice s3 SQ.1.length n3,.slice s4 SQ.2.length n4]),⟨fun v u=>RdSm u u.heap.size v [⟨s1,n1,s2,n2,SP⟩,⟨s3,n3,s4,n4,SQ⟩],fun _ _ _ h hb=>h.later hb⟩,Spc.eq (.agg #[.int .i64 1,.int .i64 2]),Spc.eq (.pointer (some ⟨p4,0,none⟩)),Spc.eq (.slice s1 SP.1.length n1),⟨fun v u=>RdI u u.heap.size v [5],fun _ _ _ h hb=>h.later hb⟩,⟨fun v u=>RdC u u.heap.size v R2,fun _ _ _ h hb=>h.later hb⟩,Spc.eq (.bool true),Spc.eq (.bool false),Spc.eq (.bool false),Spc.eq (.bool false),Spc.eq (.agg #[.slice s1 SP.1.length n1,.slice s2 SP.2.length n2]),Spc.eq (.agg #[.slice s3 SQ.1.length n3,.slice s4 SQ.2.length n4]),Spc.eq (.agg #[.slice s1 SP.1.length n1,.slice s2 SP.2.length n2]),⟨fun v u=>RdSm u u.heap.size v [⟨s1,n1,s2,n2,SP⟩,⟨s3,n3,s4,n4,SQ⟩,⟨s1,n1,s2,n2,SP⟩],fun _ _ _ h hb=>h.later hb⟩,Spc.eq (.agg #[.int .i64 2,.int .i64 3]),Spc.eq (.pointer (some ⟨p5,0,none⟩)),Spc.eq (.slice s3 SQ.1.length n3),⟨fun v u=>RdC u u.heap.size v R3,fun _ _ _ h hb=>h.later hb⟩,Spc.eq (.bool true),Spc.eq (.bool false),Spc.eq (.bool false)]) [35,36,37,38,39,40,41,42,43,44,45,46,47,48,49,50,51,52,53,54,55,56,57,58,59,60,61,62,63,64,65,66,67,68,69,70,71,72] (fun ts W=>ts.getD 72 undef=.bool false∧Below w8.heap.size w8 W) (by kernel_rfl) (by kernel_rfl) (by kernel_rfl) kjI_later trivial ?_ ?_ ?_
     ·intro QQ fd jo o a w1 ho hfd hdd hI hb hs hold hdep
      have hjo:jo < 38:=(Array.getElem?_eq_some_iff.1 ho).1
      have hb':Below w8.heap.size w8 w1:=up (Below.refl _ _).drew hb
      have t0:=(HX4.out.later hb').cell 0
      have t1:=(HX4.out.later hb').cell 1
      have t2:=(HX5.out.later hb').cell 0
      have t3:=(HX5.out.later hb').cell 1
      simp only [zD,zE] at t0 t1 t2 t3
      have e4:a.eval (.tmp 4)=.pointer (some ⟨p4,0,none⟩):=by
       show a.tmps.getD 4 undef=_
       rw [Array.getD_eq_getD_getElem?,hold 4 (by decide +kernel)];rfl
      have e5:a.eval (.tmp 5)=.pointer (some ⟨p5,0,none⟩):=by
       show a.tmps.getD 5 undef=_
       rw [Array.getD_eq_getD_getElem?,hold 5 (by decide +kernel)];rfl
      have ec:∀ v,a.eval (.const v)=v:=fun _=>rfl
      clear hold hs
      rcases (show jo=0 ∨ jo=1 ∨ jo=2 ∨ jo=3 ∨ jo=4 ∨ jo=5 ∨ jo=6 ∨ jo=7 ∨ jo=8 ∨ jo=9 ∨ jo=10 ∨ jo=11 ∨ jo=12 ∨ jo=13 ∨ jo=14 ∨ jo=15 ∨ jo=16 ∨ jo=17 ∨ jo=18 ∨ jo=19 ∨ jo=20 ∨ jo=21 ∨ jo=22 ∨ jo=23 ∨ jo=24 ∨ jo=25 ∨ jo=26 ∨ jo=27 ∨ jo=28 ∨ jo=29 ∨ jo=30 ∨ jo=31 ∨ jo=32 ∨ jo=33 ∨ jo=34 ∨ jo=35 ∨ jo=36 ∨ jo=37 by omega) with rfl|rfl|rfl|rfl|rfl|rfl|rfl|rfl|rfl|rfl|rfl|rfl|rfl|rfl|rfl|rfl|rfl|rfl|rfl|rfl|rfl|rfl|rfl|rfl|rfl|rfl|rfl|rfl|rfl|rfl|rfl|rfl|rfl|rfl|rfl|rfl|rfl|rfl
      all_goals (have ho2:=ho;simp only [List.getElem?_toArray,zD,zE,Option.some.injEq] at ho2;subst ho2)
      all_goals first|(refine (fun (eg:a.tmps.getD 43 undef=.bool false)=>?_) (hdep ⟨8,.guard⟩ ?_ rfl);rotate_left;focus (simp<;>fail))|(refine (fun (eg:a.tmps.getD 49 undef=.bool false)=>?_) (hdep ⟨14,.guard⟩ ?_ rfl);rotate_left;focus (simp<;>fail))|(refine (fun (eg:a.tmps.getD 61 undef=.bool false)=>?_) (hdep ⟨26,.guard⟩ ?_ rfl);rotate_left;focus (simp<;>fail))|skip
      refine gvT fd (.agg #[.slice s1 SP.1.length n1,.slice s2 SP.2.length n2]) ho rfl ?_ rfl;rotate_left
      refine gvT fd (.agg #[.slice s3 SQ.1.length n3,.slice s4 SQ.2.length n4]) ho rfl ?_ rfl;rotate_left
      refine gvT fd (.pointer (some ⟨p4,0,none⟩)) ho rfl ?_ rfl;rotate_left
      have d0:a.eval (.tmp 37)=.pointer (some ⟨p4,0,none⟩):=hdep ⟨2,.data⟩ (by simp) rfl;refine gvT fd (.slice s1 SP.1.length n1) ho rfl ?_ rfl;rotate_left
      ·refine growI_val (I:=(fun _ _=>True)) (X:=(fun _ _ _=>True)) (d:=fd) (a:=a) (w:=w1) (.slice (some ⟨w1.heap.size,0,none⟩) 2 2) (w1.alloc (.cells #[.int .i64 7,.int .i64 3] 3)) ho rfl ?_ ((box_new _ _)) trivial trivial (rdI_lit w1 [7,3] _ rfl (by decide))
       unfold execOp;simp only [zA,zB,zC,ec]
       generalize a.eval=ev at *
       go_simp
      ·have d0:a.eval (.tmp 38)=.slice s1 SP.1.length n1:=hdep ⟨3,.data⟩ (by simp) rfl
       obtain⟨v1,d1,f1⟩:∃ v,a.eval (.tmp 39)=v∧(fun v u=>RdI u u.heap.size v [7,3]) v w1:=⟨_,rfl,hdep ⟨4,.data⟩ (by simp) rfl⟩
       refine growI_call (I:=(fun _ _=>True)) (X:=(fun _ _ _=>True)) (d:=fd) (a:=a) (w:=w1) 29 #[.slice s1 SP.1.length n1,v1] ho rfl ?_ ((HW1.out w1 v1 (HSA.out.later hb') f1).mono ?_)
       ·unfold execOp resolve
        simp only [zA,zB,zC,d0,d1,ec]
        rfl
       ·rintro e c1 ⟨x,rfl,hp,hb2⟩
        exact⟨_,rfl,(RdC.of hp),hb2,trivial,trivial⟩
      ·have d0:a.eval (.tmp 35)=.agg #[.slice s1 SP.1.length n1,.slice s2 SP.2.length n2]:=hdep ⟨0,.data⟩ (by simp) rfl
       have d1:a.eval (.tmp 36)=.agg #[.slice s3 SQ.1.length n3,.slice s4 SQ.2.length n4]:=hdep ⟨1,.data⟩ (by simp) rfl
       obtain⟨v2,d2,f2⟩:∃ v,a.eval (.tmp 40)=v∧(fun v u=>RdC u u.heap.size v R1) v w1:=⟨_,rfl,hdep ⟨5,.data⟩ (by simp) rfl⟩
       refine growI_call (I:=(fun _ _=>True)) (X:=(fun _ _ _=>True)) (d:=fd) (a:=a) (w:=w1) 3 #[.agg #[.slice s1 SP.1.length n1,.slice s2 SP.2.length n2],.agg #[.slice s3 SQ.1.length n3,.slice s4 SQ.2.length n4],v2] ho rfl ?_ ((HST.out w1 hb' v2 R1 f2 HR1.out).mono ?_)
       ·unfold execOp resolve
        simp only [zA,zB,zC,d0,d1,d2,ec]
        rfl
       ·rintro e c1 ⟨rfl,hb2⟩
        exact⟨_,rfl,rfl,hb2,trivial,trivial⟩
      have d0:a.eval (.tmp 41)=.bool true:=hdep ⟨6,.data⟩ (by simp) rfl;refine gvT fd (.bool false) ho rfl ?_ rfl;rotate_left
      have d0:a.eval (.tmp 42)=.bool false:=hdep ⟨7,.data⟩ (by simp) rfl;refine gvT fd (.bool false) ho rfl ?_ rfl;rotate_left
      refine gvT fd (.agg #[.slice s1 SP.1.length n1,.slice s2 SP.2.length n2]) ho (wantedI rfl (yieldedI rfl eg)) ?_ rfl;rotate_left
      refine gvT fd (.agg #[.slice s3 SQ.1.length n3,.slice s4 SQ.2.length n4]) ho (wantedI rfl (yieldedI rfl eg)) ?_ rfl;rotate_left
      ·have d0:a.eval (.tmp 44)=.agg #[.slice s1 SP.1.length n1,.slice s2 SP.2.length n2]:=hdep ⟨9,.data⟩ (by simp) rfl
       have d1:a.eval (.tmp 45)=.agg #[.slice s3 SQ.1.length n3,.slice s4 SQ.2.length n4]:=hdep ⟨10,.data⟩ (by simp) rfl
       refine growI_call (I:=(fun _ _=>True)) (X:=(fun _ _ _=>True)) (d:=fd) (a:=a) (w:=w1) 3 #[.agg #[.slice s1 SP.1.length n1,.slice s2 SP.2.length n2],.agg #[.slice s3 SQ.1.length n3,.slice s4 SQ.2.length n4],.slice none 0 0] ho (wantedI rfl (yieldedI rfl eg)) ?_ ((HST.out w1 hb' _ [] (RdC.of (Gn.Own.nil _ 0)) (fun c hc=>by cases hc)).mono ?_)
       ·unfold execOp resolve
        simp only [zA,zB,zC,d0,d1,ec]
        rfl
       ·rintro e c1 ⟨rfl,hb2⟩
        exact⟨_,rfl,rfl,hb2,trivial,trivial⟩
      have d0:a.eval (.tmp 46)=.bool true:=hdep ⟨11,.data⟩ (by simp) rfl;refine gvT fd (.bool false) ho (wantedI rfl (yieldedI rfl eg)) ?_ rfl;rotate_left
      have d0:a.eval (.tmp 43)=.bool false:=hdep ⟨8,.data⟩ (by simp) rfl;have d1:a.eval (.tmp 47)=.bool false:=hdep ⟨12,.data⟩ (by simp) rfl;refine gvT fd (.bool false) ho rfl ?_ rfl;rotate_left
      have d0:a.eval (.tmp 48)=.bool false:=hdep ⟨13,.data⟩ (by simp) rfl;refine gvT fd (.bool false) ho rfl ?_ rfl;rotate_left
      refine gvT fd (.agg #[.slice s1 SP.1.length n1,.slice s2 SP.2.length n2]) ho (wantedI rfl (yieldedI rfl eg)) ?_ rfl;rotate_left
      refine gvT fd (.agg #[.slice s3 SQ.1.length n3,.slice s4 SQ.2.length n4]) ho (wantedI rfl (yieldedI rfl eg)) ?_ rfl;rotate_left
      ·have d0:a.eval (.tmp 50)=.agg #[.slice s1 SP.1.length n1,.slice s2 SP.2.length n2]:=hdep ⟨15,.data⟩ (by simp) rfl
       have d1:a.eval (.tmp 51)=.agg #[.slice s3 SQ.1.length n3,.slice s4 SQ.2.length n4]:=hdep ⟨16,.data⟩ (by simp) rfl
       refine growI_val (I:=(fun _ _=>True)) (X:=(fun _ _ _=>True)) (d:=fd) (a:=a) (w:=w1) (.slice (some ⟨w1.heap.size,0,none⟩) 2 2) (w1.alloc (.cells #[.slice s1 SP.1.length n1,.slice s2 SP.2.length n2,.slice s3 SQ.1.length n3,.slice s4 SQ.2.length n4] 25)) ho (wantedI rfl (yieldedI rfl eg)) ?_ ((box_new _ _)) trivial trivial (rdS_two (HSA.out.later hb') (HSB.out.later hb') (Below.refl _ _) _ rfl)
       unfold execOp;simp only [zA,zB,zC,d0,d1,ec]
       generalize a.eval=ev at *
       go_simp
      refine gvT fd (.agg #[.int .i64 1,.int .i64 2]) ho (wantedI rfl (yieldedI rfl eg)) ?_ rfl;rotate_left
      refine gvT fd (.pointer (some ⟨p4,0,none⟩)) ho (wantedI rfl (yieldedI rfl eg)) ?_ rfl;rotate_left
      have d0:a.eval (.tmp 54)=.pointer (some ⟨p4,0,none⟩):=hdep ⟨19,.data⟩ (by simp) rfl;refine gvT fd (.slice s1 SP.1.length n1) ho (wantedI rfl (yieldedI rfl eg)) ?_ rfl;rotate_left
      ·refine growI_val (I:=(fun _ _=>True)) (X:=(fun _ _ _=>True)) (d:=fd) (a:=a) (w:=w1) (.slice (some ⟨w1.heap.size,0,none⟩) 1 1) (w1.alloc (.cells #[.int .i64 5] 3)) ho (wantedI rfl (yieldedI rfl eg)) ?_ ((box_new _ _)) trivial trivial (rdI_lit w1 [5] _ rfl (by decide))
       unfold execOp;simp only [zA,zB,zC,ec]
       generalize a.eval=ev at *
       go_simp
      ·have d0:a.eval (.tmp 55)=.slice s1 SP.1.length n1:=hdep ⟨20,.data⟩ (by simp) rfl
       obtain⟨v1,d1,f1⟩:∃ v,a.eval (.tmp 56)=v∧(fun v u=>RdI u u.heap.size v [5]) v w1:=⟨_,rfl,hdep ⟨21,.data⟩ (by simp) rfl⟩
       refine growI_call (I:=(fun _ _=>True)) (X:=(fun _ _ _=>True)) (d:=fd) (a:=a) (w:=w1) 29 #[.slice s1 SP.1.length n1,v1] ho (wantedI rfl (yieldedI rfl eg)) ?_ ((HW2.out w1 v1 (HSA.out.later hb') f1).mono ?_)
       ·unfold execOp resolve
        simp only [zA,zB,zC,d0,d1,ec]
        rfl
       ·rintro e c1 ⟨x,rfl,hp,hb2⟩
        exact⟨_,rfl,(RdC.of hp),hb2,trivial,trivial⟩
      ·obtain⟨v0,d0,f0⟩:∃ v,a.eval (.tmp 52)=v∧(fun v u=>RdSm u u.heap.size v [⟨s1,n1,s2,n2,SP⟩,⟨s3,n3,s4,n4,SQ⟩]) v w1:=⟨_,rfl,hdep ⟨17,.data⟩ (by simp) rfl⟩
       have d1:a.eval (.tmp 53)=.agg #[.int .i64 1,.int .i64 2]:=hdep ⟨18,.data⟩ (by simp) rfl
       obtain⟨v2,d2,f2⟩:∃ v,a.eval (.tmp 57)=v∧(fun v u=>RdC u u.heap.size v R2) v w1:=⟨_,rfl,hdep ⟨22,.data⟩ (by simp) rfl⟩
       refine growI_call (I:=(fun _ _=>True)) (X:=(fun _ _ _=>True)) (d:=fd) (a:=a) (w:=w1) 4 #[v0,.agg #[.int .i64 1,.int .i64 2],v2] ho (wantedI rfl (yieldedI rfl eg)) ?_ ((HC2.out w1 hb' v0 v2 R2 f0 f2 HR2.out).mono ?_)
       ·unfold execOp resolve
        simp only [zA,zB,zC,d0,d1,d2,ec]
        rfl
       ·rintro e c1 ⟨rfl,hb2⟩
        exact⟨_,rfl,rfl,hb2,trivial,trivial⟩
      have d0:a.eval (.tmp 58)=.bool true:=hdep ⟨23,.data⟩ (by simp) rfl;refine gvT fd (.bool false) ho (wantedI rfl (yieldedI rfl eg)) ?_ rfl;rotate_left
      have d0:a.eval (.tmp 49)=.bool false:=hdep ⟨14,.data⟩ (by simp) rfl;have d1:a.eval (.tmp 59)=.bool false:=hdep ⟨24,.data⟩ (by simp) rfl;refine gvT fd (.bool false) ho rfl ?_ rfl;rotate_left
      have d0:a.eval (.tmp 60)=.bool false:=hdep ⟨25,.data⟩ (by simp) rfl;refine gvT fd (.bool false) ho rfl ?_ rfl;rotate_left
      refine gvT fd (.agg #[.slice s1 SP.1.length n1,.slice s2 SP.2.length n2]) ho (wantedI rfl (yieldedI rfl eg)) ?_ rfl;rotate_left
      refine gvT fd (.agg #[.slice s3 SQ.1.length n3,.slice s4 SQ.2.length n4]) ho (wantedI rfl (yieldedI rfl eg)) ?_ rfl;rotate_left
      refine gvT fd (.agg #[.slice s1 SP.1.length n1,.slice s2 SP.2.length n2]) ho (wantedI rfl (yieldedI rfl eg)) ?_ rfl;rotate_left
      ·have d0:a.eval (.tmp 62)=.agg #[.slice s1 SP.1.length n1,.slice s2 SP.2.length n2]:=hdep ⟨27,.data⟩ (by simp) rfl
       have d1:a.eval (.tmp 63)=.agg #[.slice s3 SQ.1.length n3,.slice s4 SQ.2.length n4]:=hdep ⟨28,.data⟩ (by simp) rfl
       have d2:a.eval (.tmp 64)=.agg #[.slice s1 SP.1.length n1,.slice s2 SP.2.length n2]:=hdep ⟨29,.data⟩ (by simp) rfl
       refine growI_val (I:=(fun _ _=>True)) (X:=(fun _ _ _=>True)) (d:=fd) (a:=a) (w:=w1) (.slice (some ⟨w1.heap.size,0,none⟩) 3 3) (w1.alloc (.cells #[.slice s1 SP.1.length n1,.slice s2 SP.2.length n2,.slice s3 SQ.1.length n3,.slice s4 SQ.2.length n4,.slice s1 SP.1.length n1,.slice s2 SP.2.length n2] 25)) ho (wantedI rfl (yieldedI rfl eg)) ?_ ((box_new _ _)) trivial trivial (rdS_three (HSA.out.later hb') (HSB.out.later hb') (HSA.out.later hb') _ rfl)
       unfold execOp;simp only [zA,zB,zC,d0,d1,d2,ec]
       generalize a.eval=ev at *
       go_simp
      refine gvT fd (.agg #[.int .i64 2,.int .i64 3]) ho (wantedI rfl (yieldedI rfl eg)) ?_ rfl;rotate_left
      refine gvT fd (.pointer (some ⟨p5,0,none⟩)) ho (wantedI rfl (yieldedI rfl eg)) ?_ rfl;rotate_left
      have d0:a.eval (.tmp 67)=.pointer (some ⟨p5,0,none⟩):=hdep ⟨32,.data⟩ (by simp) rfl;refine gvT fd (.slice s3 SQ.1.length n3) ho (wantedI rfl (yieldedI rfl eg)) ?_ rfl;rotate_left
      ·have d0:a.eval (.tmp 68)=.slice s3 SQ.1.length n3:=hdep ⟨33,.data⟩ (by simp) rfl
       refine growI_call (I:=(fun _ _=>True)) (X:=(fun _ _ _=>True)) (d:=fd) (a:=a) (w:=w1) 29 #[.slice s3 SQ.1.length n3,.slice none 0 0] ho (wantedI rfl (yieldedI rfl eg)) ?_ ((HW3.out w1 (HSB.out.later hb')).mono ?_)
       ·unfold execOp resolve
        simp only [zA,zB,zC,d0,ec]
        rfl
       ·rintro e c1 ⟨x,rfl,hp,hb2⟩
        exact⟨_,rfl,(RdC.of hp),hb2,trivial,trivial⟩
      ·obtain⟨v0,d0,f0⟩:∃ v,a.eval (.tmp 65)=v∧(fun v u=>RdSm u u.heap.size v [⟨s1,n1,s2,n2,SP⟩,⟨s3,n3,s4,n4,SQ⟩,⟨s1,n1,s2,n2,SP⟩]) v w1:=⟨_,rfl,hdep ⟨30,.data⟩ (by simp) rfl⟩
       have d1:a.eval (.tmp 66)=.agg #[.int .i64 2,.int .i64 3]:=hdep ⟨31,.data⟩ (by simp) rfl
       obtain⟨v2,d2,f2⟩:∃ v,a.eval (.tmp 69)=v∧(fun v u=>RdC u u.heap.size v R3) v w1:=⟨_,rfl,hdep ⟨34,.data⟩ (by simp) rfl⟩
       refine growI_call (I:=(fun _ _=>True)) (X:=(fun _ _ _=>True)) (d:=fd) (a:=a) (w:=w1) 4 #[v0,.agg #[.int .i64 2,.int .i64 3],v2] ho (wantedI rfl (yieldedI rfl eg)) ?_ ((HC3.out w1 hb' v0 v2 R3 f0 f2 HR3.out).mono ?_)
       ·unfold execOp resolve
        simp only [zA,zB,zC,d0,d1,d2,ec]
        rfl
       ·rintro e c1 ⟨rfl,hb2⟩
        exact⟨_,rfl,rfl,hb2,trivial,trivial⟩
      have d0:a.eval (.tmp 70)=.bool true:=hdep ⟨35,.data⟩ (by simp) rfl;refine gvT fd (.bool false) ho (wantedI rfl (yieldedI rfl eg)) ?_ rfl;rotate_left
      have d0:a.eval (.tmp 61)=.bool false:=hdep ⟨26,.data⟩ (by simp) rfl;have d1:a.eval (.tmp 71)=.bool false:=hdep ⟨36,.data⟩ (by simp) rfl;refine gvT fd (.bool false) ho rfl ?_ rfl;rotate_left
      all_goals (unfold execOp;first|(simp only [zA,zB,zC,d0,d1,ec];first|rfl|(go_simp;first|done|rfl|omega))|(simp only [zA,zB,zC,d0,ec];first|rfl|(go_simp;first|done|rfl|omega))|(simp only [zA,zB,zC,e4,ec];first|rfl|(go_simp;first|done|rfl|omega))|(simp only [zA,zB,zC,e5,ec];first|rfl|(go_simp;first|done|rfl|omega))|(simp only [zA,zB,zC,ec];first|rfl|(go_simp;first|done|rfl|omega)))
     ·intro a w1 hI hb hj
      have hb':Below w8.heap.size w8 w1:=up (Below.refl _ _).drew hb
      exact⟨hj 37 (by decide),hb'⟩
     rintro ts w9 ⟨h72,hb9⟩
     simp only [fill,List.setIfInBounds_toArray,List.set_cons_succ,List.set_cons_zero]
     rw [h72]
     have HB9:=hZ (up HB8.out hb9)
     clear h72 hb9 HX4 HX5 HSA HSB HT8 HB8 HW1 HW2 HW3 HR1 HR2 HR3 HST HC2 HC3
     go_wp2_with fail
     go_roundw
     case rel=>exact⟨q+1,by omega,by go_num,HB9⟩
     case measure=>simp [intOf];omega
    ·obtain rfl:q=18:=by omega
     have hlq1:¬ ((18:Nat):Int) < 18:=by omega
     go_wp2_with fail
     go_roundw
     case rel=>exact⟨p+1,by omega,by go_num,HB⟩
     case measure=>simp [intOf];omega
  ·obtain rfl:p=18:=by omega
   have hlt1:¬ ((18:Nat):Int) < 18:=by omega
   have HWW:=hZ (up HB0.out HB.out)
   have t0:=(HTX.out.later HB.out).cell 0
   rw [List.getElem?_map,show txK[0]?=some ⟨#[49,32,107,32,105,110,116,51,50,42,32,48,47]⟩ from rfl] at t0
   simp only [Option.map_some] at t0
   have HRK:=hZ (lReadK ⟨#[49,32,107,32,105,110,116,51,50,42,32,48,47]⟩ (by decide) wr (HT.out.later HWW.out))
   rw [Ev.rdS_K] at HRK
   go_wp2_with fail
   ((with_reducible refine HRK.out.mono ?_);rintro e w1 ⟨⟨a1,c1,a2,c2,s⟩,hs,rfl,oc,ok,b⟩)
   simp only at hs
   subst hs
   have HGK:=hZ (RV.new oc ok)
   have HB1:=hZ (up HWW.out (Below.trans b ((box_new w1 (.cells #[Sx.v ⟨a1,c1,a2,c2,Ev.sK⟩,Sx.kv ⟨a1,c1,a2,c2,Ev.sK⟩] 25)).mono b.size)))
   clear oc ok b HRK t0 HB HTX HB0 HWW
   unfold Sx.v Sx.kv at *
   simp only [show Ev.sK.1.length=1 from rfl,show Ev.sK.2.length=1 from rfl] at HGK HB1 ⊢
   go_upto_region 12 with fail
   obtain⟨gK,hg⟩:∃ g,w1.heap.size=g:=⟨_,rfl⟩
   simp only [hg] at HGK ⊢
   generalize w1.alloc (.cells #[.slice a1 1 c1,.slice a2 1 c2] 25)=v1 at *
   clear hg
   go_wp2_with fail
   go_loopw [7,8] (fun v i wr=>∃ (j:Nat),j≤65∧i=.int .i64 (j:Nat)∧Hid (Gn.Own sxc 2 25 wr v1.heap.size v (List.replicate j ⟨a1,c1,a2,c2,Ev.sK⟩))∧Hid (Below v1.heap.size v1 wr)) (fun _ i _=>65 - (intOf i).toNat)
   case atStart=>exact⟨0,by omega,by rfl,hZ (Gn.Own.nil _ _),hZ (Below.refl _ _)⟩
   case round =>
    obtain⟨j,hj,rfl,HO,HB⟩:=hrel
    by_cases hlj:j < 65
    ·have hlj1:(j:Int) < 65:=by omega
     have z0:=(HGK.out.at_.later HB.out).cell 0
     have z1:=(HGK.out.at_.later HB.out).cell 1
     unfold Sx.v Sx.kv at z0 z1
     simp only [zD,zE,show Ev.sK.1.length=1 from rfl,show Ev.sK.2.length=1 from rfl] at z0 z1
     have HO1:=hZ (Gn.Own.later HO.out (box_new wr (.cells #[.slice a1 1 c1,.slice a2 1 c2] 25)))
     have HBA:=hZ (HB.out.trans ((box_new wr (.cells #[.slice a1 1 c1,.slice a2 1 c2] 25)).mono HB.out.size))
     have HR1:=hZ (rd_one 25 sxL wr (⟨a1,c1,a2,c2,Ev.sK⟩:Sx) #[.slice a1 1 c1,.slice a2 1 c2] rfl)
     go_wp2_with (at_builtin
                  refine Gn.wpList_app sxL sxY rfl (.tmp 81) (.tmp 83) rfl v1.heap.size _ _ rfl HO1.out _ [(⟨a1,c1,a2,c2,Ev.sK⟩:Sx)] rfl HR1.out (by simp [maxLen];omega) HBA.out.size ?_
                  intro v5 w5 ho5 hg5 hl5 hn5)
     have HB5:=hZ (HBA.out.trans (Gn.below_of_own HO1.out hg5 HBA.out.size))
     rw [← List.replicate_succ'] at ho5
     have HO5:=hZ ho5
     clear ho5 hg5 hl5 hn5 HO HB HO1 HBA HR1 z0 z1
     go_roundw
     case rel=>exact⟨j+1,by omega,by go_num,HO5,HB5⟩
     case measure=>simp [intOf];omega
    ·obtain rfl:j=65:=by omega
     have hlj1:¬ ((65:Nat):Int) < 65:=by omega
     obtain⟨ma,mc,rfl,hm1,hm2,hm3⟩:=Gn.Rd.form (Gn.Own.rd sxL HO.out)
     have hms:RdSm wr wr.heap.size (.slice ma (List.replicate 65 (⟨a1,c1,a2,c2,Ev.sK⟩:Sx)).length mc) (List.replicate 65 ⟨a1,c1,a2,c2,Ev.sK⟩):=⟨Gn.Own.rd sxL HO.out,fun y hy=>by
      obtain rfl:=List.eq_of_mem_replicate hy
      exact HGK.out.rd.later HB.out⟩
     obtain⟨gm,om,rfl,_,_⟩:=rdS_cells hms (Below.refl _ _) (i:=0) (x:=⟨a1,c1,a2,c2,Ev.sK⟩) rfl
     rw [List.length_replicate] at hm1
     have HM64:=hZ (rdS_to hms (m:=64) (by rw [List.length_replicate];omega))
     have HM65:=hZ hms
     rw [List.take_replicate,show min 64 65=64 from rfl] at HM64
     rw [List.length_replicate] at HM65 ⊢
     have HVE:=hZ (Blk.new wr 3 enV)
     have HBV:=hZ ((box_new wr (.cells enV 3)))
     have HGK2:=hZ (HGK.out.later (HB.out.trans (HBV.out.mono HB.out.size)))
     have HBW:=hZ (up HB1.out (HB.out.trans (HBV.out.mono HB.out.size)))
     clear hms HO hm2 hm3 HB1 HB HGK
     go_wp2_with fail
     rw [show (#[.int .i64 (-9223372036854775808),.int .i64 (-1),.int .i64 0,.int .i64 1,.int .i64 2,.int .i64 64,.int .i64 65,.int .i64 9223372036854775807]:Array Value)=enV from rfl]
     generalize hv2:wr.alloc (.cells enV 3)=v2 at *
     obtain⟨ge,hge⟩:∃ g,wr.heap.size=g:=⟨_,rfl⟩
     simp only [hge] at HVE ⊢
     have HVE:Hid (Blk v2 ge 3 (enK.map (.int .i64))):=HVE
     have HMA:=hZ (HM64.out.later HBV.out)
     have HMB:=hZ (HM65.out.later HBV.out)
     clear HM64 HM65 HBV hge hv2
     go_loopw [10] (fun i wr=>∃ (p:Nat),p≤8∧i=.int .i64 (p:Nat)∧Hid (Below v2.heap.size v2 wr)) (fun i _=>8 - (intOf i).toNat)
     case atStart=>exact⟨0,by omega,by rfl,hZ (Below.refl _ _)⟩
     case round =>
      obtain⟨p,hp,rfl,HB⟩:=hrel
      by_cases hlt:p < 8
      ·have hlt1:(p:Int) < 8:=by omega
       go_wp2_with fail
       go_loopw [11] (fun i wr=>∃ (q:Nat),q≤8∧i=.int .i64 (q:Nat)∧Hid (Below v2.heap.size v2 wr)) (fun i _=>8 - (intOf i).toNat)
       case atStart=>exact⟨0,by omega,by rfl,HB⟩
       case round =>
        clear HB
        obtain⟨q,hq,rfl,HB⟩:=hrel
        by_cases hlq:q < 8
        ·have hlq1:(q:Int) < 8:=by omega
         obtain⟨tp,htp⟩:∃ t,enK[p]?=some t:=⟨_,List.getElem?_eq_getElem (show p < enK.length from hlt)⟩
         obtain⟨tq,htq⟩:∃ t,enK[q]?=some t:=⟨_,List.getElem?_eq_getElem (show q < enK.length from hlq)⟩
         have HTP:Hid (∀ w1,Below wr.heap.size wr w1→w1.cell? ⟨ge,p,none⟩=some (.int .i64 tp)∧w1.cell? ⟨ge,q,none⟩=some (.int .i64 tq)):=hZ (fun w1 b=>by
          have h:=(HVE.out.later HB.out).later b
          have h1:=h.cell p
          have h2:=h.cell q
          rw [List.getElem?_map,htp] at h1
          rw [List.getElem?_map,htq] at h2
          exact⟨h1,h2⟩)
         have hip:=enK_ok tp (List.mem_of_getElem? htp)
         have hiq:=enK_ok tq (List.mem_of_getElem? htq)
         have HC4:=hZ (fun (w1:World) (b:Below wr.heap.size wr w1) (u:Value) (hr:RdC w1 w1.heap.size u [⟨false,3,⟨#[]⟩⟩])=>evolveChains _ _ tp tq u _ w1 (HMA.out.later (up HB.out b)) (fun x hx=>by obtain rfl:=List.eq_of_mem_replicate hx;exact smInK) hip hiq hr (fun c hc=>by simp at hc;subst hc;exact⟨(show Cl.I64 3 from ⟨by omega,by omega⟩),by decide⟩) (HT.out.later (up HBW.out (up HB.out b))))
         clear htp htq hip hiq
         go_upto_region 24 with fail
         refine region_growI_merge (fun u v:World=>Below u.heap.size u v) (fun _ _=>True) (fun _ _ _=>True) (fun u=>Below.refl _ _) (fun _ _ _ h k=>up h k) (kjI #[Spc.eq (.slice (some ⟨gm,om,none⟩) 65 mc),Spc.eq (.slice (some ⟨gm,om,none⟩) 64 mc),Spc.eq (.slice (some ⟨ge,0,none⟩) 8 8),Spc.eq (.int .i64 (p:Nat)),Spc.eq (.pointer (some ⟨ge,p,none⟩)),Spc.eq (.int .i64 tp),Spc.eq (.slice (some ⟨ge,0,none⟩) 8 8),Spc.eq (.int .i64 (q:Nat)),Spc.eq (.pointer (some ⟨ge,q,none⟩)),Spc.eq (.int .i64 tq),Spc.eq (.agg #[.int .i64 tp,.int .i64 tq]),Spc.eq (.agg #[.bool false,.int .i64 3,.string ⟨#[]⟩]),⟨fun v u=>RdC u u.heap.size v [⟨false,3,⟨#[]⟩⟩],fun _ _ _ h hb=>h.later hb⟩,Spc.eq (.bool true),Spc.eq (.bool false)]) [98,99,100,101,102,103,104,105,106,107,108,109,110,111,112] (fun ts W=>ts.getD 112 undef=.bool false∧Below wr.heap.size wr W) (by kernel_rfl) (by kernel_rfl) (by kernel_rfl) kjI_later trivial ?_ ?_ ?_
         ·intro QQ fd jo o a w1 ho hfd hdd hI hb hs hold hdep
          have hjo:jo < 15:=(Array.getElem?_eq_some_iff.1 ho).1
          have hb':Below wr.heap.size wr w1:=up (Below.refl _ _).drew hb
          obtain⟨t0,t1⟩:=HTP.out w1 hb'
          have e7:a.eval (.tmp 7)=.slice (some ⟨gm,om,none⟩) 65 mc:=by
           show a.tmps.getD 7 undef=_
           rw [Array.getD_eq_getD_getElem?,hold 7 (by decide +kernel)];rfl
          have e9:a.eval (.tmp 9)=.slice (some ⟨ge,0,none⟩) 8 8:=by
           show a.tmps.getD 9 undef=_
           rw [Array.getD_eq_getD_getElem?,hold 9 (by decide +kernel)];rfl
          have e10:a.eval (.tmp 10)=.int .i64 (p:Nat):=by
           show a.tmps.getD 10 undef=_
           rw [Array.getD_eq_getD_getElem?,hold 10 (by decide +kernel)];rfl
          have e11:a.eval (.tmp 11)=.int .i64 (q:Nat):=by
           show a.tmps.getD 11 undef=_
           rw [Array.getD_eq_getD_getElem?,hold 11 (by decide +kernel)];rfl
          have ec:∀ v,a.eval (.const v)=v:=fun _=>rfl
          clear hold hs
          rcases (show jo=0 ∨ jo=1 ∨ jo=2 ∨ jo=3 ∨ jo=4 ∨ jo=5 ∨ jo=6 ∨ jo=7 ∨ jo=8 ∨ jo=9 ∨ jo=10 ∨ jo=11 ∨ jo=12 ∨ jo=13 ∨ jo=14 by omega) with rfl|rfl|rfl|rfl|rfl|rfl|rfl|rfl|rfl|rfl|rfl|rfl|rfl|rfl|rfl
          all_goals (have ho2:=ho;simp only [List.getElem?_toArray,zD,zE,Option.some.injEq] at ho2;subst ho2)
          refine gvT fd (.slice (some ⟨gm,om,none⟩) 65 mc) ho rfl ?_ rfl;rotate_left
          ·have d0:a.eval (.tmp 98)=.slice (some ⟨gm,om,none⟩) 65 mc:=hdep ⟨0,.data⟩ (by simp) rfl
           refine gvT fd (.slice (some ⟨gm,om,none⟩) 64 mc) ho rfl ?_ rfl
           unfold execOp;simp only [zA,zB,zC,d0,ec]
           simp only [Option.map_some,Option.map_none,d0,ec]
           first|rfl|(go_simp;first|done|rfl|omega)
          refine gvT fd (.slice (some ⟨ge,0,none⟩) 8 8) ho rfl ?_ rfl;rotate_left
          refine gvT fd (.int .i64 (p:Nat)) ho rfl ?_ rfl;rotate_left
          have d0:a.eval (.tmp 100)=.slice (some ⟨ge,0,none⟩) 8 8:=hdep ⟨2,.data⟩ (by simp) rfl;have d1:a.eval (.tmp 101)=.int .i64 (p:Nat):=hdep ⟨3,.data⟩ (by simp) rfl;refine gvT fd (.pointer (some ⟨ge,p,none⟩)) ho rfl ?_ rfl;rotate_left
          have d0:a.eval (.tmp 102)=.pointer (some ⟨ge,p,none⟩):=hdep ⟨4,.data⟩ (by simp) rfl;refine gvT fd (.int .i64 tp) ho rfl ?_ rfl;rotate_left
          refine gvT fd (.slice (some ⟨ge,0,none⟩) 8 8) ho rfl ?_ rfl;rotate_left
          refine gvT fd (.int .i64 (q:Nat)) ho rfl ?_ rfl;rotate_left
          have d0:a.eval (.tmp 104)=.slice (some ⟨ge,0,none⟩) 8 8:=hdep ⟨6,.data⟩ (by simp) rfl;have d1:a.eval (.tmp 105)=.int .i64 (q:Nat):=hdep ⟨7,.data⟩ (by simp) rfl;refine gvT fd (.pointer (some ⟨ge,q,none⟩)) ho rfl ?_ rfl;rotate_left
          have d0:a.eval (.tmp 106)=.pointer (some ⟨ge,q,none⟩):=hdep ⟨8,.data⟩ (by simp) rfl;refine gvT fd (.int .i64 tq) ho rfl ?_ rfl;rotate_left
          have d0:a.eval (.tmp 103)=.int .i64 tp:=hdep ⟨5,.data⟩ (by simp) rfl;have d1:a.eval (.tmp 107)=.int .i64 tq:=hdep ⟨9,.data⟩ (by simp) rfl;refine gvT fd (.agg #[.int .i64 tp,.int .i64 tq]) ho rfl ?_ rfl;rotate_left
          refine gvT fd (.agg #[.bool false,.int .i64 3,.string ⟨#[]⟩]) ho rfl ?_ rfl;rotate_left
          ·have d0:a.eval (.tmp 109)=.agg #[.bool false,.int .i64 3,.string ⟨#[]⟩]:=hdep ⟨11,.data⟩ (by simp) rfl
           refine growI_val (I:=(fun _ _=>True)) (X:=(fun _ _ _=>True)) (d:=fd) (a:=a) (w:=w1) (.slice (some ⟨w1.heap.size,0,none⟩) 1 1) (w1.alloc (.cells #[.bool false,.int .i64 3,.string ⟨#[]⟩] 61)) ho rfl ?_ ((box_new _ _)) trivial trivial (rd_one 61 clL w1 (⟨false,3,⟨#[]⟩⟩:Cl.C) _ rfl)
           unfold execOp;simp only [zA,zB,zC,d0,ec]
           generalize a.eval=ev at *
           go_simp
          ·have d0:a.eval (.tmp 99)=.slice (some ⟨gm,om,none⟩) 64 mc:=hdep ⟨1,.data⟩ (by simp) rfl
           have d1:a.eval (.tmp 108)=.agg #[.int .i64 tp,.int .i64 tq]:=hdep ⟨10,.data⟩ (by simp) rfl
           obtain⟨v2,d2,f2⟩:∃ v,a.eval (.tmp 110)=v∧(fun v u=>RdC u u.heap.size v [⟨false,3,⟨#[]⟩⟩]) v w1:=⟨_,rfl,hdep ⟨12,.data⟩ (by simp) rfl⟩
           refine growI_call (I:=(fun _ _=>True)) (X:=(fun _ _ _=>True)) (d:=fd) (a:=a) (w:=w1) 4 #[.slice (some ⟨gm,om,none⟩) 64 mc,.agg #[.int .i64 tp,.int .i64 tq],v2] ho rfl ?_ ((HC4.out w1 hb' v2 f2).mono ?_)
           ·unfold execOp resolve
            simp only [zA,zB,zC,d0,d1,d2,ec]
            rfl
           ·rintro e c1 ⟨rfl,hb2⟩
            exact⟨_,rfl,rfl,hb2,trivial,trivial⟩
          have d0:a.eval (.tmp 111)=.bool true:=hdep ⟨13,.data⟩ (by simp) rfl;refine gvT fd (.bool false) ho rfl ?_ rfl;rotate_left
          all_goals (unfold execOp;first|(simp only [zA,zB,zC,d0,d1,ec];first|rfl|(go_simp;first|done|rfl|omega))|(simp only [zA,zB,zC,e10,ec];first|rfl|(go_simp;first|done|rfl|omega))|(simp only [zA,zB,zC,e11,ec];first|rfl|(go_simp;first|done|rfl|omega))|(simp only [zA,zB,zC,d0,ec];first|rfl|(go_simp;first|done|rfl|omega))|(simp only [zA,zB,zC,e7,ec];first|rfl|(go_simp;first|done|rfl|omega))|(simp only [zA,zB,zC,e9,ec];first|rfl|(go_simp;first|done|rfl|omega))|(simp only [zA,zB,zC,ec];first|rfl|(go_simp;first|done|rfl|omega)))
         ·intro a w1 hI hb hj
          have hb':Below wr.heap.size wr w1:=up (Below.refl _ _).drew hb
          exact⟨hj 14 (by decide),hb'⟩
         rintro ts w9 ⟨h72,hb9⟩
         simp only [fill,List.setIfInBounds_toArray,List.set_cons_succ,List.set_cons_zero]
         rw [h72]
         have HB9:=hZ (up HB.out hb9)
         clear h72 hb9 HB HTP HC4
         go_wp2_with fail
         go_roundw
         case rel=>exact⟨q+1,by omega,by go_num,HB9⟩
         case measure=>simp [intOf];omega
        ·obtain rfl:q=8:=by omega
         have hlq1:¬ ((8:Nat):Int) < 8:=by omega
         go_wp2_with fail
         go_roundw
         case rel=>exact⟨p+1,by omega,by go_num,HB⟩
         case measure=>simp [intOf];omega
      ·obtain rfl:p=8:=by omega
       have hlt1:¬ ((8:Nat):Int) < 8:=by omega
       have HWR:=hZ (up HBW.out HB.out)
       have HTR:=hZ (HT.out.later HWR.out)
       have HGR:=hZ (HGK2.out.later HB.out)
       have HM4:=hZ (HMA.out.later HB.out)
       have HM5:=hZ (HMB.out.later HB.out)
       have HWK:=hZ (fun (w1:World) (b:Below wr.heap.size wr w1)=>works12 w1 (HTR.out.later b))
       have HOR:Hid (∀ n,SmsOk (List.replicate n (⟨a1,c1,a2,c2,Ev.sK⟩:Sx))):=hZ (fun n x hx=>by obtain rfl:=List.eq_of_mem_replicate hx;exact smOkK)
       have HCH4:=hZ (fun (w1:World) (b:Below wr.heap.size wr w1)=>cChainE _ _ (HOR.out 64) w1 (HTR.out.later b) (HM4.out.later b) 0 (by rw [sms_rep];exact Ev.chK64))
       have HCH5:=hZ (fun (w1:World) (b:Below wr.heap.size wr w1)=>cChainE _ _ (HOR.out 65) w1 (HTR.out.later b) (HM5.out.later b) 5 (by rw [sms_rep];exact Ev.chK65))
       have HST:=hZ (fun (w1:World) (b:Below wr.heap.size wr w1)=>evolveSteps ⟨none,0,none,0,([],[])⟩ ⟨a1,c1,a2,c2,Ev.sK⟩ smrd_nil.i smInK (.slice none 0 0) [] w1 rdS_nil (HGR.out.rd.later b) (RdC.of (Gn.Own.nil _ 0)) (fun c hc=>by cases hc) (HTR.out.later b))
       have HC1:=hZ (fun (w1:World) (b:Below wr.heap.size wr w1) (v:Value) (h:RdSm w1 w1.heap.size v [⟨a1,c1,a2,c2,Ev.sK⟩,⟨none,0,none,0,([],[])⟩])=>evolveChains v _ 1 1 (.slice none 0 0) [] w1 h (fun x hx=>by simp at hx;rcases hx with rfl|rfl;exact smInK;exact smrd_nil.i) ⟨by omega,by omega⟩ ⟨by omega,by omega⟩ (RdC.of (Gn.Own.nil _ 0)) (fun c hc=>by cases hc) (HTR.out.later b))
       have HC0:=hZ (fun (w1:World) (b:Below wr.heap.size wr w1)=>evolveChains (.slice none 0 0) [] 0 0 (.slice none 0 0) [] w1 ⟨Gn.Own.rd (T:=25) sxL (Gn.Own.nil _ 0),fun x hx=>by cases hx⟩ (fun x hx=>by cases hx) ⟨by omega,by omega⟩ ⟨by omega,by omega⟩ (RdC.of (Gn.Own.nil _ 0)) (fun c hc=>by cases hc) (HTR.out.later b))
       unfold Sx.v Sx.kv at HST
       simp only [show Ev.sK.1.length=1 from rfl,show Ev.sK.2.length=1 from rfl,List.length_nil] at HST
       clear HB HBW HVE HMA HMB HGK2
       go_wp2_with fail
       ((with_reducible refine (HWK.out wr (Below.refl _ _)).mono ?_);rintro e x1 ⟨rfl,b⟩)
       have B1:=hZ b
       clear b HWK
       go_wp2_with fail
       ((with_reducible refine (HCH4.out x1 B1.out).mono ?_);rintro e x2 ⟨rfl,b⟩)
       have B2:=hZ (up B1.out b)
       clear b HCH4 B1
       go_wp2_with fail
       ((with_reducible refine (HCH5.out x2 B2.out).mono ?_);rintro e x3 ⟨rfl,b⟩)
       have B3:=hZ (up B2.out b)
       clear b HCH5 B2
       have t0:=(HGR.out.at_.later B3.out).cell 0
       have t1:=(HGR.out.at_.later B3.out).cell 1
       unfold Sx.v Sx.kv at t0 t1
       simp only [zD,zE,show Ev.sK.1.length=1 from rfl,show Ev.sK.2.length=1 from rfl] at t0 t1
       go_wp2_with fail
       ((with_reducible refine (HST.out x3 B3.out).mono ?_);rintro e x4 ⟨rfl,b⟩)
       have B4:=hZ (up B3.out b)
       clear b HST B3 t0 t1
       have t0:=(HGR.out.at_.later B4.out).cell 0
       have t1:=(HGR.out.at_.later B4.out).cell 1
       unfold Sx.v Sx.kv at t0 t1
       simp only [zD,zE,show Ev.sK.1.length=1 from rfl,show Ev.sK.2.length=1 from rfl] at t0 t1
       have HL:=hZ (rdS_two (HGR.out.rd.later B4.out) rdS_nil (Below.refl _ _) #[.slice a1 1 c1,.slice a2 1 c2,.slice none 0 0,.slice none 0 0] rfl)
       have BL:=hZ (B4.out.trans ((box_new x4 (.cells #[.slice a1 1 c1,.slice a2 1 c2,.slice none 0 0,.slice none 0 0] 25)).mono B4.out.size))
       have HCL:=hZ (HC1.out _ BL.out _ HL.out)
       clear HC1 HL
       go_wp2_with fail
       ((with_reducible refine HCL.out.mono ?_);rintro e x5 ⟨rfl,b⟩)
       have B5:=hZ (up BL.out b)
       clear b HCL B4 BL t0 t1
       go_wp2_with fail
       ((with_reducible refine (HC0.out x5 B5.out).mono ?_);rintro e x6 ⟨rfl,b⟩)
       have B6:=hZ (up HWR.out (up B5.out b))
       clear b HC0 B5
       go_wp2_with fail
       go_ret
       exact⟨rfl,B6.out⟩
end Go.Proofs.YtenfjmdajlhfoabGreatDoor
