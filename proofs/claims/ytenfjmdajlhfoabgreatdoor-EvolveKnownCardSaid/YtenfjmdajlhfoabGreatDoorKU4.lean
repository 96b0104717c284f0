/- Texts. -/
import Derived.Test.YtenfjmdajlhfoabGreatDoorKU3
import Derived.Test.YtenfjmdajlhfoabGreatDoorKFull
import Derived.Lib.ParseIntB
import Derived.Lib.ParseIntBTie
import Derived.Lib.ItoaNum
import Derived.Lib.AppendIntMem
import Derived.Lib.ItoaLen
import Derived.Laws.StructEq
import Derived.OwnWalk
import Derived.Laws.OwnMore
set_option maxHeartbeats 4000000
namespace Go.Proofs.YtenfjmdajlhfoabGreatDoor
open Go.RowKit
set_option linter.unusedVariables false
theorem low_one (l:List Nat) (h:l≠[]) (h0:l.getD 0 0 < 128):Utf.nw l=1∧Utf.nr l=l.getD 0 0:=by
 have hd:=dec_low l h0
 have h1:¬ (l=[] ∨ ((Utf.dec l).1=65533∧(Utf.dec l).2≤1)):=by
  rw [hd];rintro (e|⟨e,_⟩)
  ·exact h e
  ·dsimp only at e;omega
 have h2:Utf.nw l=1:=by unfold Utf.nw;rw [if_neg h1,hd]
 refine⟨h2,?_⟩
 unfold Utf.nr
 rw [if_neg (by omega),hd]
theorem low_two (l:List Nat) (hl:∀ x∈l,x < 256) (h:Utf.nw l≠0) (h1:Utf.nr l < 128):l.getD 0 0=Utf.nr l:=by
 obtain⟨_,i2,_⟩:=Utf.nx_some l hl h
 rw [Utf.enc_low _ h1] at i2
 conv=>lhs;rw [i2]
 rfl
set_option maxRecDepth 100000 in
theorem takePart (s:ByteArray) (m:Nat) (w:World) (T:Tab w) (hM:IsMap w m escL) (hm:s.size≤maxLen) (h0:0 < s.size) (r n e:Nat) (hR:Utf.part (bl s)=(r,n,e)) :
 Calls Tryz.prog 160 #[.string s,.map (some m)] w fun x w'=>x=trip r n e∧Below w.heap.size w w':=by
 have hne:bl s≠[]:=fun e=>by have:=bl_nil.1 e;omega
 have HT:=hZ T
 have HM:=hZ hM
 unfold Utf.part at hR
 by_cases h92:(bl s).getD 0 0=92
 ·rw [if_pos h92] at hR
  obtain⟨k1,k2⟩:=low_one _ hne (by omega)
  have C:=next_yes s w T (by omega)
  rw [k1,k2,h92] at C
  have HR:=hZ hR
  have H92:=hZ h92
  clear hR h92 k1 k2 hne T hM
  go_enter Tryz.func160,Tryz.ntmps160
  go_wp2_with fail
  ((with_reducible refine C.mono ?_);rintro x w1 ⟨rfl,hb⟩)
  have C2:=takeEscape s m w1 (HM.out.later hb) hm h0 H92.out r n e HR.out
  unfold trip at C2
  go_wp2_with fail
  ((with_reducible refine C2.mono ?_);rintro x w' ⟨rfl,rfl⟩)
  go_wp2
  go_ret3
  exact⟨rfl,hb⟩
 ·rw [if_neg h92] at hR
  by_cases hw:Utf.nw (bl s)≠0
  ·rw [if_pos hw] at hR
   have C:=next_yes s w T hw
   have hr92:Utf.nr (bl s)≠92:=fun e=>h92 (by rw [low_two _ (bl_byte s) hw (by omega)];exact e)
   generalize Utf.nr (bl s)=q at *
   generalize Utf.nw (bl s)=nn at *
   have d92:((q:Int) == 92)=false:=by rw [beq_eq_false_iff_ne];omega
   by_cases h32:q < 32
   ·rw [if_pos h32] at hR
    have HR:=hZ hR
    have h32':(q:Int) < 32:=by omega
    clear hR h92 hne T hM
    go_enter Tryz.func160,Tryz.ntmps160
    go_wp2_with fail
    ((with_reducible refine C.mono ?_);rintro x w1 ⟨rfl,hb⟩)
    go_wp2
    go_ret3
    have:=HR.out
    simp only [Prod.mk.injEq] at this
    obtain⟨rfl,rfl,rfl⟩:=this
    exact⟨rfl,hb⟩
   ·rw [if_neg h32] at hR
    have HR:=hZ hR
    have h32':¬ ((q:Int) < 32):=by omega
    clear hR h92 hne T hM
    go_enter Tryz.func160,Tryz.ntmps160
    go_wp2_with fail
    ((with_reducible refine C.mono ?_);rintro x w1 ⟨rfl,hb⟩)
    go_wp2
    go_ret3
    have:=HR.out
    simp only [Prod.mk.injEq] at this
    obtain⟨rfl,rfl,rfl⟩:=this
    exact⟨rfl,hb⟩
  ·rw [if_neg hw] at hR
   have C:=next_no s w T (by omega)
   by_cases hfl:Utf.full (bl s)=true
   ·rw [if_pos hfl] at hR
    have HR:=hZ hR
    have HF:=hZ hfl
    clear hR h92 hne T hM hw hfl
    go_enter Tryz.func160,Tryz.ntmps160
    go_wp2_with fail
    ((with_reducible refine C.mono ?_);rintro x w1 ⟨rfl,hb⟩)
    go_wp2_with fail
    ((with_reducible refine (full_is s w1 (HT.out.later hb) h0 hm true HF.out).mono ?_);rintro x w2 ⟨rfl,hb2⟩)
    go_wp2
    go_ret3
    have:=HR.out
    simp only [Prod.mk.injEq] at this
    obtain⟨rfl,rfl,rfl⟩:=this
    exact⟨rfl,up hb hb2⟩
   ·rw [if_neg hfl] at hR
    have HR:=hZ hR
    have HF:=hZ (show Utf.full (bl s)=false by simpa using hfl)
    clear hR h92 hne T hM hw hfl
    go_enter Tryz.func160,Tryz.ntmps160
    go_wp2_with fail
    ((with_reducible refine C.mono ?_);rintro x w1 ⟨rfl,hb⟩)
    go_wp2_with fail
    ((with_reducible refine (full_is s w1 (HT.out.later hb) h0 hm false HF.out).mono ?_);rintro x w2 ⟨rfl,hb2⟩)
    go_wp2
    go_ret3
    have:=HR.out
    simp only [Prod.mk.injEq] at this
    obtain⟨rfl,rfl,rfl⟩:=this
    exact⟨rfl,up hb hb2⟩
theorem paired_esc (w:World) :
 Calls Tryz.prog 158 #[.string ⟨#[34,92,98,102,110,114,116,47]⟩,.string ⟨#[34,92,8,12,10,13,9,47]⟩] w fun e w'=>e=.returned (.map (some w.heap.size))∧IsMap w' w.heap.size escL∧Below w.heap.size w w':=by
 have:=paired ⟨#[34,92,98,102,110,114,116,47]⟩ ⟨#[34,92,8,12,10,13,9,47]⟩ w 8 rfl rfl (by decide) (by decide)
  (fun i j hij hj=>(by decide:∀ j,j < 8→∀ i,i < j→(bl ⟨#[34,92,98,102,110,114,116,47]⟩).getD i 0≠(bl ⟨#[34,92,98,102,110,114,116,47]⟩).getD j 0) j hj i hij)
 exact this
def fin (o:List Nat) (i:Nat) (u:List Nat × Nat × Nat):List Nat × Nat × Nat:=if u.2.2≠0 then ([],0,u.2.2) else (o++u.1,i+u.2.1,0)
theorem unq_fin (l:List Nat) (h:l≠[]) (h0:l.getD 0 0=34):Utf.unq l=fin [] 1 (Utf.ub (l.drop 1)):=by
 unfold Utf.unq fin
 rw [if_neg h,if_neg (by omega)]
 by_cases h1:(Utf.ub (l.drop 1)).2.2≠0
 ·rw [if_pos h1,if_pos h1]
 ·rw [if_neg h1,if_neg h1,Nat.add_comm];rfl
theorem fin_part (l:List Nat) (hl:∀ x∈l,x < 256) (h:l≠[]) (h0:l.getD 0 0≠34) (o:List Nat) (i r n:Nat) (hp:Utf.part l=(r,n,0)) :
 fin o i (Utf.ub l)=fin (o++Utf.enc r) (i+n) (Utf.ub (l.drop n)):=by
 rw [Utf.ub_step l hl h,if_neg h0,hp]
 unfold fin
 by_cases h1:(Utf.ub (l.drop n)).2.2≠0
 ·simp [h1]
 ·simp at h1;simp [h1,Nat.add_assoc]
theorem fin_err (l:List Nat) (hl:∀ x∈l,x < 256) (h:l≠[]) (h0:l.getD 0 0≠34) (o:List Nat) (i r n e:Nat) (hp:Utf.part l=(r,n,e)) (he:e≠0):fin o i (Utf.ub l)=([],0,e):=by
 rw [Utf.ub_step l hl h,if_neg h0,hp]
 unfold fin
 simp [he]
theorem fin_end (l:List Nat) (hl:∀ x∈l,x < 256) (h:l≠[]) (h0:l.getD 0 0=34) (o:List Nat) (i:Nat):fin o i (Utf.ub l)=(o,i+1,0):=by
 rw [Utf.ub_step l hl h,if_pos h0]
 unfold fin
 simp
def quad (t:List Nat) (n e:Nat):Ending:=.returned (.tuple #[.string (str t),.int .i64 (n:Nat),.int .i64 (e:Nat)])
set_option maxRecDepth 100000 in
theorem unquote (s:ByteArray) (w:World) (T:Tab w) (hm:s.size≤1000000) (t:List Nat) (n e:Nat) (hR:Utf.unq (bl s)=(t,n,e)) :
 Calls Tryz.prog 132 #[.string s] w fun x w'=>x=quad t n e∧Below w.heap.size w w':=by
 have hmm:s.size≤maxLen:=by unfold maxLen;omega
 by_cases h0:s.size=0
 ·have hz:bl s=[]:=bl_nil.2 h0
  rw [hz,show Utf.unq []=([],0,3) from rfl] at hR
  have hq:(s.toList == (⟨#[]⟩:ByteArray).toList)=true:=by rw [bl_eq,hz];rfl
  have hq2:s.toList.isEmpty=true:=by rw [bl_empty,hz];rfl
  have hq3:s.toList=[]:=by simpa using hq2
  have HR:=hZ hR
  clear hR hz h0
  go_enter Tryz.func132,Tryz.ntmps132
  go_wp2
  go_ret3
  have:=HR.out
  simp only [Prod.mk.injEq] at this
  obtain⟨rfl,rfl,rfl⟩:=this
  exact⟨rfl,Below.refl _ _⟩
 ·have hne:bl s≠[]:=fun e=>h0 (bl_nil.1 e)
  have hq:(s.toList == (⟨#[]⟩:ByteArray).toList)=false:=by rw [bl_eq];exact decide_eq_false hne
  have hq2:s.toList.isEmpty=false:=by rw [bl_empty];exact decide_eq_false hne
  have hq3:¬ s.toList=[]:=by simpa using hq2
  have hd0:decide (0 < s.size)=true:=by simp;omega
  have hx0:=bl_at s 0 (by omega)
  by_cases h34:(bl s).getD 0 0=34
  ·have HU:=hZ ((unq_fin _ hne h34).symm.trans hR)
   rw [h34] at hx0
   clear hR hne h34
   go_enter Tryz.func132,Tryz.ntmps132
   go_wp2_with fail
   ((with_reducible refine (paired_esc w).mono ?_);rintro x w1 ⟨rfl,hM1,hb1⟩)
   go_wp2
   have HB0:=hZ (Bld.fresh w1)
   have HM1:=hZ (hM1.later ((Below.refl _ _).alloc (Nat.le_refl _) (.cells #[.pointer none,.slice none 0 0] 109)))
   have hlt:=hM1.lt
   have HN:=hZ ((Below.refl _ w1).alloc (Nat.le_refl _) (.cells #[.pointer none,.slice none 0 0] 109))
   have hws:=hb1.size
   clear hM1 hx0
   go_loopw [7] (fun v wr=>∃ (i:Nat) (o:List Nat),1≤i∧i≤s.size∧v=.int .i64 i∧Bld w1.heap.size w1.heap.size o wr∧IsMap wr w.heap.size escL∧Below w1.heap.size w1 wr∧o.length≤4 * i∧Hid (fin o i (Utf.ub ((bl s).drop i))=(t,n,e))) (fun v _=>s.size - (intOf v).toNat)
   case atStart=>exact⟨1,[],by omega,by omega,rfl,HB0.out,HM1.out,HN.out,by simp,HU⟩
   case round =>
    clear HB0 HM1 HN HU
    obtain⟨i,o,hi1,his,rfl,hB,hM,hbw,hol,HF⟩:=hrel
    have hsz:=hbw.size
    have hbl:=hB.lt
    by_cases hlt2:i < s.size
    ·have hx:=bl_at s i hlt2
     have hdb:=Utf.drop_byte (bl_byte s) i
     have hdn:(bl s).drop i≠[]:=fun e=>by have:=congrArg List.length e;simp [bl_length] at this;omega
     have hd0:((bl s).drop i).getD 0 0=(bl s).getD i 0:=by simp [List.getD_eq_getElem?_getD,List.getElem?_drop]
     by_cases h34:(bl s).getD i 0=34
     ·rw [h34] at hx
      have HE:=hZ ((fin_end _ hdb hdn (by rw [hd0];exact h34) o i).symm.trans HF.out)
      have HBB:=hZ hB
      clear hdb hdn hd0 h34 HF hB hM
      go_wp2_with fail
      ((with_reducible refine (bString _ _ _ _ HBB.out (Nat.le_of_lt hbl)).mono ?_);rintro x w2 ⟨rfl,hb2⟩)
      go_wp2
      go_ret3
      have:=HE.out
      simp only [Prod.mk.injEq] at this
      obtain⟨e1,e2,e3⟩:=this
      refine⟨?_,hb1.trans ((hbw.trans hb2).mono hws)⟩
      unfold quad
      rw [← e1,← e2,← e3]
      rfl
     ·obtain⟨⟨r,nn,ee⟩,hp⟩:∃ p,Utf.part ((bl s).drop i)=p:=⟨_,rfl⟩
      have hne34:((bl s).drop i).getD 0 0≠34:=by rw [hd0];exact h34
      have hpg:=Utf.part_good _ hdb hne34
      have hus:(s.extract i s.size).size≤maxLen:=by rw [ByteArray.size_extract];omega
      have hu0:0 < (s.extract i s.size).size:=by rw [ByteArray.size_extract];omega
      have hT2:Tab wr:=(T.later hb1).below (B:=w1.heap.size) (T.later hb1).size hbw
      have CP:=takePart (s.extract i s.size) w.heap.size wr hT2 hM hus hu0 r nn ee (by rw [bl_from];exact hp)
      unfold trip at CP
      have d34:(((bl s).getD i 0:Nat) == 34)=false:=by rw [beq_eq_false_iff_ne];exact h34
      have d341:((((bl s).getD i 0:Nat):Int) == 34)=false:=by rw [beq_eq_false_iff_ne];omega
      have hlt3:(i:Int)≤s.size:=by omega
      rw [hp] at hpg
      generalize (bl s).getD i 0=c at *
      by_cases hee:ee≠0
      ·have HE:=hZ ((fin_err _ hdb hdn hne34 o i r nn ee hp hee).symm.trans HF.out)
       have d1:((ee:Int) != 0)=true:=by simp;omega
       have d2:((ee:Int) == 0)=false:=by rw [beq_eq_false_iff_ne];omega
       have HBW:=hZ hbw
       clear hdb hdn hd0 h34 HF hB hM hpg hp hne34 hee hT2 hbw d34
       go_wp2_with fail
       ((with_reducible refine CP.mono ?_);rintro x w2 ⟨rfl,hb2⟩)
       go_wp2
       go_ret3
       have:=HE.out
       simp only [Prod.mk.injEq] at this
       obtain⟨rfl,rfl,rfl⟩:=this
       exact⟨rfl,hb1.trans ((HBW.out.trans (hb2.mono hsz)).mono hws)⟩
      ·obtain rfl:ee=0:=by omega
       obtain⟨g1,g2,g3,g4⟩:=hpg rfl
       rw [List.length_drop,bl_length] at g3
       simp only at g1 g2 g3
       have HF2:=hZ ((fin_part _ hdb hdn hne34 o i r nn hp).symm.trans HF.out)
       rw [List.drop_drop] at HF2
       have hel:=Utf.enc_len r
       have HBB:=hZ hB
       have HMM:=hZ hM
       have HBW:=hZ hbw
       have G1:=hZ g1
       clear hdb hdn hd0 h34 HF hB hM hpg hp hne34 hee hT2 hbw d34 g4 g1
       go_wp2_with fail
       ((with_reducible refine CP.mono ?_);rintro x w2 ⟨rfl,hb2⟩)
       have hBl2:=HBB.out.later hb2
       go_wp2_with fail
       ((with_reducible refine (writeRune w1.heap.size w1.heap.size o r w2 hBl2 G1.out (by omega) (by have:=hb2.size;omega)).mono ?_);rintro x w3 ⟨⟨nq,rfl⟩,hwr⟩)
       have HWR:=hZ hwr
       have HB2:=hZ hb2
       clear hwr hBl2 hb2
       go_wp2
       go_roundw
       case rel =>
        obtain⟨k1,k2,k3⟩:=HWR.out
        refine⟨i+nn,o++Utf.enc r,by omega,by omega,by go_num,k1,?_,(HBW.out.trans (HB2.out.mono hsz)).trans k2,by rw [List.length_append];omega,HF2⟩
        exact (k2.block _ hlt).trans (HMM.out.later HB2.out)
       case measure=>simp [intOf];omega
    ·have hi:i=s.size:=by omega
     have hnil:(bl s).drop i=[]:=List.drop_of_length_le (by rw [bl_length];omega)
     have hE:=HF.out
     rw [hnil,Utf.ub_nil,show fin o i ([],0,3)=([],0,3) from rfl] at hE
     have HE:=hZ hE
     have hlt3:¬ ((i:Int) < s.size):=by omega
     clear hE hnil HF hB hM hi
     go_wp2
     go_ret3
     have:=HE.out
     simp only [Prod.mk.injEq] at this
     obtain⟨rfl,rfl,rfl⟩:=this
     exact⟨rfl,hb1.trans (hbw.mono hws)⟩
  ·have hE:=hR
   unfold Utf.unq at hE
   rw [if_neg hne,if_pos h34] at hE
   have HE:=hZ hE
   have hxb:=Utf.getD_byte (bl_byte s) 0
   generalize (bl s).getD 0 0=c at *
   have d34:((c:Int) == 34)=false:=by rw [beq_eq_false_iff_ne];omega
   have d34':((c:Int) != 34)=true:=by simp;omega
   clear hE hR hne h34
   go_enter Tryz.func132,Tryz.ntmps132
   go_wp2
   go_ret3
   have:=HE.out
   simp only [Prod.mk.injEq] at this
   obtain⟨rfl,rfl,rfl⟩:=this
   exact⟨rfl,Below.refl _ _⟩
end Go.Proofs.YtenfjmdajlhfoabGreatDoor
namespace Go.Proofs.YtenfjmdajlhfoabGreatDoor.Cl
open Go.Lib
set_option linter.unusedVariables false
structure C where
 u:Bool
 n:Int
 s:ByteArray
theorem C.ext' {a b:C} (h1:a.u=b.u) (h2:a.n=b.n) (h3:bl a.s=bl b.s):a=b:=by
 obtain⟨a1,a2,a3⟩:=a;obtain⟨b1,b2,b3⟩:=b
 have:a3=b3:=bl_inj h3
 simp_all
def I64 (n:Int):Prop:=-9223372036854775808≤n∧n≤9223372036854775807
def may (k:Int):Bool:=decide (1≤k) && decide (k≤5)
def isK (k:Int) (c:C):Bool :=
 !c.u && (if k=1 then decide (bl c.s=[]) && decide (c.n=0 ∨ c.n=1) else if k=2 then decide (bl c.s=[]) && decide (-2147483648≤c.n∧c.n≤2147483647)
  else if k=3 then decide (bl c.s=[]) else if k=4 then decide (c.n=0∧c.s.size≤1024) && Utf.vld (bl c.s) else decide (c.n=0∧c.s.size≤1024))
def none? (c:C):Bool:=c.u && decide (c.n=0∧bl c.s=[])
def of (u:Bool) (k:Int) (c:C):Bool:=(u && none? c) || isK k c
def chk (u:Bool) (k:Int) (c:C):Nat:=if may k=false then 2 else if of u k c=false then 90 else 0
def nothing:C:=⟨true,0,⟨#[]⟩⟩
def empty:C:=⟨false,0,⟨#[]⟩⟩
theorem chk_ok {u:Bool} {k:Int} {c:C} (h:chk u k c=0):may k=true∧of u k c=true:=by
 unfold chk at h
 cases h1:may k<;>cases h2:of u k c<;>simp [h1,h2] at h<;>exact⟨rfl,rfl⟩
theorem may_le {k:Int} (h:may k=true):1≤k∧k≤5:=by
 unfold may at h;simp at h;exact h
def cmp (a b:C):Int :=
 if a.u=b.u then (if a.n < b.n then -1 else if b.n < a.n then 1 else if Tp.less (bl a.s) (bl b.s)=true then -1 else if Tp.less (bl b.s) (bl a.s)=true then 1 else 0)
 else if a.u=true then -1 else 1
def lt (a b:C):Prop:=(a.u=true∧b.u=false) ∨ (a.u=b.u∧(a.n < b.n ∨ (a.n=b.n∧Tp.less (bl a.s) (bl b.s)=true)))
instance (a b:C):Decidable (lt a b):=by unfold lt;exact inferInstance
def esc0 (l:List Nat):List Nat:=l.flatMap fun b=>if b=0 then [0,255] else [b]
theorem esc0_cons (b:Nat) (l:List Nat):esc0 (b::l)=(if b=0 then [0,255] else [b])++esc0 l:=by simp [esc0]
theorem esc0_len:∀ l:List Nat,l.length≤(esc0 l).length∧(esc0 l).length≤2 * l.length
 | []=>by simp [esc0]
 | b::l=>by
  have:=esc0_len l
  rw [esc0_cons,List.length_append,List.length_cons]
  split<;>simp<;>omega
theorem esc0_byte {l:List Nat} (h:∀ x∈l,x < 256):∀ x∈esc0 l,x < 256:=by
 intro x hx
 simp only [esc0,List.mem_flatMap] at hx
 obtain⟨b,hb,hx⟩:=hx
 have:=h b hb
 split at hx<;>simp at hx<;>omega
def be (m:Nat):List Nat:=[m / 72057594037927936 % 256,m / 281474976710656 % 256,m / 1099511627776 % 256,m / 4294967296 % 256,m / 16777216 % 256,m / 65536 % 256,m / 256 % 256,m % 256]
def num8 (l:List Nat):Nat:=l.foldl (fun a b=>256 * a+b) 0
theorem be_byte (m:Nat):∀ x∈be m,x < 256:=by
 intro x hx
 simp only [be,List.mem_cons,List.not_mem_nil,or_false] at hx
 omega
theorem be_len (m:Nat):(be m).length=8:=rfl
def turn (n:Int):Nat:=(n+9223372036854775808).toNat
def body (k:Int) (c:C):List Nat:=if k=1 then [c.n.toNat] else if k=2 ∨ k=3 then be (turn c.n) else esc0 (bl c.s)++[0,0]
def bts (u:Bool) (k:Int) (c:C):List Nat:=if c.u=true then [0] else (if u=true then [1] else [])++body k c
theorem of_parts {u:Bool} {k:Int} {c:C} (h:of u k c=true):(c.u=true∧u=true∧c.n=0∧bl c.s=[]) ∨ (c.u=false∧isK k c=true):=by
 unfold of none? at h
 cases hc:c.u
 ·right;refine⟨rfl,?_⟩;simpa [hc] using h
 ·left
  have:isK k c=false:=by unfold isK;rw [hc];rfl
  rw [this,hc] at h
  simp at h
  exact⟨rfl,h.1,h.2.1,h.2.2⟩
theorem turn_lt {n:Int} (h:I64 n):turn n < 18446744073709551616:=by unfold turn;unfold I64 at h;omega
end Go.Proofs.YtenfjmdajlhfoabGreatDoor.Cl
namespace Go.Proofs.YtenfjmdajlhfoabGreatDoor.Jr
open Go.Lib
set_option linter.unusedVariables false
def isd (c:Nat):Bool:=decide (48≤c∧c≤57)
def val (l:List Nat):Nat:=l.foldl (fun n c=>10 * n+(c - 48)) 0
def fold (acc:Nat) (l:List Nat):Nat:=l.foldl (fun n c=>10 * n+(c - 48)) acc
theorem val_fold (l:List Nat):val l=fold 0 l:=rfl
theorem fold_ge:∀ (l:List Nat) (acc:Nat),acc≤fold acc l
 | [],acc=>Nat.le_refl _
 | c::l,acc=>by
  have:=fold_ge l (10 * acc+(c - 48))
  show acc≤fold (10 * acc+(c - 48)) l
  omega
def M64:Nat:=18446744073709551615
theorem pm_iff:∀ (l:List UInt8) (acc u:Nat),acc≤M64→(parseUintM M64 acc l=.ok u↔(∀ c∈l.map UInt8.toNat,isd c=true)∧u=fold acc (l.map UInt8.toNat)∧fold acc (l.map UInt8.toNat)≤M64)
 | [],acc,u,h=>by
  unfold parseUintM
  simp only [List.map_nil,List.not_mem_nil,false_implies,implies_true,true_and]
  show NumEnd.ok acc=.ok u↔u=acc∧acc≤M64
  constructor
  ·intro e;injection e with e;exact⟨e.symm,h⟩
  ·rintro ⟨rfl,_⟩;rfl
 | c::r,acc,u,h=>by
  unfold parseUintM
  have hf:fold acc ((c::r).map UInt8.toNat)=fold (10 * acc+(c.toNat - 48)) (r.map UInt8.toNat):=rfl
  have hge:=fold_ge (r.map UInt8.toNat) (10 * acc+(c.toNat - 48))
  rw [hf]
  by_cases hd:48≤c.toNat∧c.toNat≤57
  ·rw [if_pos hd]
   have hi:isd c.toNat=true:=by simp [isd,hd]
   by_cases h1:1844674407370955162≤acc
   ·rw [if_pos h1]
    constructor
    ·intro e;cases e
    ·rintro ⟨_,_,e⟩;unfold M64 at e;omega
   ·rw [if_neg h1]
    by_cases h2:M64 < acc * 10+(c.toNat - 48)
    ·rw [if_pos h2]
     constructor
     ·intro e;cases e
     ·rintro ⟨_,_,e⟩;omega
    ·rw [if_neg h2,show acc * 10+(c.toNat - 48)=10 * acc+(c.toNat - 48) by omega,pm_iff r (10 * acc+(c.toNat - 48)) u (by omega)]
     simp only [List.map_cons,List.mem_cons,forall_eq_or_imp,hi,true_and]
  ·rw [if_neg hd]
   constructor
   ·intro e;cases e
   ·rintro ⟨e,_⟩
    have:=e c.toNat (by simp)
    simp [isd] at this
    omega
theorem pi_neg (c:UInt8) (r:List UInt8) (hc:c.toNat=45) (hr:r≠[]) (v:Int):parseIntB 64 (c::r)=.ok v↔(∀ x∈r.map UInt8.toNat,isd x=true)∧v = -(val (r.map UInt8.toNat):Int)∧val (r.map UInt8.toNat)≤9223372036854775808:=by
 unfold parseIntB
 simp only [hc,or_true,if_true]
 unfold parseUintB
 rw [if_neg hr,show (2 ^ 64 - 1:Nat)=M64 from rfl]
 have h0:=fun u=>pm_iff r 0 u (by decide)
 cases he:parseUintM M64 0 r with
 | ok u =>
  obtain⟨h1,h2,h3⟩:=(h0 u).1 he
  rw [val_fold,← h2]
  simp only [not_true_eq_false,false_and,if_false,true_and]
  by_cases h4:2 ^ (64 - 1) < u
  ·rw [if_pos h4]
   constructor
   ·intro e;cases e
   ·rintro ⟨_,_,e⟩;simp at h4;omega
  ·rw [if_neg h4]
   simp at h4
   constructor
   ·intro e;injection e with e;exact⟨h1,e.symm,by omega⟩
   ·rintro ⟨_,e,_⟩;rw [e]
 | «range» =>
  constructor
  ·intro e;cases e
  ·rintro ⟨h1,h2,h3⟩
   have:=(h0 _).2 ⟨h1,rfl,by rw [← val_fold];unfold M64;omega⟩
   rw [he] at this;cases this
 | _ =>
  constructor
  ·intro e;cases e
  ·rintro ⟨h1,h2,h3⟩
   have:=(h0 _).2 ⟨h1,rfl,by rw [← val_fold];unfold M64;omega⟩
   rw [he] at this;cases this
theorem pi_pos (c:UInt8) (r:List UInt8) (hc:c.toNat≠45) (hc2:c.toNat≠43) (v:Int):parseIntB 64 (c::r)=.ok v↔(∀ x∈(c::r).map UInt8.toNat,isd x=true)∧v=(val ((c::r).map UInt8.toNat):Nat)∧val ((c::r).map UInt8.toNat) < 9223372036854775808:=by
 unfold parseIntB
 have hn:¬ (c.toNat=43 ∨ c.toNat=45):=by omega
 simp only [hn,if_false]
 unfold parseUintB
 rw [if_neg (by simp),show (2 ^ 64 - 1:Nat)=M64 from rfl]
 have h0:=fun u=>pm_iff (c::r) 0 u (by decide)
 cases he:parseUintM M64 0 (c::r) with
 | ok u =>
  obtain⟨h1,h2,h3⟩:=(h0 u).1 he
  rw [val_fold,← h2]
  simp only [hc,not_false_eq_true,true_and,false_and,if_false]
  by_cases h4:2 ^ (64 - 1)≤u
  ·rw [if_pos h4]
   constructor
   ·intro e;cases e
   ·rintro ⟨_,_,e⟩;simp at h4;omega
  ·rw [if_neg h4]
   simp at h4
   constructor
   ·intro e;injection e with e;exact⟨h1,e.symm,by omega⟩
   ·rintro ⟨_,e,_⟩;rw [e]
 | «range» =>
  constructor
  ·intro e;cases e
  ·rintro ⟨h1,h2,h3⟩
   have:=(h0 _).2 ⟨h1,rfl,by rw [← val_fold];unfold M64;omega⟩
   rw [he] at this;cases this
 | _ =>
  constructor
  ·intro e;cases e
  ·rintro ⟨h1,h2,h3⟩
   have:=(h0 _).2 ⟨h1,rfl,by rw [← val_fold];unfold M64;omega⟩
   rw [he] at this;cases this
def dcs (u:Nat):List Nat:=(decDigits u).map UInt8.toNat
theorem u8_dig (d:Nat) (h:d < 10):(UInt8.ofNat (48+d)).toNat=48+d:=by
 rw [UInt8.toNat_ofNat'];omega
theorem dcs_small {u:Nat} (h:u < 10):dcs u=[48+u]:=by
 unfold dcs
 rw [decDigits,dif_pos h,List.map_singleton,u8_dig u h]
theorem dcs_big {u:Nat} (h:¬ u < 10):dcs u=dcs (u / 10)++[48+u % 10]:=by
 unfold dcs
 rw [decDigits,dif_neg h,List.map_append,List.map_singleton,u8_dig _ (by omega)]
theorem dcs_isd (u:Nat):∀ c∈dcs u,isd c=true:=by
 induction u using Nat.strongRecOn with
 | ind u ih =>
  intro c hc
  by_cases h:u < 10
  ·rw [dcs_small h] at hc
   have:c=48+u:=by simpa using hc
   subst this
   simp [isd];omega
  ·rw [dcs_big h] at hc
   rcases List.mem_append.1 hc with hc|hc
   ·exact ih (u / 10) (by omega) c hc
   ·have:c=48+u % 10:=by simpa using hc
    subst this
    simp [isd];omega
theorem val_snoc (l:List Nat) (c:Nat):val (l++[c])=10 * val l+(c - 48):=by
 unfold val
 rw [List.foldl_append];rfl
theorem dcs_val (u:Nat):val (dcs u)=u:=by
 induction u using Nat.strongRecOn with
 | ind u ih =>
  by_cases h:u < 10
  ·rw [dcs_small h];simp [val]
  ·rw [dcs_big h,val_snoc,ih (u / 10) (by omega)];omega
theorem dcs_ne (u:Nat):dcs u≠[]:=by
 by_cases h:u < 10
 ·rw [dcs_small h];simp
 ·rw [dcs_big h];simp
def sgn (b:Bool):List Nat:=if b then [45] else []
def dnum (n:Int):List Nat:=sgn (decide (n < 0))++dcs n.natAbs
end Go.Proofs.YtenfjmdajlhfoabGreatDoor.Jr
namespace Go.Proofs.YtenfjmdajlhfoabGreatDoor
open Go.RowKit
set_option linter.unusedVariables false
set_option maxRecDepth 100000
def TabP (w : World) : Prop := Lib.TabIs Tryz.prog w "internal/strconv.uint64pow10" .u64 Lib.pow10Tab
theorem TabP.later {w w':World} (h:TabP w) (hb:Below w.heap.size w w'):TabP w':=by
 unfold TabP Lib.TabIs World.var? at h ⊢
 have hg : Tryz.prog.globalNamed "internal/strconv.uint64pow10" = some 3 := by kernel_rfl
 rw [hg] at h ⊢
 simp only [Option.bind_some] at h ⊢
 have hlt:3 < w.heap.size:=by
  rcases Nat.lt_or_ge 3 w.heap.size with h' | h'
  ·exact h'
  ·rw [Array.getElem?_eq_none h'] at h;cases h
 rw [hb.block 3 hlt]
 exact h
def itS (n:Int):ByteArray:=⟨(Lib.itoa n).toArray⟩
theorem bl_arr (l:List UInt8):bl ⟨l.toArray⟩=l.map UInt8.toNat:=by unfold bl;simp
theorem itS_bl (n:Int):bl (itS n)=Jr.sgn (decide (n < 0))++(Jr.dcs n.natAbs++[]):=by
 unfold itS
 rw [bl_arr,List.append_nil]
 unfold Lib.itoa Jr.dcs Jr.sgn
 by_cases h:n < 0
 ·rw [if_pos h,if_pos (by simp [h])];rfl
 ·rw [if_neg h,if_neg (by simp [h]),show n.natAbs=n.toNat by omega];rfl
theorem jfmt (n:Int) (h0 : -9223372036854775808≤n) (h1:n≤9223372036854775807) (w:World) (T:TabP w):Calls Tryz.prog 128 #[.int .i64 n,.int .i64 10] w fun e w'=>e=.returned (.string (itS n))∧Below w.heap.size w w' :=
 (Tryz.strconv_FormatInt_10 n h0 h1 w T).mono fun e w' ⟨h2,k,os,h3⟩=>⟨h2,by rw [h3];exact Lib.below_grow _ _ (Nat.le_refl _) _ _⟩
theorem itS_dnum (n:Int):bl (itS n)=Jr.dnum n:=by rw [itS_bl,List.append_nil];rfl
def ErrAt (w:World) (g:Nat):Prop:=∃ ev,w.cell? ⟨g,0,none⟩=some ev∧(ev=.nilIface ∨ ∃ te pe,ev=.iface te pe)
def TabE (w:World):Prop:=ErrAt w 4∧ErrAt w 5
def TabEAt (B:Nat):Prop:=4 < B∧5 < B
theorem cell_lt {w:World} {p:Addr} {v:Value} (h:w.cell? p=some v):p.block < w.heap.size:=by
 rcases Nat.lt_or_ge p.block w.heap.size with hlt|hge
 ·exact hlt
 ·simp [World.cell?,Array.getElem?_eq_none hge] at h
theorem TabE.size {w:World} (h:TabE w):TabEAt w.heap.size:=by
 obtain⟨⟨_,h1,_⟩,⟨_,h2,_⟩⟩:=h
 exact⟨cell_lt h1,cell_lt h2⟩
theorem TabE.below {w w':World} {B:Nat} (h:TabE w) (hB:TabEAt B) (hb:Below B w w'):TabE w':=by
 obtain⟨⟨e1,h1,k1⟩,⟨e2,h2,k2⟩⟩:=h
 exact⟨⟨e1,(hb.cell (p:=⟨4,0,none⟩) hB.1).trans h1,k1⟩,⟨e2,(hb.cell (p:=⟨5,0,none⟩) hB.2).trans h2,k2⟩⟩
theorem TabE.later {w w':World} (h:TabE w) (hb:Below w.heap.size w w'):TabE w':=h.below h.size hb
theorem parse_ok (X:ByteArray) (hX:X.size≤1048576) (v:Int) (h:Lib.parseIntB 64 X.data.toList=.ok v) (w:World) :
 Calls Tryz.prog 129 #[.string X,.int .i64 10,.int .i64 64] w fun e w'=>e=.returned (.tuple #[.int .i64 v,.nilIface])∧Below w.heap.size w w' :=
 (Tryz.strconv_ParseInt_10_at64_ok X (by omega) v h w).mono fun e w' ⟨h1,h2⟩=>⟨h1,by
  rcases h2 with rfl|⟨t,rfl⟩
  ·exact Below.refl _ _
  ·exact Lib.bytesWorld_below _ _ _⟩
theorem parse_itS (n:Int) (h0 : -9223372036854775808≤n) (h1:n≤9223372036854775807):Lib.parseIntB 64 (itS n).data.toList=.ok n:=by
 show Lib.parseIntB 64 (Lib.itoa n)=.ok n
 unfold Lib.itoa
 by_cases h:n < 0
 ·rw [if_pos h,Jr.pi_neg 45 _ rfl (by intro e;have:=Jr.dcs_ne n.natAbs;unfold Jr.dcs at this;rw [e] at this;exact this rfl)]
  exact⟨Jr.dcs_isd _,by show n = -((Jr.val (Jr.dcs n.natAbs):Nat):Int);rw [Jr.dcs_val];omega,by show Jr.val (Jr.dcs n.natAbs)≤_;rw [Jr.dcs_val];omega⟩
 ·rw [if_neg h]
  have hd:=Jr.dcs_isd n.toNat
  have hv:=Jr.dcs_val n.toNat
  have hn:=Jr.dcs_ne n.toNat
  unfold Jr.dcs at hd hv hn
  cases hc:Lib.decDigits n.toNat with
  | nil=>rw [hc] at hn;exact absurd rfl hn
  | cons c r =>
   rw [hc] at hd hv
   have:=hd c.toNat (by simp)
   simp only [Jr.isd,decide_eq_true_eq] at this
   rw [Jr.pi_pos c r (by omega) (by omega)]
   exact⟨hd,by rw [hv];omega,by rw [hv];omega⟩
theorem itS_inj {n m:Int} (h0 : -9223372036854775808≤n∧n≤9223372036854775807) (h1 : -9223372036854775808≤m∧m≤9223372036854775807) (h:itS n=itS m):n=m:=by
 have e1:=parse_itS n h0.1 h0.2
 rw [h,parse_itS m h1.1 h1.2] at e1
 injection e1 with e1
 exact e1.symm
theorem intSat_in (l:List UInt8) : -9223372036854775808≤Lib.intSat 64 l∧Lib.intSat 64 l≤9223372036854775807:=by
 unfold Lib.intSat
 split<;>omega
theorem parse_any (X:ByteArray) (hX:X.size≤1048576) (w:World) (T:TabE w) :
 Calls Tryz.prog 129 #[.string X,.int .i64 10,.int .i64 64] w fun e w'=>∃ z x,e=.returned (.tuple #[.int .i64 z,x])∧(-9223372036854775808≤z∧z≤9223372036854775807)∧(∀ n,-9223372036854775808≤n∧n≤9223372036854775807→X=itS n→z=n)∧Below w.heap.size w w':=by
 obtain⟨⟨e1,h1,k1⟩,⟨e2,h2,k2⟩⟩:=T
 cases he:Lib.parseIntB 64 X.data.toList with
 | ok v =>
  have hb:=Lib.parseIntB_bounds he
  refine (parse_ok X hX v he w).mono fun e w' ⟨h3,h4⟩=>⟨_,_,h3,⟨by simpa using hb.1,by have:=hb.2;simp at this;omega⟩,fun n hn hx=>?_,h4⟩
  rw [hx,parse_itS n hn.1 hn.2] at he
  injection he with he
  exact he.symm
 | «range»=>exact (Tryz.strconv_ParseInt_10_at64_range X (by omega) he e2 w h2 k2).mono fun e w' ⟨N,h3,_,_,h4⟩=>⟨_,_,h3,intSat_in _,fun n hn hx=>(by rw [hx,parse_itS n hn.1 hn.2] at he;cases he),h4⟩
 | _=>exact (Any.strconv_ParseInt_10_at64_syntax Tryz.laysC174 X (by omega) he e1 w h1 k1).mono fun e w' ⟨N,h3,_,_,h4⟩=>⟨_,_,h3,⟨by omega,by omega⟩,fun n hn hx=>(by rw [hx,parse_itS n hn.1 hn.2] at he;cases he),h4⟩
end Go.Proofs.YtenfjmdajlhfoabGreatDoor
namespace Go.Proofs.YtenfjmdajlhfoabGreatDoor.Cl
open Go.Lib
set_option linter.unusedVariables false
def run:List Nat→List Nat→Nat→List Nat × Nat × Nat
 | [],_,_=>([],0,3)
 | [b],o,i=>if b=0 then ([],0,3) else if o.length=1024 then ([],0,4) else ([],0,3)
 | b::c::t,o,i =>
  if b=0 then (if c=0 then (o,i+2,0) else if c≠255 then ([],0,4) else if o.length=1024 then ([],0,4) else run t (o++[0]) (i+2))
  else if o.length=1024 then ([],0,4) else run (c::t) (o++[b]) (i+1)
theorem run_nil (o:List Nat) (i:Nat):run [] o i=([],0,3):=by rw [run]
theorem run_zero (t o:List Nat) (i:Nat):run (0::t) o i=match t with | []=>([],0,3)|c::t=>if c=0 then (o,i+2,0) else if c≠255 then ([],0,4) else if o.length=1024 then ([],0,4) else run t (o++[0]) (i+2):=by
 cases t with
 | nil=>rw [run,if_pos rfl]
 | cons c t=>rw [run,if_pos rfl]
theorem run_some (b:Nat) (t o:List Nat) (i:Nat) (hb:b≠0):run (b::t) o i=if o.length=1024 then ([],0,4) else run t (o++[b]) (i+1):=by
 cases t with
 | nil=>rw [run_nil];simp [run,hb]
 | cons c t=>rw [run,if_neg hb]
theorem run_good:∀ (n:Nat) (l o:List Nat) (i:Nat) (x:List Nat) (m:Nat),l.length≤n→o.length≤1024→run l o i=(x,m,0) →
 ∃ s t,x=o++s∧l=esc0 s++0::0::t∧m=i+((esc0 s).length+2)∧x.length≤1024
 | n,[],o,i,x,m,_,_,h=>by rw [run_nil] at h;simp at h
 | 0,b::l,o,i,x,m,hn,_,h=>by simp at hn
 | n+1,b::l,o,i,x,m,hn,ho,h=>by
  rw [List.length_cons] at hn
  by_cases hb:b=0
  ·subst hb
   rw [run_zero] at h
   match l,h with
   | [],h=>simp at h
   | c::t,h =>
    simp only [] at h
    by_cases h0:c=0
    ·rw [if_pos h0] at h
     simp only [Prod.mk.injEq,and_true] at h
     exact⟨[],t,by simp [h.1],by rw [h0];rfl,by rw [← h.2];rfl,by rw [← h.1];exact ho⟩
    ·rw [if_neg h0] at h
     by_cases h1:c≠255
     ·rw [if_pos h1] at h;simp at h
     ·rw [if_neg h1] at h
      by_cases h2:o.length=1024
      ·rw [if_pos h2] at h;simp at h
      ·rw [if_neg h2] at h
       obtain⟨s,t',e1,e2,e3,e4⟩:=run_good n t (o++[0]) (i+2) x m (by simp at hn;omega) (by simp;omega) h
       refine⟨0::s,t',by simp [e1],?_,?_,e4⟩
       ·rw [e2,esc0_cons,if_pos rfl]
        have:c=255:=by omega
        simp [this]
       ·rw [e3,esc0_cons,if_pos rfl];simp;omega
  ·rw [run_some _ _ _ _ hb] at h
   by_cases h2:o.length=1024
   ·rw [if_pos h2] at h;simp at h
   ·rw [if_neg h2] at h
    obtain⟨s,t',e1,e2,e3,e4⟩:=run_good n l (o++[b]) (i+1) x m (by omega) (by simp;omega) h
    refine⟨b::s,t',by simp [e1],?_,?_,e4⟩
    ·rw [e2,esc0_cons,if_neg hb];rfl
    ·rw [e3,esc0_cons,if_neg hb];simp;omega
theorem run_err:∀ (n:Nat) (l o:List Nat) (i:Nat) (x:List Nat) (m e:Nat),l.length≤n→run l o i=(x,m,e)→e≠0→x=[]∧m=0∧(e=3 ∨ e=4)
 | n,[],o,i,x,m,e,_,h,_=>by rw [run_nil] at h;simp at h;simp [← h.1,← h.2.1,← h.2.2]
 | 0,b::l,o,i,x,m,e,hn,h,_=>by simp at hn
 | n+1,b::l,o,i,x,m,e,hn,h,he=>by
  rw [List.length_cons] at hn
  by_cases hb:b=0
  ·subst hb
   rw [run_zero] at h
   match l,h with
   | [],h=>simp at h;simp [← h.1,← h.2.1,← h.2.2]
   | c::t,h =>
    simp only [] at h
    by_cases h0:c=0
    ·rw [if_pos h0] at h
     simp only [Prod.mk.injEq] at h
     exact absurd h.2.2.symm he
    ·rw [if_neg h0] at h
     by_cases h1:c≠255
     ·rw [if_pos h1] at h;simp at h;simp [← h.1,← h.2.1,← h.2.2]
     ·rw [if_neg h1] at h
      by_cases h2:o.length=1024
      ·rw [if_pos h2] at h;simp at h;simp [← h.1,← h.2.1,← h.2.2]
      ·rw [if_neg h2] at h
       exact run_err n t _ _ x m e (by simp at hn;omega) h he
  ·rw [run_some _ _ _ _ hb] at h
   by_cases h2:o.length=1024
   ·rw [if_pos h2] at h;simp at h;simp [← h.1,← h.2.1,← h.2.2]
   ·rw [if_neg h2] at h
    exact run_err n l _ _ x m e (by omega) h he
def bare (k:Int) (l:List Nat):C × Nat × Nat :=
 if k=1 then (if l=[] then (empty,0,3) else if l.getD 0 0≤1 then (⟨false,(l.getD 0 0:Nat),⟨#[]⟩⟩,1,0) else (empty,0,4))
 else if k=2 ∨ k=3 then (if l.length < 8 then (empty,0,3) else
  (let c:C:=⟨false,(num8 (l.take 8):Int) - 9223372036854775808,⟨#[]⟩⟩;if isK k c=true then (c,8,0) else (empty,0,4)))
 else (let r:=run l [] 0;if r.2.2≠0 then (empty,0,r.2.2) else (let c:C:=⟨false,0,str r.1⟩;if isK k c=true then (c,r.2.1,0) else (empty,0,4)))
def more (u:Bool) (r:C × Nat × Nat):C × Nat × Nat:=if r.2.2≠0 then (empty,0,r.2.2) else (r.1,(if u=true then 1 else 0)+r.2.1,0)
def unb (u:Bool) (k:Int) (l:List Nat):C × Nat × Nat :=
 if may k=false then (empty,0,2)
 else if u=true then (if l=[] then (empty,0,3) else if l.getD 0 0=0 then (nothing,1,0) else if l.getD 0 0=1 then more true (bare k (l.drop 1)) else (empty,0,4))
 else more false (bare k l)
theorem isK_u {k:Int} {c:C} (h:isK k c=true):c.u=false:=by
 unfold isK at h;cases hu:c.u
 ·rfl
 ·rw [hu] at h;simp at h
def nullB:ByteArray:=⟨#[110,117,108,108]⟩
def trueB:ByteArray:=⟨#[116,114,117,101]⟩
def falseB:ByteArray:=⟨#[102,97,108,115,101]⟩
def hexs (l:List Nat):List Nat:=l.flatMap fun b=>[Utf.hex (b / 16),Utf.hex (b % 16)]
theorem hexs_cons (b:Nat) (l:List Nat):hexs (b::l)=Utf.hex (b / 16)::Utf.hex (b % 16)::hexs l:=by simp [hexs]
theorem hexs_append (a b:List Nat):hexs (a++b)=hexs a++hexs b:=by simp [hexs]
theorem hexs_len (l:List Nat):(hexs l).length=2 * l.length:=by
 induction l with
 | nil=>rfl
 | cons b l ih=>rw [hexs_cons];simp [ih];omega
theorem hex_lt (d:Nat) (h:d < 16):Utf.hex d < 256:=by unfold Utf.hex;split<;>omega
theorem hexs_byte {l:List Nat} (h:∀ x∈l,x < 256):∀ x∈hexs l,x < 256:=by
 induction l with
 | nil=>simp [hexs]
 | cons b l ih =>
  have hb:=h b (by simp)
  intro x hx
  rw [hexs_cons] at hx
  simp only [List.mem_cons] at hx
  rcases hx with rfl|rfl|hx
  ·exact hex_lt _ (by omega)
  ·exact hex_lt _ (by omega)
  ·exact ih (fun x hx=>h x (List.mem_cons_of_mem _ hx)) x hx
def idx (c:Nat):Nat:=if 48≤c∧c≤57 then c - 48 else if 97≤c∧c≤102 then c - 87 else 16
theorem idx_hex (d:Nat) (h:d < 16):idx (Utf.hex d)=d:=by unfold idx Utf.hex;split<;>split<;>first|omega|(split<;>omega)
def gb (f:Nat→Nat→Nat):List Nat→List Nat
 | a::b::t=>f a b::gb f t
 | _=>[]
theorem gb_hexs (f:Nat→Nat→Nat) (hf:∀ a b,idx a < 16→idx b < 16→f a b=16 * idx a+idx b):∀ l:List Nat,(∀ x∈l,x < 256)→gb f (hexs l)=l
 | [],_=>rfl
 | b::l,h=>by
  have hb:=h b (by simp)
  rw [hexs_cons]
  simp only [gb]
  rw [gb_hexs f hf l (fun x hx=>h x (List.mem_cons_of_mem _ hx)),hf _ _ (by rw [idx_hex _ (by omega)];omega) (by rw [idx_hex _ (by omega)];omega),idx_hex _ (by omega),idx_hex _ (by omega)]
  congr 1;omega
def txt (k:Int) (c:C):ByteArray :=
 if c.u=true then nullB else if k=1 then (if c.n=1 then trueB else falseB) else if k=2 ∨ k=3 then itS c.n else if k=4 then str (Utf.tidy (bl c.s)) else str (120::hexs (bl c.s))
theorem tidy_unq (s:ByteArray) (h:Utf.vld (bl s)=true):Utf.unq (bl (str (Utf.tidy (bl s))))=(bl s,(Utf.tidy (bl s)).length,0):=by
 rw [bl_str _ (Utf.tidy_byte _ (bl_byte s))]
 obtain⟨rs,h1,h2⟩:=Utf.vld_runes _ (bl s) (Nat.le_refl _) (bl_byte s) h
 have:=Utf.unq_tidy rs [] h1 (by simp)
 rw [List.append_nil] at this
 rw [h2];exact this
theorem tidy_inj {s t:ByteArray} (hs:Utf.vld (bl s)=true) (ht:Utf.vld (bl t)=true) (h:str (Utf.tidy (bl s))=str (Utf.tidy (bl t))):s=t:=by
 have h1:=tidy_unq s hs
 rw [h,tidy_unq t ht] at h1
 simp only [Prod.mk.injEq] at h1
 exact bl_inj h1.1.symm
theorem hexs_inj {s t:ByteArray} (h:str (120::hexs (bl s))=str (120::hexs (bl t))):s=t:=by
 have hb:∀ s:ByteArray,∀ x∈120::hexs (bl s),x < 256:=fun s x hx=>by
  simp only [List.mem_cons] at hx
  rcases hx with rfl|hx
  ·omega
  ·exact hexs_byte (bl_byte s) x hx
 have h1:=congrArg bl h
 rw [bl_str _ (hb s),bl_str _ (hb t)] at h1
 have h2:hexs (bl s)=hexs (bl t):=by simpa using h1
 have h3:=gb_hexs (fun a b=>16 * idx a+idx b) (fun _ _ _ _=>rfl) (bl s) (bl_byte s)
 rw [h2,gb_hexs _ (fun _ _ _ _=>rfl) (bl t) (bl_byte t)] at h3
 exact bl_inj h3.symm
theorem itS_head (n:Int):(bl (itS n)).getD 0 0≤57∧bl (itS n)≠[]:=by
 rw [itS_bl,List.append_nil]
 unfold Jr.sgn
 have hn:=Jr.dcs_ne n.natAbs
 have hd:=Jr.dcs_isd n.natAbs
 cases hc:Jr.dcs n.natAbs with
 | nil=>exact absurd hc hn
 | cons c r =>
  rw [hc] at hd
  have:=hd c (by simp)
  simp only [Jr.isd,decide_eq_true_eq] at this
  split<;>simp<;>omega
theorem txt_null {k:Int} {c:C} (h:isK k c=true):txt k c≠nullB:=by
 intro e
 have hu:=isK_u h
 unfold txt at e
 rw [hu,if_neg (by simp)] at e
 have e:=congrArg bl e
 by_cases h1:k=1
 ·rw [if_pos h1] at e
  split at e<;>revert e<;>decide
 ·rw [if_neg h1] at e
  by_cases h2:k=2 ∨ k=3
  ·rw [if_pos h2] at e
   have:=(itS_head c.n).1
   rw [e] at this
   revert this;decide
  ·rw [if_neg h2] at e
   by_cases h3:k=4
   ·rw [if_pos h3,bl_str _ (Utf.tidy_byte _ (bl_byte _))] at e
    have:=congrArg (fun l=>l.getD 0 0) e
    revert this
    unfold Utf.tidy;show (34=110→False);decide
   ·rw [if_neg h3,bl_str _ (fun x hx=>by
     simp only [List.mem_cons] at hx
     rcases hx with rfl|hx
     ·omega
     ·exact hexs_byte (bl_byte c.s) x hx)] at e
    have:=congrArg (fun l=>l.getD 0 0) e
    revert this
    show (120=110→False);decide
theorem txt_inj {k:Int} {a b:C} (hk:may k=true) (ha:isK k a=true) (hb:isK k b=true) (ia:I64 a.n) (ib:I64 b.n) (h:txt k a=txt k b):a=b:=by
 have ua:=isK_u ha
 have ub:=isK_u hb
 have hu:=ua.trans ub.symm
 unfold txt at h
 rw [ua,ub] at h
 simp only [Bool.false_eq_true,if_false] at h
 unfold isK at ha hb
 obtain⟨k0,k5⟩:=may_le hk
 rcases (show k=1 ∨ k=2 ∨ k=3 ∨ k=4 ∨ k=5 by omega) with rfl|rfl|rfl|rfl|rfl
 ·simp [ua] at ha;simp [ub] at hb
  refine C.ext' hu ?_ (ha.1.trans hb.1.symm)
  simp only [if_true] at h
  rcases ha.2 with e1|e1<;>rcases hb.2 with e2|e2<;>rw [e1,e2] at h ⊢<;>exact absurd (congrArg bl h) (by decide)
 ·simp [ua] at ha;simp [ub] at hb
  simp at h
  exact C.ext' hu (itS_inj ia ib h) (ha.1.trans hb.1.symm)
 ·simp [ua] at ha;simp [ub] at hb
  simp at h
  exact C.ext' hu (itS_inj ia ib h) (ha.trans hb.symm)
 ·simp [ua] at ha;simp [ub] at hb
  simp at h
  exact C.ext' hu (ha.1.1.trans hb.1.1.symm) (by rw [tidy_inj ha.2 hb.2 h])
 ·simp [ua] at ha;simp [ub] at hb
  simp at h
  exact C.ext' hu (ha.1.trans hb.1.symm) (by rw [hexs_inj h])
def Rdd (u:Bool) (k:Int) (X:ByteArray) (c:C) (e:Nat):Prop :=
 (e=2∧may k=false∧c=empty) ∨ (may k=true∧e=0∧of u k c=true∧I64 c.n∧txt k c=X) ∨
 (may k=true∧e=4∧c=empty∧∀ d,of u k d=true→I64 d.n→txt k d≠X)
theorem txt_of_inj {u:Bool} {k:Int} {a b:C} (hk:may k=true) (ha:of u k a=true) (hb:of u k b=true) (ia:I64 a.n) (ib:I64 b.n) (h:txt k a=txt k b):a=b:=by
 rcases of_parts ha with ⟨a1,a2,a3,a4⟩|⟨a1,a2⟩<;>rcases of_parts hb with ⟨b1,b2,b3,b4⟩|⟨b1,b2⟩
 ·exact C.ext' (a1.trans b1.symm) (a3.trans b3.symm) (a4.trans b4.symm)
 ·have:txt k a=nullB:=by unfold txt;rw [if_pos a1]
  exact absurd (h.symm.trans this) (txt_null b2)
 ·have:txt k b=nullB:=by unfold txt;rw [if_pos b1]
  exact absurd (h.trans this) (txt_null a2)
 ·exact txt_inj hk a2 b2 ia ib h
theorem Rdd.only {u:Bool} {k:Int} {X:ByteArray} {c d:C} {e f:Nat} (h:Rdd u k X c e) (g:Rdd u k X d f):c=d∧e=f:=by
 rcases h with ⟨h1,h2,h3⟩|⟨h1,h2,h3,h4,h5⟩|⟨h1,h2,h3,h4⟩<;>rcases g with ⟨g1,g2,g3⟩|⟨g1,g2,g3,g4,g5⟩|⟨g1,g2,g3,g4⟩
 ·exact⟨h3.trans g3.symm,h1.trans g1.symm⟩
 ·rw [h2] at g1;cases g1
 ·rw [h2] at g1;cases g1
 ·rw [g2] at h1;cases h1
 ·exact⟨txt_of_inj h1 h3 g3 h4 g4 (h5.trans g5.symm),h2.trans g2.symm⟩
 ·exact absurd h5 (g4 c h3 h4)
 ·rw [g2] at h1;cases h1
 ·exact absurd g5 (h4 d g3 g4)
 ·exact⟨h3.trans g3.symm,h2.trans g2.symm⟩
theorem Rdd.guess {u:Bool} {k:Int} {X:ByteArray} (hk:may k=true) (g:C) (ig:I64 g.n) (hx:¬ (u=true∧X=nullB)) (hg:∀ d,isK k d=true→I64 d.n→X=txt k d→g=d) :
 if isK k g=true∧txt k g=X then Rdd u k X g 0 else Rdd u k X empty 4:=by
 split
 ·next h=>exact .inr (.inl ⟨hk,rfl,by unfold of;rw [h.1];simp,ig,h.2⟩)
 ·next h =>
  refine .inr (.inr ⟨hk,rfl,rfl,fun d hd id e=>?_⟩)
  rcases of_parts hd with ⟨d1,d2,d3,d4⟩|⟨d1,d2⟩
  ·have:txt k d=nullB:=by unfold txt;rw [if_pos d1]
   exact hx ⟨d2,e.symm.trans this⟩
  ·obtain rfl:=hg d d2 id e.symm
   exact h ⟨d2,e⟩
theorem Rdd.null {k:Int} (hk:may k=true):Rdd true k nullB nothing 0 :=
 .inr (.inl ⟨hk,rfl,by simp [of,none?,nothing,bl],by simp [nothing,I64],by simp [txt,nothing]⟩)
end Go.Proofs.YtenfjmdajlhfoabGreatDoor.Cl
namespace Go.Proofs.YtenfjmdajlhfoabGreatDoor
open Go.RowKit
set_option linter.unusedVariables false
def cv (c:Cl.C):Value:=.agg #[.bool c.u,.int .i64 c.n,.string c.s]
def tv (u:Bool) (k:Int):Value:=.agg #[.int .i64 k,.bool u]
def Cok (c:Cl.C):Prop:=Cl.I64 c.n∧c.s.size≤1000000
def eqc (x y:Cl.C):Bool:=decide (x.u=y.u) && decide (x.n=y.n) && decide (bl x.s=bl y.s)
theorem eqc_iff (x y:Cl.C):eqc x y=true↔x=y:=by
 unfold eqc
 simp only [Bool.and_eq_true,decide_eq_true_eq]
 constructor
 ·rintro ⟨⟨h1,h2⟩,h3⟩
  exact Cl.C.ext' h1 h2 h3
 ·rintro rfl;simp
theorem run_eqc (x y:Cl.C) (w:World):(Op.equalIn 10000 61 (cv x) (cv y)).run Tryz.prog w=.ok (eqc x y) w:=by
 have hS:Tryz.prog.underlying 61=some (.struct (Tryz.prog.fieldsOf 61)):=by kernel_rfl
 have hp:Tryz.prog.stoodInHeld 61=false:=by kernel_rfl
 have u1:=Tryz.underlying4
 have u2:=Tryz.underlying9
 have u3:=Tryz.underlying2
 have z1:=Tryz.sizeOf4
 have z2:=Tryz.sizeOf9
 have z3:=Tryz.sizeOf2
 have a1:=Tryz.isAgg4
 have a2:=Tryz.isAgg9
 have a3:=Tryz.isAgg2
 unfold cv eqc
 simp only [← bl_eq]
 rw [show (10000:Nat)=9999+1 from rfl,run_equalIn_agg w 9999 61 _ _ hS hp]
 simp only [Program.fieldsOf,Tryz.underlying61]
 go_simp
 by_cases h1:x.u=y.u<;>by_cases h3:x.n=y.n<;>by_cases h4:x.s.toList=y.s.toList<;>simp [h1,h3,h4]
set_option maxRecDepth 100000
theorem box_new (w:World) (o:Obj):Below w.heap.size w (w.alloc o):=(Below.refl _ _).alloc (Nat.le_refl _) o
theorem cMay (u:Bool) (k:Int) (w:World) (b:Bool) (hb:Cl.may k=b):Calls Tryz.prog 77 #[tv u k] w fun e w'=>e=.returned (.bool b)∧Below w.heap.size w w':=by
 unfold Cl.may at hb
 unfold tv
 by_cases h1:0 < k
 ·by_cases h2:k < 6
  ·obtain rfl:b=true:=by rw [← hb];simp;omega
   clear hb
   go_enter Tryz.func77,Tryz.ntmps77
   go_wp2
   go_ret
   exact⟨rfl,box_new _ _⟩
  ·obtain rfl:b=false:=by rw [← hb];simp;omega
   clear hb
   go_enter Tryz.func77,Tryz.ntmps77
   go_wp2
   go_ret
   exact⟨rfl,box_new _ _⟩
 ·obtain rfl:b=false:=by rw [← hb];simp;omega
  clear hb
  go_enter Tryz.func77,Tryz.ntmps77
  go_wp2
  go_ret
  exact⟨rfl,box_new _ _⟩
theorem and1 (n:Int):bits BinOp.and IntKind.i64 n 1=n % 2:=by
 show IntKind.i64.wrap ((BitVec.ofInt 64 n &&& BitVec.ofInt 64 1).toNat:Int)=_
 rw [BitVec.toNat_and,BitVec.toNat_ofInt,show (BitVec.ofInt 64 1).toNat=1 by decide,Nat.and_one_is_mod]
 have h:(((n % ((2 ^ 64:Nat):Int)).toNat % 2:Nat):Int)=n % 2:=by omega
 rw [h]
 have:0≤n % 2∧n % 2 < 2:=by omega
 generalize n % 2=t at *
 simp [IntKind.wrap,IntKind.bits,IntKind.signed]
 omega
theorem cIsBool (c:Cl.C) (w:World) (b:Bool) (hb:Cl.isK 1 c=b):Calls Tryz.prog 90 #[cv c] w fun e w'=>e=.returned (.bool b)∧Below w.heap.size w w':=by
 obtain⟨u,n,s⟩:=c
 have h1:=and1 n
 have HB:eqc ⟨u,n,s⟩ ⟨false,n % 2,⟨#[]⟩⟩=b:=by
  rw [← hb]
  unfold eqc Cl.isK
  rw [Bool.eq_iff_iff]
  simp [bl]
  cases u<;>simp
  rw [and_comm,show n=n % 2↔n=0 ∨ n=1 by omega]
 clear hb
 obtain⟨q,hq⟩:∃ q,n % 2=q:=⟨_,rfl⟩
 rw [hq] at h1 HB
 have HE:=fun w=>run_eqc ⟨u,n,s⟩ ⟨false,q,⟨#[]⟩⟩ w
 rw [HB] at HE
 have HQ:=hZ hq
 clear hq HB
 unfold cv at HE ⊢
 simp only at HE ⊢
 go_enter Tryz.func90,Tryz.ntmps90
 go_wp2_with fail
 go_ret
 exact⟨rfl,box_new _ _⟩
theorem cIs32 (c:Cl.C) (w:World) (b:Bool) (hi:Cl.I64 c.n) (hb:Cl.isK 2 c=b):Calls Tryz.prog 95 #[cv c] w fun e w'=>e=.returned (.bool b)∧Below w.heap.size w w':=by
 obtain⟨u,n,s⟩:=c
 simp only at hi
 unfold Cl.I64 at hi
 obtain⟨q,hq⟩:∃ q,IntKind.i32.wrap n=q:=⟨_,rfl⟩
 have h2:(-2147483648≤q∧q≤2147483647)∧(n=q ↔ -2147483648≤n∧n≤2147483647):=by
  rw [IntKind.wrap_i32] at hq;omega
 have e1:∀ w,(convert 2 21 (.int .i64 n)).run Tryz.prog w=.ok (.int .i32 q) w:=fun w=>by
  rw [run_convert_int w _ _ _ _ (by rw [Tryz.underlying2];rfl) (by rw [Tryz.underlying21];rfl)]
  show Result.ok (Value.int .i32 (IntKind.i32.wrap n)) w=_
  rw [hq]
 have e2:∀ w,(convert 21 2 (.int .i32 q)).run Tryz.prog w=.ok (.int .i64 q) w:=fun w=>by
  rw [run_convert_int w _ _ _ _ (by rw [Tryz.underlying21];rfl) (by rw [Tryz.underlying2];rfl)]
  show Result.ok (Value.int .i64 (IntKind.i64.wrap q)) w=_
  rw [IntWalk.i64_in q (by omega)]
 have HB:eqc ⟨u,n,s⟩ ⟨false,q,⟨#[]⟩⟩=b:=by
  rw [← hb]
  unfold eqc Cl.isK
  rw [Bool.eq_iff_iff]
  simp [bl]
  cases u<;>simp
  rw [and_comm,h2.2]
 have HE:=fun w=>run_eqc ⟨u,n,s⟩ ⟨false,q,⟨#[]⟩⟩ w
 rw [HB] at HE
 clear h2 HB hi hb hq
 unfold cv at HE ⊢
 simp only at HE ⊢
 go_enter Tryz.func95,Tryz.ntmps95
 go_wp2_with fail
 go_ret
 exact⟨rfl,box_new _ _⟩
theorem cIs64 (c:Cl.C) (w:World) (b:Bool) (hb:Cl.isK 3 c=b):Calls Tryz.prog 100 #[cv c] w fun e w'=>e=.returned (.bool b)∧Below w.heap.size w w':=by
 obtain⟨u,n,s⟩:=c
 have HB:eqc ⟨u,n,s⟩ ⟨false,n,⟨#[]⟩⟩=b:=by
  rw [← hb]
  unfold eqc Cl.isK
  rw [Bool.eq_iff_iff]
  simp [bl]
 clear hb
 have HE:=fun w=>run_eqc ⟨u,n,s⟩ ⟨false,n,⟨#[]⟩⟩ w
 rw [HB] at HE
 clear HB
 unfold cv at HE ⊢
 simp only at HE ⊢
 go_enter Tryz.func100,Tryz.ntmps100
 go_wp2_with fail
 go_ret
 exact⟨rfl,box_new _ _⟩
theorem cIsBytes (c:Cl.C) (w:World) (b:Bool) (hb:Cl.isK 5 c=b):Calls Tryz.prog 106 #[cv c] w fun e w'=>e=.returned (.bool b)∧Below w.heap.size w w':=by
 obtain⟨u,n,s⟩:=c
 obtain⟨r,hr⟩:∃ r,eqc ⟨u,n,s⟩ ⟨false,0,s⟩=r:=⟨_,rfl⟩
 have HE:=fun w=>run_eqc ⟨u,n,s⟩ ⟨false,0,s⟩ w
 rw [hr] at HE
 have HB:b=(r && decide (s.size≤1024)):=by
  rw [← hb,← hr]
  unfold eqc Cl.isK
  rw [Bool.eq_iff_iff]
  simp [bl]
  cases u<;>simp
 have HH:=hZ HB
 clear hb hr HB
 unfold cv at HE ⊢
 simp only at HE ⊢
 by_cases hs:s.size≤1024
 ·have hs2:(s.size:Int)≤1024:=by omega
  cases r
  all_goals
   go_enter Tryz.func106,Tryz.ntmps106
   go_wp2_with fail
   go_ret
   exact⟨by rw [HH.out];simp [hs],box_new _ _⟩
 ·have hs2:¬ (s.size:Int)≤1024:=by omega
  cases r
  all_goals
   go_enter Tryz.func106,Tryz.ntmps106
   go_wp2_with fail
   go_ret
   exact⟨by rw [HH.out];simp [hs],box_new _ _⟩
theorem cIsString (c:Cl.C) (w:World) (T:Tab w) (hm:c.s.size≤1000000) (b:Bool) (hb:Cl.isK 4 c=b):Calls Tryz.prog 101 #[cv c] w fun e w'=>e=.returned (.bool b)∧Below w.heap.size w w':=by
 obtain⟨u,n,s⟩:=c
 simp only at hm
 have hmm:s.size≤maxLen:=by unfold maxLen;omega
 obtain⟨r,hr⟩:∃ r,Cl.isK 5 ⟨u,n,s⟩=r:=⟨_,rfl⟩
 obtain⟨v,hv⟩:∃ v,Utf.vld (bl s)=v:=⟨_,rfl⟩
 have HB:b=(r && v):=by
  rw [← hb,← hr,← hv]
  unfold Cl.isK
  rw [Bool.eq_iff_iff]
  simp
  cases u<;>simp
 have HH:=hZ HB
 have CB:=hZ (fun w=>cIsBytes ⟨u,n,s⟩ w r hr)
 have CV:=hZ (fun (w1:World) (h:Below w.heap.size w w1)=>valid s w1 (T.later h) hmm v hv)
 clear hb hr HB hv T
 unfold cv at CB ⊢
 simp only at CB ⊢
 cases r
 ·go_enter Tryz.func101,Tryz.ntmps101
  go_wp2_with fail
  ((with_reducible refine (CB.out _).mono ?_);rintro e w1 ⟨rfl,b1⟩)
  have B1:=hZ ((box_new w _).trans (b1.mono (by simp)))
  clear b1
  go_wp2_with fail
  go_ret
  exact⟨by rw [HH.out];rfl,B1.out⟩
 ·go_enter Tryz.func101,Tryz.ntmps101
  go_wp2_with fail
  ((with_reducible refine (CB.out _).mono ?_);rintro e w1 ⟨rfl,b1⟩)
  have B1:=hZ ((box_new w _).trans (b1.mono (by simp)))
  have K:=((Blk.new w _ _).later b1).cell 2
  simp at K
  clear b1
  go_wp2_with fail
  ((with_reducible refine (CV.out _ B1.out).mono ?_);rintro e w2 ⟨rfl,b2⟩)
  go_wp2_with fail
  go_ret
  exact⟨by rw [HH.out];rfl,up B1.out b2⟩
def cvc (c:Cl.C):Array Value:=#[.bool c.u,.int .i64 c.n,.string c.s]
theorem cell_info:(Tryz.prog.info? 61).map (·.size)=some 3:=by kernel_rfl
theorem ret1 {fn:Func} {p:Tmp} (h:fn.results=#[.cell p 61]) (tmps:Array Value) (w:World) (g:Nat) (c:Cl.C) (hp:tmps.getD p undef=.pointer (some ⟨g,0,none⟩)) (hg:w.heap[g]?=some (.cells (cvc c) 61 (0,0))) :
 (results fn tmps).run Tryz.prog w=.ok (cv c) w :=
 results_cell_row h tmps w g 61 (cvc c) (0,0) _ hp hg Tryz.underlying61 rfl cell_info
theorem ret3 {fn:Func} {p a b:Tmp} (h:fn.results=#[.cell p 61,.tmp a,.tmp b]) (tmps:Array Value) (w:World) (g:Nat) (c:Cl.C) (hp:tmps.getD p undef=.pointer (some ⟨g,0,none⟩)) (hg:w.heap[g]?=some (.cells (cvc c) 61 (0,0))) :
 (results fn tmps).run Tryz.prog w=.ok (.tuple #[cv c,tmps.getD a undef,tmps.getD b undef]) w:=by
 have hp':tmps[p]?.getD undef=.pointer (some ⟨g,0,none⟩):=by simpa using hp
 simp [results,h,hp',asAddr,run_loadVar_row w g 61 61 (cvc c) (0,0) _ hg Tryz.underlying61 rfl cell_info]
 rfl
def CV (w:World) (g:Nat) (c:Cl.C):Prop:=Blk w g 61 [.bool c.u,.int .i64 c.n,.string c.s]
theorem CV.heap {w:World} {g:Nat} {c:Cl.C} (h:CV w g c):w.heap[g]?=some (.cells (cvc c) 61 (0,0)):=h
theorem CV.new (w:World) (u:Bool) (n:Int) (s:ByteArray):CV (w.alloc (.cells #[.bool u,.int .i64 n,.string s] 61)) w.heap.size ⟨u,n,s⟩:=Blk.new w _ _
theorem CV.lie {w:World} {g:Nat} {c:Cl.C} (h:CV w g c):w.cell? ⟨g,0,none⟩=some (.bool c.u)∧w.cell? ⟨g,1,none⟩=some (.int .i64 c.n)∧w.cell? ⟨g,2,none⟩=some (.string c.s) :=
 ⟨by have:=h.cell 0;simpa using this,by have:=h.cell 1;simpa using this,by have:=h.cell 2;simpa using this⟩
theorem CV.free {w:World} {g:Nat} {c:Cl.C} (h:CV w g c):w.frozen? ⟨g,0,none⟩=false∧w.frozen? ⟨g,1,none⟩=false∧w.frozen? ⟨g,2,none⟩=false:=⟨h.frozen 0,h.frozen 1,h.frozen 2⟩
theorem CV.later {w w':World} {g:Nat} {c:Cl.C} (h:CV w g c) (hb:Below w.heap.size w w'):CV w' g c:=Blk.later h hb
theorem CV.put {w:World} {g:Nat} {c:Cl.C} (h:CV w g c) (u:Bool) (n:Int) (s:ByteArray):CV (((w.setCell ⟨g,0,none⟩ (.bool u)).setCell ⟨g,1,none⟩ (.int .i64 n)).setCell ⟨g,2,none⟩ (.string s)) g ⟨u,n,s⟩ :=
 ((Blk.put h 0 (.bool u)).put 1 (.int .i64 n)).put 2 (.string s)
theorem put_below {w w1:World} {g:Nat} (hg:w.heap.size≤g) (h:Below w.heap.size w w1) (a b c:Value):Below w.heap.size w (((w1.setCell ⟨g,0,none⟩ a).setCell ⟨g,1,none⟩ b).setCell ⟨g,2,none⟩ c) :=
 ((h.setCell hg _).setCell hg _).setCell hg _
end Go.Proofs.YtenfjmdajlhfoabGreatDoor
namespace Go.Proofs.YtenfjmdajlhfoabGreatDoor.Rw
open Cl
set_option linter.unusedVariables false
def fnz:List Int→Int
 | []=>0
 | x::t=>if x≠0 then x else fnz t
theorem fnz_drop {l:List Int} {k:Nat} {x:Int} (h:l[k]?=some x):fnz (l.drop k)=if x≠0 then x else fnz (l.drop (k+1)):=by
 obtain⟨hk,e⟩:=List.getElem?_eq_some_iff.1 h
 rw [List.drop_eq_getElem_cons hk,e];rfl
theorem fnz_end {l:List Int} {k:Nat} (h:l.length≤k):fnz (l.drop k)=0:=by
 rw [List.drop_eq_nil_of_le h];rfl
abbrev Ty:=Bool × Int
def chkL (ts:List Ty) (r:List C):List Int:=List.zipWith (fun (t:Ty) c=>((chk t.1 t.2 c:Nat):Int)) ts r
def chkR (ts:List Ty) (r:List C):Int:=if r.length≠ts.length then 100 else fnz (chkL ts r)
def c3 (a b:Nat):Int:=if a < b then -1 else if b < a then 1 else 0
def cmpL (a b:List C):List Int:=List.zipWith cmp a b
def cmps (a b:List C):Int:=if fnz (cmpL a b)≠0 then fnz (cmpL a b) else c3 a.length b.length
def okP (ps:List Int) (n:Nat):Bool:=ps.all fun p=>decide (0≤p∧p < (n:Int))
def cAt (r:List C) (p:Int):C:=r.getD p.toNat empty
def tAt (ts:List Ty) (p:Int):Ty:=ts.getD p.toNat (false,0)
def pick (r:List C) (ps:List Int):List C:=ps.map (cAt r)
def kAt (ts:List Ty) (r:List C) (p:Int):List Nat:=bts (tAt ts p).1 (tAt ts p).2 (cAt r p)
def key (ts:List Ty) (ps:List Int) (r:List C):List Nat:=ps.flatMap (kAt ts r)
def unk (ts:List Ty):List Int→List Nat→Nat × List C × List Nat
 | [],l=>(0,[],l)
 | p::ps,l =>
  let r:=unb (tAt ts p).1 (tAt ts p).2 l
  if r.2.2≠0 then (r.2.2,[],[]) else
  let q:=unk ts ps (l.drop r.2.1)
  if q.1≠0 then (q.1,[],[]) else (0,r.1::q.2.1,q.2.2)
def unkR (ts:List Ty) (ps:List Int) (l:List Nat):Nat × List C :=
 if okP ps ts.length=false then (6,[]) else
 let q:=unk ts ps l
 if q.1≠0 then (q.1,[]) else if q.2.2≠[] then (30,[]) else (0,q.2.1)
def pickR (r:List C) (ps:List Int):Nat × List C:=if okP ps r.length=false then (6,[]) else (0,pick r ps)
def keyR (ts:List Ty) (ps:List Int) (r:List C):Int × List Nat :=
 if chkR ts r≠0 then (chkR ts r,[]) else if okP ps r.length=false then (6,[]) else (0,key ts ps r)
end Go.Proofs.YtenfjmdajlhfoabGreatDoor.Rw
namespace Go.Proofs.YtenfjmdajlhfoabGreatDoor
open Go.RowKit
set_option linter.unusedVariables false
set_option maxRecDepth 100000
def clc (c:Cl.C):List Value:=[.bool c.u,.int .i64 c.n,.string c.s]
theorem clL:Gn.Lay clc 3:=⟨fun _=>rfl,fun x v hv=>by simp [clc] at hv;rcases hv with rfl|rfl|rfl<;>rfl,by omega⟩
def clz:Value:=.agg #[.bool false,.int .i64 0,.string ⟨#[]⟩]
theorem clY:Gn.Ty 26 61 clz 3 32:=⟨Tryz.underlying26,by kernel_rfl,by kernel_rfl,rfl,by omega⟩
def RdC (w:World) (B:Nat) (v:Value) (l:List Cl.C):Prop:=Gn.Rd clc 3 w B v l
def OwnC (w:World) (base:Nat) (v:Value) (l:List Cl.C):Prop:=Gn.Own clc 3 61 w base v l
theorem rdC_cells {W w:World} {B n c:Nat} {ad:Option Addr} {l:List Cl.C} (h:RdC W B (.slice ad n c) l) (hb:Below B W w) {i:Nat} {x:Cl.C} (hi:l[i]?=some x) :
 ∃ b off,ad=some ⟨b,off,none⟩∧w.cell? ⟨b,off+i * 3,none⟩=some (.bool x.u)∧w.cell? ⟨b,off+i * 3+1,none⟩=some (.int .i64 x.n)∧w.cell? ⟨b,off+i * 3+2,none⟩=some (.string x.s):=by
 obtain⟨hl,e⟩:=List.getElem?_eq_some_iff.1 hi
 obtain⟨b,off,rfl,_,hc⟩:=Gn.Rd.at h hb hl
 rw [e] at hc
 exact⟨b,off,rfl,hc 0 _ rfl,hc 1 _ rfl,hc 2 _ rfl⟩
structure Co where
 id:Int
 nm:ByteArray
 k:Int
 u:Bool
 d:Cl.C
def coc (x:Co):List Value:=[.int .i64 x.id,.string x.nm,.int .i64 x.k,.bool x.u,.bool x.d.u,.int .i64 x.d.n,.string x.d.s]
theorem coL:Gn.Lay coc 7:=⟨fun _=>rfl,fun x v hv=>by simp [coc] at hv;rcases hv with rfl|rfl|rfl|rfl|rfl|rfl|rfl<;>rfl,by omega⟩
def coz:Value:=.agg #[.int .i64 0,.string ⟨#[]⟩,.int .i64 0,.bool false,.bool false,.int .i64 0,.string ⟨#[]⟩]
theorem coY:Gn.Ty 22 63 coz 7 72:=⟨Tryz.underlying22,by kernel_rfl,by kernel_rfl,rfl,by omega⟩
def RdK (w:World) (B:Nat) (v:Value) (l:List Co):Prop:=Gn.Rd coc 7 w B v l
def OwnK (w:World) (base:Nat) (v:Value) (l:List Co):Prop:=Gn.Own coc 7 63 w base v l
theorem rdK_type {W w:World} {B n c:Nat} {ad:Option Addr} {l:List Co} (h:RdK W B (.slice ad n c) l) (hb:Below B W w) {i:Nat} {x:Co} (hi:l[i]?=some x) :
 ∃ b off,ad=some ⟨b,off,none⟩∧w.cell? ⟨b,off+i * 7+2,none⟩=some (.int .i64 x.k)∧w.cell? ⟨b,off+i * 7+2+1,none⟩=some (.bool x.u):=by
 obtain⟨hl,e⟩:=List.getElem?_eq_some_iff.1 hi
 obtain⟨b,off,rfl,_,hc⟩:=Gn.Rd.at h hb hl
 rw [e] at hc
 exact⟨b,off,rfl,hc 2 _ rfl,hc 3 _ rfl⟩
def tys (l:List Co):List Rw.Ty:=l.map fun x=>(x.u,x.k)
theorem tys_len (l:List Co):(tys l).length=l.length:=by simp [tys]
theorem tys_at {l:List Co} {i:Nat} {x:Co} (h:l[i]?=some x):(tys l)[i]?=some (x.u,x.k):=by unfold tys;rw [List.getElem?_map,h];rfl
def inc (x:Int):List Value:=[.int .i64 x]
theorem inL:Gn.Lay inc 1:=⟨fun _=>rfl,fun x v hv=>by simp [inc] at hv;subst hv;rfl,by omega⟩
theorem inY:Gn.Ty 23 3 (.int .i64 0) 1 8:=⟨Tryz.underlying23,by kernel_rfl,by kernel_rfl,rfl,by omega⟩
def RdI (w:World) (B:Nat) (v:Value) (l:List Int):Prop:=Gn.Rd inc 1 w B v l
def OwnI (w:World) (base:Nat) (v:Value) (l:List Int):Prop:=Gn.Own inc 1 3 w base v l
theorem rdI_cell {W w:World} {B n c:Nat} {ad:Option Addr} {l:List Int} (h:RdI W B (.slice ad n c) l) (hb:Below B W w) {i:Nat} {x:Int} (hi:l[i]?=some x) :
 ∃ b off,ad=some ⟨b,off,none⟩∧w.cell? ⟨b,off+i,none⟩=some (.int .i64 x):=by
 obtain⟨hl,e⟩:=List.getElem?_eq_some_iff.1 hi
 obtain⟨b,off,rfl,_,hc⟩:=Gn.Rd.at h hb hl
 rw [e] at hc
 refine⟨b,off,rfl,?_⟩
 have:=hc 0 _ rfl
 simpa using this
def txc (x:ByteArray):List Value:=[.string x]
def OwnT (w:World) (base:Nat) (v:Value) (l:List ByteArray):Prop:=Gn.Own txc 1 9 w base v l
theorem rd_one {α:Type} {enc:α→List Value} {k:Nat} (T:TypeId) (L:Gn.Lay enc k) (w:World) (x:α) (cs:Array Value) (h:cs=(enc x).toArray):Gn.Rd enc k (w.alloc (.cells cs T)) (w.alloc (.cells cs T)).heap.size (.slice (some ⟨w.heap.size,0,none⟩) 1 1) [x] :=
 Gn.Own.rd L (Gn.Own.lit (T:=T) L w 0 [x] cs 1 1 (by rw [h];simp [Gn.cells]) rfl rfl (by simp [maxLen]) (Nat.zero_le _))
theorem RdC.of {w:World} {base:Nat} {v:Value} {l:List Cl.C} (h:OwnC w base v l):RdC w w.heap.size v l:=Gn.Own.rd clL h
theorem RdK.of {w:World} {base:Nat} {v:Value} {l:List Co} (h:OwnK w base v l):RdK w w.heap.size v l:=Gn.Own.rd coL h
theorem RdI.of {w:World} {base:Nat} {v:Value} {l:List Int} (h:OwnI w base v l):RdI w w.heap.size v l:=Gn.Own.rd inL h
theorem RdC.later {w w':World} {v:Value} {l:List Cl.C} (h:RdC w w.heap.size v l) (hb:Below w.heap.size w w'):RdC w' w'.heap.size v l:=Gn.Rd.later h hb
theorem RdK.later {w w':World} {v:Value} {l:List Co} (h:RdK w w.heap.size v l) (hb:Below w.heap.size w w'):RdK w' w'.heap.size v l:=Gn.Rd.later h hb
theorem RdI.later {w w':World} {v:Value} {l:List Int} (h:RdI w w.heap.size v l) (hb:Below w.heap.size w w'):RdI w' w'.heap.size v l:=Gn.Rd.later h hb
theorem falseOf {b:Bool} {p:Prop} (h:b=true↔p) (n:¬ p):b=false:=by
 cases b with
 | false=>rfl
 | true=>exact absurd (h.1 rfl) n
theorem eqRow (v1 v2:Value) (l1 l2:List Cl.C) (w:World) (h1:RdC w w.heap.size v1 l1) (h2:RdC w w.heap.size v2 l2) (hl:l1.length≤1000000) (b:Bool) (hb:b=true↔l1=l2) :
 Calls Tryz.prog 19 #[v1,v2] w fun e w'=>e=.returned (.bool b)∧Below w.heap.size w w':=by
 have HR1:=hZ h1
 have HR2:=hZ h2
 have HB:=hZ hb
 obtain⟨a1,c1,rfl,_⟩:=Gn.Rd.form h1
 obtain⟨a2,c2,rfl,_⟩:=Gn.Rd.form h2
 clear h1 h2 hb
 by_cases hn:l1.length=l2.length
 ·have hn':((l1.length:Int) != (l2.length:Nat))=false:=by simp;omega
  go_enter Tryz.func19,Tryz.ntmps19
  go_wp2_with fail
  go_loopw [5] (fun i wr=>∃ k:Nat,k≤l1.length∧i=.int .i64 (k:Nat)∧Hid (∀ j,j < k→l1[j]?=l2[j]?)∧Hid (Below w.heap.size w wr)) (fun i _=>l1.length - (intOf i).toNat)
  case atStart=>exact⟨0,by omega,by rfl,hZ (fun j hj=>by omega),hZ (Below.refl _ _)⟩
  case round =>
   obtain⟨k,hk,rfl,HE,HU⟩:=hrel
   by_cases hlt:k < l1.length
   ·have hlt1:(k:Int) < l1.length:=by omega
    have hlt2:(k:Int) < l2.length:=by omega
    obtain⟨x,hx⟩:∃ x,l1[k]?=some x:=⟨_,List.getElem?_eq_getElem hlt⟩
    obtain⟨y,hy⟩:∃ y,l2[k]?=some y:=⟨_,List.getElem?_eq_getElem (by omega)⟩
    obtain⟨b1,o1,rfl,p0,p1,p2⟩:=rdC_cells HR1.out HU.out.drew hx
    obtain⟨b2,o2,rfl,q0,q1,q2⟩:=rdC_cells HR2.out HU.out.drew hy
    have heq:=fun w=>run_eqc x y w
    unfold cv at heq
    have HU2:=hZ HU.out.drew
    by_cases hxy:x=y
    ·have e1:eqc x y=true:=(eqc_iff x y).2 hxy
     rw [e1] at heq
     have HE2:=hZ (show ∀ j,j < k+1→l1[j]?=l2[j]? from fun j hj=>by
      rcases Nat.lt_succ_iff_lt_or_eq.1 hj with h|rfl
      ·exact HE.out j h
      ·rw [hx,hy,hxy])
     clear hx hy hxy e1 hn
     go_wp2_with fail
     go_region
     all_goals
      go_wp2_with fail
      go_roundw
      case rel=>exact⟨k+1,by omega,by go_num,HE2,HU2⟩
      case measure=>simp [intOf];omega
    ·have e1:eqc x y=false:=by
      cases he:eqc x y with
      | false=>rfl
      | true=>exact absurd ((eqc_iff x y).1 he) hxy
     rw [e1] at heq
     obtain rfl:b=false:=falseOf HB.out (fun e=>hxy (by rw [e,hy] at hx;injection hx with e;exact e.symm))
     clear hx hy hxy e1 hn
     go_wp2_with fail
     go_region
     all_goals
      go_wp2_with fail
      go_ret
      exact⟨rfl,HU2.out⟩
   ·have hlt1:¬ (k:Int) < l1.length:=by omega
    have hbt:b=true:=HB.out.2 (List.ext_getElem? fun j=>by
     rcases Nat.lt_or_ge j k with h|h
     ·exact HE.out j h
     ·rw [List.getElem?_eq_none (by omega),List.getElem?_eq_none (by omega)])
    subst hbt
    clear hn
    go_wp2_with fail
    go_ret
    exact⟨rfl,HU.out⟩
 ·have hn':((l1.length:Int) != (l2.length:Nat))=true:=by simp;omega
  obtain rfl:b=false:=falseOf HB.out (fun e=>hn (by rw [e]))
  clear hn
  go_enter Tryz.func19,Tryz.ntmps19
  go_wp2_with fail
  go_ret
  exact⟨rfl,Below.refl _ _⟩
theorem copyCols (v:Value) (l:List Co) (w:World) (h:RdK w w.heap.size v l) (hl:l.length≤1000000) :
 Calls Tryz.prog 36 #[v] w fun e w'=>∃ v',e=.returned v'∧OwnK w' w.heap.size v' l∧Below w.heap.size w w':=by
 have HR:=hZ h
 have HO:Hid (OwnK w w.heap.size (.slice none 0 0) []):=hZ (Gn.Own.nil _ _)
 clear h
 go_enter Tryz.func36,Tryz.ntmps36
 go_wp2_with (at_builtin
              refine Gn.wpList_app coL coY rfl (.tmp 4) (.tmp 5) rfl w.heap.size (.slice none 0 0) [] rfl HO.out v l rfl HR.out (by simp;omega) (Nat.le_refl _) ?_
              intro v1 w1 ho1 hg1 hl1 hn1)
 go_ret
 exact⟨_,rfl,ho1,Gn.below_of_own HO.out hg1 (Nat.le_refl _)⟩
theorem copyInts (v:Value) (l:List Int) (w:World) (h:RdI w w.heap.size v l) (hl:l.length≤1000000) :
 Calls Tryz.prog 37 #[v] w fun e w'=>∃ v',e=.returned v'∧OwnI w' w.heap.size v' l∧Below w.heap.size w w':=by
 have HR:=hZ h
 have HO:Hid (OwnI w w.heap.size (.slice none 0 0) []):=hZ (Gn.Own.nil _ _)
 clear h
 go_enter Tryz.func37,Tryz.ntmps37
 go_wp2_with (at_builtin
              refine Gn.wpList_app inL inY rfl (.tmp 4) (.tmp 5) rfl w.heap.size (.slice none 0 0) [] rfl HO.out v l rfl HR.out (by simp;omega) (Nat.le_refl _) ?_
              intro v1 w1 ho1 hg1 hl1 hn1)
 go_ret
 exact⟨_,rfl,ho1,Gn.below_of_own HO.out hg1 (Nat.le_refl _)⟩
theorem rd_to {α:Type} {enc:α→List Value} {k:Nat} {w:World} {B c m:Nat} {a:Option Addr} {l:List α} (h:Gn.Rd enc k w B (.slice a l.length c) l) (hm:m≤l.length):Gn.Rd enc k w B (.slice a m c) (l.take m):=by
 obtain⟨a',c',e,h1,h2,h3,h5⟩:=h
 injection e with e1 e2 e3
 subst e1 e3
 have hlen:(l.take m).length=m:=by rw [List.length_take];omega
 refine⟨_,_,by rw [hlen],by rw [hlen];omega,h2,h3,fun hp=>?_⟩
 obtain⟨b,off,rfl,hb,hc⟩:=h5 (by omega)
 refine⟨b,off,rfl,hb,fun i x j u hi hj=>hc i x j u ?_ hj⟩
 rw [List.getElem?_take] at hi
 split at hi
 ·exact hi
 ·cases hi
def cutC (c:Cl.C):Cl.C:=⟨c.u,c.n,c.s.extract 0 (min (c.s.size:Int) 1100).toNat⟩
theorem cutC_size (c:Cl.C):(cutC c).s.size≤1100:=by simp [cutC];omega
def cutR (l:List Cl.C):List Cl.C:=(l.take 40).map cutC
theorem cutR_len (l:List Cl.C):(cutR l).length≤40:=by simp [cutR];omega
theorem cutR_ok {l:List Cl.C} (h:∀ c∈l,Cl.I64 c.n):∀ c∈cutR l,Cl.I64 c.n∧c.s.size≤1100:=by
 intro c hc
 unfold cutR at hc
 obtain⟨d,hd,rfl⟩:=List.mem_map.1 hc
 exact⟨h d (List.mem_of_mem_take hd),cutC_size d⟩
end Go.Proofs.YtenfjmdajlhfoabGreatDoor
