/- Texts. -/
import Derived.Deep.MidRow
import Derived.Deep.DeepCutAuto
import Derived.Deep.CutBlock
import Derived.Test.YtenfjmdajlhfoabGreatDoorKRef
set_option maxHeartbeats 16000000
namespace Go.Proofs.YtenfjmdajlhfoabGreatDoor
open Go.RowKit
set_option linter.unusedVariables false
set_option linter.unusedSimpArgs false
set_option maxRecDepth 100000
def cutN (s:ByteArray) (n:Int):ByteArray:=s.extract 0 (min (s.size:Int) n).toNat
def cutK (c:Co):Co:=⟨c.id,cutN c.nm 40,c.k,c.u,⟨c.d.u,c.d.n,cutN c.d.s 1100⟩⟩
theorem cutN_size (s:ByteArray) (n:Nat):(cutN s n).size≤n:=by unfold cutN;rw [ByteArray.size_extract];omega
def lFew11C (l:List Co):List Co:=(l.take 40).map cutK
def mixK (k:Nat) (l:List Co):List Co:=(l.take k).map cutK++l.drop k
theorem mixK_len (k:Nat) (l:List Co):(mixK k l).length=l.length:=by unfold mixK;simp;omega
theorem mixK_at {k:Nat} {l:List Co} {x:Co} (h:l[k]?=some x):(mixK k l)[k]?=some x:=by
 have hk:=(List.getElem?_eq_some_iff.1 h).1
 unfold mixK
 rw [List.getElem?_append_right (by simp;omega)]
 simp [show k - min k l.length=0 by omega,h]
theorem mixK_set {k:Nat} {l:List Co} {x:Co} (h:l[k]?=some x):(mixK k l).set k (cutK x)=mixK (k+1) l:=by
 have hk:=(List.getElem?_eq_some_iff.1 h).1
 unfold mixK
 have hl:((l.take k).map cutK).length=k:=by simp;omega
 rw [List.set_append_right _ _ (by omega),hl,Nat.sub_self,List.take_add_one,h,List.drop_eq_getElem_cons hk]
 have e:l[k]=x:=by rw [List.getElem?_eq_getElem hk] at h;injection h
 simp [e]
theorem mixK_zero (l:List Co):mixK 0 l=l:=by simp [mixK]
theorem mixK_all (l:List Co):mixK l.length l=l.map cutK:=by simp [mixK]
structure FW (w:World) (l:List Co) (ks:List Int) (cv kv:Value) (W:World):Prop where
 s:Blk W w.heap.size 25 [cv,kv]
 r:Blk W (w.heap.size+1) 25 [nilS,nilS]
 oc:OwnK W (w.heap.size+2) cv l
 ok:OwnI W (w.heap.size+2) kv ks
 b:Below w.heap.size w W
 sz:w.heap.size+2≤W.heap.size
theorem FW.later {w W W':World} {l:List Co} {ks:List Int} {cv kv:Value} (h:FW w l ks cv kv W) (hb:Below W.heap.size W W'):FW w l ks cv kv W' :=
 ⟨h.s.later hb,h.r.later hb,Gn.Own.later h.oc hb,Gn.Own.later h.ok hb,up h.b hb,Nat.le_trans h.sz hb.size⟩
theorem own_touch {α:Type} {enc:α→List Value} {k:Nat} {T:TypeId} {S:Nat→Prop} {w w':World} {B:Nat} {v:Value} {l:List α} (h:Gn.Own enc k T w B v l) (ht:Touch S w w') (hn:∀ g,v.ownBlock=some g→¬ S g):Gn.Own enc k T w' B v l:=by
 obtain⟨h0,h1⟩:=h
 refine⟨h0,?_⟩
 rcases h1 with h1|⟨g,cap,cur,rfl,hg,hh,r⟩
 ·exact .inl h1
 ·have hlt:g < w.heap.size:=by
   rcases Nat.lt_or_ge g w.heap.size with hlt|hge
   ·exact hlt
   ·rw [Array.getElem?_eq_none hge] at hh;cases hh
  exact .inr ⟨g,cap,cur,rfl,hg,(ht.block g hlt (hn g rfl)).trans hh,r⟩
theorem FW.put {w W:World} {l:List Co} {ks:List Int} {g n cap:Nat} {kv:Value} (h:FW w l ks (.slice (some ⟨g,0,none⟩) n cap) kv W) (hn:l.length=n) {i:Nat} (hi:i < n) (x:Co):FW w (l.set i x) ks (.slice (some ⟨g,0,none⟩) n cap) kv (put7W W g (i * 7) x):=by
 have hg:=(h.oc.lt g rfl).1
 have ht:=grown_put7 (i:=i) h.oc x
 refine⟨h.s.touch ht (by show ¬ w.heap.size=g;omega),h.r.touch ht (by show ¬ w.heap.size+1=g;omega),own_put7 h.oc hn hi x,own_touch h.ok ht (fun g' hg'=>?_),?_,?_⟩
 ·rcases own_apart2 h.ok h.oc (by decide) with h2|h2
  ·rw [h2] at hg';cases hg'
  ·intro e;exact h2 (by rw [hg',e];rfl)
 ·exact h.b.trans (ht.below h.sz (fun k hk=>by subst hk;omega) |>.mono (by omega))
 ·exact Nat.le_trans h.sz ht.size
theorem FW.touch {w W W':World} {S:Nat→Prop} {l:List Co} {ks:List Int} {cv kv:Value} (h:FW w l ks cv kv W) (ht:Touch S W W') (hS:∀ q,S q→w.heap.size+2≤q) (h1:∀ g,cv.ownBlock=some g→¬ S g) (h2:∀ g,kv.ownBlock=some g→¬ S g):FW w l ks cv kv W' :=
 ⟨h.s.touch ht (fun hh=>by have:=hS _ hh;omega),h.r.touch ht (fun hh=>by have:=hS _ hh;omega),own_touch h.oc ht h1,own_touch h.ok ht h2,h.b.trans (ht.below h.sz hS |>.mono (by omega)),Nat.le_trans h.sz ht.size⟩
theorem retSf {fn:Func} {p:Tmp} (h:fn.results=#[.cell p 25]) (tmps:Array Value) (w:World) (g:Nat) (cv kv:Value) (hp:tmps.getD p undef=.pointer (some ⟨g,0,none⟩)) (hg:w.heap[g]?=some (.cells #[cv,kv] 25 (0,0))) :
 (results fn tmps).run Tryz.prog w=.ok (.agg #[cv,kv]) w :=
 results_cell_row h tmps w g 25 _ (0,0) _ hp hg Tryz.underlying25 rfl schema_info
def FPost (w:World) (L:List Co) (K:List Int) (e:Ending) (w':World):Prop:=∃ cv kv,e=.returned (.agg #[cv,kv])∧OwnK w' w.heap.size cv L∧OwnI w' w.heap.size kv K∧Below w.heap.size w w'
theorem take_min {α:Type} (l:List α) (n:Nat) (m:Int) (hm:m=(n:Nat)):l.take (min (l.length:Int) m).toNat=l.take n:=by
 subst hm
 rcases Nat.lt_or_ge l.length n with h|h
 ·rw [List.take_of_length_le (by omega),List.take_of_length_le (by omega)]
 ·congr 1;omega
theorem slice_cut (xs:ByteArray) (n:Int) (h0:0≤n) (hm:xs.size≤9223372036854775807) (w:World):(Instr.slice 9 (.string xs) none (some (.int .i64 (min (xs.size:Int) n))) none).run Tryz.prog w=.ok (.string (cutN xs n)) w:=by
 rw [run_slice_string_to_if w 9 xs .i64 _ Tryz.underlying9,if_pos (by omega)];rfl
theorem rCopyS (v kv:Value) (l:List Co) (ks:List Int) (w:World) (h:RdK w w.heap.size v l) (hk:RdI w w.heap.size kv ks) (hl:l.length≤1000000) (hkl:ks.length≤1000000) :
 Calls Tryz.prog 13 #[.agg #[v,kv]] w fun e w'=>FPost w l ks e w':=by
 obtain⟨a,c,rfl,_⟩:=Gn.Rd.form h
 obtain⟨ka,kc,rfl,_⟩:=Gn.Rd.form hk
 obtain⟨v,hv⟩:∃ v,v=Value.slice a l.length c:=⟨_,rfl⟩
 obtain⟨kv,hkv⟩:∃ v,v=Value.slice ka ks.length kc:=⟨_,rfl⟩
 rw [← hv] at h ⊢
 rw [← hkv] at hk ⊢
 have HV:=hZ h
 have HKV:=hZ hk
 have HCK:=hZ (fun w1 (g:RdK w1 w1.heap.size v l)=>copyCols v l w1 g hl)
 have HCI:=hZ (fun w1 (g:RdI w1 w1.heap.size kv ks)=>copyInts kv ks w1 g hkl)
 have b1:=box_new w (.cells #[v,kv] 25)
 have b2:=box_new (w.alloc (.cells #[v,kv] 25)) (.cells #[nilS,nilS] 25)
 have HB:=hZ (up b1 b2)
 have HX:=hZ ((Blk.new w 25 #[v,kv]).later b2)
 have HY:=hZ (Blk.new (w.alloc (.cells #[v,kv] 25)) 25 #[nilS,nilS])
 rw [show (w.alloc (.cells #[v,kv] 25)).heap.size=w.heap.size+1 by simp] at HY
 have HSZ:Hid (((w.alloc (.cells #[v,kv] 25)).alloc (.cells #[nilS,nilS] 25)).heap.size=w.heap.size+2):=hZ (by simp)
 have x0:=HX.out.cell 0
 have x1:=HX.out.cell 1
 simp only [zD,zE] at x0 x1
 unfold nilS at HB HX HSZ x0 x1
 clear h hk b1 b2 hv hkv
 have HY':=HY
 unfold nilS at HY'
 clear HY
 go_enter Tryz.func13,Tryz.ntmps13
 go_upto_region 1 with fail
 have HY:Hid (Blk ((w.alloc (.cells #[v,kv] 25)).alloc (.cells #[.slice none 0 0,.slice none 0 0] 25)) (w.heap.size+1) 25 [nilS,nilS]):=HY'
 clear HY'
 generalize (w.alloc (.cells #[v,kv] 25)).alloc (.cells #[.slice none 0 0,.slice none 0 0] 25)=wr at *
 refine region_growI_merge (fun u v=>Touch (fun q=>q=w.heap.size+1) u v) (fun d u=>(d 7=false→Blk u (w.heap.size+1) 25 [nilS,nilS])∧(d 7=true→∃ xa xb,Blk u (w.heap.size+1) 25 [xa,xb]∧OwnK u (w.heap.size+2) xa l∧OwnI u (w.heap.size+2) xb ks)) (fun _ _ _=>True) (fun u=>Touch.refl _ _) (fun _ _ _ h k=>h.trans k (fun _ h=>.inl h)) (kjI #[Spc.eq (.pointer (some ⟨w.heap.size,0,none⟩)),Spc.eq (v),⟨fun x u=>OwnK u (w.heap.size+2) x l,fun _ _ _ h hb=>own_touch h hb (fun q hq e=>by have:=(h.lt q hq).1;have e:q=w.heap.size+1:=e;omega)⟩,Spc.eq (.pointer (some ⟨w.heap.size,1,none⟩)),Spc.eq (kv),⟨fun x u=>OwnI u (w.heap.size+2) x ks,fun _ _ _ h hb=>own_touch h hb (fun q hq e=>by have:=(h.lt q hq).1;have e:q=w.heap.size+1:=e;omega)⟩,⟨fun x u=>∃ a b,x=.agg #[a,b]∧OwnK u (w.heap.size+2) a l∧OwnI u (w.heap.size+2) b ks,fun _ _ _ h hb=>by obtain⟨a,b,h1,h2,h3⟩:=h;exact⟨a,b,h1,own_touch h2 hb (fun q hq e=>by have:=(h2.lt q hq).1;have e:q=w.heap.size+1:=e;omega),own_touch h3 hb (fun q hq e=>by have:=(h3.lt q hq).1;have e:q=w.heap.size+1:=e;omega)⟩⟩,Spc.any]) [3,4,5,6,7,8,9] (fun ts u=>∃ xa xb,Blk u (w.heap.size+1) 25 [xa,xb]∧OwnK u (w.heap.size+2) xa l∧OwnI u (w.heap.size+2) xb ks∧Below w.heap.size w u) (by kernel_rfl) (by kernel_rfl) (by kernel_rfl) kjI_later ⟨fun _=>HY.out.later (Below.refl _ _).drew,fun h=>(by cases h)⟩ ?_ ?_ ?_
 ·intro QQ fd jo o a w1 ho hfd hdd hI hb hs hold hdep
  have hjo:jo < 8:=(Array.getElem?_eq_some_iff.1 ho).1
  skip
  have hsz:w.heap.size+2≤w1.heap.size:=by have:=hb.size;have h2:=HSZ.out;have h3:wr.heap.size≤w1.heap.size:=this;omega
  have hbw:Below w.heap.size w w1:=HB.out.drew.trans (hb.below (show w.heap.size≤wr.heap.size by have:=HSZ.out;omega) (fun q hq=>by have hq:q=w.heap.size+1:=hq;omega))
  have k0:w1.cell? ⟨w.heap.size,0,none⟩=some v:=(hb.cell (p:=⟨w.heap.size,0,none⟩) (cell_lt x0) (by show ¬ w.heap.size=w.heap.size+1;omega)).trans x0
  have k1:w1.cell? ⟨w.heap.size,1,none⟩=some kv:=(hb.cell (p:=⟨w.heap.size,1,none⟩) (cell_lt x1) (by show ¬ w.heap.size=w.heap.size+1;omega)).trans x1
  clear x0 x1
  have e1:a.eval (.tmp 1)=.pointer (some ⟨w.heap.size,0,none⟩):=by
   show a.tmps.getD 1 undef=_
   rw [Array.getD_eq_getD_getElem?,hold 1 (by decide +kernel)];rfl
  have e2:a.eval (.tmp 2)=.pointer (some ⟨w.heap.size+1,0,none⟩):=by
   show a.tmps.getD 2 undef=_
   rw [Array.getD_eq_getD_getElem?,hold 2 (by decide +kernel)];rfl
  have ec:∀ v,a.eval (.const v)=v:=fun _=>rfl
  clear hold hs
  rcases (show jo=0 ∨ jo=1 ∨ jo=2 ∨ jo=3 ∨ jo=4 ∨ jo=5 ∨ jo=6 ∨ jo=7 by omega) with rfl|rfl|rfl|rfl|rfl|rfl|rfl|rfl
  ·have ho2:=ho;simp only [List.getElem?_toArray,zD,zE,Option.some.injEq] at ho2;subst ho2
   refine growI_val (I:=(fun d u=>(d 7=false→Blk u (w.heap.size+1) 25 [nilS,nilS])∧(d 7=true→∃ xa xb,Blk u (w.heap.size+1) 25 [xa,xb]∧OwnK u (w.heap.size+2) xa l∧OwnI u (w.heap.size+2) xb ks))) (X:=(fun _ _ _=>True)) (d:=fd) (a:=a) (w:=w1) (.pointer (some ⟨w.heap.size,0,none⟩)) w1 ho rfl ?_ ((fun u=>Touch.refl _ _) w1) ⟨fun h=>(hI.1 (by simpa [upd] using h)).later (Below.refl _ _),fun h=>(hI.2 (by simpa [upd] using h)).elim fun xa h=>h.elim fun xb h=>⟨xa,xb,h.1.later (Below.refl _ _),Gn.Own.later h.2.1 (Below.refl _ _),Gn.Own.later h.2.2 (Below.refl _ _)⟩⟩ trivial rfl
   unfold execOp
   simp only [zA,zB,zC,e1,ec]
   first|rfl|(go_simp;done)|(go_simp;rfl)|(go_simp;omega)
  ·have ho2:=ho;simp only [List.getElem?_toArray,zD,zE,Option.some.injEq] at ho2;subst ho2
   have d0:a.eval (.tmp 3)=.pointer (some ⟨w.heap.size,0,none⟩):=hdep ⟨0,.data⟩ (by simp) rfl
   refine growI_val (I:=(fun d u=>(d 7=false→Blk u (w.heap.size+1) 25 [nilS,nilS])∧(d 7=true→∃ xa xb,Blk u (w.heap.size+1) 25 [xa,xb]∧OwnK u (w.heap.size+2) xa l∧OwnI u (w.heap.size+2) xb ks))) (X:=(fun _ _ _=>True)) (d:=fd) (a:=a) (w:=w1) (v) w1 ho rfl ?_ ((fun u=>Touch.refl _ _) w1) ⟨fun h=>(hI.1 (by simpa [upd] using h)).later (Below.refl _ _),fun h=>(hI.2 (by simpa [upd] using h)).elim fun xa h=>h.elim fun xb h=>⟨xa,xb,h.1.later (Below.refl _ _),Gn.Own.later h.2.1 (Below.refl _ _),Gn.Own.later h.2.2 (Below.refl _ _)⟩⟩ trivial rfl
   unfold execOp
   simp only [zA,zB,zC,d0,ec]
   first|rfl|(go_simp;done)|(go_simp;rfl)|(go_simp;omega)
  ·have ho2:=ho;simp only [List.getElem?_toArray,zD,zE,Option.some.injEq] at ho2;subst ho2
   have d0:a.eval (.tmp 4)=v:=hdep ⟨1,.data⟩ (by simp) rfl
   refine growI_call (I:=(fun d u=>(d 7=false→Blk u (w.heap.size+1) 25 [nilS,nilS])∧(d 7=true→∃ xa xb,Blk u (w.heap.size+1) 25 [xa,xb]∧OwnK u (w.heap.size+2) xa l∧OwnI u (w.heap.size+2) xb ks))) (X:=(fun _ _ _=>True)) (d:=fd) (a:=a) (w:=w1) 36 #[v] ho rfl ?_ ((HCK.out w1 (HV.out.later hbw)).mono ?_)
   ·unfold execOp resolve
    simp only [zA,zB,zC,d0,ec]
    rfl
   ·rintro e c1 ⟨v1,rfl,ho1,hb2⟩
    exact⟨_,rfl,(Gn.Own.lower ho1 hsz),(Touch.of_below hb2),⟨fun h=>(hI.1 (by simpa [upd] using h)).later hb2,fun h=>(hI.2 (by simpa [upd] using h)).elim fun xa h=>h.elim fun xb h=>⟨xa,xb,h.1.later hb2,Gn.Own.later h.2.1 hb2,Gn.Own.later h.2.2 hb2⟩⟩,trivial⟩
  ·have ho2:=ho;simp only [List.getElem?_toArray,zD,zE,Option.some.injEq] at ho2;subst ho2
   refine growI_val (I:=(fun d u=>(d 7=false→Blk u (w.heap.size+1) 25 [nilS,nilS])∧(d 7=true→∃ xa xb,Blk u (w.heap.size+1) 25 [xa,xb]∧OwnK u (w.heap.size+2) xa l∧OwnI u (w.heap.size+2) xb ks))) (X:=(fun _ _ _=>True)) (d:=fd) (a:=a) (w:=w1) (.pointer (some ⟨w.heap.size,1,none⟩)) w1 ho rfl ?_ ((fun u=>Touch.refl _ _) w1) ⟨fun h=>(hI.1 (by simpa [upd] using h)).later (Below.refl _ _),fun h=>(hI.2 (by simpa [upd] using h)).elim fun xa h=>h.elim fun xb h=>⟨xa,xb,h.1.later (Below.refl _ _),Gn.Own.later h.2.1 (Below.refl _ _),Gn.Own.later h.2.2 (Below.refl _ _)⟩⟩ trivial rfl
   unfold execOp
   simp only [zA,zB,zC,e1,ec]
   first|rfl|(go_simp;done)|(go_simp;rfl)|(go_simp;omega)
  ·have ho2:=ho;simp only [List.getElem?_toArray,zD,zE,Option.some.injEq] at ho2;subst ho2
   have d0:a.eval (.tmp 6)=.pointer (some ⟨w.heap.size,1,none⟩):=hdep ⟨3,.data⟩ (by simp) rfl
   refine growI_val (I:=(fun d u=>(d 7=false→Blk u (w.heap.size+1) 25 [nilS,nilS])∧(d 7=true→∃ xa xb,Blk u (w.heap.size+1) 25 [xa,xb]∧OwnK u (w.heap.size+2) xa l∧OwnI u (w.heap.size+2) xb ks))) (X:=(fun _ _ _=>True)) (d:=fd) (a:=a) (w:=w1) (kv) w1 ho rfl ?_ ((fun u=>Touch.refl _ _) w1) ⟨fun h=>(hI.1 (by simpa [upd] using h)).later (Below.refl _ _),fun h=>(hI.2 (by simpa [upd] using h)).elim fun xa h=>h.elim fun xb h=>⟨xa,xb,h.1.later (Below.refl _ _),Gn.Own.later h.2.1 (Below.refl _ _),Gn.Own.later h.2.2 (Below.refl _ _)⟩⟩ trivial rfl
   unfold execOp
   simp only [zA,zB,zC,d0,ec]
   first|rfl|(go_simp;done)|(go_simp;rfl)|(go_simp;omega)
  ·have ho2:=ho;simp only [List.getElem?_toArray,zD,zE,Option.some.injEq] at ho2;subst ho2
   have d0:a.eval (.tmp 7)=kv:=hdep ⟨4,.data⟩ (by simp) rfl
   refine growI_call (I:=(fun d u=>(d 7=false→Blk u (w.heap.size+1) 25 [nilS,nilS])∧(d 7=true→∃ xa xb,Blk u (w.heap.size+1) 25 [xa,xb]∧OwnK u (w.heap.size+2) xa l∧OwnI u (w.heap.size+2) xb ks))) (X:=(fun _ _ _=>True)) (d:=fd) (a:=a) (w:=w1) 37 #[kv] ho rfl ?_ ((HCI.out w1 (HKV.out.later hbw)).mono ?_)
   ·unfold execOp resolve
    simp only [zA,zB,zC,d0,ec]
    rfl
   ·rintro e c1 ⟨v1,rfl,ho1,hb2⟩
    exact⟨_,rfl,(Gn.Own.lower ho1 hsz),(Touch.of_below hb2),⟨fun h=>(hI.1 (by simpa [upd] using h)).later hb2,fun h=>(hI.2 (by simpa [upd] using h)).elim fun xa h=>h.elim fun xb h=>⟨xa,xb,h.1.later hb2,Gn.Own.later h.2.1 hb2,Gn.Own.later h.2.2 hb2⟩⟩,trivial⟩
  ·have ho2:=ho;simp only [List.getElem?_toArray,zD,zE,Option.some.injEq] at ho2;subst ho2
   obtain⟨a1,d0,f0⟩:∃ x,a.eval (.tmp 5)=x∧OwnK w1 (w.heap.size+2) x l:=⟨_,rfl,hdep ⟨2,.data⟩ (by simp) rfl⟩
   obtain⟨b1,d1,f1⟩:∃ x,a.eval (.tmp 8)=x∧OwnI w1 (w.heap.size+2) x ks:=⟨_,rfl,hdep ⟨5,.data⟩ (by simp) rfl⟩
   obtain⟨xa,xc,rfl,_⟩:=Gn.Rd.form (RdK.of f0)
   obtain⟨ya,yc,rfl,_⟩:=Gn.Rd.form (RdI.of f1)
   refine growI_val (I:=(fun d u=>(d 7=false→Blk u (w.heap.size+1) 25 [nilS,nilS])∧(d 7=true→∃ xa xb,Blk u (w.heap.size+1) 25 [xa,xb]∧OwnK u (w.heap.size+2) xa l∧OwnI u (w.heap.size+2) xb ks))) (X:=(fun _ _ _=>True)) (d:=fd) (a:=a) (w:=w1) (.agg #[.slice xa l.length xc,.slice ya ks.length yc]) w1 ho rfl ?_ (Touch.refl _ _) ⟨fun h=>(hI.1 (by simpa [upd] using h)).later (Below.refl _ _),fun h=>(hI.2 (by simpa [upd] using h)).elim fun xa h=>h.elim fun xb h=>⟨xa,xb,h.1.later (Below.refl _ _),Gn.Own.later h.2.1 (Below.refl _ _),Gn.Own.later h.2.2 (Below.refl _ _)⟩⟩ trivial ⟨_,_,rfl,f0,f1⟩
   unfold execOp
   first|(simp only [zA,zB,zC,d0,d1,ec];rfl)|(simp only [zA,zB,zC,d0,d1,ec];go_simp;done)|(generalize a.eval=ev at *;go_simp;done)
  ·have ho2:=ho;simp only [List.getElem?_toArray,zD,zE,Option.some.injEq] at ho2;subst ho2
   obtain⟨v1,d1,xa,xb,rfl,h1,h2⟩:∃ v1,a.eval (.tmp 9)=v1∧∃ a b,v1=.agg #[a,b]∧OwnK w1 (w.heap.size+2) a l∧OwnI w1 (w.heap.size+2) b ks:=⟨_,rfl,hdep ⟨6,.data⟩ (by simp) rfl⟩
   have hs1:=hI.1 hfd
   have q0:=hs1.cell 0
   have q1:=hs1.cell 1
   have q2:=hs1.frozen 0
   have q3:=hs1.frozen 1
   simp only [zD,zE] at q0 q1
   have hp:=Blk.put (Blk.put hs1 0 xa) 1 xb
   have o1:=own_far (own_far h1 (p:=⟨w.heap.size+1,0,none⟩) (by simp only;omega) xa) (p:=⟨w.heap.size+1,1,none⟩) (by simp only;omega) xb
   have o2:=own_far (own_far h2 (p:=⟨w.heap.size+1,0,none⟩) (by simp only;omega) xa) (p:=⟨w.heap.size+1,1,none⟩) (by simp only;omega) xb
   obtain⟨ya,yc,rfl,_⟩:=Gn.Rd.form (RdK.of h1)
   obtain⟨za,zc,rfl,_⟩:=Gn.Rd.form (RdI.of h2)
   refine growI_skip (I:=(fun d u=>(d 7=false→Blk u (w.heap.size+1) 25 [nilS,nilS])∧(d 7=true→∃ xa xb,Blk u (w.heap.size+1) 25 [xa,xb]∧OwnK u (w.heap.size+2) xa l∧OwnI u (w.heap.size+2) xb ks))) (X:=(fun _ _ _=>True)) (d:=fd) (a:=a) (w:=w1) ((w1.setCell ⟨w.heap.size+1,0,none⟩ _).setCell ⟨w.heap.size+1,1,none⟩ _) ho rfl rfl ?_ (Touch.setCell (S:=fun q=>q=w.heap.size+1) (p:=⟨w.heap.size+1,1,none⟩) (Touch.setCell (S:=fun q=>q=w.heap.size+1) (p:=⟨w.heap.size+1,0,none⟩) (Touch.refl _ _) rfl _) rfl _) ⟨fun h=>absurd h (by simp [upd]),fun _=>⟨_,_,hp,o1,o2⟩⟩ trivial trivial
   unfold execOp
   simp only [e2,d1,ec]
   go_simp
 ·intro a w1 hI hb hj
  obtain⟨xa,xb,h1,h2,h3⟩:=hI.2 (by decide)
  have hbw:Below w.heap.size w w1:=HB.out.drew.trans (hb.below (show w.heap.size≤wr.heap.size by have:=HSZ.out;omega) (fun q hq=>by have hq:q=w.heap.size+1:=hq;omega))
  exact⟨xa,xb,h1,h2,h3,hbw⟩
 rintro ts w6 ⟨xa,xb,h1,h2,h3,hbw⟩
 simp only [fill,List.setIfInBounds_toArray,List.set_cons_succ,List.set_cons_zero]
 have H1:=hZ h1
 have H2:=hZ (Gn.Own.lower h2 (show w.heap.size≤w.heap.size+2 by omega))
 have H3:=hZ (Gn.Own.lower h3 (show w.heap.size≤w.heap.size+2 by omega))
 have H4:=hZ hbw
 clear h1 h2 h3 hbw x0 x1
 go_wp2_with fail
 exact bodyPost_ret (retSf rfl _ _ (w.heap.size+1) xa xb rfl H1.out) rfl ⟨_,_,rfl,H2.out,H3.out,H4.out⟩
end Go.Proofs.YtenfjmdajlhfoabGreatDoor
namespace Go.Proofs.YtenfjmdajlhfoabGreatDoor.Ev
open Cl
set_option linter.unusedVariables false
set_option linter.unusedSimpArgs false
theorem two_go {a b:Sm} (ha:Sc.ck a.1 a.2=0) (hb:Sc.ck b.1 b.2=0):chain [a,b]=if fol a b (hiL [a])=true then 0 else 120:=by
 have e1:allOk [a,b]=true:=by unfold allOk;simp [ha,hb]
 have e2:isCh [a,b]=fol a b (hiL [a]):=by
  unfold isCh folAt
  simp [show List.range 2=[0,1] from rfl]
 unfold chain
 rw [if_neg (by simp),if_pos e1,e2]
structure Sp (a b:Sm):Prop where
 ok:Sc.ck b.1 b.2=0
 no:chain [a,b]=120
def otherS:ByteArray:=⟨#[111,116,104,101,114]⟩
def k2S:ByteArray:=⟨#[107,50]⟩
def zS:ByteArray:=⟨#[122]⟩
section
variable {n:Int} {o:Nat} {l:List Co} {k:Nat} {i:Int} {m:ByteArray} {q:Int} {u:Bool} {d:C}
def bump (c:Co):Co:=⟨c.id+1,c.nm,c.k,c.u,c.d⟩
def zc:Co:=⟨1,zS,1,false,⟨false,0,⟨#[]⟩⟩⟩
end
def mixB (k:Nat) (l:List Co):List Co:=(l.take k).map bump++l.drop k
end Go.Proofs.YtenfjmdajlhfoabGreatDoor.Ev
namespace Go.Proofs.YtenfjmdajlhfoabGreatDoor
open Go.RowKit Go.Sort
set_option linter.unusedVariables false
set_option linter.unusedSimpArgs false
set_option maxRecDepth 100000
theorem rGreatest (v kv:Value) (l:List Co) (w:World) (h:RdK w w.heap.size v l) (hl:l.length≤1000000) (c:Co) (hc:l[l.length - 1]?=some c) :
 Calls Tryz.prog 42 #[.agg #[v,kv]] w fun e w'=>e=.returned (.int .i64 c.id)∧Below w.heap.size w w':=by
 have h1:1≤l.length:=by have:=(List.getElem?_eq_some_iff.1 hc).1;omega
 obtain⟨a,cp,rfl,_⟩:=Gn.Rd.form h
 have hb:=box_new w (.cells #[.slice a l.length cp,kv] 25)
 have HB:=hZ hb
 have HX:=hZ (Blk.new w 25 #[.slice a l.length cp,kv])
 have x0:=HX.out.cell 0
 simp only [zD,zE] at x0
 obtain⟨gb,off,rfl,p0,_⟩:=rdK_cells h hb hc
 clear h hb
 obtain⟨n,hn⟩:∃ n,l.length=n:=⟨_,rfl⟩
 obtain⟨q,hq⟩:∃ q,l.length - 1=q:=⟨_,rfl⟩
 rw [hn] at hl h1 HB HX x0
 rw [hq] at p0
 have e:IntKind.i64.wrap ((n:Int) - 1)=(q:Int):=by rw [IntWalk.i64_in _ ⟨by omega,by omega⟩];omega
 have hqn:q < n:=by omega
 have hqi:(q:Int) < n:=by omega
 rw [hn]
 rw [hn] at p0
 go_enter Tryz.func42,Tryz.ntmps42
 go_wp2_with fail
 go_ret
 exact⟨rfl,HB.out⟩
theorem rSame12 (x y:Co) (w:World):Calls Tryz.prog 68 #[kov x,kov y] w fun e w'=>e=.returned (.bool (Ev.stay x y))∧Below w.heap.size w w':=by
 obtain⟨xi,xm,xk,xu,⟨xa,xn,xs⟩⟩:=x
 obtain⟨yi,ym,yk,yu,⟨ya,yn,ys⟩⟩:=y
 have HE1:=bl_eq xm ym
 have HE2:=fun w=>run_eqc ⟨xa,xn,xs⟩ ⟨ya,yn,ys⟩ w
 unfold Ev.stay Ev.sameT Ev.wider
 simp only
 obtain⟨bn,hbn⟩:∃ b,decide (bl xm=bl ym)=b:=⟨_,rfl⟩
 obtain⟨bd,hbd⟩:∃ b,eqc ⟨xa,xn,xs⟩ ⟨ya,yn,ys⟩=b:=⟨_,rfl⟩
 rw [hbn] at HE1
 rw [hbd] at HE2
 rw [hbn,hbd]
 clear hbn hbd
 unfold cv at HE2
 unfold kov
 simp only at HE2 ⊢
 have HB:=hZ (up_box (box_new w (.cells #[.int .i64 xi,.string xm,.int .i64 xk,.bool xu,.bool xa,.int .i64 xn,.string xs] 63)) (.cells #[.int .i64 yi,.string ym,.int .i64 yk,.bool yu,.bool ya,.int .i64 yn,.string ys] 63))
 have h2:(xk == 2)=decide (xk=2):=by rw [Bool.eq_iff_iff];simp
 have h3:(yk == 3)=decide (yk=3):=by rw [Bool.eq_iff_iff];simp
 have h4:(xk == yk)=decide (xk=yk):=by rw [Bool.eq_iff_iff];simp
 go_enter Tryz.func68,Tryz.ntmps68
 obtain⟨b2,e2⟩:∃ b,decide (xk=2)=b:=⟨_,rfl⟩
 obtain⟨b3,e3⟩:∃ b,decide (yk=3)=b:=⟨_,rfl⟩
 obtain⟨b4,e4⟩:∃ b,decide (xk=yk)=b:=⟨_,rfl⟩
 rw [e2] at h2
 rw [e3] at h3
 rw [e4] at h4
 cases b2 with
 | false =>
  cases bn with
  | false=>go_wp2_with fail;go_ret;exact⟨rfl,HB.out⟩
  | true =>
   cases bd with
   | false=>go_wp2_with fail;go_ret;exact⟨rfl,HB.out⟩
   | true =>
    cases xu<;>cases yu<;>cases b4
    all_goals
     go_wp2_with fail
     go_ret
     exact⟨by simp [e2,e3,e4],HB.out⟩
 | true =>
  cases b3<;>cases bn
  case false.false=>go_wp2_with fail;go_ret;exact⟨rfl,HB.out⟩
  case true.false=>go_wp2_with fail;go_ret;exact⟨rfl,HB.out⟩
  all_goals
   cases bd
   ·go_wp2_with fail;go_ret;exact⟨rfl,HB.out⟩
   ·cases xu<;>cases yu<;>cases b4
    all_goals
     go_wp2_with fail
     go_ret
     exact⟨by simp [e2,e3,e4],HB.out⟩
theorem rdK_allr {W:World} {B n c:Nat} {ad:Option Addr} {l:List Co} (h:RdK W B (.slice ad n c) l) {i:Nat} {x:Co} (hi:l[i]?=some x) :
 ∃ b off,ad=some ⟨b,off,none⟩∧∀ w,Below B W w→w.cell? ⟨b,off+i * 7,none⟩=some (.int .i64 x.id)∧w.cell? ⟨b,off+i * 7+1,none⟩=some (.string x.nm)∧w.cell? ⟨b,off+i * 7+2,none⟩=some (.int .i64 x.k)∧w.cell? ⟨b,off+i * 7+3,none⟩=some (.bool x.u)∧w.cell? ⟨b,off+i * 7+4,none⟩=some (.bool x.d.u)∧w.cell? ⟨b,off+i * 7+5,none⟩=some (.int .i64 x.d.n)∧w.cell? ⟨b,off+i * 7+6,none⟩=some (.string x.d.s):=by
 obtain⟨b,off,e,_⟩:=rdK_cells h (Below.refl _ _) hi
 refine⟨b,off,e,fun w hb=>?_⟩
 obtain⟨b',off',e',h'⟩:=rdK_cells h hb hi
 rw [e] at e'
 injection e' with e'
 injection e' with e1 e2
 subst e1 e2
 exact h'
theorem mvd_snoc {a b:List Co} {r:List Cl.C} {k:Nat} {x:Co} (h:b[k]?=some x):Ev.mvd a (b.take k) r++[Ev.mv1 a r x]=Ev.mvd a (b.take (k+1)) r:=by
 unfold Ev.mvd Ev.mv1
 rw [List.take_add_one,h]
 simp
theorem rMoved (xa xb:Sx) (hN:xa.s.1.length≤1000000) (hM:xb.s.1.length≤1000000) (rv:Value) (r:List Cl.C) (w:World) (ha:RdS w w.heap.size xa) (hb:RdS w w.heap.size xb) (hr:RdC w w.heap.size rv r) (hlr:r.length=xa.s.1.length) :
 Calls Tryz.prog 39 #[.agg #[xa.v,xa.kv],.agg #[xb.v,xb.kv],rv] w fun e w'=>∃ u,e=.returned u∧OwnC w' w.heap.size u (Ev.mvd xa.s.1 xb.s.1 r)∧Below w.heap.size w w':=by
 obtain⟨a1,c1,a2,c2,⟨la,ka⟩⟩:=xa
 obtain⟨a3,c3,a4,c4,⟨lb,kb⟩⟩:=xb
 unfold Sx.v Sx.kv at *
 have hka:=ha.c
 have hkb:=hb.c
 unfold Sx.v at hka hkb
 simp only at hka hkb hN hM hlr ⊢
 obtain⟨ar,cr,rfl,_⟩:=Gn.Rd.form hr
 obtain⟨p1,hp1⟩:∃ p,la.length=p:=⟨_,rfl⟩
 obtain⟨p2,hp2⟩:∃ p,ka.length=p:=⟨_,rfl⟩
 obtain⟨p3,hp3⟩:∃ p,lb.length=p:=⟨_,rfl⟩
 obtain⟨p4,hp4⟩:∃ p,kb.length=p:=⟨_,rfl⟩
 obtain⟨pr,hpr⟩:∃ p,r.length=p:=⟨_,rfl⟩
 rw [hp1] at hka hlr hN
 rw [hp3] at hkb hM
 rw [hpr] at hr hlr
 rw [hp1,hp2,hp3,hp4,hpr]
 have b1:=box_new w (.cells #[.slice a1 p1 c1,.slice a2 p2 c2] 25)
 have b2:=up_box b1 (.cells #[.slice a3 p3 c3,.slice a4 p4 c4] 25)
 have HX:=hZ ((Blk.new w 25 #[.slice a1 p1 c1,.slice a2 p2 c2]).later (box_new _ (.cells #[.slice a3 p3 c3,.slice a4 p4 c4] 25)))
 have hy:=Blk.new (w.alloc (.cells #[.slice a1 p1 c1,.slice a2 p2 c2] 25)) 25 #[.slice a3 p3 c3,.slice a4 p4 c4]
 obtain⟨g1,hg1⟩:∃ g,(w.alloc (.cells #[.slice a1 p1 c1,.slice a2 p2 c2] 25)).heap.size=g:=⟨_,rfl⟩
 have hg1':w.heap.size+1=g1:=by rw [← hg1];simp
 rw [hg1] at hy
 have HY:=hZ hy
 have HB:=hZ b2
 have HKA:=hZ (hka.later b2)
 have HKB:=hZ (hkb.later b2)
 have HR:=hZ (hr.later b2)
 have HL:=hZ (And.intro hp1 (And.intro hp3 hpr))
 clear ha hb hr hka hkb b1 b2 hy hp1 hp2 hp3 hp4 hpr
 go_enter Tryz.func39,Tryz.ntmps39
 go_upto_region 1 with fail
 try simp only [hg1']
 generalize (w.alloc (.cells #[.slice a1 p1 c1,.slice a2 p2 c2] 25)).alloc (.cells #[.slice a3 p3 c3,.slice a4 p4 c4] 25)=w0 at *
 obtain⟨gp,hgp⟩:∃ g,w.heap.size=g:=⟨_,rfl⟩
 have HGP:=hZ hgp
 rw [hgp] at HX ⊢
 clear hg1 hg1' hgp
 have HO:Hid (OwnC w0 w0.heap.size (.slice none 0 0) []):=hZ (Gn.Own.nil _ _)
 go_wp2_with fail
 go_loopw [7,8] (fun v i wr=>∃ k:Nat,k≤p3∧i=.int .i64 (k:Nat)∧Hid (OwnC wr w0.heap.size v (Ev.mvd la (lb.take k) r))∧Hid (Below w0.heap.size w0 wr)) (fun _ i _=>p3 - (intOf i).toNat)
 case atStart=>exact⟨0,by omega,by rfl,HO,hZ (Below.refl _ _)⟩
 case round =>
  obtain⟨k,hk,rfl,HOk,HW⟩:=hrel
  clear HO
  have y0:=(HY.out.later HW.out).cell 0
  simp only [zD,zE] at y0
  by_cases hlt:k < p3
  ·obtain⟨wo,hwo⟩:∃ z,z=wr:=⟨_,rfl⟩
   subst hwo
   have hlt1:(k:Int) < (p3:Int):=by omega
   obtain⟨x,hx⟩:∃ x,lb[k]?=some x:=⟨_,List.getElem?_eq_getElem (by have:=HL.out.2.1;omega)⟩
   obtain⟨gk,fk,e3,hck⟩:=rdK_allr HKB.out hx
   subst e3
   obtain⟨⟨pn,y⟩,hfid⟩:∃ q,Ev.fid la x.id=q:=⟨_,rfl⟩
   have hmv1:Ev.mv1 la r x=if y=true then r.getD pn Cl.empty else x.d:=by unfold Ev.mv1;rw [hfid]
   have HPL:=hZ (fun w1 h=>rPlace (.slice a1 p1 c1) (.slice a2 p2 c2) la x.id w1 h (by have:=HL.out.1;omega) pn y hfid)
   have hz:y=true→∃ z,r[pn]?=some z:=fun e=>by
    subst e
    obtain⟨d,hd,_⟩:=Ev.fid_some hfid
    exact⟨_,List.getElem?_eq_getElem (by have:=(List.getElem?_eq_some_iff.1 hd).1;have:=HL.out;omega)⟩
   have HHZ:=hZ hz
   have HMV1:=hZ hmv1
   have HE:=hZ (mvd_snoc (a:=la) (r:=r) hx)
   have HLN:Hid ((Ev.mvd la (lb.take k) r).length+([Ev.mv1 la r x]:List Cl.C).length≤100000000):=hZ (by rw [Ev.mvd_len,List.length_take];simp only [List.length_cons,List.length_nil];omega)
   have HCK:=hZ hck
   clear hz hmv1 hck hx hfid
   obtain⟨xi,xm,xk,xu,⟨du,dn,ds⟩⟩:=x
   simp only at HMV1 HCK HPL
   generalize Ev.mv1 la r ⟨xi,xm,xk,xu,⟨du,dn,ds⟩⟩=zz at *
   go_upto_region 5 with fail
   clear y0
   refine region_growI_merge (fun u v:World=>Below u.heap.size u v) (fun _ _=>True) (fun _ _ _=>True) (fun u=>Below.refl _ _) (fun _ _ _ h k=>up h k) (kjI #[Spc.eq (.agg #[.slice a1 p1 c1,.slice a2 p2 c2]),Spc.eq (.pointer (some ⟨g1,0,none⟩)),Spc.eq (.slice (some ⟨gk,fk,none⟩) p3 c3),Spc.eq (.int .i64 (k:Nat)),Spc.eq (.pointer (some ⟨gk,fk+k * 7,none⟩)),Spc.eq (.pointer (some ⟨gk,fk+k * 7,none⟩)),Spc.eq (.int .i64 xi),Spc.eq (.tuple #[.int .i64 (pn:Nat),.bool y]),Spc.eq (.tuple #[.int .i64 (pn:Nat),.bool y]),Spc.eq (.int .i64 (pn:Nat)),Spc.eq (.bool y),Spc.eq (.int .i64 (pn:Nat)),Spc.eq (.bool y)]) [19,20,21,22,23,24,25,26,18,27,28,9,10] (fun ts W=>ts.getD 9 undef=.int .i64 (pn:Nat)∧ts.getD 10 undef=.bool y∧Below wo.heap.size wo W) (by kernel_rfl) (by kernel_rfl) (by kernel_rfl) kjI_later trivial ?_ ?_ ?_
   ·intro QQ fd jo o a w1 ho hfd hdd hI hb hs hold hdep
    have hjo:jo < 13:=(Array.getElem?_eq_some_iff.1 ho).1
    have hb':Below wo.heap.size wo w1:=up (Below.refl _ _).drew hb
    have hbo:Below w0.heap.size w0 w1:=up HW.out hb'
    obtain⟨s0,_⟩:=HCK.out w1 hbo
    have t0:=(HX.out.later hbo).cell 0
    have t1:=(HX.out.later hbo).cell 1
    have r0:=(HY.out.later hbo).cell 0
    simp only [zD,zE] at t0 t1 r0
    have e3:a.eval (.tmp 3)=.pointer (some ⟨gp,0,none⟩):=by
     show a.tmps.getD 3 undef=_
     rw [Array.getD_eq_getD_getElem?,hold 3 (by decide +kernel)];rfl
    have e4:a.eval (.tmp 4)=.pointer (some ⟨g1,0,none⟩):=by
     show a.tmps.getD 4 undef=_
     rw [Array.getD_eq_getD_getElem?,hold 4 (by decide +kernel)];rfl
    have e8:a.eval (.tmp 8)=.int .i64 (k:Nat):=by
     show a.tmps.getD 8 undef=_
     rw [Array.getD_eq_getD_getElem?,hold 8 (by decide +kernel)];rfl
    have ec:∀ v,a.eval (.const v)=v:=fun _=>rfl
    clear hold hs
    rcases (show jo=0 ∨ jo=1 ∨ jo=2 ∨ jo=3 ∨ jo=4 ∨ jo=5 ∨ jo=6 ∨ jo=7 ∨ jo=8 ∨ jo=9 ∨ jo=10 ∨ jo=11 ∨ jo=12 by omega) with rfl|rfl|rfl|rfl|rfl|rfl|rfl|rfl|rfl|rfl|rfl|rfl|rfl
    all_goals (have ho2:=ho;simp only [List.getElem?_toArray,zD,zE,Option.some.injEq] at ho2;subst ho2)
    refine gvT fd (.agg #[.slice a1 p1 c1,.slice a2 p2 c2]) ho rfl ?_ rfl;rotate_left
    refine gvT fd (.pointer (some ⟨g1,0,none⟩)) ho rfl ?_ rfl;rotate_left
    have d0:a.eval (.tmp 20)=.pointer (some ⟨g1,0,none⟩):=hdep ⟨1,.data⟩ (by simp) rfl;refine gvT fd (.slice (some ⟨gk,fk,none⟩) p3 c3) ho rfl ?_ rfl;rotate_left
    refine gvT fd (.int .i64 (k:Nat)) ho rfl ?_ rfl;rotate_left
    have d0:a.eval (.tmp 21)=.slice (some ⟨gk,fk,none⟩) p3 c3:=hdep ⟨2,.data⟩ (by simp) rfl;have d1:a.eval (.tmp 22)=.int .i64 (k:Nat):=hdep ⟨3,.data⟩ (by simp) rfl;refine gvT fd (.pointer (some ⟨gk,fk+k * 7,none⟩)) ho rfl ?_ rfl;rotate_left
    have d0:a.eval (.tmp 23)=.pointer (some ⟨gk,fk+k * 7,none⟩):=hdep ⟨4,.data⟩ (by simp) rfl;refine gvT fd (.pointer (some ⟨gk,fk+k * 7,none⟩)) ho rfl ?_ rfl;rotate_left
    have d0:a.eval (.tmp 24)=.pointer (some ⟨gk,fk+k * 7,none⟩):=hdep ⟨5,.data⟩ (by simp) rfl;refine gvT fd (.int .i64 xi) ho rfl ?_ rfl;rotate_left
    ·have d0:a.eval (.tmp 19)=.agg #[.slice a1 p1 c1,.slice a2 p2 c2]:=hdep ⟨0,.data⟩ (by simp) rfl
     have d1:a.eval (.tmp 25)=.int .i64 xi:=hdep ⟨6,.data⟩ (by simp) rfl
     refine growI_call (I:=(fun _ _=>True)) (X:=(fun _ _ _=>True)) (d:=fd) (a:=a) (w:=w1) 66 #[.agg #[.slice a1 p1 c1,.slice a2 p2 c2],.int .i64 xi] ho rfl ?_ ((HPL.out w1 (Gn.Rd.later HKA.out hbo)).mono ?_)
     ·unfold execOp resolve
      simp only [zA,zB,zC,d0,d1,ec]
      rfl
     ·rintro e c1 ⟨rfl,hb2⟩
      exact⟨_,rfl,rfl,hb2,trivial,trivial⟩
    have d0:a.eval (.tmp 26)=.tuple #[.int .i64 (pn:Nat),.bool y]:=hdep ⟨7,.data⟩ (by simp) rfl;refine gvT fd (.tuple #[.int .i64 (pn:Nat),.bool y]) ho rfl ?_ rfl;rotate_left
    have d0:a.eval (.tmp 18)=.tuple #[.int .i64 (pn:Nat),.bool y]:=hdep ⟨8,.data⟩ (by simp) rfl;refine gvT fd (.int .i64 (pn:Nat)) ho rfl ?_ rfl;rotate_left
    have d0:a.eval (.tmp 18)=.tuple #[.int .i64 (pn:Nat),.bool y]:=hdep ⟨8,.data⟩ (by simp) rfl;refine gvT fd (.bool y) ho rfl ?_ rfl;rotate_left
    have d0:a.eval (.tmp 27)=.int .i64 (pn:Nat):=hdep ⟨9,.data⟩ (by simp) rfl;refine gvT fd (.int .i64 (pn:Nat)) ho rfl ?_ rfl;rotate_left
    have d0:a.eval (.tmp 28)=.bool y:=hdep ⟨10,.data⟩ (by simp) rfl;refine gvT fd (.bool y) ho rfl ?_ rfl;rotate_left
    all_goals (unfold execOp;first|(simp only [zA,zB,zC,d0,d1,ec];first|rfl|(go_simp;first|done|rfl|omega))|(simp only [zA,zB,zC,d0,ec];first|rfl|(go_simp;first|done|rfl|omega))|(simp only [zA,zB,zC,e3,ec];first|rfl|(go_simp;first|done|rfl|omega))|(simp only [zA,zB,zC,e4,ec];first|rfl|(go_simp;first|done|rfl|omega))|(simp only [zA,zB,zC,e8,ec];first|rfl|(go_simp;first|done|rfl|omega)))
   ·intro a w1 hI hb hj
    have hb':Below wo.heap.size wo w1:=up (Below.refl _ _).drew hb
    exact⟨hj 11 (by decide),hj 12 (by decide),hb'⟩
   rintro ts11 w6 ⟨h15,h16,hb6⟩
   simp only [fill,List.setIfInBounds_toArray,List.set_cons_succ,List.set_cons_zero]
   rw [h15,h16]
   have HB6:=hZ hb6
   have HB56:=hZ (up HW.out hb6)
   obtain⟨_,_,_,_,s4,s5,s6⟩:=HCK.out w6 HB56.out
   have r0:=(HY.out.later HB56.out).cell 0
   simp only [zD,zE] at r0 s4 s5 s6
   clear h15 h16 hb6 HPL HW
   cases y with
   | true =>
    obtain⟨z,hz⟩:=HHZ.out rfl
    have hzv:zz=z:=by rw [HMV1.out,if_pos rfl,List.getD_eq_getElem?_getD,hz];rfl
    subst hzv
    have hpn:(pn:Int) < (pr:Int):=by have:=(List.getElem?_eq_some_iff.1 hz).1;have:=HL.out;omega
    obtain⟨zu,zn,zs⟩:=zz
    obtain⟨gr,fr,e4,q0,q1,q2⟩:=rdC_cells HR.out HB56.out hz
    subst e4
    simp only at q0 q1 q2
    clear hz HHZ HMV1 HCK s4 s5 s6 r0
    ·skip
     have HO1:=hZ (Gn.Own.later (Gn.Own.later HOk.out HB6.out) (box_new w6 (.cells #[.bool zu,.int .i64 zn,.string zs] 61)))
     have HU2:=hZ (HB56.out.trans ((box_new w6 (.cells #[.bool zu,.int .i64 zn,.string zs] 61)).mono HB56.out.size))
     have HR1:=hZ (rd_one 61 clL w6 (⟨zu,zn,zs⟩:Cl.C) #[.bool zu,.int .i64 zn,.string zs] rfl)
     go_wp2_with (at_builtin
                  refine Gn.wpList_app clL clY rfl (.tmp 30) (.tmp 35) rfl w0.heap.size _ _ rfl HO1.out _ [(⟨zu,zn,zs⟩:Cl.C)] rfl HR1.out HLN.out HU2.out.size ?_
                  intro v1 w2 ho1 hg1 hl1 hn1)
     go_roundw
     case rel=>first|exact⟨k+1,by omega,by go_num,hZ (HE.out▸ho1),hZ (HU2.out.trans (Gn.below_of_own HO1.out hg1 HU2.out.size))⟩|((repeat apply Exists.intro);exact⟨⟨k+1,by omega,by go_num,hZ (HE.out▸ho1),hZ (HU2.out.trans (Gn.below_of_own HO1.out hg1 HU2.out.size))⟩,rfl⟩)
     case measure=>simp [intOf];omega
   | false =>
    have hzv:zz=⟨du,dn,ds⟩:=by rw [HMV1.out,if_neg (by decide)]
    subst hzv
    clear HHZ HMV1 HCK
    ·skip
     have HO1:=hZ (Gn.Own.later (Gn.Own.later HOk.out HB6.out) (box_new w6 (.cells #[.bool du,.int .i64 dn,.string ds] 61)))
     have HU2:=hZ (HB56.out.trans ((box_new w6 (.cells #[.bool du,.int .i64 dn,.string ds] 61)).mono HB56.out.size))
     have HR1:=hZ (rd_one 61 clL w6 (⟨du,dn,ds⟩:Cl.C) #[.bool du,.int .i64 dn,.string ds] rfl)
     go_wp2_with (at_builtin
                  refine Gn.wpList_app clL clY rfl (.tmp 37) (.tmp 44) rfl w0.heap.size _ _ rfl HO1.out _ [(⟨du,dn,ds⟩:Cl.C)] rfl HR1.out HLN.out HU2.out.size ?_
                  intro v1 w2 ho1 hg1 hl1 hn1)
     go_roundw
     case rel=>first|exact⟨k+1,by omega,by go_num,hZ (HE.out▸ho1),hZ (HU2.out.trans (Gn.below_of_own HO1.out hg1 HU2.out.size))⟩|((repeat apply Exists.intro);exact⟨⟨k+1,by omega,by go_num,hZ (HE.out▸ho1),hZ (HU2.out.trans (Gn.below_of_own HO1.out hg1 HU2.out.size))⟩,rfl⟩)
     case measure=>simp [intOf];omega
  ·have hlt1:¬ (k:Int) < (p3:Int):=by omega
   have HE:Hid (lb.take k=lb):=hZ (List.take_of_length_le (by have:=HL.out.2.1;omega))
   have hsz:=HB.out.size
   have hgp:=HGP.out
   go_wp2_with fail
   go_ret
   exact⟨_,rfl,by have h:=HOk.out;rw [HE.out] at h;exact Gn.Own.lower h (by omega),by have:=up HB.out HW.out;rw [HGP.out] at this;exact this⟩
end Go.Proofs.YtenfjmdajlhfoabGreatDoor
