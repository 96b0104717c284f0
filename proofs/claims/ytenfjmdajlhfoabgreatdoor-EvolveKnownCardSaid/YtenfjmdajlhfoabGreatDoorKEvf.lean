/- Texts. -/
import Derived.Test.YtenfjmdajlhfoabGreatDoorKEvc
import Derived.Test.YtenfjmdajlhfoabGreatDoorKEve
set_option maxHeartbeats 16000000
namespace Go.Proofs.YtenfjmdajlhfoabGreatDoor
open Go.RowKit Go.Sort
set_option linter.unusedVariables false
set_option linter.unusedSimpArgs false
set_option maxRecDepth 100000
theorem own_other2 {α:Type} {enc:α→List Value} {k:Nat} {T:TypeId} {W:World} {B:Nat} {v:Value} {l:List α} (h:Gn.Own enc k T W B v l) {p:Addr} (hp:∀ g,v.ownBlock=some g→g≠p.block) (x:Value):Gn.Own enc k T (W.setCell p x) B v l:=by
 obtain⟨h0,h1⟩:=h
 refine⟨h0,?_⟩
 rcases h1 with h1|⟨g,cap,cur,rfl,hg,hh,r⟩
 ·exact .inl h1
 ·exact .inr ⟨g,cap,cur,rfl,hg,(heap_set_far W x (fun e=>hp g rfl e.symm)).trans hh,r⟩
theorem own_tch2 {α:Type} {enc:α→List Value} {k:Nat} {T:TypeId} {S:Nat→Prop} {w w':World} {B:Nat} {v:Value} {l:List α} (h:Gn.Own enc k T w B v l) (ht:Touch S w w') (hn:∀ g,v.ownBlock=some g→¬ S g):Gn.Own enc k T w' B v l:=by
 obtain⟨h0,h1⟩:=h
 refine⟨h0,?_⟩
 rcases h1 with h1|⟨g,cap,cur,rfl,hg,hh,r⟩
 ·exact .inl h1
 ·have hlt:g < w.heap.size:=by
   rcases Nat.lt_or_ge g w.heap.size with hlt|hge
   ·exact hlt
   ·rw [Array.getElem?_eq_none hge] at hh;cases hh
  exact .inr ⟨g,cap,cur,rfl,hg,(ht.block g hlt (hn g rfl)).trans hh,r⟩
theorem own_ne_blk {α:Type} {enc:α→List Value} {k:Nat} {T t:TypeId} {w:World} {B g:Nat} {v:Value} {l:List α} {cs:List Value} (h:Gn.Own enc k T w B v l) (hb:Blk w g t cs) (hT:t≠T):∀ q,v.ownBlock=some q→¬ q=g:=by
 intro q hq e2
 subst e2
 rcases h.2 with ⟨e3,_⟩|⟨g,cap,cur,e3,_,hh,_⟩
 ·rw [e3] at hq;cases hq
 ·rw [e3] at hq
  injection hq with hq
  subst hq
  unfold Blk at hb
  rw [hb] at hh
  injection hh with hh
  injection hh with _ hh
  exact hT hh
def APost (w:World) (a:Ev.Ans) (e:Ending) (w':World):Prop:=∃ u,e=.returned (.tuple #[u,.int .i64 a.e])∧OwnC w' w.heap.size u a.r∧Below w.heap.size w w'
theorem sxs_cut {w:World} {B c f t:Nat} {a:Option Addr} {L:List Sx} (h:RdSm w B (.slice a L.length c) L) (hft:f≤t) (ht:t≤L.length) :
 ∃ u,(∀ w',(Instr.slice 38 (.slice a L.length c) (some (.int .i64 (f:Int))) (some (.int .i64 (t:Int))) none).run Tryz.prog w'=.ok u w')∧RdSm w B u ((L.take t).drop f):=by
 obtain⟨u,h1,h2⟩:=Gn.cut_mid sxY w B a L L.length c f t h.rd rfl hft ht
 exact⟨u,h1,h2,fun x hx=>h.el x (List.mem_of_mem_take (List.mem_of_mem_drop hx))⟩
theorem sms_seg (L:List Sx) (f t:Nat):sms ((L.take t).drop f)=((sms L).take t).drop f:=by unfold sms;rw [List.map_drop,List.map_take]
structure YW (w:World) (g:Nat) (z:Sx) (v:Value) (row:List Cl.C) (W:World):Prop where
 at_:Blk W g 25 [z.v,z.kv]
 o:OwnC W w.heap.size v row
 b:Below w.heap.size w W
theorem YW.later {w W W':World} {g:Nat} {z:Sx} {v:Value} {row:List Cl.C} (h:YW w g z v row W) (hb:Below W.heap.size W W'):YW w g z v row W':=⟨h.at_.later hb,Gn.Own.later h.o hb,up h.b hb⟩
structure YI (B:Nat) (r:List Cl.C) (x:List Value) (d:Nat→Bool) (ts:Array Value) (u:World):Prop where
 v:VI1 B 68 25 [.slice none 0 0,.slice none 0 0] x 15 3 5 d ts u
 o:d 1=true→OwnC u B (ts.getD 53 undef) r
 s:d 4=true→ts.getD 14 undef=ts.getD 53 undef
 m4:d 4=true→d 1=true
theorem YI.put {B:Nat} {r:List Cl.C} {x:List Value} {d:Nat→Bool} {ts:Array Value} {u:World} (h:YI B r x d ts u) {s' j:Nat} {v:Value} (h15:s'≠15) (h53:s'≠53) (h14:s'≠14) (hj:j=0 ∨ j=2):YI B r x (upd d j) (ts.setIfInBounds s' v) u:=by
 refine⟨h.v.put h15 (by omega) (by omega) (Below.refl _ _),?_,?_,?_⟩<;>simp only [upd_no (show 1≠j by omega),upd_no (show 4≠j by omega),getD_put v h53,getD_put v h14]
 ·exact h.o
 ·exact h.s
 ·exact h.m4
theorem YI.call {B:Nat} {r:List Cl.C} {x:List Value} {d:Nat→Bool} {ts:Array Value} {u u':World} {v:Value} (h:YI B r x d ts u) (hb:Below u.heap.size u u') (ho:OwnC u' B v r) (hd:d 1=false):YI B r x (upd d 1) (ts.setIfInBounds 53 v) u':=by
 refine⟨h.v.put (by omega) (by omega) (by omega) hb,?_,?_,?_⟩<;>simp only [upd_at,upd_no (show 4≠1 by omega),getD_self _ (show 53 < ts.size by rw [h.v.sz];omega),getD_put v (show 53≠14 by omega)]
 ·intro _;exact ho
 ·intro e;have:=h.m4 e;rw [hd] at this;cases this
 ·intro _;trivial
theorem YI.new {B:Nat} {r:List Cl.C} {x:List Value} {d:Nat→Bool} {ts:Array Value} {u:World} (h:YI B r x d ts u) (hd:d 3=false):YI B r x (upd d 3) (ts.setIfInBounds 15 (.pointer (some ⟨u.heap.size,0,none⟩))) (u.alloc (.cells #[.slice none 0 0,.slice none 0 0] 25)):=by
 refine⟨h.v.new hd (by omega) (by omega),?_,?_,?_⟩<;>simp only [upd_no (show 1≠3 by omega),upd_no (show 4≠3 by omega),getD_put _ (show 15≠53 by omega),getD_put _ (show 15≠14 by omega)]
 ·intro e;exact Gn.Own.later (h.o e) (box_new _ _)
 ·exact h.s
 ·exact h.m4
theorem YI.asg {B:Nat} {r:List Cl.C} {x:List Value} {d:Nat→Bool} {ts:Array Value} {u:World} (h:YI B r x d ts u) (h1:d 1=true):YI B r x (upd d 4) (ts.setIfInBounds 14 (ts.getD 53 undef)) u:=by
 refine⟨h.v.put (by omega) (by omega) (by omega) (Below.refl _ _),?_,?_,?_⟩<;>simp only [upd_at,upd_no (show 1≠4 by omega),getD_put _ (show 14≠53 by omega),getD_self _ (show 14 < ts.size by rw [h.v.sz];omega)]
 ·exact h.o
 ·intro _;trivial
 ·intro _;exact h1
theorem YI.store {B:Nat} {r:List Cl.C} {d:Nat→Bool} {ts:Array Value} {u:World} {x0 x1:Value} (h:YI B r [x0,x1] d ts u) (h3:d 3=true) {p:Nat} (hp:ts.getD 15 undef=.pointer (some ⟨p,0,none⟩)) (hb:Blk u p 25 [.slice none 0 0,.slice none 0 0]):YI B r [x0,x1] (upd d 5) ts ((u.setCell ⟨p,0,none⟩ x0).setCell ⟨p,1,none⟩ x1):=by
 refine⟨h.v.store h3 (by omega) (by have:=h.v.bz;simp;omega) (fun q hq=>?_),?_,?_,?_⟩
 ·rw [hp] at hq
  injection hq with hq
  injection hq with hq
  injection hq with hq
  subst hq
  exact Blk.put (Blk.put hb 0 _) 1 _
 ·rw [upd_no (show 1≠5 by omega)]
  intro e
  have ho:=h.o e
  have hne:∀ q,(ts.getD 53 undef).ownBlock=some q→q≠p:=fun q hq e2=>by
   subst e2
   rcases ho.2 with ⟨e3,_⟩|⟨g,cap,cur,e3,_,hh,_⟩
   ·rw [e3] at hq;cases hq
   ·rw [e3] at hq
    injection hq with hq
    subst hq
    unfold Blk at hb
    rw [hb] at hh
    injection hh with hh
    injection hh with _ hh
    exact absurd hh (by decide)
  exact own_other2 (own_other2 ho (fun q hq=>hne q hq) _) (fun q hq=>hne q hq) _
 ·rw [upd_no (show 4≠5 by omega)]
  exact h.s
 ·rw [upd_no (show 4≠5 by omega),upd_no (show 1≠5 by omega)]
  exact h.m4
structure WI (g:Nat) (cv:Value) (zc yc:List Value) (d:Nat→Bool) (ts:Array Value) (u:World):Prop where
 b:Blk u g 25 (bif d 6 then yc else zc)
 m6:d 6=true→d 0=true
 s:d 5=false→ts.getD 14 undef=cv
 m5:d 5=true→d 2=true
theorem upd_mono1 {d:Nat→Bool} {j k:Nat} (h:d k=true):upd d j k=true:=by unfold upd;split<;>first|rfl|exact h
theorem WI.put {g:Nat} {cv:Value} {zc yc:List Value} {d:Nat→Bool} {ts:Array Value} {u u':World} (h:WI g cv zc yc d ts u) {s' j:Nat} {v:Value} (hs:s'≠14) (h5:j≠5) (h6:j≠6) (hb:Below u.heap.size u u'):WI g cv zc yc (upd d j) (ts.setIfInBounds s' v) u':=by
 refine⟨?_,?_,?_,?_⟩
 ·rw [upd_no (Ne.symm h6)];exact h.b.later hb
 ·rw [upd_no (Ne.symm h6)];exact fun e=>upd_mono1 (h.m6 e)
 ·rw [upd_no (Ne.symm h5),getD_put v hs];exact h.s
 ·rw [upd_no (Ne.symm h5)];exact fun e=>upd_mono1 (h.m5 e)
theorem WI.asg {g:Nat} {cv:Value} {zc yc:List Value} {d:Nat→Bool} {ts:Array Value} {u:World} (h:WI g cv zc yc d ts u) {v:Value} (h2:d 2=true):WI g cv zc yc (upd d 5) (ts.setIfInBounds 14 v) u:=by
 refine⟨?_,?_,?_,?_⟩
 ·rw [upd_no (show 6≠5 by omega)];exact h.b
 ·rw [upd_no (show 6≠5 by omega)];exact fun e=>upd_mono1 (h.m6 e)
 ·rw [upd_at];intro e;cases e
 ·exact fun _=>upd_mono1 h2
theorem WI.store {g:Nat} {cv:Value} {zc:List Value} {x0 x1:Value} {d:Nat→Bool} {ts:Array Value} {u:World} (h:WI g cv zc [x0,x1] d ts u) (h0:d 0=true) (h6:d 6=false) (hl:zc.length=2):WI g cv zc [x0,x1] (upd d 6) ts ((u.setCell ⟨g,0,none⟩ x0).setCell ⟨g,1,none⟩ x1):=by
 refine⟨?_,?_,?_,?_⟩
 ·rw [upd_at]
  have hq:=h.b
  rw [h6] at hq
  simp only [cond_false] at hq
  obtain⟨a,b,rfl⟩:∃ a b,zc=[a,b]:=by
   match zc,hl with
   | [a,b],_=>exact⟨a,b,rfl⟩
  exact Blk.put (Blk.put hq 0 _) 1 _
 ·intro _;exact upd_mono1 h0
 ·rw [upd_no (show 5≠6 by omega)];exact h.s
 ·rw [upd_no (show 5≠6 by omega)];exact fun e=>upd_mono1 (h.m5 e)
theorem cCarryE (v:Value) (L:List Sx) (hok:SmsOk L) (w:World) (T:TA w) (h:RdSm w w.heap.size v L) (f t:Int) (rv:Value) (r:List Cl.C) (hr:RdC w w.heap.size rv r) (hrl:r.length≤1000000) (hri:∀ c∈r,Cl.I64 c.n) (hrm:∀ c∈r,c.s.size≤1000000) (a:Ev.Ans) (ha:Ev.carry (sms L) f t r=a) :
 Calls Tryz.prog 23 #[v,.int .i64 f,.int .i64 t,rv] w fun e w'=>APost w a e w':=by
 have hml:=Gn.Rd.len' h.rd
 obtain⟨d,hd⟩:∃ d,Ev.chain (sms L)=d:=⟨_,rfl⟩
 have HC:=hZ (cChainE v L hok w T h d hd)
 have HR:=hZ h
 have HOK:=hZ hok
 have HT:=hZ T
 have HRR:=hZ hr
 obtain⟨la,lc,rfl,_⟩:=Gn.Rd.form h.rd
 obtain⟨ra,rc,rfl,_⟩:=Gn.Rd.form hr
 have NIL:∀ W,OwnC W w.heap.size (.slice none 0 0) []:=fun W=>Gn.Own.nil _ _
 have HNIL:=hZ NIL
 unfold Ev.carry at ha
 rw [hd,sms_len] at ha
 clear h hok T hr NIL
 by_cases hd0:d=0
 ·have HD:=hZ hd
  subst hd0
  rw [if_neg (by decide)] at ha
  clear hd
  rcases (show f < 1 ∨ (1≤f∧t < f) ∨ (1≤f∧f≤t∧(L.length:Int) < t) ∨ (1≤f∧f≤t∧t≤(L.length:Int)) by omega) with h1|⟨h1,h2⟩|⟨h1,h2,h3⟩|⟨h1,h2,h3⟩
  ·rw [if_pos (.inl h1)] at ha
   subst ha
   go_enter Tryz.func23,Tryz.ntmps23
   go_wp2_with fail
   ((with_reducible refine HC.out.mono ?_);rintro e w1 ⟨rfl,b1⟩)
   go_wp2_with fail
   go_ret2
   exact⟨_,rfl,HNIL.out _,b1⟩
  ·rw [if_pos (.inr (.inl h2))] at ha
   subst ha
   have g1:¬ f < 1:=by omega
   have g2:f > t:=h2
   go_enter Tryz.func23,Tryz.ntmps23
   go_wp2_with fail
   ((with_reducible refine HC.out.mono ?_);rintro e w1 ⟨rfl,b1⟩)
   go_wp2_with fail
   go_ret2
   exact⟨_,rfl,HNIL.out _,b1⟩
  ·rw [if_pos (.inr (.inr h3))] at ha
   subst ha
   have g1:¬ f < 1:=by omega
   have g2:¬ f > t:=by omega
   have g3:t > (L.length:Int):=h3
   go_enter Tryz.func23,Tryz.ntmps23
   go_wp2_with fail
   ((with_reducible refine HC.out.mono ?_);rintro e w1 ⟨rfl,b1⟩)
   go_wp2_with fail
   go_ret2
   exact⟨_,rfl,HNIL.out _,b1⟩
  ·rw [if_neg (by omega)] at ha
   obtain⟨f,rfl⟩:∃ f0:Nat,f=(f0:Int)+1:=⟨(f - 1).toNat,by omega⟩
   obtain⟨t,rfl⟩:∃ t0:Nat,t=(t0:Nat):=⟨t.toNat,by omega⟩
   have hft:f+1≤t:=by omega
   have htl:t≤L.length:=by omega
   rw [show ((f:Int)+1).toNat=f+1 by omega,Nat.add_sub_cancel,Int.toNat_natCast] at ha
   obtain⟨x,hx⟩:∃ x,L[f]?=some x:=⟨_,List.getElem?_eq_getElem (by omega)⟩
   rw [Ev.getD_at (sms_at hx)] at ha
   have HX:=hZ hx
   have hxm:=List.mem_of_getElem? hx
   have HRX:=hZ (HR.out.el x hxm)
   obtain⟨u,hcut,hseg⟩:=sxs_cut HR.out hft htl
   rw [← sms_seg] at ha
   have HSEG:=hZ hseg
   have HMEM:Hid (∀ y∈(L.take t).drop (f+1),y∈L):=hZ (fun y hy=>List.mem_of_mem_take (List.mem_of_mem_drop hy))
   clear hseg
   have hcut2:∀ w',(Instr.slice 38 (.slice la L.length lc) (some (.int .i64 ((f:Int)+1))) (some (.int .i64 (t:Int))) none).run Tryz.prog w'=.ok u w':=hcut
   clear hcut
   obtain⟨seg,hsg⟩:∃ seg,(L.take t).drop (f+1)=seg:=⟨_,rfl⟩
   rw [hsg] at ha HSEG HMEM
   obtain⟨sb,so,rfl,p0,p1⟩:=rdS_cells HR.out (Below.refl _ _) hx
   obtain⟨e0,he0⟩:∃ e0,Rw.chkR (tys x.s.1) r=e0:=⟨_,rfl⟩
   rw [he0] at ha
   have HKK:=hZ (fun w1 (hb:Below w.heap.size w w1)=>rowCheck x.v _ x.s.1 r w1 (HT.out.later hb) (HRX.out.later hb).c (HRR.out.later hb) hrl hri hrm e0 he0)
   have g1:¬ ((f:Int)+1) < 1:=by omega
   have g2:¬ ((f:Int)+1) > (t:Nat):=by omega
   have g3:¬ ((t:Nat):Int) > (L.length:Int):=by omega
   have hwk:IntKind.i64.wrap (((f:Int)+1) - 1)=f:=by rw [IntWalk.i64_in _ ⟨by omega,by omega⟩];omega
   have hi1:(f:Int) < L.length:=by omega
   have hft1:((f:Int)+1)≤(t:Nat):=by omega
   clear hx hxm hsg
   obtain⟨fa1,fc1,fa2,fc2,fs⟩:=x
   unfold Sx.v at p0 HKK
   unfold Sx.kv at p1
   simp only at p0 p1 HKK ha
   go_enter Tryz.func23,Tryz.ntmps23
   go_wp2_with fail
   ((with_reducible refine HC.out.mono ?_);rintro e w1 ⟨rfl,b1⟩)
   have HB1:=hZ b1
   have q0:=(b1.cell (cell_lt p0)).trans p0
   have q1:=(b1.cell (cell_lt p1)).trans p1
   have q0a:=fun (o:Obj)=>((box_new w1 o).cell (cell_lt (w:=w1) q0)).trans q0
   have q1a:=fun (o:Obj)=>((box_new w1 o).cell (cell_lt (w:=w1) q1)).trans q1
   clear b1 p0 p1 HC
   go_upto_region 6 with fail
   refine region_merge [36,37,38,39,40,41,42,43,44,11,12] (fun ts W=>∃ p,ts.getD 11 undef=.pointer (some ⟨p,0,none⟩)∧ts.getD 12 undef=u∧Blk W p 25 [.slice fa1 fs.1.length fc1,.slice fa2 fs.2.length fc2]∧Below w1.heap.size w1 W) ?_ ?_
   ·have F1:=hZ (Blk.drew (Blk.new w1 25 #[.slice fa1 fs.1.length fc1,.slice fa2 fs.2.length fc2]))
    have F2:=hZ (box_new w1 (.cells #[.slice fa1 fs.1.length fc1,.slice fa2 fs.2.length fc2] 25)).drew
    clear HKK HB1 HD HOK HT HNIL HR HRR HRX HSEG HMEM
    go_region
    all_goals exact⟨rfl,rfl,rfl,by kernel_rfl,_,rfl,rfl,F1.out,F2.out⟩
   rintro ts W7 ⟨g,h11,h12,hg7,hb7⟩
   simp only [fill,List.setIfInBounds_toArray,List.set_cons_succ,List.set_cons_zero]
   rw [h11,h12]
   have HB7:=hZ (up HB1.out hb7)
   have d0:=hg7.cell 0
   simp only [zD,zE] at d0
   have HG7:=hZ hg7
   clear h11 h12 hb7 hg7 HB1 q0 q1 q0a q1a
   go_wp2_with fail
   ((with_reducible refine (HKK.out _ HB7.out).mono ?_);rintro e w8 ⟨rfl,b8⟩)
   have HB8:=hZ (up HB7.out b8)
   have HG8:=hZ (HG7.out.later b8)
   clear b8 HB7 HG7 HKK d0
   by_cases hez:e0=0
   ·subst hez
    rw [if_neg (by decide)] at ha
    subst ha
    have d0:=HG8.out.cell 0
    have d1:=HG8.out.cell 1
    simp only [zD,zE] at d0 d1
    go_upto_region 10 with fail
    have HCP:=hZ (fun w1 (hb1:Below w.heap.size w w1)=>rowCopy (.slice ra r.length rc) r w1 (HRR.out.later hb1) hrl)
    obtain⟨B,hB⟩:∃ B,w8.heap.size=B:=⟨_,rfl⟩
    have HBZ:Hid (w.heap.size≤B):=hZ (by rw [← hB];exact HB8.out.size)
    refine region_growA_merge (fun u v=>Below B u v) (YI B r [.slice fa1 fs.1.length fc1,.slice fa2 fs.2.length fc2]) (fun _ _ _=>True) (fun u=>Below.refl B u) (fun _ _ _ h k=>h.trans k) (kjI #[Spc.eq (.slice ra r.length rc),Spc.any,Spc.eq (.agg #[.slice fa1 fs.1.length fc1,.slice fa2 fs.2.length fc2]),Spc.any,Spc.any,Spc.any]) [52,53,54,15,14] (fun ts W=>∃ p v1,ts.getD 15 undef=.pointer (some ⟨p,0,none⟩)∧ts.getD 14 undef=v1∧Blk W p 25 [.slice fa1 fs.1.length fc1,.slice fa2 fs.2.length fc2]∧OwnC W B v1 r∧Below B w8 W∧B≤p) (by kernel_rfl) (by kernel_rfl) (by kernel_rfl) kjI_later ⟨VI1.start (by rfl) (by rw [← hB];exact Nat.le_refl _),fun e=>(by cases e),fun e=>(by cases e),fun e=>(by cases e)⟩ ?_ ?_ ?_
    ·intro QQ fd jo o a w1 ho hfd hdd hI hb hs hold hdep
     have hjo:jo < 6:=(Array.getElem?_eq_some_iff.1 ho).1
     skip
     have hbw:Below w.heap.size w w1:=HB8.out.drew.trans (hb.mono HBZ.out)
     have d0':w1.cell? ⟨g,0,none⟩=some (.slice fa1 fs.1.length fc1):=(hb.cell (p:=⟨g,0,none⟩) (by rw [← hB];exact cell_lt (w:=w8) d0)).trans d0
     have d1':w1.cell? ⟨g,1,none⟩=some (.slice fa2 fs.2.length fc2):=(hb.cell (p:=⟨g,1,none⟩) (by rw [← hB];exact cell_lt (w:=w8) d1)).trans d1
     clear d0 d1
     have e3:a.eval (.tmp 3)=.slice ra r.length rc:=by
      show a.tmps.getD 3 undef=_
      rw [Array.getD_eq_getD_getElem?,hold 3 (by decide +kernel)];rfl
     have e11:a.eval (.tmp 11)=.pointer (some ⟨g,0,none⟩):=by
      show a.tmps.getD 11 undef=_
      rw [Array.getD_eq_getD_getElem?,hold 11 (by decide +kernel)];rfl
     have ec:∀ v,a.eval (.const v)=v:=fun _=>rfl
     clear hold hs
     rcases (show jo=0 ∨ jo=1 ∨ jo=2 ∨ jo=3 ∨ jo=4 ∨ jo=5 by omega) with rfl|rfl|rfl|rfl|rfl|rfl
     all_goals (have ho2:=ho;simp only [List.getElem?_toArray,zD,zE,Option.some.injEq] at ho2;subst ho2)
     ·refine growA_val (I:=(YI B r [.slice fa1 fs.1.length fc1,.slice fa2 fs.2.length fc2])) (X:=(fun _ _ _=>True)) (d:=fd) (a:=a) (w:=w1) (.slice ra r.length rc) w1 ho rfl ?_ (Below.refl _ _) (hI.put (by decide) (by decide) (by decide) (by decide)) trivial rfl
      unfold execOp;simp only [e3,ec];first|rfl|(go_simp;done)|(go_simp;rfl)
     ·have d1:a.eval (.tmp 52)=.slice ra r.length rc:=hdep ⟨0,.data⟩ (by simp) rfl
      refine growA_call (I:=(YI B r [.slice fa1 fs.1.length fc1,.slice fa2 fs.2.length fc2])) (X:=(fun _ _ _=>True)) (d:=fd) (a:=a) (w:=w1) 45 #[.slice ra r.length rc] ho rfl ?_ ((HCP.out w1 hbw).mono ?_)
      ·unfold execOp resolve
       simp only [zA,zB,zC,d1,ec]
       rfl
      ·rintro e c1 ⟨u1,rfl,ho1,hb2⟩
       exact⟨_,rfl,trivial,hb2.mono hI.v.bz,hI.call hb2 (Gn.Own.lower ho1 hI.v.bz) hfd,trivial⟩
     ·refine growA_val (I:=(YI B r [.slice fa1 fs.1.length fc1,.slice fa2 fs.2.length fc2])) (X:=(fun _ _ _=>True)) (d:=fd) (a:=a) (w:=w1) (.agg #[.slice fa1 fs.1.length fc1,.slice fa2 fs.2.length fc2]) w1 ho rfl ?_ (Below.refl _ _) (hI.put (by decide) (by decide) (by decide) (by decide)) trivial rfl
      unfold execOp;simp only [e11,ec];first|(go_simp;done)|(go_simp;rfl)
     ·refine growA_val (I:=(YI B r [.slice fa1 fs.1.length fc1,.slice fa2 fs.2.length fc2])) (X:=(fun _ _ _=>True)) (d:=fd) (a:=a) (w:=w1) (.pointer (some ⟨w1.heap.size,0,none⟩)) (w1.alloc (.cells #[.slice none 0 0,.slice none 0 0] 25)) ho rfl ?_ ((Below.refl B w1).alloc hI.v.bz _) (hI.new hfd) trivial trivial
      unfold execOp
      go_simp
      first|done|rfl
     ·have h53:fd 1=true:=hdd ⟨1,.data⟩ (by simp) rfl
      refine growA_val (I:=(YI B r [.slice fa1 fs.1.length fc1,.slice fa2 fs.2.length fc2])) (X:=(fun _ _ _=>True)) (d:=fd) (a:=a) (w:=w1) (a.tmps.getD 53 undef) w1 ho rfl ?_ (Below.refl _ _) (hI.asg h53) trivial trivial
      have d1:a.eval (.tmp 53)=a.tmps.getD 53 undef:=rfl
      unfold execOp;simp only [d1,ec]
      generalize a.tmps.getD 53 undef=y
      first|rfl|(go_simp;done)|(go_simp;rfl)
     ·have h10:fd 3=true:=hdd ⟨3,.data⟩ (by simp) rfl
      obtain⟨p,hp,hpB,hpb⟩:=hI.v.a h10
      have d1:a.eval (.tmp 15)=.pointer (some ⟨p,0,none⟩):=hp
      have d2:a.eval (.tmp 54)=.agg #[.slice fa1 fs.1.length fc1,.slice fa2 fs.2.length fc2]:=hdep ⟨2,.data⟩ (by simp) rfl
      rw [hfd] at hpb
      simp only [cond_false] at hpb
      have f0:=hpb.frozen 0
      have f1:=hpb.frozen 1
      have g0:=hpb.cell 0
      have g1':=hpb.cell 1
      simp only [zD,zE] at g0 g1'
      refine growA_skip (I:=(YI B r [.slice fa1 fs.1.length fc1,.slice fa2 fs.2.length fc2])) (X:=(fun _ _ _=>True)) (d:=fd) (a:=a) (w:=w1) ((w1.setCell ⟨p,0,none⟩ (.slice fa1 fs.1.length fc1)).setCell ⟨p,1,none⟩ (.slice fa2 fs.2.length fc2)) ho rfl rfl ?_ (((Below.refl B w1).setCell hpB _).setCell hpB _) (hI.store h10 hp hpb) trivial trivial
      unfold execOp;simp only [d1,d2,ec]
      go_simp
    ·intro a w1 hI hb hj
     obtain⟨p,h7,hp1,hp⟩:=hI.v.a (by decide)
     exact⟨p,a.tmps.getD 53 undef,h7,hI.s (by decide),hp,hI.o (by decide),(Below.refl B w8).drew.trans hb,hp1⟩
    rintro ts W9 ⟨g15,v1,h15,h14,hb15,ho9,hb9,hg15⟩
    simp only [fill,List.setIfInBounds_toArray,List.set_cons_succ,List.set_cons_zero]
    rw [h15,h14]
    have hg15:w.heap.size≤g15:=Nat.le_trans HBZ.out hg15
    rw [← hB] at hb9
    rw [hB] at hb9
    have HAT9:=hZ hb15
    have HO9:=hZ (Gn.Own.lower ho9 HBZ.out)
    have HB9:=hZ (HB8.out.trans (hb9.mono HBZ.out))
    have HG15:Hid (w.heap.size≤g15):=hZ hg15
    have HR0:Hid (r.length=fs.1.length):=hZ (by
     have:=(Ev.chkR_zero.1 he0).1
     rwa [tys_len] at this)
    have HSL:=hZ (Gn.Rd.len' HSEG.out.rd)
    obtain⟨ua,uc,rfl,_⟩:=Gn.Rd.form HSEG.out.rd
    have hsl:=HSL.out
    clear hb15 ho9 hb9 hg15 d0 d1 HCP HSL h15 h14 HG8 HB8 he0
    go_wp2_with fail
    try simp only [Array.getD_eq_getD_getElem?]
    go_loopw [14,57] (fun v i wr=>∃ (k:Nat) (z:Sx) (row:List Cl.C),k≤seg.length∧i=.int .i64 (k:Nat)∧Hid (row=Ev.go fs.1 ((sms seg).take k) r)∧Hid (YW w g15 z v row wr)∧Hid (z.s.1=Ev.lastOf fs.1 ((sms seg).take k)∧row.length=z.s.1.length∧RdS w w.heap.size z∧z∈L)) (fun _ i _=>seg.length - (intOf i).toNat)
    case atStart=>exact⟨0,⟨fa1,fc1,fa2,fc2,fs⟩,r,by omega,by rfl,hZ rfl,hZ ⟨HAT9.out,HO9.out,HB9.out⟩,hZ ⟨rfl,HR0.out,HRX.out,List.mem_of_getElem? HX.out⟩⟩
    case round =>
     obtain⟨k,z,row,hkl,rfl,HROW,HY,HZ⟩:=hrel
     obtain⟨cv0,hcv0⟩:∃ c,c=u14:=⟨_,rfl⟩
     subst hcv0
     clear HAT9 HO9 HB9
     by_cases hlt:k < seg.length
     ·have hlt1:(k:Int) < seg.length:=by omega
      obtain⟨y,hy⟩:∃ y,seg[k]?=some y:=⟨_,List.getElem?_eq_getElem hlt⟩
      obtain⟨ub,uo,rfl,p0,p1⟩:=rdS_cells HSEG.out HY.out.b hy
      have hym:y∈L:=HMEM.out y (List.mem_of_getElem? hy)
      have HNY:Hid (y.s.1.length≤1000):=hZ (by
       have h1:=(Ev.Ch.of HD.out).ok y.s (List.mem_map.2 ⟨y,hym,rfl⟩)
       have:=(Sc.okC_iff.1 (Sc.ck_zero.1 h1).1).1
       omega)
      have HTK:Hid ((sms seg).take (k+1)=(sms seg).take k++[y.s]):=hZ (by rw [List.take_add_one,sms_at hy];rfl)
      have HRY:=hZ (HR.out.el y hym)
      have HMV:=hZ (fun w1 (hb1:Below w.heap.size w w1) (ho:OwnC w1 w.heap.size cv0 row)=>cMoved z y (HOK.out z HZ.out.2.2.2) (HOK.out y hym) cv0 row w1 (HZ.out.2.2.1.later hb1) (HRY.out.later hb1) (RdC.of ho) HZ.out.2.1 HNY.out)
      have HYM:=hZ hym
      obtain⟨za1,zc1,za2,zc2,zs⟩:=z
      obtain⟨ya1,yc1,ya2,yc2,ys⟩:=y
      unfold Sx.v Sx.kv at HMV
      unfold Sx.v at p0
      unfold Sx.kv at p1
      simp only at p0 p1 HMV HTK HZ HNY
      have HY17:=hZ (HY.out.later (box_new wr (.cells #[.slice ya1 ys.1.length yc1,.slice ya2 ys.2.length yc2] 25)))
      have hb17:=Blk.new wr 25 #[.slice ya1 ys.1.length yc1,.slice ya2 ys.2.length yc2]
      have HGL:=hZ HY.out.at_.lt
      have HSZ17:Hid (wr.heap.size+1=(wr.alloc (.cells #[.slice ya1 ys.1.length yc1,.slice ya2 ys.2.length yc2] 25)).heap.size):=hZ (by simp)
      clear hy hym HY
      go_upto_region 14 with fail
      obtain⟨g17,hg17⟩:∃ g,wr.heap.size=g:=⟨_,rfl⟩
      simp only [hg17] at hb17 HGL HSZ17 ⊢
      generalize wr.alloc (.cells #[.slice ya1 ys.1.length yc1,.slice ya2 ys.2.length yc2] 25)=w17 at *
      obtain⟨BB,hBB⟩:∃ b,w17.heap.size=b:=⟨_,rfl⟩
      have HG15:Hid (w.heap.size≤g15∧g15 < BB∧g17≠g15):=hZ (by have h1:=HGL.out;have h2:=HSZ17.out;have h3:=HG15.out;omega)
      have HAT:Hid (Blk w17 g15 25 [.slice za1 zs.1.length zc1,.slice za2 zs.2.length zc2]):=hZ HY17.out.at_
      have HBW:=hZ HY17.out.b
      have HCV:=hZ (fun (w1:World) (ht:Touch (fun q=>q=g15) w17 w1)=>own_tch2 HY17.out.o ht (own_ne_blk HY17.out.o HY17.out.at_ (by decide)))
      have y0:=hb17.cell 0
      have y1:=hb17.cell 1
      simp only [zD,zE] at y0 y1
      obtain⟨row2,hrow2⟩:∃ x,Ev.mvd zs.1 ys.1 row=x:=⟨_,rfl⟩
      rw [hrow2] at HMV
      have HRW2:=hZ hrow2
      obtain⟨row1,hrow1⟩:∃ x,row=x:=⟨_,rfl⟩
      rw [hrow1] at HMV HCV
      have HRW1:=hZ hrow1
      clear p0 p1 hb17 hg17 HGL HSZ17 hrow2 hrow1 HY17
      refine region_growA_merge (fun u v=>Touch (fun q=>q=g15) u v) (WI g15 cv0 [.slice za1 zs.1.length zc1,.slice za2 zs.2.length zc2] [.slice ya1 ys.1.length yc1,.slice ya2 ys.2.length yc2]) (fun _ _ _=>True) (fun u=>Touch.refl _ _) (fun _ _ _ h k=>h.trans k (fun _ h=>.inl h)) (kjI #[Spc.eq (.agg #[.slice za1 zs.1.length zc1,.slice za2 zs.2.length zc2]),Spc.eq (.agg #[.slice ya1 ys.1.length yc1,.slice ya2 ys.2.length yc2]),Spc.eq (cv0),⟨fun x u=>OwnC u BB x row2,fun _ _ _ h hb=>own_tch h hb (fun q hq e=>by have e:q=g15:=e;have:=HG15.out;omega)⟩,Spc.eq (.agg #[.slice ya1 ys.1.length yc1,.slice ya2 ys.2.length yc2]),⟨fun x u=>OwnC u BB x row2,fun _ _ _ h hb=>own_tch h hb (fun q hq e=>by have e:q=g15:=e;have:=HG15.out;omega)⟩,Spc.any]) [61,62,63,64,65,14] (fun ts W=>∃ v1,OwnC W BB v1 row2∧ts.getD 14 undef=v1∧Blk W g15 25 [.slice ya1 ys.1.length yc1,.slice ya2 ys.2.length yc2]∧Touch (fun q=>q=g15) w17.drew W) (by kernel_rfl) (by kernel_rfl) (by kernel_rfl) kjI_later ⟨HAT.out.drew,fun e=>(by cases e),fun _=>rfl,fun e=>(by cases e)⟩ ?_ ?_ ?_
      ·intro QQ fd jo o a w1 ho hfd hdd hI hb hs hold hdep
       have hjo:jo < 7:=(Array.getElem?_eq_some_iff.1 ho).1
       skip
       have hbw:Below w.heap.size w w1:=by
        refine HBW.out.trans ?_
        exact (hb.undrew.mono (S':=fun q=>q=g15) (fun _ h=>h)).below HBW.out.size (fun q hq=>by have e:q=g15:=hq;have:=HG15.out;omega)
       have hsz:BB≤w1.heap.size:=by have h2:w17.heap.size≤w1.heap.size:=hb.size;omega
       have hcv:OwnC w1 w.heap.size cv0 row1:=HCV.out w1 hb.undrew
       have y0':w1.cell? ⟨g17,0,none⟩=some (.slice ya1 ys.1.length yc1):=(hb.cell (p:=⟨g17,0,none⟩) (cell_lt (w:=w17) y0) (by have:=HG15.out;simp only;omega)).trans y0
       have y1':w1.cell? ⟨g17,1,none⟩=some (.slice ya2 ys.2.length yc2):=(hb.cell (p:=⟨g17,1,none⟩) (cell_lt (w:=w17) y1) (by have:=HG15.out;simp only;omega)).trans y1
       clear y0 y1
       have e15:a.eval (.tmp 15)=.pointer (some ⟨g15,0,none⟩):=by
        show a.tmps.getD 15 undef=_
        rw [Array.getD_eq_getD_getElem?,hold 15 (by decide +kernel)];rfl
       have e17:a.eval (.tmp 17)=.pointer (some ⟨g17,0,none⟩):=by
        show a.tmps.getD 17 undef=_
        rw [Array.getD_eq_getD_getElem?,hold 17 (by decide +kernel)];rfl
       have ec:∀ v,a.eval (.const v)=v:=fun _=>rfl
       clear hold hs
       rcases (show jo=0 ∨ jo=1 ∨ jo=2 ∨ jo=3 ∨ jo=4 ∨ jo=5 ∨ jo=6 by omega) with rfl|rfl|rfl|rfl|rfl|rfl|rfl
       all_goals (have ho2:=ho;simp only [List.getElem?_toArray,zD,zE,Option.some.injEq] at ho2;subst ho2)
       ·have hd6:fd 6=false:=by
         cases hc:fd 6 with
         | false=>rfl
         | true=>have h2:=hI.m6 hc;rw [hfd] at h2;cases h2
        have hq:=hI.b
        rw [hd6] at hq
        simp only [cond_false] at hq
        have q0:=hq.cell 0
        have q1:=hq.cell 1
        simp only [zD,zE] at q0 q1
        refine growA_val (I:=(WI g15 cv0 [.slice za1 zs.1.length zc1,.slice za2 zs.2.length zc2] [.slice ya1 ys.1.length yc1,.slice ya2 ys.2.length yc2])) (X:=(fun _ _ _=>True)) (d:=fd) (a:=a) (w:=w1) (.agg #[.slice za1 zs.1.length zc1,.slice za2 zs.2.length zc2]) w1 ho rfl ?_ (Touch.refl _ _) (hI.put (by decide) (by decide) (by decide) (Below.refl _ _)) trivial rfl
        unfold execOp;simp only [e15,ec];first|rfl|(go_simp;done)|(go_simp;rfl)
       ·refine growA_val (I:=(WI g15 cv0 [.slice za1 zs.1.length zc1,.slice za2 zs.2.length zc2] [.slice ya1 ys.1.length yc1,.slice ya2 ys.2.length yc2])) (X:=(fun _ _ _=>True)) (d:=fd) (a:=a) (w:=w1) (.agg #[.slice ya1 ys.1.length yc1,.slice ya2 ys.2.length yc2]) w1 ho rfl ?_ (Touch.refl _ _) (hI.put (by decide) (by decide) (by decide) (Below.refl _ _)) trivial rfl
        unfold execOp;simp only [e17,ec];first|rfl|(go_simp;done)|(go_simp;rfl)
       ·have hd5:fd 5=false:=by
         cases hc:fd 5 with
         | false=>rfl
         | true=>have h2:=hI.m5 hc;rw [hfd] at h2;cases h2
        have e14:a.eval (.tmp 14)=cv0:=hI.s hd5
        refine growA_val (I:=(WI g15 cv0 [.slice za1 zs.1.length zc1,.slice za2 zs.2.length zc2] [.slice ya1 ys.1.length yc1,.slice ya2 ys.2.length yc2])) (X:=(fun _ _ _=>True)) (d:=fd) (a:=a) (w:=w1) (cv0) w1 ho rfl ?_ (Touch.refl _ _) (hI.put (by decide) (by decide) (by decide) (Below.refl _ _)) trivial rfl
        unfold execOp;simp only [e14,ec];first|rfl|(go_simp;done)|(go_simp;rfl)
       ·have d0:a.eval (.tmp 61)=.agg #[.slice za1 zs.1.length zc1,.slice za2 zs.2.length zc2]:=hdep ⟨0,.data⟩ (by simp) rfl
        have d1:a.eval (.tmp 62)=.agg #[.slice ya1 ys.1.length yc1,.slice ya2 ys.2.length yc2]:=hdep ⟨1,.data⟩ (by simp) rfl
        have d2:a.eval (.tmp 63)=cv0:=hdep ⟨2,.data⟩ (by simp) rfl
        refine growA_call (I:=(WI g15 cv0 [.slice za1 zs.1.length zc1,.slice za2 zs.2.length zc2] [.slice ya1 ys.1.length yc1,.slice ya2 ys.2.length yc2])) (X:=(fun _ _ _=>True)) (d:=fd) (a:=a) (w:=w1) 46 #[.agg #[.slice za1 zs.1.length zc1,.slice za2 zs.2.length zc2],.agg #[.slice ya1 ys.1.length yc1,.slice ya2 ys.2.length yc2],cv0] ho rfl ?_ ((HMV.out w1 hbw hcv).mono ?_)
        ·unfold execOp resolve
         simp only [zA,zB,zC,d0,d1,d2,ec]
         rfl
        ·rintro e c1 ⟨x1,rfl,hp,hb2⟩
         exact⟨_,rfl,Gn.Own.lower hp hsz,Touch.of_below hb2,hI.put (by decide) (by decide) (by decide) hb2,trivial⟩
       ·refine growA_val (I:=(WI g15 cv0 [.slice za1 zs.1.length zc1,.slice za2 zs.2.length zc2] [.slice ya1 ys.1.length yc1,.slice ya2 ys.2.length yc2])) (X:=(fun _ _ _=>True)) (d:=fd) (a:=a) (w:=w1) (.agg #[.slice ya1 ys.1.length yc1,.slice ya2 ys.2.length yc2]) w1 ho rfl ?_ (Touch.refl _ _) (hI.put (by decide) (by decide) (by decide) (Below.refl _ _)) trivial rfl
        unfold execOp;simp only [e17,ec];first|rfl|(go_simp;done)|(go_simp;rfl)
       ·have h2d:fd 2=true:=hdd ⟨2,.phase⟩ (by simp) rfl
        obtain⟨v1,d1,f1⟩:∃ v,a.eval (.tmp 64)=v∧OwnC w1 BB v row2:=⟨_,rfl,hdep ⟨3,.data⟩ (by simp) rfl⟩
        refine growA_val (I:=(WI g15 cv0 [.slice za1 zs.1.length zc1,.slice za2 zs.2.length zc2] [.slice ya1 ys.1.length yc1,.slice ya2 ys.2.length yc2])) (X:=(fun _ _ _=>True)) (d:=fd) (a:=a) (w:=w1) v1 w1 ho rfl ?_ (Touch.refl _ _) (hI.asg h2d) trivial f1
        unfold execOp;simp only [d1,ec];first|rfl|(go_simp;done)|(go_simp;rfl)
       ·have h0d:fd 0=true:=hdd ⟨0,.phase⟩ (by simp) rfl
        have d2:a.eval (.tmp 65)=.agg #[.slice ya1 ys.1.length yc1,.slice ya2 ys.2.length yc2]:=hdep ⟨4,.data⟩ (by simp) rfl
        have hq:=hI.b
        rw [hfd] at hq
        simp only [cond_false] at hq
        have q0:=hq.cell 0
        have q1:=hq.cell 1
        have q2:=hq.frozen 0
        have q3:=hq.frozen 1
        simp only [zD,zE] at q0 q1
        refine growA_skip (I:=(WI g15 cv0 [.slice za1 zs.1.length zc1,.slice za2 zs.2.length zc2] [.slice ya1 ys.1.length yc1,.slice ya2 ys.2.length yc2])) (X:=(fun _ _ _=>True)) (d:=fd) (a:=a) (w:=w1) ((w1.setCell ⟨g15,0,none⟩ (.slice ya1 ys.1.length yc1)).setCell ⟨g15,1,none⟩ (.slice ya2 ys.2.length yc2)) ho rfl rfl ?_ (Touch.setCell (S:=fun q=>q=g15) (p:=⟨g15,1,none⟩) (Touch.setCell (S:=fun q=>q=g15) (p:=⟨g15,0,none⟩) (Touch.refl _ _) rfl _) rfl _) (hI.store h0d hfd rfl) trivial trivial
        unfold execOp;simp only [e15,d2,ec]
        go_simp
      ·intro a w1 hI hb hj
       have hq:=hI.b
       simp only [cond_true,decide_true,List.size_toArray,List.length_cons,List.length_nil,Nat.reduceAdd,Nat.reduceLT] at hq
       exact⟨_,hj 5 (by decide),rfl,hq,hb⟩
      rintro ts W18 ⟨v1,ho18,h14,hat18,ht18⟩
      simp only [fill,List.setIfInBounds_toArray,List.set_cons_succ,List.set_cons_zero]
      rw [h14]
      have hbb:w.heap.size≤BB:=by have:=HG15.out;omega
      have HY18:Hid (YW w g15 ⟨ya1,yc1,ya2,yc2,ys⟩ v1 row2 W18):=hZ ⟨hat18,Gn.Own.lower ho18 hbb,HBW.out.trans (ht18.undrew.below HBW.out.size (fun q hq=>by have e:q=g15:=hq;have:=HG15.out;omega))⟩
      have HROW2:Hid (row2=Ev.go fs.1 ((sms seg).take (k+1)) r):=hZ (by rw [HTK.out,Ev.go_snoc,← HZ.out.1,← HROW.out,HRW2.out])
      have HZ2:Hid (ys.1=Ev.lastOf fs.1 ((sms seg).take (k+1))∧row2.length=ys.1.length∧RdS w w.heap.size ⟨ya1,yc1,ya2,yc2,ys⟩∧(⟨ya1,yc1,ya2,yc2,ys⟩:Sx)∈L):=hZ ⟨by rw [HTK.out,Ev.lastOf_snoc],by rw [← HRW2.out,Ev.mvd_len],HRY.out,HYM.out⟩
      clear ho18 h14 hat18 ht18 y0 y1
      go_wp2_with fail
      go_roundw
      case rel=>exact⟨k+1,⟨ya1,yc1,ya2,yc2,ys⟩,row2,by omega,by go_num,HROW2,HY18,HZ2⟩
      case measure=>first|(simp [intOf];done)|(simp [intOf];omega)
     ·have hlt1:¬ (k:Int) < seg.length:=by omega
      have HE:Hid (row=Ev.go fs.1 (sms seg) r):=hZ (by rw [HROW.out,List.take_of_length_le (by rw [sms_len];omega)])
      go_wp2_with fail
      go_ret2
      exact⟨_,rfl,by rw [← HE.out];exact HY.out.o,HY.out.b⟩
   ·rw [if_pos hez] at ha
    subst ha
    have hez1:(e0 != 0)=true:=by simpa using hez
    go_wp2_with fail
    go_ret2
    exact⟨_,rfl,HNIL.out _,HB8.out⟩
 ·rw [if_pos hd0] at ha
  subst ha
  have hd1:(d != 0)=true:=by simpa using hd0
  clear hd
  go_enter Tryz.func23,Tryz.ntmps23
  go_wp2_with fail
  ((with_reducible refine HC.out.mono ?_);rintro e w1 ⟨rfl,b1⟩)
  go_wp2_with fail
  go_ret2
  exact⟨_,rfl,HNIL.out _,b1⟩
end Go.Proofs.YtenfjmdajlhfoabGreatDoor
