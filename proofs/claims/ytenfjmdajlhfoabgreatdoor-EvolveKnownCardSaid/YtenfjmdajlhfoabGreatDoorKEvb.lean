/- Texts. -/
import Derived.Test.YtenfjmdajlhfoabGreatDoorKEva
import Derived.Laws.EntriesVeiled
import Derived.Deep.DeepCutAuto
import Derived.Deep.CutBlock
set_option maxHeartbeats 16000000
namespace Go.Proofs.YtenfjmdajlhfoabGreatDoor
open Go.RowKit Go.Shelf
set_option linter.unusedVariables false
set_option linter.unusedSimpArgs false
set_option maxRecDepth 100000
attribute [local go_sem] Oper.semAt_some
theorem run_eqT (k1 k2:Int) (u1 u2:Bool) (w:World):(Op.equalIn 10000 59 (.agg #[.int .i64 k1,.bool u1]) (.agg #[.int .i64 k2,.bool u2])).run Tryz.prog w=.ok (decide (k1=k2) && decide (u1=u2)) w:=by
 have hS1:Tryz.prog.underlying 59=some (.struct (Tryz.prog.fieldsOf 59)):=by kernel_rfl
 have hp1:Tryz.prog.stoodInHeld 59=false:=by kernel_rfl
 have ub:=Tryz.underlying4
 have ui:=Tryz.underlying3
 have z1:=Tryz.sizeOf4
 have z4:=Tryz.sizeOf3
 have a1:=Tryz.isAgg4
 have a4:=Tryz.isAgg3
 rw [show (10000:Nat)=9999+1 from rfl,run_equalIn_agg w 9999 59 _ _ hS1 hp1]
 simp only [Program.fieldsOf,Tryz.underlying59]
 go_simp
 by_cases h1:k1=k2<;>by_cases h3:u1=u2<;>simp [h1,h3]
theorem cWider (x y:Co) (w:World):Calls Tryz.prog 87 #[.agg #[.int .i64 y.k,.bool y.u],.agg #[.int .i64 x.k,.bool x.u]] w fun e w'=>e=.returned (.bool (Ev.wider x y))∧Below w.heap.size w w':=by
 have heq:=fun w=>run_eqT y.k 3 y.u x.u w
 have HB:=hZ (up (box_new w (.cells #[.int .i64 y.k,.bool y.u] 59)) (box_new _ (.cells #[.int .i64 x.k,.bool x.u] 59)))
 unfold Ev.wider
 obtain⟨r,hr⟩:∃ r,(decide (y.k=3) && decide (y.u=x.u))=r:=⟨_,rfl⟩
 rw [hr] at heq ⊢
 clear hr
 by_cases h:x.k=2
 ·have h1:(x.k == 2)=true:=by simpa using h
  rw [decide_eq_true h,Bool.true_and]
  clear h
  go_enter Tryz.func87,Tryz.ntmps87
  go_wp2_with fail
  go_ret
  exact⟨rfl,HB.out⟩
 ·have h1:(x.k == 2)=false:=by simpa using h
  rw [decide_eq_false h,Bool.false_and]
  clear h
  go_enter Tryz.func87,Tryz.ntmps87
  go_wp2_with fail
  go_ret
  exact⟨rfl,HB.out⟩
theorem col_blk {w:World} {g:Nat} {xi xk xn:Int} {xm xs:ByteArray} {xu xa:Bool} (h:Blk w g 63 [.int .i64 xi,.string xm,.int .i64 xk,.bool xu,.bool xa,.int .i64 xn,.string xs]) :
 w.cell? ⟨g,0,none⟩=some (.int .i64 xi)∧w.cell? ⟨g,1,none⟩=some (.string xm)∧w.cell? ⟨g,2,none⟩=some (.int .i64 xk)∧w.cell? ⟨g,3,none⟩=some (.bool xu)∧w.cell? ⟨g,4,none⟩=some (.bool xa)∧w.cell? ⟨g,5,none⟩=some (.int .i64 xn)∧w.cell? ⟨g,6,none⟩=some (.string xs) :=
 ⟨h.cell 0,h.cell 1,h.cell 2,h.cell 3,h.cell 4,h.cell 5,h.cell 6⟩
def coZ:Co:=⟨0,⟨#[]⟩,0,false,⟨false,0,⟨#[]⟩⟩⟩
structure SI (B:Nat) (x y:Co) (d:Nat→Bool) (ts:Array Value) (u:World):Prop where
 sz:ts.size=45
 bz:B≤u.heap.size
 a7:d 10=true→∃ p,ts.getD 7 undef=.pointer (some ⟨p,0,none⟩)∧B≤p∧Blk u p 63 (coc (bif d 12 then x else coZ))
 a8:d 11=true→∃ p,ts.getD 8 undef=.pointer (some ⟨p,0,none⟩)∧B≤p∧Blk u p 63 (coc (bif d 13 then y else coZ))
 ne:d 10=true→d 11=true→ts.getD 7 undef≠ts.getD 8 undef
 m7:d 12=true→d 10=true
 m8:d 13=true→d 11=true
theorem getD_put {ts:Array Value} {s k:Nat} (v:Value) (h:s≠k):(ts.setIfInBounds s v).getD k undef=ts.getD k undef:=by
 rw [Array.getD_eq_getD_getElem?,Array.getElem?_setIfInBounds_ne h,← Array.getD_eq_getD_getElem?]
theorem getD_self {ts:Array Value} {s:Nat} (v:Value) (h:s < ts.size):(ts.setIfInBounds s v).getD s undef=v:=by
 rw [Array.getD_eq_getD_getElem?,Array.getElem?_setIfInBounds_self,if_pos h];rfl
theorem upd_no {d:Nat→Bool} {j k:Nat} (h:k≠j):upd d j k=d k:=if_neg h
theorem upd_at {d:Nat→Bool} {j:Nat}:upd d j j=true:=if_pos rfl
theorem SI.put {B:Nat} {x y:Co} {d:Nat→Bool} {ts:Array Value} {u:World} (h:SI B x y d ts u) {s j:Nat} {v:Value} (h7:s≠7) (h8:s≠8) (hj:j < 10):SI B x y (upd d j) (ts.setIfInBounds s v) u:=by
 refine⟨by simp [h.sz],h.bz,?_,?_,?_,?_,?_⟩<;>simp only [upd_no (show 10≠j by omega),upd_no (show 11≠j by omega),upd_no (show 12≠j by omega),upd_no (show 13≠j by omega),getD_put v h7,getD_put v h8]
 ·exact h.a7
 ·exact h.a8
 ·exact h.ne
 ·exact h.m7
 ·exact h.m8
theorem SI.new7 {B:Nat} {x y:Co} {d:Nat→Bool} {ts:Array Value} {u:World} (h:SI B x y d ts u) (hd:d 10=false):SI B x y (upd d 10) (ts.setIfInBounds 7 (.pointer (some ⟨u.heap.size,0,none⟩))) (u.alloc (.cells (coc coZ).toArray 63)):=by
 have h12:d 12=false:=by
  cases e:d 12 with
  | false=>rfl
  | true=>have:=h.m7 e;rw [hd] at this;cases this
 refine⟨by simp [h.sz],by have:=h.bz;simp;omega,?_,?_,?_,?_,?_⟩<;>simp only [upd_at,upd_no (show 11≠10 by omega),upd_no (show 12≠10 by omega),upd_no (show 13≠10 by omega),getD_put _ (show 7≠8 by omega),getD_self _ (show 7 < ts.size by rw [h.sz];omega)]
 ·intro _
  refine⟨_,rfl,h.bz,?_⟩
  rw [h12]
  exact Blk.new u 63 _
 ·intro e
  obtain⟨p,h1,h2,h3⟩:=h.a8 e
  exact⟨p,h1,h2,h3.later (box_new _ _)⟩
 ·intro _ e
  obtain⟨p,h1,h2,h3⟩:=h.a8 e
  rw [h1]
  intro e2
  injection e2 with e2
  injection e2 with e2
  injection e2 with e2
  have:=h3.lt
  omega
 ·intro e;rw [h12] at e;cases e
 ·exact h.m8
theorem SI.new8 {B:Nat} {x y:Co} {d:Nat→Bool} {ts:Array Value} {u:World} (h:SI B x y d ts u) (hd:d 11=false):SI B x y (upd d 11) (ts.setIfInBounds 8 (.pointer (some ⟨u.heap.size,0,none⟩))) (u.alloc (.cells (coc coZ).toArray 63)):=by
 have h12:d 13=false:=by
  cases e:d 13 with
  | false=>rfl
  | true=>have:=h.m8 e;rw [hd] at this;cases this
 refine⟨by simp [h.sz],by have:=h.bz;simp;omega,?_,?_,?_,?_,?_⟩<;>simp only [upd_at,upd_no (show 10≠11 by omega),upd_no (show 12≠11 by omega),upd_no (show 13≠11 by omega),getD_put _ (show 8≠7 by omega),getD_self _ (show 8 < ts.size by rw [h.sz];omega)]
 ·intro e
  obtain⟨p,h1,h2,h3⟩:=h.a7 e
  exact⟨p,h1,h2,h3.later (box_new _ _)⟩
 ·intro _
  refine⟨_,rfl,h.bz,?_⟩
  rw [h12]
  exact Blk.new u 63 _
 ·intro e _
  obtain⟨p,h1,h2,h3⟩:=h.a7 e
  rw [h1]
  intro e2
  injection e2 with e2
  injection e2 with e2
  injection e2 with e2
  have:=h3.lt
  omega
 ·exact h.m7
 ·intro e;rw [h12] at e;cases e
theorem put7B {w:World} {g:Nat} {z:Co} (h:Blk w g 63 (coc z)) (x:Co):Blk (put7W w g 0 x) g 63 (coc x):=by
 have:=((((((Blk.put h 0 (.int .i64 x.id)).put 1 (.string x.nm)).put 2 (.int .i64 x.k)).put 3 (.bool x.u)).put 4 (.bool x.d.u)).put 5 (.int .i64 x.d.n)).put 6 (.string x.d.s)
 exact this
theorem far7B {w:World} {g p:Nat} {t:TypeId} {cs:List Value} (h:Blk w g t cs) (hp:p≠g) (x:Co):Blk (put7W w p 0 x) g t cs :=
 (((((h.far (by exact hp) _).far (by exact hp) _).far (by exact hp) _).far (by exact hp) _).far (by exact hp) _).far (by exact hp) _ |>.far (by exact hp) _
theorem SI.st7 {B:Nat} {x y:Co} {d:Nat→Bool} {ts:Array Value} {u:World} (h:SI B x y d ts u) (h10:d 10=true) {p:Nat} (hp:ts.getD 7 undef=.pointer (some ⟨p,0,none⟩)):SI B x y (upd d 12) ts (put7W u p 0 x):=by
 refine⟨h.sz,by have:=h.bz;unfold put7W;simp;omega,?_,?_,?_,?_,?_⟩<;>simp only [upd_at,upd_no (show 10≠12 by omega),upd_no (show 11≠12 by omega),upd_no (show 13≠12 by omega)]
 ·intro e
  obtain⟨p',h1,h2,h3⟩:=h.a7 e
  rw [hp] at h1
  injection h1 with h1
  injection h1 with h1
  injection h1 with h1
  subst h1
  exact⟨p,hp,h2,put7B h3 x⟩
 ·intro e
  obtain⟨q,h1,h2,h3⟩:=h.a8 e
  refine⟨q,h1,h2,far7B h3 (fun e2=>?_) x⟩
  subst e2
  exact h.ne h10 e (by rw [hp,h1])
 ·exact h.ne
 ·intro _;exact h10
 ·exact h.m8
theorem SI.st8 {B:Nat} {x y:Co} {d:Nat→Bool} {ts:Array Value} {u:World} (h:SI B x y d ts u) (h11:d 11=true) {p:Nat} (hp:ts.getD 8 undef=.pointer (some ⟨p,0,none⟩)):SI B x y (upd d 13) ts (put7W u p 0 y):=by
 refine⟨h.sz,by have:=h.bz;unfold put7W;simp;omega,?_,?_,?_,?_,?_⟩<;>simp only [upd_at,upd_no (show 10≠13 by omega),upd_no (show 11≠13 by omega),upd_no (show 12≠13 by omega)]
 ·intro e
  obtain⟨q,h1,h2,h3⟩:=h.a7 e
  refine⟨q,h1,h2,far7B h3 (fun e2=>?_) y⟩
  subst e2
  exact h.ne e h11 (by rw [hp,h1])
 ·intro e
  obtain⟨p',h1,h2,h3⟩:=h.a8 e
  rw [hp] at h1
  injection h1 with h1
  injection h1 with h1
  injection h1 with h1
  subst h1
  exact⟨p,hp,h2,put7B h3 y⟩
 ·exact h.ne
 ·exact h.m7
 ·intro _;exact h11
theorem below7W {B p:Nat} {u:World} (hp:B≤p) (x:Co):Below B u (put7W u p 0 x) :=
 (((((((Below.refl B u).setCell (by exact hp) _).setCell (by exact hp) _).setCell (by exact hp) _).setCell (by exact hp) _).setCell (by exact hp) _).setCell (by exact hp) _).setCell (by exact hp) _
theorem cStay (g g1:Nat) (va ka vb kb:Value) (la lb:List Co) (i j:Nat) (x y:Co) (w:World) (hg:Blk w g 25 [va,ka]) (hg1:Blk w g1 25 [vb,kb]) (ha:RdK w w.heap.size va la) (hb:RdK w w.heap.size vb lb) (hx:la[i]?=some x) (hy:lb[j]?=some y) :
 Calls Tryz.prog 86 #[.int .i64 (i:Nat),.int .i64 (j:Nat),.pointer (some ⟨g,0,none⟩),.pointer (some ⟨g1,0,none⟩)] w fun e w'=>e=.returned (.bool (Ev.stay x y))∧Below w.heap.size w w':=by
 obtain⟨a1,c1,rfl,_⟩:=Gn.Rd.form ha
 obtain⟨a2,c2,rfl,_⟩:=Gn.Rd.form hb
 have hi:(i:Int) < la.length:=by have:=(List.getElem?_eq_some_iff.1 hx).1;omega
 have hj:(j:Int) < lb.length:=by have:=(List.getElem?_eq_some_iff.1 hy).1;omega
 obtain⟨b1,o1,rfl,p0,p1,p2,p3,p4,p5,p6⟩:=rdK_cells ha (Below.refl _ _).drew hx
 obtain⟨b2,o2,rfl,q0,q1,q2,q3,q4,q5,q6⟩:=rdK_cells hb (Below.refl _ _).drew hy
 have s0:w.drew.cell? ⟨g,0,none⟩=some (.slice (some ⟨b1,o1,none⟩) la.length c1):=hg.cell 0
 have s1:w.drew.cell? ⟨g1,0,none⟩=some (.slice (some ⟨b2,o2,none⟩) lb.length c2):=hg1.cell 0
 have HE1:=hZ (bl_eq x.nm y.nm)
 have HE2:=hZ (fun w=>run_eqc x.d y.d w)
 have HE3:=hZ (fun w=>run_eqT x.k y.k x.u y.u w)
 have HW:=hZ (fun w=>cWider x y w)
 unfold Ev.stay Ev.sameT
 obtain⟨bn,hbn⟩:∃ b,decide (bl x.nm=bl y.nm)=b:=⟨_,rfl⟩
 obtain⟨bd,hbd⟩:∃ b,eqc x.d y.d=b:=⟨_,rfl⟩
 obtain⟨bt,hbt⟩:∃ b,(decide (x.k=y.k) && decide (x.u=y.u))=b:=⟨_,rfl⟩
 obtain⟨bw,hbw⟩:∃ b,Ev.wider x y=b:=⟨_,rfl⟩
 rw [hbn] at HE1
 rw [hbd] at HE2
 rw [hbt] at HE3
 rw [hbw] at HW
 rw [hbn,hbd,hbt,hbw]
 clear hx hy ha hb hg hg1 hbn hbd hbt hbw
 obtain⟨xi,xm,xk,xu,⟨xa,xn,xs⟩⟩:=x
 obtain⟨yi,ym,yk,yu,⟨ya,yn,ys⟩⟩:=y
 unfold cv at HE2
 simp only at p0 p1 p2 p3 p4 p5 p6 q0 q1 q2 q3 q4 q5 q6 HE1 HE2 HE3 HW
 go_enter Tryz.func86,Tryz.ntmps86
 go_upto_region 1 with fail
 obtain⟨B,hB⟩:∃ B,w.heap.size=B:=⟨_,rfl⟩
 refine region_growA_merge (fun u v=>Below B u v) (SI B (⟨xi,xm,xk,xu,⟨xa,xn,xs⟩⟩:Co) (⟨yi,ym,yk,yu,⟨ya,yn,ys⟩⟩:Co)) (fun _ _ _=>True) (fun u=>Below.refl B u) (fun _ _ _ h k=>h.trans k) (kjI #[Spc.eq (.pointer (some ⟨g,0,none⟩)),Spc.eq (.slice (some ⟨b1,o1,none⟩) la.length c1),Spc.eq (.int .i64 (i:Nat)),Spc.eq (.pointer (some ⟨b1,o1+i * 7,none⟩)),Spc.eq (.agg #[.int .i64 xi,.string xm,.int .i64 xk,.bool xu,.bool xa,.int .i64 xn,.string xs]),Spc.eq (.pointer (some ⟨g1,0,none⟩)),Spc.eq (.slice (some ⟨b2,o2,none⟩) lb.length c2),Spc.eq (.int .i64 (j:Nat)),Spc.eq (.pointer (some ⟨b2,o2+j * 7,none⟩)),Spc.eq (.agg #[.int .i64 yi,.string ym,.int .i64 yk,.bool yu,.bool ya,.int .i64 yn,.string ys]),Spc.any,Spc.any,Spc.any,Spc.any]) [9,10,11,12,13,14,15,16,17,18,7,8] (fun ts W=>∃ p q,ts.getD 7 undef=.pointer (some ⟨p,0,none⟩)∧ts.getD 8 undef=.pointer (some ⟨q,0,none⟩)∧Blk W p 63 [.int .i64 xi,.string xm,.int .i64 xk,.bool xu,.bool xa,.int .i64 xn,.string xs]∧Blk W q 63 [.int .i64 yi,.string ym,.int .i64 yk,.bool yu,.bool ya,.int .i64 yn,.string ys]∧Below B w W) (by kernel_rfl) (by kernel_rfl) (by kernel_rfl) kjI_later ⟨by simp,by rw [← hB];exact Nat.le_refl _,fun e=>(by cases e),fun e=>(by cases e),fun e=>(by cases e),fun e=>(by cases e),fun e=>(by cases e)⟩ ?_ ?_ ?_
 ·intro QQ fd jo o a w1 ho hfd hdd hI hb hs hold hdep
  have hjo:jo < 14:=(Array.getElem?_eq_some_iff.1 ho).1
  skip
  have hbb:Below B w w1:=(Below.refl B w).drew.trans hb
  have s0':w1.cell? ⟨g,0,none⟩=some (.slice (some ⟨b1,o1,none⟩) la.length c1):=(hbb.cell (p:=⟨g,0,none⟩) (by rw [← hB];exact cell_lt (w:=w) s0)).trans (show w.cell? _=_ from s0)
  have s1':w1.cell? ⟨g1,0,none⟩=some (.slice (some ⟨b2,o2,none⟩) lb.length c2):=(hbb.cell (p:=⟨g1,0,none⟩) (by rw [← hB];exact cell_lt (w:=w) s1)).trans (show w.cell? _=_ from s1)
  have p0':w1.cell? ⟨b1,o1+i * 7,none⟩=some (.int .i64 xi):=(hbb.cell (p:=⟨b1,o1+i * 7,none⟩) (by rw [← hB];exact cell_lt (w:=w) p0)).trans (show w.cell? _=_ from p0)
  have p1':w1.cell? ⟨b1,o1+i * 7+1,none⟩=some (.string xm):=(hbb.cell (p:=⟨b1,o1+i * 7+1,none⟩) (by rw [← hB];exact cell_lt (w:=w) p1)).trans (show w.cell? _=_ from p1)
  have p2':w1.cell? ⟨b1,o1+i * 7+2,none⟩=some (.int .i64 xk):=(hbb.cell (p:=⟨b1,o1+i * 7+2,none⟩) (by rw [← hB];exact cell_lt (w:=w) p2)).trans (show w.cell? _=_ from p2)
  have p3':w1.cell? ⟨b1,o1+i * 7+3,none⟩=some (.bool xu):=(hbb.cell (p:=⟨b1,o1+i * 7+3,none⟩) (by rw [← hB];exact cell_lt (w:=w) p3)).trans (show w.cell? _=_ from p3)
  have p4':w1.cell? ⟨b1,o1+i * 7+4,none⟩=some (.bool xa):=(hbb.cell (p:=⟨b1,o1+i * 7+4,none⟩) (by rw [← hB];exact cell_lt (w:=w) p4)).trans (show w.cell? _=_ from p4)
  have p5':w1.cell? ⟨b1,o1+i * 7+5,none⟩=some (.int .i64 xn):=(hbb.cell (p:=⟨b1,o1+i * 7+5,none⟩) (by rw [← hB];exact cell_lt (w:=w) p5)).trans (show w.cell? _=_ from p5)
  have p6':w1.cell? ⟨b1,o1+i * 7+6,none⟩=some (.string xs):=(hbb.cell (p:=⟨b1,o1+i * 7+6,none⟩) (by rw [← hB];exact cell_lt (w:=w) p6)).trans (show w.cell? _=_ from p6)
  have q0':w1.cell? ⟨b2,o2+j * 7,none⟩=some (.int .i64 yi):=(hbb.cell (p:=⟨b2,o2+j * 7,none⟩) (by rw [← hB];exact cell_lt (w:=w) q0)).trans (show w.cell? _=_ from q0)
  have q1':w1.cell? ⟨b2,o2+j * 7+1,none⟩=some (.string ym):=(hbb.cell (p:=⟨b2,o2+j * 7+1,none⟩) (by rw [← hB];exact cell_lt (w:=w) q1)).trans (show w.cell? _=_ from q1)
  have q2':w1.cell? ⟨b2,o2+j * 7+2,none⟩=some (.int .i64 yk):=(hbb.cell (p:=⟨b2,o2+j * 7+2,none⟩) (by rw [← hB];exact cell_lt (w:=w) q2)).trans (show w.cell? _=_ from q2)
  have q3':w1.cell? ⟨b2,o2+j * 7+3,none⟩=some (.bool yu):=(hbb.cell (p:=⟨b2,o2+j * 7+3,none⟩) (by rw [← hB];exact cell_lt (w:=w) q3)).trans (show w.cell? _=_ from q3)
  have q4':w1.cell? ⟨b2,o2+j * 7+4,none⟩=some (.bool ya):=(hbb.cell (p:=⟨b2,o2+j * 7+4,none⟩) (by rw [← hB];exact cell_lt (w:=w) q4)).trans (show w.cell? _=_ from q4)
  have q5':w1.cell? ⟨b2,o2+j * 7+5,none⟩=some (.int .i64 yn):=(hbb.cell (p:=⟨b2,o2+j * 7+5,none⟩) (by rw [← hB];exact cell_lt (w:=w) q5)).trans (show w.cell? _=_ from q5)
  have q6':w1.cell? ⟨b2,o2+j * 7+6,none⟩=some (.string ys):=(hbb.cell (p:=⟨b2,o2+j * 7+6,none⟩) (by rw [← hB];exact cell_lt (w:=w) q6)).trans (show w.cell? _=_ from q6)
  clear s0 s1 p0 p1 p2 p3 p4 p5 p6 q0 q1 q2 q3 q4 q5 q6
  have e0:a.eval (.tmp 0)=.int .i64 (i:Nat):=by
   show a.tmps.getD 0 undef=_
   rw [Array.getD_eq_getD_getElem?,hold 0 (by decide +kernel)];rfl
  have e1:a.eval (.tmp 1)=.int .i64 (j:Nat):=by
   show a.tmps.getD 1 undef=_
   rw [Array.getD_eq_getD_getElem?,hold 1 (by decide +kernel)];rfl
  have e2:a.eval (.tmp 2)=.pointer (some ⟨g,0,none⟩):=by
   show a.tmps.getD 2 undef=_
   rw [Array.getD_eq_getD_getElem?,hold 2 (by decide +kernel)];rfl
  have e3:a.eval (.tmp 3)=.pointer (some ⟨g1,0,none⟩):=by
   show a.tmps.getD 3 undef=_
   rw [Array.getD_eq_getD_getElem?,hold 3 (by decide +kernel)];rfl
  have ec:∀ v,a.eval (.const v)=v:=fun _=>rfl
  clear hold hs
  rcases (show jo=0 ∨ jo=1 ∨ jo=2 ∨ jo=3 ∨ jo=4 ∨ jo=5 ∨ jo=6 ∨ jo=7 ∨ jo=8 ∨ jo=9 ∨ jo=10 ∨ jo=11 ∨ jo=12 ∨ jo=13 by omega) with rfl|rfl|rfl|rfl|rfl|rfl|rfl|rfl|rfl|rfl|rfl|rfl|rfl|rfl
  all_goals (have ho2:=ho;simp only [List.getElem?_toArray,zD,zE,Option.some.injEq] at ho2;subst ho2)
  ·refine growA_val (I:=(SI B (⟨xi,xm,xk,xu,⟨xa,xn,xs⟩⟩:Co) (⟨yi,ym,yk,yu,⟨ya,yn,ys⟩⟩:Co))) (X:=(fun _ _ _=>True)) (d:=fd) (a:=a) (w:=w1) (.pointer (some ⟨g,0,none⟩)) w1 ho rfl ?_ ((fun u=>Below.refl B u) w1) (SI.put hI (by decide) (by decide) (by decide)) trivial rfl
   unfold execOp;simp only [zA,zB,zC,e2,ec];first|rfl|(go_simp;done)|(go_simp;rfl)|(go_simp;omega)
  ·have d0:a.eval (.tmp 9)=.pointer (some ⟨g,0,none⟩):=hdep ⟨0,.data⟩ (by simp) rfl
   refine growA_val (I:=(SI B (⟨xi,xm,xk,xu,⟨xa,xn,xs⟩⟩:Co) (⟨yi,ym,yk,yu,⟨ya,yn,ys⟩⟩:Co))) (X:=(fun _ _ _=>True)) (d:=fd) (a:=a) (w:=w1) (.slice (some ⟨b1,o1,none⟩) la.length c1) w1 ho rfl ?_ ((fun u=>Below.refl B u) w1) (SI.put hI (by decide) (by decide) (by decide)) trivial rfl
   unfold execOp;simp only [zA,zB,zC,d0,ec];first|rfl|(go_simp;done)|(go_simp;rfl)|(go_simp;omega)
  ·refine growA_val (I:=(SI B (⟨xi,xm,xk,xu,⟨xa,xn,xs⟩⟩:Co) (⟨yi,ym,yk,yu,⟨ya,yn,ys⟩⟩:Co))) (X:=(fun _ _ _=>True)) (d:=fd) (a:=a) (w:=w1) (.int .i64 (i:Nat)) w1 ho rfl ?_ ((fun u=>Below.refl B u) w1) (SI.put hI (by decide) (by decide) (by decide)) trivial rfl
   unfold execOp;simp only [zA,zB,zC,e0,ec];first|rfl|(go_simp;done)|(go_simp;rfl)|(go_simp;omega)
  ·have d0:a.eval (.tmp 10)=.slice (some ⟨b1,o1,none⟩) la.length c1:=hdep ⟨1,.data⟩ (by simp) rfl
   have d1:a.eval (.tmp 11)=.int .i64 (i:Nat):=hdep ⟨2,.data⟩ (by simp) rfl
   refine growA_val (I:=(SI B (⟨xi,xm,xk,xu,⟨xa,xn,xs⟩⟩:Co) (⟨yi,ym,yk,yu,⟨ya,yn,ys⟩⟩:Co))) (X:=(fun _ _ _=>True)) (d:=fd) (a:=a) (w:=w1) (.pointer (some ⟨b1,o1+i * 7,none⟩)) w1 ho rfl ?_ ((fun u=>Below.refl B u) w1) (SI.put hI (by decide) (by decide) (by decide)) trivial rfl
   unfold execOp;simp only [zA,zB,zC,d0,d1,ec];first|rfl|(go_simp;done)|(go_simp;rfl)|(go_simp;omega)
  ·have d0:a.eval (.tmp 12)=.pointer (some ⟨b1,o1+i * 7,none⟩):=hdep ⟨3,.data⟩ (by simp) rfl
   refine growA_val (I:=(SI B (⟨xi,xm,xk,xu,⟨xa,xn,xs⟩⟩:Co) (⟨yi,ym,yk,yu,⟨ya,yn,ys⟩⟩:Co))) (X:=(fun _ _ _=>True)) (d:=fd) (a:=a) (w:=w1) (.agg #[.int .i64 xi,.string xm,.int .i64 xk,.bool xu,.bool xa,.int .i64 xn,.string xs]) w1 ho rfl ?_ ((fun u=>Below.refl B u) w1) (SI.put hI (by decide) (by decide) (by decide)) trivial rfl
   unfold execOp;simp only [zA,zB,zC,d0,ec];first|rfl|(go_simp;done)|(go_simp;rfl)|(go_simp;omega)
  ·refine growA_val (I:=(SI B (⟨xi,xm,xk,xu,⟨xa,xn,xs⟩⟩:Co) (⟨yi,ym,yk,yu,⟨ya,yn,ys⟩⟩:Co))) (X:=(fun _ _ _=>True)) (d:=fd) (a:=a) (w:=w1) (.pointer (some ⟨g1,0,none⟩)) w1 ho rfl ?_ ((fun u=>Below.refl B u) w1) (SI.put hI (by decide) (by decide) (by decide)) trivial rfl
   unfold execOp;simp only [zA,zB,zC,e3,ec];first|rfl|(go_simp;done)|(go_simp;rfl)|(go_simp;omega)
  ·have d0:a.eval (.tmp 14)=.pointer (some ⟨g1,0,none⟩):=hdep ⟨5,.data⟩ (by simp) rfl
   refine growA_val (I:=(SI B (⟨xi,xm,xk,xu,⟨xa,xn,xs⟩⟩:Co) (⟨yi,ym,yk,yu,⟨ya,yn,ys⟩⟩:Co))) (X:=(fun _ _ _=>True)) (d:=fd) (a:=a) (w:=w1) (.slice (some ⟨b2,o2,none⟩) lb.length c2) w1 ho rfl ?_ ((fun u=>Below.refl B u) w1) (SI.put hI (by decide) (by decide) (by decide)) trivial rfl
   unfold execOp;simp only [zA,zB,zC,d0,ec];first|rfl|(go_simp;done)|(go_simp;rfl)|(go_simp;omega)
  ·refine growA_val (I:=(SI B (⟨xi,xm,xk,xu,⟨xa,xn,xs⟩⟩:Co) (⟨yi,ym,yk,yu,⟨ya,yn,ys⟩⟩:Co))) (X:=(fun _ _ _=>True)) (d:=fd) (a:=a) (w:=w1) (.int .i64 (j:Nat)) w1 ho rfl ?_ ((fun u=>Below.refl B u) w1) (SI.put hI (by decide) (by decide) (by decide)) trivial rfl
   unfold execOp;simp only [zA,zB,zC,e1,ec];first|rfl|(go_simp;done)|(go_simp;rfl)|(go_simp;omega)
  ·have d0:a.eval (.tmp 15)=.slice (some ⟨b2,o2,none⟩) lb.length c2:=hdep ⟨6,.data⟩ (by simp) rfl
   have d1:a.eval (.tmp 16)=.int .i64 (j:Nat):=hdep ⟨7,.data⟩ (by simp) rfl
   refine growA_val (I:=(SI B (⟨xi,xm,xk,xu,⟨xa,xn,xs⟩⟩:Co) (⟨yi,ym,yk,yu,⟨ya,yn,ys⟩⟩:Co))) (X:=(fun _ _ _=>True)) (d:=fd) (a:=a) (w:=w1) (.pointer (some ⟨b2,o2+j * 7,none⟩)) w1 ho rfl ?_ ((fun u=>Below.refl B u) w1) (SI.put hI (by decide) (by decide) (by decide)) trivial rfl
   unfold execOp;simp only [zA,zB,zC,d0,d1,ec];first|rfl|(go_simp;done)|(go_simp;rfl)|(go_simp;omega)
  ·have d0:a.eval (.tmp 17)=.pointer (some ⟨b2,o2+j * 7,none⟩):=hdep ⟨8,.data⟩ (by simp) rfl
   refine growA_val (I:=(SI B (⟨xi,xm,xk,xu,⟨xa,xn,xs⟩⟩:Co) (⟨yi,ym,yk,yu,⟨ya,yn,ys⟩⟩:Co))) (X:=(fun _ _ _=>True)) (d:=fd) (a:=a) (w:=w1) (.agg #[.int .i64 yi,.string ym,.int .i64 yk,.bool yu,.bool ya,.int .i64 yn,.string ys]) w1 ho rfl ?_ ((fun u=>Below.refl B u) w1) (SI.put hI (by decide) (by decide) (by decide)) trivial rfl
   unfold execOp;simp only [zA,zB,zC,d0,ec];first|rfl|(go_simp;done)|(go_simp;rfl)|(go_simp;omega)
  ·refine growA_val (I:=(SI B (⟨xi,xm,xk,xu,⟨xa,xn,xs⟩⟩:Co) (⟨yi,ym,yk,yu,⟨ya,yn,ys⟩⟩:Co))) (X:=(fun _ _ _=>True)) (d:=fd) (a:=a) (w:=w1) (.pointer (some ⟨w1.heap.size,0,none⟩)) (w1.alloc (.cells (coc coZ).toArray 63)) ho rfl ?_ ((Below.refl B w1).alloc hI.bz _) (hI.new7 hfd) trivial trivial
   unfold execOp
   go_simp
   first|done|rfl
  ·refine growA_val (I:=(SI B (⟨xi,xm,xk,xu,⟨xa,xn,xs⟩⟩:Co) (⟨yi,ym,yk,yu,⟨ya,yn,ys⟩⟩:Co))) (X:=(fun _ _ _=>True)) (d:=fd) (a:=a) (w:=w1) (.pointer (some ⟨w1.heap.size,0,none⟩)) (w1.alloc (.cells (coc coZ).toArray 63)) ho rfl ?_ ((Below.refl B w1).alloc hI.bz _) (hI.new8 hfd) trivial trivial
   unfold execOp
   go_simp
   first|done|rfl
  ·have h10:fd 10=true:=hdd ⟨10,.data⟩ (by simp) rfl
   obtain⟨p,hp,hpB,hpb⟩:=hI.a7 h10
   have d1:a.eval (.tmp 7)=.pointer (some ⟨p,0,none⟩):=hp
   have d2:a.eval (.tmp 13)=.agg #[.int .i64 xi,.string xm,.int .i64 xk,.bool xu,.bool xa,.int .i64 xn,.string xs]:=hdep ⟨4,.data⟩ (by simp) rfl
   have f0:=hpb.frozen 0
   have f1:=hpb.frozen 1
   have f2:=hpb.frozen 2
   have f3:=hpb.frozen 3
   have f4:=hpb.frozen 4
   have f5:=hpb.frozen 5
   have f6:=hpb.frozen 6
   have g0:=hpb.cell 0
   have g1':=hpb.cell 1
   have g2:=hpb.cell 2
   have g3:=hpb.cell 3
   have g4:=hpb.cell 4
   have g5:=hpb.cell 5
   have g6:=hpb.cell 6
   rw [hfd] at g0 g1' g2 g3 g4 g5 g6
   simp only [cond_false,coc,coZ,zD,zE] at g0 g1' g2 g3 g4 g5 g6
   refine growA_skip (I:=(SI B (⟨xi,xm,xk,xu,⟨xa,xn,xs⟩⟩:Co) (⟨yi,ym,yk,yu,⟨ya,yn,ys⟩⟩:Co))) (X:=(fun _ _ _=>True)) (d:=fd) (a:=a) (w:=w1) (put7W w1 p 0 (⟨xi,xm,xk,xu,⟨xa,xn,xs⟩⟩:Co)) ho rfl rfl ?_ (below7W hpB _) (hI.st7 h10 hp) trivial trivial
   unfold execOp put7W
   simp only [d1,d2,ec]
   go_simp
  ·have h10:fd 11=true:=hdd ⟨11,.data⟩ (by simp) rfl
   obtain⟨p,hp,hpB,hpb⟩:=hI.a8 h10
   have d1:a.eval (.tmp 8)=.pointer (some ⟨p,0,none⟩):=hp
   have d2:a.eval (.tmp 18)=.agg #[.int .i64 yi,.string ym,.int .i64 yk,.bool yu,.bool ya,.int .i64 yn,.string ys]:=hdep ⟨9,.data⟩ (by simp) rfl
   have f0:=hpb.frozen 0
   have f1:=hpb.frozen 1
   have f2:=hpb.frozen 2
   have f3:=hpb.frozen 3
   have f4:=hpb.frozen 4
   have f5:=hpb.frozen 5
   have f6:=hpb.frozen 6
   have g0:=hpb.cell 0
   have g1':=hpb.cell 1
   have g2:=hpb.cell 2
   have g3:=hpb.cell 3
   have g4:=hpb.cell 4
   have g5:=hpb.cell 5
   have g6:=hpb.cell 6
   rw [hfd] at g0 g1' g2 g3 g4 g5 g6
   simp only [cond_false,coc,coZ,zD,zE] at g0 g1' g2 g3 g4 g5 g6
   refine growA_skip (I:=(SI B (⟨xi,xm,xk,xu,⟨xa,xn,xs⟩⟩:Co) (⟨yi,ym,yk,yu,⟨ya,yn,ys⟩⟩:Co))) (X:=(fun _ _ _=>True)) (d:=fd) (a:=a) (w:=w1) (put7W w1 p 0 (⟨yi,ym,yk,yu,⟨ya,yn,ys⟩⟩:Co)) ho rfl rfl ?_ (below7W hpB _) (hI.st8 h10 hp) trivial trivial
   unfold execOp put7W
   simp only [d1,d2,ec]
   go_simp
 ·intro a w1 hI hb hj
  obtain⟨p,h7,hp1,hp⟩:=hI.a7 (by decide)
  obtain⟨q,h8,hq1,hq⟩:=hI.a8 (by decide)
  exact⟨p,q,h7,h8,hp,hq,(Below.refl B w).drew.trans hb⟩
 rintro ts W ⟨p,q,h7,h8,hp,hq,hb⟩
 simp only [fill,List.setIfInBounds_toArray,List.set_cons_succ,List.set_cons_zero]
 rw [h7,h8]
 clear h7 h8 p0 p1 p2 p3 p4 p5 p6 q0 q1 q2 q3 q4 q5 q6 s0 s1
 obtain⟨p0,p1,p2,p3,p4,p5,p6⟩:=col_blk hp
 obtain⟨q0,q1,q2,q3,q4,q5,q6⟩:=col_blk hq
 rw [← hB] at hb
 have HB:=hZ hb
 clear hb hp hq hB
 have e1:=HE1.out
 have e2:=HE2.out
 have e3:=HE3.out
 clear HE1 HE2 HE3
 cases bn with
 | false =>
  clear e2 e3
  go_wp2_with fail
  go_ret
  exact⟨rfl,HB.out⟩
 | true =>
  cases bd with
  | false =>
   clear e3
   go_wp2_with fail
   go_ret
   exact⟨rfl,HB.out⟩
  | true =>
   cases bt with
   | true =>
    go_wp2_with fail
    go_ret
    exact⟨rfl,HB.out⟩
   | false =>
    go_wp2_with fail
    ((with_reducible refine (HW.out _).mono ?_);rintro e W2 ⟨rfl,b2⟩)
    have HB2:=hZ (up HB.out b2)
    clear b2
    go_wp2_with fail
    go_ret
    exact⟨by simp,HB2.out⟩
attribute [local go_sem] Oper.semAt_some
structure FW2 (w:World) (va ka vb kb:Value) (h:Int) (res:Bool) (W:World):Prop where
 sa:Blk W w.heap.size 25 [va,ka]
 sb:Blk W (w.heap.size+1) 25 [vb,kb]
 sh:Blk W (w.heap.size+2) 3 [.int .i64 h]
 rs:Blk W (w.heap.size+3) 4 [.bool res]
 fn:Blk W (w.heap.size+4) 125 [.func (.func 86) #[] #[.pointer (some ⟨w.heap.size,0,none⟩),.pointer (some ⟨w.heap.size+1,0,none⟩)]]
 b:Below w.heap.size w W
 z:w.heap.size+6≤W.heap.size
theorem FW2.later {w W W':World} {va ka vb kb:Value} {h:Int} {res:Bool} (x:FW2 w va ka vb kb h res W) (hb:Below W.heap.size W W'):FW2 w va ka vb kb h res W' :=
 ⟨x.sa.later hb,x.sb.later hb,x.sh.later hb,x.rs.later hb,x.fn.later hb,up x.b hb,Nat.le_trans x.z hb.size⟩
theorem FW2.still {w W W':World} {va ka vb kb:Value} {h:Int} {res:Bool} {row:Option Nat} {B:Nat} (x:FW2 w va ka vb kb h res W) (hg:W.grownBy W' row) (hr:∀ r,row=some r→B≤r∧∃ o:Obj,W.heap[r]?=some o∧o.isCells=false) (hB:w.heap.size≤B):FW2 w va ka vb kb h res W':=by
 have hn:NoCells W row:=fun r e=>(hr r e).2
 exact⟨x.sa.still hg hn,x.sb.still hg hn,x.sh.still hg hn,x.rs.still hg hn,x.fn.still hg hn,x.b.grown hg x.b.size (fun g e=>Nat.le_trans hB (hr g e).1),Nat.le_trans x.z hg.size⟩
theorem FW2.put {w W:World} {va ka vb kb:Value} {h:Int} {res:Bool} (x:FW2 w va ka vb kb h res W) (r:Bool):FW2 w va ka vb kb h r (W.setCell ⟨w.heap.size+3,0,none⟩ (.bool r)) :=
 ⟨x.sa.far (by simp only;omega) _,x.sb.far (by simp only;omega) _,x.sh.far (by simp only;omega) _,Blk.put x.rs 0 _,x.fn.far (by simp only;omega) _,x.b.setCell (by simp only;omega) _,by have:=x.z;simp;omega⟩
theorem run_loadOneB (w:World) (g:Nat) (T t:TypeId) (v:Value) (ha:∀ w,(isAgg T).run Tryz.prog w=.ok false w) (hg:w.heap[g]?=some (.cells #[v] t (0,0))):(loadVar T ⟨g,0,none⟩).run Tryz.prog w=.ok v w:=by
 have hc:w.cell? ⟨g,0,none⟩=some v:=by simp [World.cell?,hg]
 simp [loadVar,Sem.run_bind,ha,hc,go_sem]
theorem retB {fn:Func} {p:Tmp} (h:fn.results=#[.cell p 4]) (tmps:Array Value) (w:World) (g:Nat) (b:Bool) (hp:tmps.getD p undef=.pointer (some ⟨g,0,none⟩)) (hg:w.heap[g]?=some (.cells #[.bool b] 4 (0,0))):(results fn tmps).run Tryz.prog w=.ok (.bool b) w:=by
 have hp':tmps[p]?.getD undef=.pointer (some ⟨g,0,none⟩):=by simpa using hp
 simp [results,h,hp',asAddr,run_loadOneB w g 4 4 _ Tryz.isAgg4 hg]
theorem cMayFollow (xa xb:Sx) (hN:SmOk xa.s) (hM:SmOk xb.s) (hh:Int) (w:World) (ha:RdS w w.heap.size xa) (hb:RdS w w.heap.size xb) (r0:Bool) (hr0:Ev.fol xa.s xb.s hh=r0) :
 Calls Tryz.prog 72 #[.agg #[xa.v,xa.kv],.agg #[xb.v,xb.kv],.int .i64 hh] w fun e w'=>e=.returned (.bool r0)∧Below w.heap.size w w':=by
 have CKA:=hZ (fun w1 (hb1:Below w.heap.size w w1)=>cKeyIds xa hN w1 (ha.later hb1))
 have CKB:=hZ (fun w1 (hb1:Below w.heap.size w w1)=>cKeyIds xb hM w1 (hb.later hb1))
 obtain⟨a1,c1,a2,c2,⟨la,ka⟩⟩:=xa
 obtain⟨a3,c3,a4,c4,⟨lb,kb⟩⟩:=xb
 unfold Sx.v Sx.kv at *
 obtain⟨hka,hia⟩:=ha
 obtain⟨hkb,hib⟩:=hb
 unfold Sx.v at hka hkb
 unfold Sx.kv at hia hib
 have hna:=hN.n
 have hnb:=hM.n
 simp only at hka hia hkb hib hna hnb hr0 CKA CKB ⊢
 obtain⟨r,hr⟩:∃ r,decide (Ev.kid (la,ka)=Ev.kid (lb,kb))=r:=⟨_,rfl⟩
 have HKA:=hZ (fun w1 hb1=>CKA.out w1 hb1)
 have HKB:=hZ (fun w1 hb1=>CKB.out w1 hb1)
 have HEQ:=hZ (fun w1 v0 v1 (h0:OwnI w1 (w.heap.size+6) v0 (Ev.kid (la,ka))) (h1:OwnI w1 (w.heap.size+6) v1 (Ev.kid (lb,kb)))=>cEqInts v0 v1 _ _ w1 (RdI.of h0) (RdI.of h1) r (by rw [← hr,decide_eq_true_eq]))
 have HR0:Hid (((lb.all (Ev.goAt la hh)) && r)=r0):=hZ (by rw [← hr0,← hr];rfl)
 clear CKA CKB hr hr0
 obtain⟨wa,hwa⟩:∃ wa,wa=((((w.alloc (.cells #[.slice a1 la.length c1,.slice a2 ka.length c2] 25)).alloc (.cells #[.slice a3 lb.length c3,.slice a4 kb.length c4] 25)).alloc (.cells #[.int .i64 hh] 3)).alloc (.cells #[.bool false] 4)).alloc (.cells #[.func (.func 86) #[] #[.pointer (some ⟨w.heap.size,0,none⟩),.pointer (some ⟨w.heap.size+1,0,none⟩)]] 125):=⟨_,rfl⟩
 obtain⟨wb,hwb⟩:∃ wb,wb=wa.alloc (.cells #[.slice a3 lb.length c3,.slice a4 kb.length c4] 25):=⟨_,rfl⟩
 have hsa:wa.heap.size=w.heap.size+5:=by rw [hwa];simp
 have hsb:wb.heap.size=w.heap.size+6:=by rw [hwb];simp [hsa]
 have B1:Below w.heap.size w wa:=by rw [hwa];exact up_box (up_box (up_box (up_box (box_new _ _) _) _) _) _
 have B2:Below w.heap.size w wb:=by rw [hwb];exact up_box B1 _
 have hab:Below wa.heap.size wa wb:=by rw [hwb];exact box_new _ _
 have R:∀ (W:World) (t:TypeId) (cs:Array Value) (n:Nat),W.heap.size=n→Blk (W.alloc (.cells cs t)) n t cs.toList:=fun W t cs n e=>by subst e;exact Blk.new W t cs
 have HF0:FW2 w (.slice a1 la.length c1) (.slice a2 ka.length c2) (.slice a3 lb.length c3) (.slice a4 kb.length c4) hh false wb:=by
  refine⟨Blk.later ?_ hab,Blk.later ?_ hab,Blk.later ?_ hab,Blk.later ?_ hab,Blk.later ?_ hab,B2,by omega⟩<;>rw [hwa]
  ·exact ((((R w _ _ _ rfl).later (box_new _ _)).later (box_new _ _)).later (box_new _ _)).later (box_new _ _)
  ·exact (((R _ _ _ _ (by simp)).later (box_new _ _)).later (box_new _ _)).later (box_new _ _)
  ·exact ((R _ _ _ _ (by simp)).later (box_new _ _)).later (box_new _ _)
  ·exact (R _ _ _ _ (by simp)).later (box_new _ _)
  ·exact R _ _ _ _ (by simp)
 have hg2:wb.cell? ⟨w.heap.size+5,0,none⟩=some (.slice a3 lb.length c3):=by
  have:=(Blk.new wa 25 #[.slice a3 lb.length c3,.slice a4 kb.length c4]).cell 0
  rw [hsa] at this
  rw [hwb]
  exact this
 have HST:=hZ (ids_stops 7 (w.heap.size+5) w.heap.size (by omega) a3 c3 lb hnb wb (by omega) (by omega) hg2 (Gn.Rd.below hkb B2 (Nat.le_refl _)))
 have CP:=hZ (ids_new (.slice a3 lb.length c3) (.slice a4 kb.length c4) wa)
 rw [hsa] at CP
 have HF:=hZ HF0
 have HA:=hZ hka
 have HB:=hZ hkb
 have HSB:=hZ hsb
 clear hka hkb hia hib B1 B2 hab R HF0 hg2 hsa hsb hN hM
 refine (callsIn_wide (n:=8)).1 ?_
 refine callsIn_of_wp_marks Tryz.func72 rfl trivial ?_ rfl
 simp only [Tryz.ntmps72,List.size_toArray,List.length_cons,List.length_nil,Nat.reduceAdd,Nat.reduceSub,Array.replicate_succ,Array.replicate_zero,List.push_toArray,List.append_toArray,List.nil_append,List.cons_append]
 gi_wp2_with fail
 rw [← hwa]
 refine⟨trivial,(callsIn_wide.2 CP.out).mono ?_⟩
 rintro e w2 ⟨rfl,hw2⟩
 rw [← hwb] at hw2
 subst hw2
 clear CP hwb hwa
 gi_wp2_with fail
 refine wpIn_rangeFunc_ownG rfl (by omega) (gf:=85) (lb:=#[.pointer (some ⟨w.heap.size+5,0,none⟩)]) rfl trivial (enters_of Tryz.func85 (by kernel_rfl) rfl)
  HST.out belowK_t (belowK_b (by have:=HSB.out;omega)) (Below.refl _ _) (fun _=>rfl)
  (fun pre W=>FW2 w (.slice a1 la.length c1) (.slice a2 ka.length c2) (.slice a3 lb.length c3) (.slice a4 kb.length c4) hh false W∧∀ x∈pre,Ev.goAt la hh x.1.2=true)
  (fun c pre W=>c=.ret∧FW2 w (.slice a1 la.length c1) (.slice a2 ka.length c2) (.slice a3 lb.length c3) (.slice a4 kb.length c4) hh false W∧∃ x∈pre,Ev.goAt la hh x.1.2=false) ?own ?ownx ?start ?a1 ?assign ?body ?done ?stop
 case assign =>
  intro l x W K hK
  dsimp only [enci]
  gi_wp2
  exact hK
 case own =>
  rintro pre W W' row ⟨h,h2⟩ hg hr
  exact⟨h.still hg hr (by have:=HSB.out;omega),h2⟩
 case ownx =>
  rintro c pre W W' row ⟨rfl,h,h2⟩ hg hr
  exact⟨rfl,h.still hg hr (by have:=HSB.out;omega),h2⟩
 case start=>exact⟨HF.out,fun x hx=>by cases hx⟩
 case body =>
  rintro ll pre x W ⟨hf,hgo⟩ hlen
  obtain⟨⟨i,c⟩,hx⟩:=x
  simp only at hx
  obtain⟨n,y,hfd⟩:∃ n y,Ev.fid la c.id=(n,y):=⟨_,_,rfl⟩
  have HP:=hZ hf
  have HPL:=hZ (cPlace (.slice a1 la.length c1) (.slice a2 ka.length c2) la c.id W (HA.out.later hf.b) hna n y hfd)
  have HGO:=hZ hgo
  have d0:=hf.sa.cell 0
  have d1:=hf.sa.cell 1
  simp only [zD,zE] at d0 d1
  clear hgo hlen hf
  gi_wp2_with fail
  refine⟨trivial,(CallsIn.inRound ll (callsIn_wide.2 HPL.out)).mono ?_⟩
  rintro e W1 ⟨rfl,hb1⟩
  have HG:=hZ ((Go2.refl w.heap.size w2.heap.size W).below (by have:=HP.out.z;omega) hb1)
  have HP1:=hZ (HP.out.later hb1)
  clear HPL d0 d1 hb1 HP
  have d0:=HP1.out.fn.cell 0
  have d2:=HP1.out.sh.cell 0
  have d3:=HP1.out.rs.cell 0
  have d4:=HP1.out.rs.frozen 0
  simp only [zD,zE] at d0 d2 d3
  have HALL:Hid (Ev.goAt la hh c=true→∀ x∈pre++[(⟨(i,c),hx⟩:IA lb)],Ev.goAt la hh x.1.2=true):=hZ (fun h z hz=>by
   rcases List.mem_append.1 hz with hz|hz
   ·exact HGO.out z hz
   ·have:z=⟨(i,c),hx⟩:=by simpa using hz
    rw [this];exact h)
  have HNO:Hid (Ev.goAt la hh c=false→∃ x∈pre++[(⟨(i,c),hx⟩:IA lb)],Ev.goAt la hh x.1.2=false):=hZ (fun h=>⟨⟨(i,c),hx⟩,by simp,h⟩)
  cases y with
  | true =>
   obtain⟨d,hd,hde⟩:=Ev.fid_some hfd
   have hge:Ev.goAt la hh c=Ev.stay d c:=by
    unfold Ev.goAt
    rw [hfd,if_pos rfl,Ev.getD_at hd]
   rw [hge] at HALL HNO
   have HCS:=hZ (cStay w.heap.size (w.heap.size+1) (.slice a1 la.length c1) (.slice a2 ka.length c2) (.slice a3 lb.length c3) (.slice a4 kb.length c4) la lb n i d c W1 HP1.out.sa HP1.out.sb (HA.out.later HP1.out.b) (HB.out.later HP1.out.b) hd hx)
   clear hd hde hge hfd HGO
   generalize Ev.stay d c=s at *
   gi_wp2_with fail
   refine⟨trivial,(CallsIn.inRound ll (callsIn_wide.2 HCS.out)).mono ?_⟩
   rintro e W3 ⟨rfl,hb3⟩
   have HG3:=hZ (HG.out.below (by have:=HP1.out.z;omega) hb3)
   have HP3:=hZ (HP1.out.later hb3)
   clear hb3 HG HP1 HCS d0 d2 d3 d4
   have d3:=HP3.out.rs.cell 0
   have d4:=HP3.out.rs.frozen 0
   simp only [zD,zE] at d3
   cases s with
   | true =>
    gi_wp2_with fail
    exact⟨HG3.out.kf,HG3.out.blw,HP3.out,HALL.out (by simp)⟩
   | false =>
    gi_wp2_with fail
    exact⟨(HG3.out.set (p:=⟨w.heap.size+3,0,none⟩) (by simp only;omega) _).kf,rfl,HP3.out.put false,HNO.out (by simp)⟩
  | false =>
   have hge:Ev.goAt la hh c=decide (hh < c.id):=by
    unfold Ev.goAt
    rw [hfd];rfl
   rw [hge] at HALL HNO
   clear hge hfd HGO
   by_cases hlt:hh < c.id
   ·have h1:¬ c.id≤hh:=by omega
    have HAL2:=hZ (HALL.out (decide_eq_true hlt))
    clear HALL HNO hlt
    gi_wp2_with fail
    refine⟨fun f hf=>(by cases hf),?_⟩
    gi_wp2_with fail
    exact⟨HG.out.kf,HG.out.blw,HP1.out,HAL2.out⟩
   ·have h1:c.id≤hh:=by omega
    have HNO2:=hZ (HNO.out (decide_eq_false hlt))
    clear HALL HNO hlt
    gi_wp2_with fail
    refine⟨fun f hf=>(by cases hf),?_⟩
    gi_wp2_with fail
    exact⟨(HG.out.set (p:=⟨w.heap.size+3,0,none⟩) (by simp only;omega) _).kf,rfl,HP1.out.put false,HNO2.out⟩
 case done =>
  rintro D xs W hD hx ⟨hf,hgo⟩ hKD
  have hD6:w.heap.size+6≤D:=by have:=HSB.out;omega
  have HR1:Hid (r=r0):=hZ (by
   rw [← HR0.out]
   have e:=cl_of hx
   have:lb.all (Ev.goAt la hh)=true:=List.all_eq_true.2 fun c hc=>by
    rw [← e] at hc
    unfold cl at hc
    obtain⟨z,hz,rfl⟩:=List.mem_map.1 hc
    exact hgo z hz
   rw [this];rfl)
  have HSZ:=hZ hf.z
  have HRS:=hZ hf.rs
  have HWB:=hZ hf.b
  have HKD:=hZ hKD
  have d0:=hf.sa.cell 0
  have d1:=hf.sa.cell 1
  have d2:=hf.sb.cell 0
  have d3:=hf.sb.cell 1
  simp only [zD,zE] at d0 d1 d2 d3
  clear hx hgo hf hKD
  gi_wp2_with fail
  refine wpIn_wide.2 ?_
  refine region_growI_merge (fun u v=>Touch (fun q=>q=w.heap.size+3) u v) (fun d u=>∃ rb,Blk u (w.heap.size+3) 4 [.bool rb]∧(d 5=true→rb=r)) (fun _ _ _=>True) (fun u=>Touch.refl _ _) (fun _ _ _ h k=>h.trans k (fun _ h=>.inl h)) (kjI #[Spc.eq (.agg #[.slice a1 la.length c1,.slice a2 ka.length c2]),⟨fun v u=>OwnI u (w.heap.size+6) v (Ev.kid (la,ka)),fun _ _ _ h hb=>own_tch h hb (fun q hq e=>by have e:q=w.heap.size+3:=e;omega)⟩,Spc.eq (.agg #[.slice a3 lb.length c3,.slice a4 kb.length c4]),⟨fun v u=>OwnI u (w.heap.size+6) v (Ev.kid (lb,kb)),fun _ _ _ h hb=>own_tch h hb (fun q hq e=>by have e:q=w.heap.size+3:=e;omega)⟩,Spc.eq (.bool r),Spc.any]) [40,41,42,43,44] (fun ts u=>Blk u (w.heap.size+3) 4 [.bool r]∧Touch (fun q=>q=w.heap.size+3) W.drew u) (by kernel_rfl) (by kernel_rfl) (by kernel_rfl) kjI_later ⟨_,HRS.out,fun e=>(by cases e)⟩ ?_ ?_ ?_
  ·intro QQ fd jo o a w1 ho hfd hdd hI hb hs hold hdep
   have hjo:jo < 6:=(Array.getElem?_eq_some_iff.1 ho).1
   skip
   have hbw:Below w.heap.size w w1:=by
    refine⟨hb.os.trans HWB.out.os,hb.tape.trans HWB.out.tape,hb.output.trans HWB.out.output,Nat.le_trans HWB.out.size hb.size,fun k hk=>?_⟩
    exact (hb.block k (by have:=HWB.out.size;show k < W.heap.size;omega) (by omega)).trans (HWB.out.block k hk)
   have hsz:w.heap.size+6≤w1.heap.size:=by have h3:W.heap.size≤w1.heap.size:=hb.size;have h2:=HSZ.out;omega
   have d0':w1.cell? ⟨w.heap.size,0,none⟩=some (.slice a1 la.length c1):=(hb.cell (p:=⟨w.heap.size,0,none⟩) (cell_lt d0) (by simp only;omega)).trans d0
   have d1':w1.cell? ⟨w.heap.size,1,none⟩=some (.slice a2 ka.length c2):=(hb.cell (p:=⟨w.heap.size,1,none⟩) (cell_lt d1) (by simp only;omega)).trans d1
   have d2':w1.cell? ⟨w.heap.size+1,0,none⟩=some (.slice a3 lb.length c3):=(hb.cell (p:=⟨w.heap.size+1,0,none⟩) (cell_lt d2) (by simp only;omega)).trans d2
   have d3':w1.cell? ⟨w.heap.size+1,1,none⟩=some (.slice a4 kb.length c4):=(hb.cell (p:=⟨w.heap.size+1,1,none⟩) (cell_lt d3) (by simp only;omega)).trans d3
   clear d0 d1 d2 d3
   have e3:a.eval (.tmp 3)=.pointer (some ⟨w.heap.size,0,none⟩):=by
    show a.tmps.getD 3 undef=_
    rw [Array.getD_eq_getD_getElem?,hold 3 (by decide +kernel)];rfl
   have e4:a.eval (.tmp 4)=.pointer (some ⟨w.heap.size+1,0,none⟩):=by
    show a.tmps.getD 4 undef=_
    rw [Array.getD_eq_getD_getElem?,hold 4 (by decide +kernel)];rfl
   have e6:a.eval (.tmp 6)=.pointer (some ⟨w.heap.size+3,0,none⟩):=by
    show a.tmps.getD 6 undef=_
    rw [Array.getD_eq_getD_getElem?,hold 6 (by decide +kernel)];rfl
   have ec:∀ v,a.eval (.const v)=v:=fun _=>rfl
   clear hold hs
   rcases (show jo=0 ∨ jo=1 ∨ jo=2 ∨ jo=3 ∨ jo=4 ∨ jo=5 by omega) with rfl|rfl|rfl|rfl|rfl|rfl
   all_goals (have ho2:=ho;simp only [List.getElem?_toArray,zD,zE,Option.some.injEq] at ho2;subst ho2)
   ·refine growI_val (I:=(fun d u=>∃ rb,Blk u (w.heap.size+3) 4 [.bool rb]∧(d 5=true→rb=r))) (X:=(fun _ _ _=>True)) (d:=fd) (a:=a) (w:=w1) (.agg #[.slice a1 la.length c1,.slice a2 ka.length c2]) w1 ho rfl ?_ ((fun u=>Touch.refl _ _) w1) (by obtain⟨rb,hrb,hrd⟩:=hI;exact⟨rb,hrb.later (Below.refl _ _),fun e=>hrd (by simpa [upd] using e)⟩) trivial rfl
    unfold execOp;simp only [zA,zB,zC,e3,ec];first|rfl|(go_simp;done)|(go_simp;rfl)|(go_simp;omega)
   ·have d0:a.eval (.tmp 40)=.agg #[.slice a1 la.length c1,.slice a2 ka.length c2]:=hdep ⟨0,.data⟩ (by simp) rfl
    refine growI_call (I:=(fun d u=>∃ rb,Blk u (w.heap.size+3) 4 [.bool rb]∧(d 5=true→rb=r))) (X:=(fun _ _ _=>True)) (d:=fd) (a:=a) (w:=w1) 89 #[.agg #[.slice a1 la.length c1,.slice a2 ka.length c2]] ho rfl ?_ ((HKA.out w1 hbw).mono ?_)
    ·unfold execOp resolve
     simp only [zA,zB,zC,d0,ec]
     rfl
    ·rintro e c1 ⟨x,rfl,hp,hb2⟩
     exact⟨_,rfl,(Gn.Own.lower hp hsz),(Touch.of_below hb2),(by obtain⟨rb,hrb,hrd⟩:=hI;exact⟨rb,hrb.later hb2,fun e=>hrd (by simpa [upd] using e)⟩),trivial⟩
   ·refine growI_val (I:=(fun d u=>∃ rb,Blk u (w.heap.size+3) 4 [.bool rb]∧(d 5=true→rb=r))) (X:=(fun _ _ _=>True)) (d:=fd) (a:=a) (w:=w1) (.agg #[.slice a3 lb.length c3,.slice a4 kb.length c4]) w1 ho rfl ?_ ((fun u=>Touch.refl _ _) w1) (by obtain⟨rb,hrb,hrd⟩:=hI;exact⟨rb,hrb.later (Below.refl _ _),fun e=>hrd (by simpa [upd] using e)⟩) trivial rfl
    unfold execOp;simp only [zA,zB,zC,e4,ec];first|rfl|(go_simp;done)|(go_simp;rfl)|(go_simp;omega)
   ·have d0:a.eval (.tmp 42)=.agg #[.slice a3 lb.length c3,.slice a4 kb.length c4]:=hdep ⟨2,.data⟩ (by simp) rfl
    refine growI_call (I:=(fun d u=>∃ rb,Blk u (w.heap.size+3) 4 [.bool rb]∧(d 5=true→rb=r))) (X:=(fun _ _ _=>True)) (d:=fd) (a:=a) (w:=w1) 89 #[.agg #[.slice a3 lb.length c3,.slice a4 kb.length c4]] ho rfl ?_ ((HKB.out w1 hbw).mono ?_)
    ·unfold execOp resolve
     simp only [zA,zB,zC,d0,ec]
     rfl
    ·rintro e c1 ⟨x,rfl,hp,hb2⟩
     exact⟨_,rfl,(Gn.Own.lower hp hsz),(Touch.of_below hb2),(by obtain⟨rb,hrb,hrd⟩:=hI;exact⟨rb,hrb.later hb2,fun e=>hrd (by simpa [upd] using e)⟩),trivial⟩
   ·obtain⟨v0,d0,f0⟩:∃ v,a.eval (.tmp 41)=v∧(fun v u=>OwnI u (w.heap.size+6) v (Ev.kid (la,ka))) v w1:=⟨_,rfl,hdep ⟨1,.data⟩ (by simp) rfl⟩
    obtain⟨v1,d1,f1⟩:∃ v,a.eval (.tmp 43)=v∧(fun v u=>OwnI u (w.heap.size+6) v (Ev.kid (lb,kb))) v w1:=⟨_,rfl,hdep ⟨3,.data⟩ (by simp) rfl⟩
    refine growI_call (I:=(fun d u=>∃ rb,Blk u (w.heap.size+3) 4 [.bool rb]∧(d 5=true→rb=r))) (X:=(fun _ _ _=>True)) (d:=fd) (a:=a) (w:=w1) 88 #[v0,v1] ho rfl ?_ ((HEQ.out w1 v0 v1 f0 f1).mono ?_)
    ·unfold execOp resolve
     simp only [zA,zB,zC,d0,d1,ec]
     rfl
    ·rintro e c1 ⟨rfl,hb2⟩
     exact⟨_,rfl,rfl,(Touch.of_below hb2),(by obtain⟨rb,hrb,hrd⟩:=hI;exact⟨rb,hrb.later hb2,fun e=>hrd (by simpa [upd] using e)⟩),trivial⟩
   ·have d1:a.eval (.tmp 44)=.bool r:=hdep ⟨4,.data⟩ (by simp) rfl
    obtain⟨rb,hrb,hrd⟩:=hI
    have q2:=hrb.cell 0
    have q3:=hrb.frozen 0
    simp only [zD,zE] at q2
    refine growI_skip (I:=(fun d u=>∃ rb,Blk u (w.heap.size+3) 4 [.bool rb]∧(d 5=true→rb=r))) (X:=(fun _ _ _=>True)) (d:=fd) (a:=a) (w:=w1) (w1.setCell ⟨w.heap.size+3,0,none⟩ (.bool r)) ho rfl rfl ?_ (Touch.setCell (S:=fun q=>q=w.heap.size+3) (p:=⟨w.heap.size+3,0,none⟩) (Touch.refl _ _) rfl _) ⟨r,Blk.put hrb 0 _,fun _=>rfl⟩ trivial trivial
    unfold execOp;simp only [e6,d1,ec]
    go_simp
  ·intro a w1 hI hb hj
   obtain⟨rb,h1,h2⟩:=hI
   rw [h2 (by decide)] at h1
   exact⟨h1,hb⟩
  rintro ts W5 ⟨hrb,ht⟩
  simp only [fill,List.setIfInBounds_toArray,List.set_cons_succ,List.set_cons_zero]
  have HRB:=hZ hrb
  have HDK:Hid (W5.heap[D]?=some (.deferred (some []))):=hZ ((ht.block D (Array.getElem?_eq_some_iff.1 HKD.out).1 (by omega)).trans HKD.out)
  have HBF:Hid (Below w.heap.size w W5):=hZ (HWB.out.trans (ht.undrew.below HWB.out.size (fun i hi=>by omega)))
  clear hrb ht d0 d1 d2 d3
  gi_wp2_with fail
  have hg:=grownBy_putObj' W5 D (.deferred none)
  have hn:NoCells W5 (some D):=fun r e=>by injection e with e;subst e;exact⟨_,HDK.out,rfl⟩
  refine⟨by simp,.inl ⟨_,_,rfl,run_takeDeferred HDK.out,?_⟩⟩
  refine⟨_,retB rfl _ _ (w.heap.size+3) r rfl (HRB.out.still hg hn),?_,?_⟩
  ·rw [HR1.out]
  ·exact HBF.out.grown hg HBF.out.size (fun g e=>by injection e with e;omega)
 case stop =>
  rintro D c pre W hD _ ⟨rfl,hf,x,hx,hgx⟩ hKD
  have hD6:w.heap.size+6≤D:=by have:=HSB.out;omega
  have HR1:Hid (false=r0):=hZ (by
   rw [← HR0.out]
   have:lb.all (Ev.goAt la hh)=false:=List.all_eq_false.2 ⟨x.1.2,List.mem_of_getElem? x.2,by rw [hgx];decide⟩
   rw [this];rfl)
  have HF2:=hZ hf
  clear hf hx hgx
  gi_wp2
  have hg:=grownBy_putObj' W D (.deferred none)
  have hn:NoCells W (some D):=fun r e=>by injection e with e;subst e;exact⟨_,hKD,rfl⟩
  refine⟨by simp,.inl ⟨_,_,rfl,run_takeDeferred hKD,?_⟩⟩
  refine⟨_,retB rfl _ _ (w.heap.size+3) false rfl (HF2.out.rs.still hg hn),?_,?_⟩
  ·rw [HR1.out]
  ·exact HF2.out.b.grown hg HF2.out.b.size (fun g e=>by injection e with e;omega)
attribute [local go_sem] Oper.semAt_some
def mark (D:Nat):Deferred:={ target:=.collected D,args:=#[] }
theorem leaves_marks {n:Nat} {fn:Func} {tmps:Array Value} {R:Ending→World→Prop} {B:Nat}:∀ (ds:List Nat) (W:World),ds.Nodup→(∀ D∈ds,B≤D∧W.heap[D]?=some (.deferred (some [])))→(∀ W',Below B W W'→LeavesInM Fence.wide n Tryz.prog fn tmps R [] .returning W')→LeavesInM Fence.wide n Tryz.prog fn tmps R (ds.map mark) .returning W
 | [],W,_,_,h=>h W (Below.refl _ _)
 | D::ds,W,hn,hd,h=>by
  obtain⟨hB,hK⟩:=hd D (by simp)
  obtain⟨hn1,hn2⟩:=List.nodup_cons.1 hn
  refine⟨by simp,.inl ⟨D,_,rfl,run_takeDeferred hK,?_⟩⟩
  have hg:=grownBy_putObj' W D (.deferred none)
  refine leaves_marks ds _ hn2 (fun D' hD'=>?_) (fun W' hb=>h W' (Below.trans ?_ hb))
  ·obtain⟨h1,h2⟩:=hd D' (List.mem_cons_of_mem _ hD')
   refine⟨h1,(hg.block D' (Array.getElem?_eq_some_iff.1 h2).1 (fun e=>?_)).trans h2⟩
   injection e with e
   subst e
   exact hn1 hD'
  ·exact⟨hg.os,hg.tape,hg.output,hg.size,fun k hk=>by
    rcases Nat.lt_or_ge k W.heap.size with h1|h1
    ·exact hg.block k h1 (fun e=>by injection e with e;omega)
    ·rw [Array.getElem?_eq_none h1,Array.getElem?_eq_none (by have:=hg.size;simpa [World.putObj] using h1)]⟩
def hiS (h:Int) {l:List Co} (xs:List (IA l)):Int:=xs.foldl (fun h x=>max h x.1.2.id) h
theorem hiS_snoc (h:Int) {l:List Co} (xs:List (IA l)) (x:IA l):hiS h (xs++[x])=max (hiS h xs) x.1.2.id:=by unfold hiS;rw [List.foldl_append];rfl
theorem hiS_all (h:Int) {l:List Co} {xs:List (IA l)} (hx:pl xs=List.range l.length):hiS h xs=Ev.hi h l:=by
 have e:=cl_of hx
 unfold Ev.hi hiS
 conv=>rhs;rw [← e]
 unfold cl
 rw [List.foldl_map]
structure HW (w:World) (h:Int) (ds:List Nat) (W:World):Prop where
 r:Blk W w.heap.size 3 [.int .i64 h]
 b:Below w.heap.size w W
 z:w.heap.size+1≤W.heap.size
 nd:ds.Nodup
 dm:∀ D∈ds,w.heap.size+1≤D∧W.heap[D]?=some (.deferred (some []))
theorem HW.later {w W W':World} {h:Int} {ds:List Nat} (x:HW w h ds W) (hb:Below W.heap.size W W'):HW w h ds W' :=
 ⟨x.r.later hb,up x.b hb,Nat.le_trans x.z hb.size,x.nd,fun D hD=>⟨(x.dm D hD).1,(hb.block D (Array.getElem?_eq_some_iff.1 (x.dm D hD).2).1).trans (x.dm D hD).2⟩⟩
theorem HW.still {w W W':World} {h:Int} {ds:List Nat} {row:Option Nat} {B:Nat} (x:HW w h ds W) (hg:W.grownBy W' row) (hr:∀ r,row=some r→B≤r∧∃ o:Obj,W.heap[r]?=some o∧o.isCells=false) (hB:w.heap.size≤B) (hd:∀ D∈ds,D < B):HW w h ds W':=by
 have hn:NoCells W row:=fun r e=>(hr r e).2
 refine⟨x.r.still hg hn,x.b.grown hg x.b.size (fun g e=>Nat.le_trans hB (hr g e).1),Nat.le_trans x.z hg.size,x.nd,fun D hD=>⟨(x.dm D hD).1,?_⟩⟩
 have:=(x.dm D hD).2
 exact (hg.block D (Array.getElem?_eq_some_iff.1 this).1 (fun e=>by have:=(hr D e.symm).1;have:=hd D hD;omega)).trans this
theorem HW.put {w W:World} {h:Int} {ds:List Nat} (x:HW w h ds W) (h':Int):HW w h' ds (W.setCell ⟨w.heap.size,0,none⟩ (.int .i64 h')):=by
 refine⟨Blk.put x.r 0 _,x.b.setCell (Nat.le_refl _) _,by have:=x.z;simp;omega,x.nd,fun D hD=>⟨(x.dm D hD).1,?_⟩⟩
 rw [heap_set_far W (p:=⟨w.heap.size,0,none⟩) _ (by have:=(x.dm D hD).1;simp only;omega)]
 exact (x.dm D hD).2
theorem HW.mark {w W:World} {h:Int} {ds:List Nat} {D:Nat} (x:HW w h ds W) (hD:W.heap[D]?=some (.deferred (some []))) (hB:w.heap.size+1≤D) (hn:∀ d∈ds,d < D):HW w h (D::ds) W :=
 ⟨x.r,x.b,x.z,List.nodup_cons.2 ⟨fun h=>by have:=hn D h;omega,x.nd⟩,fun d hd=>by
  rcases List.mem_cons.1 hd with rfl|hd
  ·exact⟨hB,hD⟩
  ·exact x.dm d hd⟩
theorem hiL_succ {L:List Sx} {k:Nat} {x:Sx} (h:L[k]?=some x):Ev.hiL ((sms L).take (k+1))=Ev.hi (Ev.hiL ((sms L).take k)) x.s.1:=by
 rw [List.take_add_one,sms_at h];exact Ev.hiL_snoc _ _
theorem cIsChain (v:Value) (L:List Sx) (hok:SmsOk L) (hln:L.length≤100) (w:World) (h:RdSm w w.heap.size v L) (b0:Bool) (hb0:Ev.isCh (sms L)=b0) :
 Calls Tryz.prog 47 #[v] w fun e w'=>e=.returned (.bool b0)∧Below w.heap.size w w':=by
 obtain⟨a,c,rfl,_⟩:=Gn.Rd.form h.rd
 have HR:=hZ h
 have HOK:=hZ hok
 have HB0:=hZ hb0
 have H0:Hid (HW w 0 [] (w.alloc (.cells #[.int .i64 0] 3))):=hZ ⟨Blk.new w 3 #[.int .i64 0],box_new _ _,by simp,List.nodup_nil,fun D hD=>by cases hD⟩
 clear h hok hb0
 refine (callsIn_wide (n:=9)).1 ?_
 refine callsIn_of_wp_marks Tryz.func47 rfl trivial ?_ rfl
 simp only [Tryz.ntmps47,List.size_toArray,List.length_cons,List.length_nil,Nat.reduceAdd,Nat.reduceSub,Array.replicate_succ,Array.replicate_zero,List.push_toArray,List.append_toArray,List.nil_append,List.cons_append]
 refine wpIn_wide.2 ?_
 go_wp2_with fail
 refine wp_loop (fun (A:Act) (W:World)=>∃ (k:Nat) (ds:List Nat) (u1 u2 u4 u5 u6 u7 u11 u12 u13 u14 u15 u16 u17 u18 u19 u20 u21 u22 u23 u24 u25 u26 u27 u28 u29 u30 u31 u32 u33 u34 u35:Value),A={ tmps:=#[.slice a L.length c,u1,u2,.pointer (some ⟨w.heap.size,0,none⟩),u4,u5,u6,u7,.slice a L.length c,.int .i64 (L.length:Nat),.int .i64 (k:Nat),u11,u12,u13,u14,u15,u16,u17,u18,u19,u20,u21,u22,u23,u24,u25,u26,u27,u28,u29,u30,u31,u32,u33,u34,u35],defers:=ds.map mark }∧k≤L.length∧Hid (HW w (Ev.hiL ((sms L).take k)) ds W)∧Hid (∀ i,i < k→Ev.folAt (sms L) i=true)) (fun A _=>L.length - (intOf (A.tmps.getD 10 undef)).toNat) ?_ ?_
 ·exact⟨0,[],_,_,_,_,_,_,_,_,_,_,_,_,_,_,_,_,_,_,_,_,_,_,_,_,_,_,_,_,_,_,_,rfl,Nat.zero_le _,H0,hZ (fun i hi=>by omega)⟩
 rintro A wr ⟨k,ds,u1,u2,u4,u5,u6,u7,u11,u12,u13,u14,u15,u16,u17,u18,u19,u20,u21,u22,u23,u24,u25,u26,u27,u28,u29,u30,u31,u32,u33,u34,u35,rfl,hk,HH,HE⟩
 clear H0
 dsimp only
 by_cases hlt:k < L.length
 ·have hlt1:(k:Int) < L.length:=by omega
  obtain⟨x,hx⟩:∃ x,L[k]?=some x:=⟨_,List.getElem?_eq_getElem hlt⟩
  obtain⟨sb,so,rfl,p0,p1⟩:=rdS_cells HR.out HH.out.b hx
  have HX:=hZ hx
  have HRX:=hZ (HR.out.el x (List.mem_of_getElem? hx))
  have HKX:=hZ (HOK.out x (List.mem_of_getElem? hx))
  have HV:=hZ (Blk.new wr 25 #[x.v,x.kv])
  have HH5:=hZ (HH.out.later (box_new wr (.cells #[x.v,x.kv] 25)))
  have HDS:Hid (∀ D∈ds,D < wr.heap.size):=hZ (fun D hD=>(Array.getElem?_eq_some_iff.1 (HH.out.dm D hD).2).1)
  have HZ:Hid (wr.heap.size+1=(wr.alloc (.cells #[x.v,x.kv] 25)).heap.size):=hZ (by simp)
  clear hx HH
  obtain⟨g5,hg5⟩:∃ g5,wr.heap.size=g5:=⟨_,rfl⟩
  have ex:x.v=.slice x.a1 x.s.1.length x.c1:=rfl
  have ek:x.kv=.slice x.a2 x.s.2.length x.c2:=rfl
  rw [ex] at p0
  rw [ek] at p1
  rw [ex,ek] at HV HH5 HZ
  clear ex ek
  go_upto_region 5 with fail
  simp only [hg5] at HV HZ HDS ⊢
  generalize wr.alloc (.cells #[.slice x.a1 x.s.1.length x.c1,.slice x.a2 x.s.2.length x.c2] 25)=wr5 at *
  clear hg5
  obtain⟨hh,hhh⟩:∃ hh,Ev.hiL ((sms L).take k)=hh:=⟨_,rfl⟩
  rw [hhh] at HH5
  have HHH:=hZ hhh
  clear hhh
  rcases Nat.eq_zero_or_pos k with rfl|hpos
  ·clear p0 p1
   refine region_growI_merge (fun u v:World=>Below u.heap.size u v) (fun _ _=>True) (fun _ _ _=>True) (fun u=>Below.refl _ _) (fun _ _ _ h k=>up h k) (kjI #[Spc.eq (.int .i64 (0:Nat)),Spc.eq (.bool false),Spc.eq (.bool false),Spc.eq undef,Spc.eq undef,Spc.eq undef,Spc.eq undef,Spc.eq undef,Spc.eq undef,Spc.eq undef,Spc.eq undef,Spc.eq undef,Spc.eq (.bool false)]) [15,16,17,18,19,20,21,22,23,24,25,26,27] (fun ts u=>ts.getD 27 undef=.bool false∧Below wr5.heap.size wr5 u) (by kernel_rfl) (by kernel_rfl) (by kernel_rfl) kjI_later trivial ?_ ?_ ?_
   ·intro QQ fd jo o a w1 ho hfd hdd hI hb hs hold hdep
    have hjo:jo < 13:=(Array.getElem?_eq_some_iff.1 ho).1
    have hb':Below wr5.heap.size wr5 w1:=up (Below.refl _ _).drew hb
    have e0:a.eval (.tmp 0)=.slice (some ⟨sb,so,none⟩) L.length c:=by
     show a.tmps.getD 0 undef=_
     rw [Array.getD_eq_getD_getElem?,hold 0 (by decide +kernel)];rfl
    have e3:a.eval (.tmp 3)=.pointer (some ⟨w.heap.size,0,none⟩):=by
     show a.tmps.getD 3 undef=_
     rw [Array.getD_eq_getD_getElem?,hold 3 (by decide +kernel)];rfl
    have e4:a.eval (.tmp 4)=.int .i64 (0:Nat):=by
     show a.tmps.getD 4 undef=_
     rw [Array.getD_eq_getD_getElem?,hold 4 (by decide +kernel)];rfl
    have e5:a.eval (.tmp 5)=.pointer (some ⟨g5,0,none⟩):=by
     show a.tmps.getD 5 undef=_
     rw [Array.getD_eq_getD_getElem?,hold 5 (by decide +kernel)];rfl
    have ec:∀ v,a.eval (.const v)=v:=fun _=>rfl
    clear hold hs
    rcases (show jo=0 ∨ jo=1 ∨ jo=2 ∨ jo=3 ∨ jo=4 ∨ jo=5 ∨ jo=6 ∨ jo=7 ∨ jo=8 ∨ jo=9 ∨ jo=10 ∨ jo=11 ∨ jo=12 by omega) with rfl|rfl|rfl|rfl|rfl|rfl|rfl|rfl|rfl|rfl|rfl|rfl|rfl
    all_goals (have ho2:=ho;simp only [List.getElem?_toArray,zD,zE,Option.some.injEq] at ho2;subst ho2)
    refine gvT fd (.int .i64 (0:Nat)) ho rfl ?_ rfl;rotate_left
    ·have d0:a.eval (.tmp 15)=.int .i64 (0:Nat):=hdep ⟨0,.data⟩ (by simp) rfl
     refine gvT fd (.bool false) ho rfl ?_ rfl
     unfold execOp;simp only [zA,zB,zC,d0,ec];first|(go_simp;done)|(go_simp;omega)|(go_simp;rfl)
    have d0:a.eval (.tmp 16)=.bool false:=hdep ⟨1,.data⟩ (by simp) rfl;refine gvT fd (.bool false) ho rfl ?_ rfl;rotate_left
    iterate 9 (have eg:a.tmps.getD 17 undef=.bool false:=hdep ⟨2,.guard⟩ (by simp) rfl;exact gnT fd ho (unwantedI rfl (yieldedI rfl eg) (by decide)) rfl)
    have d0:a.eval (.tmp 17)=.bool false:=hdep ⟨2,.data⟩ (by simp) rfl;have d1:a.eval (.tmp 26)=undef:=hdep ⟨11,.data⟩ (by simp) rfl;refine gvT fd (.bool false) ho rfl ?_ rfl;rotate_left
    all_goals (unfold execOp;first|(simp only [zA,zB,zC,d0,d1,ec];first|rfl|(go_simp;first|done|rfl|omega))|(simp only [zA,zB,zC,d0,ec];first|rfl|(go_simp;first|done|rfl|omega))|(simp only [zA,zB,zC,e4,ec];first|rfl|(go_simp;first|done|rfl|omega)))
   ·intro a w1 hI hb hj
    have hb':Below wr5.heap.size wr5 w1:=up (Below.refl _ _).drew hb
    exact⟨hj 12 (by decide),hb'⟩
   rintro ts W6 ⟨h27,hb6⟩
   simp only [fill,List.setIfInBounds_toArray,List.set_cons_succ,List.set_cons_zero]
   rw [h27]
   have HH6:=hZ (HH5.out.later hb6)
   have HV6:=hZ (HV.out.later hb6)
   have HD6:Hid (∀ D∈ds,D < W6.heap.size):=hZ (fun D hD=>by have:=HDS.out D hD;have:=hb6.size;have:=HZ.out;omega)
   clear h27 hb6
   have d0:=HV6.out.cell 0
   have d1:=HV6.out.cell 1
   simp only [zD,zE] at d0 d1
   go_wp2_with fail
   ((with_reducible refine (ids_new _ _ W6).mono ?_);rintro e w7 ⟨rfl,hw7⟩)
   subst hw7
   have hs0:=(Blk.new W6 25 #[.slice x.a1 x.s.1.length x.c1,.slice x.a2 x.s.2.length x.c2]).cell 0
   have HST:=hZ (ids_stops 8 W6.heap.size w.heap.size (by omega) x.a1 x.c1 x.s.1 HKX.out.n (W6.alloc (.cells #[.slice x.a1 x.s.1.length x.c1,.slice x.a2 x.s.2.length x.c2] 25)) (by have:=HH6.out.z;simp;omega) (by simp) hs0 (Gn.Rd.below HRX.out.c (up_box HH6.out.b _) (Nat.le_refl _)))
   have HH7:=hZ (HH6.out.later (box_new W6 (.cells #[.slice x.a1 x.s.1.length x.c1,.slice x.a2 x.s.2.length x.c2] 25)))
   have HZ7:Hid ((W6.alloc (.cells #[.slice x.a1 x.s.1.length x.c1,.slice x.a2 x.s.2.length x.c2] 25)).heap.size=W6.heap.size+1):=hZ (by simp)
   clear hs0 d0 d1
   generalize W6.alloc (.cells #[.slice x.a1 x.s.1.length x.c1,.slice x.a2 x.s.2.length x.c2] 25)=w7 at *
   go_wp2_with fail
   refine (wpIn_wide (n:=9)).1 ?_
   refine wpIn_rangeFunc_ownG rfl (by omega) (gf:=85) (lb:=#[.pointer (some ⟨W6.heap.size,0,none⟩)]) rfl trivial (enters_of Tryz.func85 (by kernel_rfl) rfl)
    HST.out belowK_t (belowK_b (by have:=HH7.out.z;omega)) (Below.refl _ _) (fun _=>rfl)
    (fun pre W=>HW w (hiS hh pre) ds W)
    (fun c pre W=>False) ?own_0 ?ownx_0 ?start_0 ?a1_0 ?assign_0 ?body_0 ?done_0 ?stop_0
   case assign_0 =>
    intro l x W K hK
    dsimp only [enci]
    gi_wp2
    exact hK
   case own_0 =>
    rintro pre W W' row h hg hr
    exact h.still hg hr (by have:=HH7.out.z;omega) (fun D hD=>by have:=HD6.out D hD;have:=HZ7.out;omega)
   case ownx_0=>exact fun c pre W W' row h=>h.elim
   case start_0=>exact HH7.out
   case body_0 =>
    rintro ll pre z W hw hlen
    have q0:=hw.r.cell 0
    have q1:=hw.r.frozen 0
    simp only [zD,zE] at q0
    have HG:=hZ ((Go2.refl w.heap.size w7.heap.size W).set (p:=⟨w.heap.size,0,none⟩) (Nat.le_refl _) (.int .i64 (max (hiS hh pre) z.1.2.id)))
    have HP:=hZ (hw.put (max (hiS hh pre) z.1.2.id))
    clear hw hlen
    gi_wp2_with fail
    exact⟨HG.out.kf,HG.out.blw,by show HW w (hiS hh (pre++[z])) ds _;rw [hiS_snoc];exact HP.out⟩
   case stop_0=>exact fun D c pre W _ _ h=>h.elim
   case done_0 =>
    rintro D xs W hD hx hw hKD
    have HM:=hZ (hw.mark hKD (by have:=HH7.out.z;omega) (fun d hd=>by have:=HD6.out d hd;have:=HZ7.out;omega))
    rw [hiS_all _ hx,← HHH.out,← hiL_succ HX.out] at HM
    have HE2:Hid (∀ i,i < (0)+1→Ev.folAt (sms L) i=true):=hZ (fun i hi=>by
     rcases Nat.lt_succ_iff_lt_or_eq.1 hi with h|rfl
     ·exact HE.out i h
     ·simp [Ev.folAt])
    clear hx hw hKD HST
    go_wp2_with fail
    refine⟨⟨(0)+1,D::ds,_,_,_,_,_,_,_,_,_,_,_,_,_,_,_,_,_,_,_,_,_,_,_,_,_,_,_,_,_,_,_,rfl,by omega,HM,HE2⟩,?_⟩
    simp [intOf];omega
  ·obtain⟨k,rfl⟩:∃ k0,k=k0+1:=⟨k - 1,by omega⟩
   clear p0 p1
   obtain⟨p,hp⟩:∃ p,L[k]?=some p:=⟨_,List.getElem?_eq_getElem (by omega)⟩
   obtain⟨sb',so',he,p0,p1⟩:=rdS_cells HR.out HH5.out.b hp
   injection he with he
   injection he with he1 he2
   subst he1 he2
   obtain⟨fb,hfb⟩:∃ fb,Ev.fol p.s x.s hh=fb:=⟨_,rfl⟩
   have HFA:Hid (Ev.folAt (sms L) (k+1)=fb):=hZ (by
    unfold Ev.folAt
    rw [Nat.add_sub_cancel,Ev.getD_at (sms_at hp),Ev.getD_at (sms_at HX.out),HHH.out,hfb];simp)
   have h0:=HH5.out.r.cell 0
   simp only [zD,zE] at h0
   have x0:=HV.out.cell 0
   have x1:=HV.out.cell 1
   simp only [zD,zE] at x0 x1
   have HMF:=hZ (fun w1 (hb:Below wr5.heap.size wr5 w1)=>cMayFollow p x (HOK.out p (List.mem_of_getElem? hp)) HKX.out hh w1 ((HR.out.el p (List.mem_of_getElem? hp)).later (up HH5.out.b hb)) (HRX.out.later (up HH5.out.b hb)) fb hfb)
   have hwk:IntKind.i64.wrap (((k:Int)+1) - 1)=k:=by rw [IntWalk.i64_in _ ⟨by omega,by omega⟩];omega
   have hwk2:IntKind.i64.wrap (k:Int)=k:=IntWalk.i64_in _ ⟨by omega,by omega⟩
   have hi1:(k:Int) < L.length:=by omega
   clear hp hfb hpos
   refine region_growI_merge (fun u v:World=>Below u.heap.size u v) (fun _ _=>True) (fun _ _ _=>True) (fun u=>Below.refl _ _) (fun _ _ _ h k=>up h k) (kjI #[Spc.eq (.int .i64 ((k+1:Nat):Int)),Spc.eq (.bool true),Spc.eq (.bool true),Spc.eq (.slice (some ⟨sb,so,none⟩) L.length c),Spc.eq (.int .i64 ((k+1:Nat):Int)),Spc.eq (.int .i64 (k:Nat)),Spc.eq (.pointer (some ⟨sb,so+k * 2,none⟩)),Spc.eq (.agg #[p.v,p.kv]),Spc.eq (.agg #[x.v,x.kv]),Spc.eq (.int .i64 hh),Spc.eq (.bool fb),Spc.eq (.bool (!fb)),Spc.eq (.bool (!fb))]) [15,16,17,18,19,20,21,22,23,24,25,26,27] (fun ts u=>ts.getD 27 undef=.bool (!fb)∧Below wr5.heap.size wr5 u) (by kernel_rfl) (by kernel_rfl) (by kernel_rfl) kjI_later trivial ?_ ?_ ?_
   ·intro QQ fd jo o a w1 ho hfd hdd hI hb hs hold hdep
    have hjo:jo < 13:=(Array.getElem?_eq_some_iff.1 ho).1
    have hb':Below wr5.heap.size wr5 w1:=up (Below.refl _ _).drew hb
    have p0':w1.cell? ⟨sb,so+k * 2,none⟩=some (p.v):=(hb'.cell (p:=⟨sb,so+k * 2,none⟩) (cell_lt p0)).trans p0
    have p1':w1.cell? ⟨sb,so+k * 2+1,none⟩=some (p.kv):=(hb'.cell (p:=⟨sb,so+k * 2+1,none⟩) (cell_lt p1)).trans p1
    have x0':w1.cell? ⟨g5,0,none⟩=some (x.v):=(hb'.cell (p:=⟨g5,0,none⟩) (cell_lt x0)).trans x0
    have x1':w1.cell? ⟨g5,1,none⟩=some (x.kv):=(hb'.cell (p:=⟨g5,1,none⟩) (cell_lt x1)).trans x1
    have h0':w1.cell? ⟨w.heap.size,0,none⟩=some (.int .i64 hh):=(hb'.cell (p:=⟨w.heap.size,0,none⟩) (cell_lt h0)).trans h0
    clear p0 p1 x0 x1 h0
    have e0:a.eval (.tmp 0)=.slice (some ⟨sb,so,none⟩) L.length c:=by
     show a.tmps.getD 0 undef=_
     rw [Array.getD_eq_getD_getElem?,hold 0 (by decide +kernel)];rfl
    have e3:a.eval (.tmp 3)=.pointer (some ⟨w.heap.size,0,none⟩):=by
     show a.tmps.getD 3 undef=_
     rw [Array.getD_eq_getD_getElem?,hold 3 (by decide +kernel)];rfl
    have e4:a.eval (.tmp 4)=.int .i64 ((k+1:Nat):Int):=by
     show a.tmps.getD 4 undef=_
     rw [Array.getD_eq_getD_getElem?,hold 4 (by decide +kernel)];rfl
    have e5:a.eval (.tmp 5)=.pointer (some ⟨g5,0,none⟩):=by
     show a.tmps.getD 5 undef=_
     rw [Array.getD_eq_getD_getElem?,hold 5 (by decide +kernel)];rfl
    have ec:∀ v,a.eval (.const v)=v:=fun _=>rfl
    clear hold hs
    rcases (show jo=0 ∨ jo=1 ∨ jo=2 ∨ jo=3 ∨ jo=4 ∨ jo=5 ∨ jo=6 ∨ jo=7 ∨ jo=8 ∨ jo=9 ∨ jo=10 ∨ jo=11 ∨ jo=12 by omega) with rfl|rfl|rfl|rfl|rfl|rfl|rfl|rfl|rfl|rfl|rfl|rfl|rfl
    all_goals (have ho2:=ho;simp only [List.getElem?_toArray,zD,zE,Option.some.injEq] at ho2;subst ho2)
    all_goals first|(refine (fun (eg:a.tmps.getD 17 undef=.bool true)=>?_) (hdep ⟨2,.guard⟩ ?_ rfl);rotate_left;focus (simp<;>fail))|skip
    refine gvT fd (.int .i64 ((k+1:Nat):Int)) ho rfl ?_ rfl;rotate_left
    ·have d0:a.eval (.tmp 15)=.int .i64 ((k+1:Nat):Int):=hdep ⟨0,.data⟩ (by simp) rfl
     refine gvT fd (.bool true) ho rfl ?_ rfl
     unfold execOp;simp only [zA,zB,zC,d0,ec];first|(go_simp;done)|(go_simp;omega)|(go_simp;rfl)
    have d0:a.eval (.tmp 16)=.bool true:=hdep ⟨1,.data⟩ (by simp) rfl;refine gvT fd (.bool true) ho rfl ?_ rfl;rotate_left
    refine gvT fd (.slice (some ⟨sb,so,none⟩) L.length c) ho (wantedI rfl (yieldedI rfl eg)) ?_ rfl;rotate_left
    refine gvT fd (.int .i64 ((k+1:Nat):Int)) ho (wantedI rfl (yieldedI rfl eg)) ?_ rfl;rotate_left
    ·have d0:a.eval (.tmp 19)=.int .i64 ((k+1:Nat):Int):=hdep ⟨4,.data⟩ (by simp) rfl
     refine gvT fd (.int .i64 (k:Nat)) ho (wantedI rfl (yieldedI rfl eg)) ?_ rfl
     unfold execOp;simp only [zA,zB,zC,d0,ec]
     go_simp
     first|done|rw [hwk]|exact hwk|rw [hwk,hwk2]|simp only [hwk,hwk2]|omega
    have d0:a.eval (.tmp 18)=.slice (some ⟨sb,so,none⟩) L.length c:=hdep ⟨3,.data⟩ (by simp) rfl;have d1:a.eval (.tmp 20)=.int .i64 (k:Nat):=hdep ⟨5,.data⟩ (by simp) rfl;refine gvT fd (.pointer (some ⟨sb,so+k * 2,none⟩)) ho (wantedI rfl (yieldedI rfl eg)) ?_ rfl;rotate_left
    have d0:a.eval (.tmp 21)=.pointer (some ⟨sb,so+k * 2,none⟩):=hdep ⟨6,.data⟩ (by simp) rfl;refine gvT fd (.agg #[p.v,p.kv]) ho (wantedI rfl (yieldedI rfl eg)) ?_ rfl;rotate_left
    refine gvT fd (.agg #[x.v,x.kv]) ho (wantedI rfl (yieldedI rfl eg)) ?_ rfl;rotate_left
    refine gvT fd (.int .i64 hh) ho (wantedI rfl (yieldedI rfl eg)) ?_ rfl;rotate_left
    ·have d0:a.eval (.tmp 22)=.agg #[p.v,p.kv]:=hdep ⟨7,.data⟩ (by simp) rfl
     have d1:a.eval (.tmp 23)=.agg #[x.v,x.kv]:=hdep ⟨8,.data⟩ (by simp) rfl
     have d2:a.eval (.tmp 24)=.int .i64 hh:=hdep ⟨9,.data⟩ (by simp) rfl
     refine growI_call (I:=(fun _ _=>True)) (X:=(fun _ _ _=>True)) (d:=fd) (a:=a) (w:=w1) 72 #[.agg #[p.v,p.kv],.agg #[x.v,x.kv],.int .i64 hh] ho (wantedI rfl (yieldedI rfl eg)) ?_ ((HMF.out w1 hb').mono ?_)
     ·unfold execOp resolve
      simp only [zA,zB,zC,d0,d1,d2,ec]
      rfl
     ·rintro e c1 ⟨rfl,hb2⟩
      exact⟨_,rfl,rfl,hb2,trivial,trivial⟩
    ·have d0:a.eval (.tmp 25)=.bool fb:=hdep ⟨10,.data⟩ (by simp) rfl
     refine gvT fd (.bool (!fb)) ho (wantedI rfl (yieldedI rfl eg)) ?_ rfl
     unfold execOp;simp only [zA,zB,zC,d0,ec];first|(go_simp;done)|(cases fb<;>(go_simp;done))|(cases fb<;>rfl)
    ·have d0:a.eval (.tmp 17)=.bool true:=hdep ⟨2,.data⟩ (by simp) rfl
     have d1:a.eval (.tmp 26)=.bool (!fb):=hdep ⟨11,.data⟩ (by simp) rfl
     refine gvT fd (.bool (!fb)) ho rfl ?_ rfl
     unfold execOp;simp only [zA,zB,zC,d0,d1,ec];first|(go_simp;done)|(cases fb<;>(go_simp;done))|(cases fb<;>rfl)
    all_goals (unfold execOp;first|(simp only [zA,zB,zC,d0,d1,ec];first|rfl|(go_simp;first|done|rfl|omega))|(simp only [zA,zB,zC,d0,ec];first|rfl|(go_simp;first|done|rfl|omega))|(simp only [zA,zB,zC,e0,ec];first|rfl|(go_simp;first|done|rfl|omega))|(simp only [zA,zB,zC,e3,ec];first|rfl|(go_simp;first|done|rfl|omega))|(simp only [zA,zB,zC,e4,ec];first|rfl|(go_simp;first|done|rfl|omega))|(simp only [zA,zB,zC,e5,ec];first|rfl|(go_simp;first|done|rfl|omega)))
   ·intro a w1 hI hb hj
    have hb':Below wr5.heap.size wr5 w1:=up (Below.refl _ _).drew hb
    exact⟨hj 12 (by decide),hb'⟩
   rintro ts W6 ⟨h27,hb6⟩
   simp only [fill,List.setIfInBounds_toArray,List.set_cons_succ,List.set_cons_zero]
   rw [h27]
   have HH6:=hZ (HH5.out.later hb6)
   have HV6:=hZ (HV.out.later hb6)
   have HD6:Hid (∀ D∈ds,D < W6.heap.size):=hZ (fun D hD=>by have:=HDS.out D hD;have:=hb6.size;have:=HZ.out;omega)
   clear h27 hb6
   cases fb with
   | false =>
    have HBF:Hid (b0=false):=hZ (by rw [← HB0.out];exact Ev.isCh_no (i:=k+1) (by rw [sms_len];omega) HFA.out)
    clear HB0
    go_wp2_with fail
    refine leaves_marks ds W6 HH6.out.nd (B:=w.heap.size) (fun D hD=>⟨by have:=(HH6.out.dm D hD).1;omega,(HH6.out.dm D hD).2⟩) (fun W' hb=>⟨_,results_tmp rfl _ _ _,?_,?_⟩)
    ·rw [HBF.out];rfl
    ·exact HH6.out.b.trans hb
   | true =>
    have d0:=HV6.out.cell 0
    have d1:=HV6.out.cell 1
    simp only [zD,zE] at d0 d1
    go_wp2_with fail
    ((with_reducible refine (ids_new _ _ W6).mono ?_);rintro e w7 ⟨rfl,hw7⟩)
    subst hw7
    have hs0:=(Blk.new W6 25 #[.slice x.a1 x.s.1.length x.c1,.slice x.a2 x.s.2.length x.c2]).cell 0
    have HST:=hZ (ids_stops 8 W6.heap.size w.heap.size (by omega) x.a1 x.c1 x.s.1 HKX.out.n (W6.alloc (.cells #[.slice x.a1 x.s.1.length x.c1,.slice x.a2 x.s.2.length x.c2] 25)) (by have:=HH6.out.z;simp;omega) (by simp) hs0 (Gn.Rd.below HRX.out.c (up_box HH6.out.b _) (Nat.le_refl _)))
    have HH7:=hZ (HH6.out.later (box_new W6 (.cells #[.slice x.a1 x.s.1.length x.c1,.slice x.a2 x.s.2.length x.c2] 25)))
    have HZ7:Hid ((W6.alloc (.cells #[.slice x.a1 x.s.1.length x.c1,.slice x.a2 x.s.2.length x.c2] 25)).heap.size=W6.heap.size+1):=hZ (by simp)
    clear hs0 d0 d1
    generalize W6.alloc (.cells #[.slice x.a1 x.s.1.length x.c1,.slice x.a2 x.s.2.length x.c2] 25)=w7 at *
    go_wp2_with fail
    refine (wpIn_wide (n:=9)).1 ?_
    refine wpIn_rangeFunc_ownG rfl (by omega) (gf:=85) (lb:=#[.pointer (some ⟨W6.heap.size,0,none⟩)]) rfl trivial (enters_of Tryz.func85 (by kernel_rfl) rfl)
     HST.out belowK_t (belowK_b (by have:=HH7.out.z;omega)) (Below.refl _ _) (fun _=>rfl)
     (fun pre W=>HW w (hiS hh pre) ds W)
     (fun c pre W=>False) ?own_1 ?ownx_1 ?start_1 ?a1_1 ?assign_1 ?body_1 ?done_1 ?stop_1
    case assign_1 =>
     intro l x W K hK
     dsimp only [enci]
     gi_wp2
     exact hK
    case own_1 =>
     rintro pre W W' row h hg hr
     exact h.still hg hr (by have:=HH7.out.z;omega) (fun D hD=>by have:=HD6.out D hD;have:=HZ7.out;omega)
    case ownx_1=>exact fun c pre W W' row h=>h.elim
    case start_1=>exact HH7.out
    case body_1 =>
     rintro ll pre z W hw hlen
     have q0:=hw.r.cell 0
     have q1:=hw.r.frozen 0
     simp only [zD,zE] at q0
     have HG:=hZ ((Go2.refl w.heap.size w7.heap.size W).set (p:=⟨w.heap.size,0,none⟩) (Nat.le_refl _) (.int .i64 (max (hiS hh pre) z.1.2.id)))
     have HP:=hZ (hw.put (max (hiS hh pre) z.1.2.id))
     clear hw hlen
     gi_wp2_with fail
     exact⟨HG.out.kf,HG.out.blw,by show HW w (hiS hh (pre++[z])) ds _;rw [hiS_snoc];exact HP.out⟩
    case stop_1=>exact fun D c pre W _ _ h=>h.elim
    case done_1 =>
     rintro D xs W hD hx hw hKD
     have HM:=hZ (hw.mark hKD (by have:=HH7.out.z;omega) (fun d hd=>by have:=HD6.out d hd;have:=HZ7.out;omega))
     rw [hiS_all _ hx,← HHH.out,← hiL_succ HX.out] at HM
     have HE2:Hid (∀ i,i < (k+1)+1→Ev.folAt (sms L) i=true):=hZ (fun i hi=>by
      rcases Nat.lt_succ_iff_lt_or_eq.1 hi with h|rfl
      ·exact HE.out i h
      ·exact HFA.out)
     clear hx hw hKD HST
     go_wp2_with fail
     refine⟨⟨(k+1)+1,D::ds,_,_,_,_,_,_,_,_,_,_,_,_,_,_,_,_,_,_,_,_,_,_,_,_,_,_,_,_,_,_,_,rfl,by omega,HM,HE2⟩,?_⟩
     simp [intOf];omega
 ·have hlt1:¬ (k:Int) < L.length:=by omega
  have HBT:Hid (b0=true):=hZ (by rw [← HB0.out];exact Ev.isCh_iff.2 fun i hi=>HE.out i (by rw [sms_len] at hi;omega))
  clear HB0
  go_wp2_with fail
  refine leaves_marks ds wr HH.out.nd (B:=w.heap.size) (fun D hD=>⟨by have:=(HH.out.dm D hD).1;omega,(HH.out.dm D hD).2⟩) (fun W' hb=>⟨_,results_tmp rfl _ _ _,?_,?_⟩)
  ·rw [HBT.out];rfl
  ·exact HH.out.b.trans hb
open Go.RowKit Go.Sort
theorem Ev.allOk_yes {l:List Ev.Sm} (h:∀ (i:Nat) (s:Ev.Sm),l[i]?=some s→Sc.ck s.1 s.2=0):Ev.allOk l=true:=by
 unfold Ev.allOk
 rw [List.all_eq_true]
 intro s hs
 obtain⟨i,hi⟩:=List.getElem?_of_mem hs
 simpa using h i s hi
theorem cChainE (v:Value) (L:List Sx) (hok:SmsOk L) (w:World) (T:TA w) (h:RdSm w w.heap.size v L) (d:Int) (hd:Ev.chain (sms L)=d) :
 Calls Tryz.prog 25 #[v] w fun e w'=>e=.returned (.int .i64 d)∧Below w.heap.size w w':=by
 have hml:=Gn.Rd.len' h.rd
 have HR:=hZ h
 have HOK:=hZ hok
 have HT:=hZ T
 have HD:=hZ hd
 obtain⟨a,c,rfl,_⟩:=Gn.Rd.form h.rd
 clear h hok T hd
 by_cases hb:64 < L.length
 ·have hb1:(L.length:Int) > 64:=by omega
  obtain rfl:d=5:=by rw [← HD.out];unfold Ev.chain;rw [sms_len,if_pos hb]
  clear HD hb
  go_enter Tryz.func25,Tryz.ntmps25
  go_wp2_with fail
  go_ret
  exact⟨rfl,Below.refl _ _⟩
 ·have hb1:¬ (L.length:Int) > 64:=by omega
  go_enter Tryz.func25,Tryz.ntmps25
  go_wp2_with fail
  go_loopw [11] (fun i wr=>∃ k:Nat,k≤L.length∧i=.int .i64 (k:Nat)∧Hid (∀ (i:Nat) (s:Ev.Sm),i < k→(sms L)[i]?=some s→Sc.ck s.1 s.2=0)∧Hid (Below w.heap.size w wr)) (fun i _=>L.length - (intOf i).toNat)
  case atStart=>exact⟨0,by omega,by rfl,hZ (fun i s hi=>by omega),hZ (Below.refl _ _)⟩
  case round =>
   obtain⟨k,hk,rfl,HE,HU⟩:=hrel
   by_cases hlt:k < L.length
   ·have hlt1:(k:Int) < L.length:=by omega
    obtain⟨x,hx⟩:∃ x,L[k]?=some x:=⟨_,List.getElem?_eq_getElem hlt⟩
    obtain⟨sb,so,rfl,p0,p1⟩:=rdS_cells HR.out HU.out hx
    have HU1:=hZ (HU.out.alloc HU.out.size (.cells #[x.v,x.kv] 25))
    have hm:=List.mem_of_getElem? hx
    obtain⟨d0,hd0⟩:∃ d0,Sc.ck x.s.1 x.s.2=d0:=⟨_,rfl⟩
    have HCK:=hZ (cCheckS x.v x.kv x.s.1 x.s.2 _ (HT.out.later HU1.out) ((HR.out.el x hm).later HU1.out).c ((HR.out.el x hm).later HU1.out).k (HOK.out x hm).k (HOK.out x hm).i d0 hd0)
    have hcc:=Sc.ck_cases x.s.1 x.s.2
    rw [hd0] at hcc
    have HX:=hZ (sms_at hx)
    have HD0:=hZ hd0
    have ex:x.v=.slice x.a1 x.s.1.length x.c1:=rfl
    have ek:x.kv=.slice x.a2 x.s.2.length x.c2:=rfl
    rw [ex] at p0 HCK HU1
    rw [ek] at p1 HCK HU1
    clear ex ek hx hm hd0
    rcases hcc with rfl|rfl
    ·have HE2:Hid (∀ (i:Nat) (s:Ev.Sm),i < k+1→(sms L)[i]?=some s→Sc.ck s.1 s.2=0):=hZ (fun i s hi hs=>by
      rcases Nat.lt_succ_iff_lt_or_eq.1 hi with h2|rfl
      ·exact HE.out i s h2 hs
      ·rw [HX.out] at hs;injection hs with hs;subst hs;exact HD0.out)
     clear HE HX HD0
     go_wp2_with fail
     ((with_reducible refine HCK.out.mono ?_);rintro e w1 ⟨rfl,b1⟩)
     have HU2:=hZ (HU1.out.trans (b1.mono HU1.out.size))
     clear b1 HU1 HCK
     go_wp2_with fail
     go_roundw
     case rel=>exact⟨k+1,by omega,by go_num,HE2,HU2⟩
     case measure=>simp [intOf];omega
    ·obtain rfl:d=2:=by
      rw [← HD.out]
      unfold Ev.chain
      rw [sms_len,if_neg hb,Ev.allOk_no HX.out HD0.out];rfl
     clear HE HX HD0 HD
     go_wp2_with fail
     ((with_reducible refine HCK.out.mono ?_);rintro e w1 ⟨rfl,b1⟩)
     have HU2:=hZ (HU1.out.trans (b1.mono HU1.out.size))
     clear b1 HU1 HCK
     go_wp2_with fail
     go_ret
     exact⟨rfl,HU2.out⟩
   ·have hlt1:¬ (k:Int) < L.length:=by omega
    have HAO:Hid (Ev.allOk (sms L)=true):=hZ (Ev.allOk_yes fun i s hs=>HE.out i s (by have:=(List.getElem?_eq_some_iff.1 hs).1;rw [sms_len] at this;omega) hs)
    obtain⟨b0,hb0⟩:∃ b0,Ev.isCh (sms L)=b0:=⟨_,rfl⟩
    have HIC:=hZ (cIsChain _ L HOK.out (by omega) wr (HR.out.later HU.out) b0 hb0)
    have HDD:Hid (d=if b0=true then 0 else 120):=hZ (by rw [← HD.out,← hb0];unfold Ev.chain;rw [sms_len,if_neg hb,if_pos HAO.out])
    clear HE HD hb0 HAO
    go_wp2_with fail
    ((with_reducible refine HIC.out.mono ?_);rintro e w1 ⟨rfl,b1⟩)
    have HU2:=hZ (HU.out.trans (b1.mono HU.out.size))
    clear b1 HIC
    cases b0 with
    | true =>
     go_wp2_with fail
     go_ret
     exact⟨by rw [HDD.out];rfl,HU2.out⟩
    | false =>
     go_wp2_with fail
     go_ret
     exact⟨by rw [HDD.out];rfl,HU2.out⟩
theorem rdS_two {w:World} {x y:Sx} {W:World} (hx:RdS w w.heap.size x) (hy:RdS w w.heap.size y) (hb:Below w.heap.size w W) (cs:Array Value) (hcs:cs=#[x.v,x.kv,y.v,y.kv]) :
 RdSm (W.alloc (.cells cs 25)) (W.alloc (.cells cs 25)).heap.size (.slice (some ⟨W.heap.size,0,none⟩) 2 2) [x,y]:=by
 have h1:Gn.Rd sxc 2 (W.alloc (.cells cs 25)) (W.alloc (.cells cs 25)).heap.size (.slice (some ⟨W.heap.size,0,none⟩) 2 2) [x,y] :=
  Gn.Own.rd sxL (Gn.Own.lit (T:=25) sxL W 0 [x,y] cs 2 2 (by rw [hcs];rfl) rfl rfl (by simp [maxLen]) (Nat.zero_le _))
 refine⟨h1,fun z hz=>?_⟩
 have hb2:=up_box hb (.cells cs 25)
 simp at hz
 rcases hz with rfl|rfl
 ·exact hx.later hb2
 ·exact hy.later hb2
theorem cStepE (x y:Sx) (hx:SmOk x.s) (hy:SmOk y.s) (w:World) (T:TA w) (rx:RdS w w.heap.size x) (ry:RdS w w.heap.size y) (d:Int) (hd:Ev.chain [x.s,y.s]=d) :
 Calls Tryz.prog 17 #[.agg #[x.v,x.kv],.agg #[y.v,y.kv]] w fun e w'=>e=.returned (.int .i64 d)∧Below w.heap.size w w':=by
 have HB:=hZ (up_box (box_new w (.cells #[x.v,x.kv] 25)) (.cells #[y.v,y.kv] 25))
 have hr:=rdS_two rx ry HB.out #[x.v,x.kv,y.v,y.kv] rfl
 have HC:=hZ (cChainE _ [x,y] (fun z hz=>by simp at hz;rcases hz with rfl|rfl<;>assumption) _ (T.later (up_box HB.out _)) hr d hd)
 have HB2:=hZ (up_box HB.out (.cells #[x.v,x.kv,y.v,y.kv] 25))
 clear hr T rx ry hd
 obtain⟨a1,c1,a2,c2,s1⟩:=x
 obtain⟨a3,c3,a4,c4,s2⟩:=y
 unfold Sx.v Sx.kv at *
 simp only [World.size_alloc] at HB HC HB2 ⊢
 go_enter Tryz.func17,Tryz.ntmps17
 go_wp2_with fail
 ((with_reducible refine HC.out.mono ?_);rintro e w1 ⟨rfl,b1⟩)
 have HU:=hZ (HB2.out.trans (b1.mono (by omega)))
 clear b1 HC HB HB2
 go_wp2_with fail
 go_ret
 exact⟨rfl,HU.out⟩
end Go.Proofs.YtenfjmdajlhfoabGreatDoor
