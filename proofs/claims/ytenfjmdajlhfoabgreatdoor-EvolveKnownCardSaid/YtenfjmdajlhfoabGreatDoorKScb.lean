/- Texts. -/
import Derived.StillTailTactics
import Derived.Deep.RegionHeld3
import Derived.Deep.QuietTactic
import Derived.Test.YtenfjmdajlhfoabGreatDoorKSca
import Derived.RangeFuncNested
import Derived.RangeFuncBound
import Derived.RangeFuncCalls
import Derived.RangeFuncLeaves
import Derived.Shelf.Abstract
import Derived.Shelf.RegionOpen
import Derived.OwnWalkIn
import Derived.TacticsInMore
import Derived.LoopNIn
import Derived.LoopIn
set_option maxHeartbeats 16000000
namespace Go.Proofs.YtenfjmdajlhfoabGreatDoor
open Go
def blank:List Nat→Array Value→Array Value
 | [],t=>t
 | j::ws,t=>blank ws (t.setIfInBounds j undef)
def fill (ts:Array Value):List Nat→Array Value→Array Value
 | [],t=>t
 | j::ws,t=>fill ts ws (t.setIfInBounds j (ts.getD j undef))
theorem blank_get:∀ (ws:List Nat) (t:Array Value) (i:Nat),(blank ws t)[i]?=if i∈ws∧i < t.size then some undef else t[i]?
 | [],t,i=>by simp [blank]
 | j::ws,t,i=>by
  unfold blank
  rw [blank_get ws]
  simp only [Array.size_setIfInBounds,Array.getElem?_setIfInBounds,List.mem_cons]
  by_cases h1:i∈ws<;>by_cases h2:i < t.size<;>by_cases h3:j=i<;>simp_all
  all_goals (try omega)
  all_goals (first|(intro h;omega)|skip)
theorem fill_get (ts:Array Value):∀ (ws:List Nat) (t:Array Value) (i:Nat),ts.size=t.size→(fill ts ws t)[i]?=if i∈ws then ts[i]? else t[i]?
 | [],t,i,_=>by simp [fill]
 | j::ws,t,i,hs=>by
  unfold fill
  rw [fill_get ts ws _ i (by simpa using hs)]
  simp only [Array.getElem?_setIfInBounds,List.mem_cons]
  by_cases h1:i∈ws
  ·simp [h1]
  ·by_cases h3:j=i
   ·subst h3
    by_cases h2:j < t.size
    ·simp [h1,h2,Array.getD_eq_getD_getElem?,Array.getElem?_eq_getElem (show j < ts.size by omega)]
    ·simp [h1,h2];omega
   ·simp [h1,h3,Ne.symm h3]
theorem fill_of {ws:List Nat} {ts t:Array Value} (h:blank ws ts=blank ws t) (hs:ts.size=t.size):fill ts ws t=ts:=by
 apply Array.ext_getElem?
 intro i
 rw [fill_get ts ws t i hs]
 by_cases hi:i∈ws
 ·rw [if_pos hi]
 ·rw [if_neg hi]
  have h1:=blank_get ws ts i
  have h2:=blank_get ws t i
  rw [h] at h1
  rw [if_neg (by simp [hi])] at h1 h2
  exact h2.symm.trans h1
theorem region_merge {P:Program} {c:Code} (ws:List Nat) (R:Array Value→World→Prop) {Q:Exit→Act→World→Prop} {a:Act} {w:World}
 (h:c.wp P (fun e a' w'=>e=.normal∧a'.defers=a.defers∧a'.tmps.size=a.tmps.size∧blank ws a'.tmps=blank ws a.tmps∧R a'.tmps w') a w)
 (k:∀ (ts:Array Value) (w':World),R ts w'→Q .normal ⟨fill ts ws a.tmps,a.defers⟩ w'):c.wp P Q a w:=by
 refine Code.wp_mono (fun e a' w' hh=>?_) h
 obtain⟨rfl,hd,hs,hb,hr⟩:=hh
 have:=k a'.tmps w' hr
 rw [fill_of hb hs,← hd] at this
 exact this
open Go Go.RowKit
def dstOf (ops:Array Oper) (j:Nat):Option Nat:=(ops[j]?).bind (·.dst)
def valOf (ops:Array Oper) (a:Act) (j:Nat):Value:=match dstOf ops j with|some s=>a.tmps.getD s undef|none=>undef
def growB (ops:Array Oper) (n:Nat):Bool :=
 (List.range ops.size).all fun j=>(match ops[j]? with
  | some o=>o.after.all (fun e=>!Region.binds .any e || decide (e.on < j)) && (match o.dst with
   | some s=>decide (s < n) && (List.range ops.size).all fun i=>i == j || !(dstOf ops i == some s)
   | none=>true)
  | none=>true)
theorem growB_spec {ops:Array Oper} {n:Nat} (h:growB ops n=true) {j:Nat} {o:Oper} (hj:ops[j]?=some o):(∀ e∈o.after,Region.binds .any e=true→e.on < j)∧∀ s,o.dst=some s→s < n∧∀ i,i < ops.size→i≠j→dstOf ops i≠some s:=by
 have hlt:j < ops.size:=(Array.getElem?_eq_some_iff.1 hj).1
 have h1:=List.all_eq_true.1 h j (List.mem_range.2 hlt)
 simp only [hj,Bool.and_eq_true] at h1
 refine⟨fun e he hb=>?_,fun s hs=>?_⟩
 ·have h2:=Array.all_eq_true_iff_forall_mem.1 h1.1 e he
  simp only [hb,Bool.not_true,Bool.false_or,decide_eq_true_eq] at h2
  exact h2
 ·have h3:=h1.2
  rw [hs] at h3
  simp only [Bool.and_eq_true,decide_eq_true_eq] at h3
  refine⟨h3.1,fun i hi hne=>?_⟩
  have h4:=List.all_eq_true.1 h3.2 i (List.mem_range.2 hi)
  simp only [Bool.or_eq_true,beq_iff_eq,Bool.not_eq_true',beq_eq_false_iff_ne] at h4
  exact h4.resolve_left hne
structure GInv (ops:Array Oper) (J:Nat→Value→World→Prop) (a0:Act) (w0:World) (listed:Array Bool) (a:Act) (w:World):Prop where
 b:Below w0.heap.size w0 w
 size:a.tmps.size=a0.tmps.size
 defers:a.defers=a0.defers
 old:∀ s,(∀ j,j < ops.size→dstOf ops j≠some s)→a.tmps[s]?=a0.tmps[s]?
 ls:listed.size=ops.size
 got:∀ j,j < ops.size→listed.getD j false=true→J j (valOf ops a j) w
def plainHead (md:Region.Mode) (hd:Array Oper):Bool :=
 (List.range hd.size).all fun j=>match hd[j]? with
  | some o=>o.guard.isNone && o.after.all (fun e=>!Region.binds md e || decide (e.on < j))
  | none=>true
def Agree (n:Nat) (listed lh:Array Bool):Prop:=lh.size=n∧n≤listed.size∧∀ j,j < n→listed[j]?=lh[j]?
section
variable {P:Program} {md:Region.Mode} {hd ops:Array Oper} {C:World→Prop} {n g:Nat}
end
def quietTailB (ops:Array Oper) (n:Nat):Bool :=
 plainHead .any (ops.toList.take n).toArray && Region.lexB .any (ops.toList.take n).toArray && Region.sinkB .any ops n && Region.chainB .any ops n && decide (n < ops.size) &&
  Region.seqB .any ops (ops.size - n) n (Array.replicate n true++Array.replicate (ops.size - n) false)
open Go.RowKit Go.Sort
set_option linter.unusedVariables false
set_option linter.unusedSimpArgs false
set_option maxRecDepth 100000
theorem col_info:(Tryz.prog.info? 63).map (·.size)=some 7:=by kernel_rfl
theorem retK {fn:Func} {p a b:Tmp} (h:fn.results=#[.cell p 63,.tmp a,.tmp b]) (tmps:Array Value) (w:World) (g:Nat) (c:Co) (hp:tmps.getD p undef=.pointer (some ⟨g,0,none⟩)) (hg:w.heap[g]?=some (.cells #[.int .i64 c.id,.string c.nm,.int .i64 c.k,.bool c.u,.bool c.d.u,.int .i64 c.d.n,.string c.d.s] 63 (0,0))) :
 (results fn tmps).run Tryz.prog w=.ok (.tuple #[kov c,tmps.getD a undef,tmps.getD b undef]) w:=by
 have hp':tmps[p]?.getD undef=.pointer (some ⟨g,0,none⟩):=by simpa using hp
 simp [results,h,hp',asAddr,run_loadVar_row w g 63 63 _ (0,0) _ hg Tryz.underlying63 rfl col_info]
 rfl
theorem put7 {w:World} {g:Nat} {a0 a1 a2 a3 a4 a5 a6:Value} (h:Blk w g 63 [a0,a1,a2,a3,a4,a5,a6]) (c:Co):Blk (((((((w.setCell ⟨g,0,none⟩ (.int .i64 c.id)).setCell ⟨g,1,none⟩ (.string c.nm)).setCell ⟨g,2,none⟩ (.int .i64 c.k)).setCell ⟨g,3,none⟩ (.bool c.u)).setCell ⟨g,4,none⟩ (.bool c.d.u)).setCell ⟨g,5,none⟩ (.int .i64 c.d.n)).setCell ⟨g,6,none⟩ (.string c.d.s)) g 63 [.int .i64 c.id,.string c.nm,.int .i64 c.k,.bool c.u,.bool c.d.u,.int .i64 c.d.n,.string c.d.s] :=
 ((((((Blk.put h 0 (.int .i64 c.id)).put 1 (.string c.nm)).put 2 (.int .i64 c.k)).put 3 (.bool c.u)).put 4 (.bool c.d.u)).put 5 (.int .i64 c.d.n)).put 6 (.string c.d.s)
theorem below7 {W w:World} (h:Below W.heap.size W w) (c:Co):Below W.heap.size W (((((((w.setCell ⟨W.heap.size,0,none⟩ (.int .i64 c.id)).setCell ⟨W.heap.size,1,none⟩ (.string c.nm)).setCell ⟨W.heap.size,2,none⟩ (.int .i64 c.k)).setCell ⟨W.heap.size,3,none⟩ (.bool c.u)).setCell ⟨W.heap.size,4,none⟩ (.bool c.d.u)).setCell ⟨W.heap.size,5,none⟩ (.int .i64 c.d.n)).setCell ⟨W.heap.size,6,none⟩ (.string c.d.s)) :=
 ((((((h.setCell (Nat.le_refl _) _).setCell (Nat.le_refl _) _).setCell (Nat.le_refl _) _).setCell (Nat.le_refl _) _).setCell (Nat.le_refl _) _).setCell (Nat.le_refl _) _).setCell (Nat.le_refl _) _
theorem Cl.Rdd.ex (u:Bool) (k:Int) (X:ByteArray):∃ c e,Cl.Rdd u k X c e∧Cl.I64 c.n:=by
 cases hk:Cl.may k with
 | false=>exact⟨Cl.empty,2,.inl ⟨rfl,hk,rfl⟩,emptyI⟩
 | true =>
  by_cases h:∃ d,Cl.of u k d=true∧Cl.I64 d.n∧Cl.txt k d=X
  ·obtain⟨d,h1,h2,h3⟩:=h
   exact⟨d,0,.inr (.inl ⟨hk,rfl,h1,h2,h3⟩),h2⟩
  ·exact⟨Cl.empty,4,.inr (.inr ⟨hk,rfl,rfl,fun d h1 h2 h3=>h ⟨d,h1,h2,h3⟩⟩),emptyI⟩
theorem readAt (u:Bool) (k:Int) (s:ByteArray) (w:World) (T:TA w) (hm:s.size≤100000) (c:Cl.C) (e0:Nat) (h:Cl.Rdd u k s c e0):Calls Tryz.prog 120 #[tv u k,.string s] w fun e w'=>e=.returned (.tuple #[cv c,.int .i64 (e0:Nat)])∧Below w.heap.size w w' :=
 (reads u k s w T hm).mono fun e w' ⟨c',e',h1,h2,_,_,h5⟩=>by
  obtain⟨rfl,rfl⟩:=h2.only h
  exact⟨h1,h5⟩
theorem up_box {W w:World} (h:Below W.heap.size W w) (o:Obj):Below W.heap.size W (w.alloc o):=up h (box_new w o)
theorem cReadCol (s:ByteArray) (hm:s.size≤100000) (w:World) (T:TA w):Calls Tryz.prog 81 #[.string s] w fun e w'=>∃ c y ok,e=.returned (.tuple #[kov c,.bool y,.bool ok])∧((ok=true∧Sc.Is (bl s) c y) ∨ (ok=false∧c=Sc.co0∧y=false∧∀ c y,¬ Sc.Is (bl s) c y))∧Below w.heap.size w w':=by
 have HB:=hZ (box_new w (.cells #[.int .i64 0,.string ⟨#[]⟩,.int .i64 0,.bool false,.bool false,.int .i64 0,.string ⟨#[]⟩] 63))
 have HV:=hZ (Blk.new w 63 #[.int .i64 0,.string ⟨#[]⟩,.int .i64 0,.bool false,.bool false,.int .i64 0,.string ⟨#[]⟩])
 have HT:=hZ (T.later HB.out)
 clear T
 go_enter Tryz.func81,Tryz.ntmps81
 go_wp2_with fail
 ((with_reducible refine (cSuffix s 10 (by omega) _).mono ?_);rintro e w1 ⟨t,y0,rfl,h1,rfl⟩)
 have hm1:t.size≤100000:=by
  rcases h1 with ⟨_,h⟩|⟨_,_,h⟩
  ·have:=congrArg List.length h
   rw [List.length_append,bl_length,bl_length] at this;simp at this;omega
  ·rw [h];exact hm
 have H1:=hZ h1
 clear h1
 generalize hwa:w.alloc (.cells #[.int .i64 0,.string ⟨#[]⟩,.int .i64 0,.bool false,.bool false,.int .i64 0,.string ⟨#[]⟩] 63)=wa at *
 clear hwa
 go_wp2_with fail
 ((with_reducible refine (cSplit t (by omega) _ HT.out.mx).mono ?_);rintro e w2 ⟨n,c,rfl,hn4,hfour,hlt,b2⟩)
 have hgl:=HV.out.lt
 have HV2:=hZ (HV.out.later b2)
 have HB2:=hZ (HB.out.trans (b2.mono HB.out.size))
 have HT2:=hZ (HT.out.later b2)
 generalize hg:wa.heap.size=g at *
 clear b2 HV HB HT hg
 by_cases hy0:y0=false
 ·subst hy0
  have HNO:Hid (∀ c y,¬ Sc.Is (bl s) c y):=hZ (by
   rcases H1.out with ⟨h,_⟩|⟨_,h,_⟩
   ·cases h
   ·exact Sc.not_last h)
  have f0:=(HV2.out).frozen 0
  have f1:=(HV2.out).frozen 1
  have f2:=(HV2.out).frozen 2
  have f3:=(HV2.out).frozen 3
  have f4:=(HV2.out).frozen 4
  have f5:=(HV2.out).frozen 5
  have f6:=(HV2.out).frozen 6
  have v0:=(HV2.out).cell 0
  have v1:=(HV2.out).cell 1
  have v2:=(HV2.out).cell 2
  have v3:=(HV2.out).cell 3
  have v4:=(HV2.out).cell 4
  have v5:=(HV2.out).cell 5
  have v6:=(HV2.out).cell 6
  simp only [zD,zE] at v0 v1 v2 v3 v4 v5 v6
  have HP:=hZ (put7 (HV2.out) Sc.co0)
  have HBP:=hZ (below7 (HB2.out) (Sc.co0))
  unfold Sc.co0 Cl.empty at HP HBP
  simp only at HP HBP
  clear HV2 hfour
  go_wp2_with fail
  exact bodyPost_ret (retK rfl _ _ w.heap.size Sc.co0 rfl HP.out) rfl ⟨Sc.co0,false,false,rfl,.inr ⟨rfl,rfl,rfl,HNO.out⟩,HBP.out⟩
 ·obtain rfl:y0=true:=by cases y0<;>simp_all
  have HS:Hid (bl s=bl t++[10]):=hZ (by
   rcases H1.out with ⟨_,h⟩|⟨h,_⟩
   ·exact h
   ·cases h)
  clear hy0 H1
  rcases hfour with ⟨hn,hcnt⟩|⟨rfl,a,b,d,tt,hF,ha,hb,hd,hst,la,lb,ld,lt⟩
  ·have hn1:(n:Int) < 4:=by omega
   have HNO:Hid (∀ c y,¬ Sc.Is (bl s) c y):=hZ (by rw [HS.out];exact Sc.not_few hcnt)
   have f0:=(HV2.out).frozen 0
   have f1:=(HV2.out).frozen 1
   have f2:=(HV2.out).frozen 2
   have f3:=(HV2.out).frozen 3
   have f4:=(HV2.out).frozen 4
   have f5:=(HV2.out).frozen 5
   have f6:=(HV2.out).frozen 6
   have v0:=(HV2.out).cell 0
   have v1:=(HV2.out).cell 1
   have v2:=(HV2.out).cell 2
   have v3:=(HV2.out).cell 3
   have v4:=(HV2.out).cell 4
   have v5:=(HV2.out).cell 5
   have v6:=(HV2.out).cell 6
   simp only [zD,zE] at v0 v1 v2 v3 v4 v5 v6
   have HP:=hZ (put7 (HV2.out) Sc.co0)
   have HBP:=hZ (below7 (HB2.out) (Sc.co0))
   unfold Sc.co0 Cl.empty at HP HBP
   simp only at HP HBP
   clear HV2
   go_wp2_with fail
   exact bodyPost_ret (retK rfl _ _ w.heap.size Sc.co0 rfl HP.out) rfl ⟨Sc.co0,false,false,rfl,.inr ⟨rfl,rfl,rfl,HNO.out⟩,HBP.out⟩
  ·have HF:=hZ hF
   have HWS:Hid ((32 ∉ bl a∧32 ∉ bl b∧32 ∉ bl d)∧bl s=bl a++32::(bl b++32::(bl d++32::bl tt))++[10]):=hZ ⟨⟨ha,hb,hd⟩,by rw [HS.out,hst]⟩
   clear hF ha hb hd hst HS
   obtain⟨q0,q1,q2,q3⟩:=HF.out
   go_wp2_with fail
   ((with_reducible refine (cReadId a (by omega) _ HT2.out).mono ?_);rintro e w3 ⟨id,ok,rfl,hid,b3⟩)
   have HID:=hZ hid
   have HF3:=hZ (HF.out.later b3)
   have HV3:=hZ (HV2.out.later b3)
   have HB3:=hZ (HB2.out.trans (b3.mono HB2.out.size))
   have HT3:=hZ (HT2.out.later b3)
   clear b3 HF HV2 HB2 HT2 q0 q1 q2 q3 hid
   obtain⟨q0,q1,q2,q3⟩:=HF3.out
   go_wp2_with fail
   ((with_reducible refine (cReadType d (by omega) _).mono ?_);rintro e w4 ⟨u,k,y,rfl,hty,b4⟩)
   have HTY:=hZ hty
   have b5:=b4.trans ((box_new w4 (.cells #[.int .i64 k,.bool u] 59)).mono b4.size)
   have HX:=hZ (Blk.new w4 59 #[.int .i64 k,.bool u])
   have HF5:=hZ (HF3.out.later b5)
   have HV5:=hZ (HV3.out.later b5)
   have HB5:=hZ (HB3.out.trans (b5.mono HB3.out.size))
   have HT5:=hZ (HT3.out.later b5)
   obtain⟨cc,e0,hr,hi⟩:=Cl.Rdd.ex u k tt
   have HR:=hZ (fun w T=>readAt u k tt w T (by omega) cc e0 hr)
   have HRD:=hZ hr
   have HI:=hZ hi
   obtain⟨z,hz⟩:∃ z:Int,((e0:Nat):Int)=z:=⟨_,rfl⟩
   rw [hz] at HR
   have HZ:=hZ hz
   clear b4 b5 HF3 HV3 HB3 HT3 q0 q1 q2 q3 hty hr hi hz
   unfold tv at HR ⊢
   go_wp2_with fail
   generalize hg9:w4.heap.size=g9 at *
   generalize w4.alloc (.cells #[.int .i64 k,.bool u] 59)=wb at *
   clear hg9
   obtain⟨q0,q1,q2,q3⟩:=HF5.out
   have x0:=HX.out.cell 0
   have x1:=HX.out.cell 1
   simp only [zD,zE] at x0 x1
   have SK:=hZ (fun (w1:World) (hb:Below wb.heap.size wb w1)=>And.intro hb (And.intro ((hb.cell (p:=⟨g9,0,none⟩) (cell_lt x0)).trans x0) (And.intro ((hb.cell (p:=⟨g9,1,none⟩) (cell_lt x1)).trans x1) ((hb.cell (p:=⟨g,3,none⟩) (cell_lt q3)).trans q3))))
   unfold cv at HR
   obtain⟨cu,cn,cs⟩:=cc
   simp only at HR
   clear x0 x1 q0 q1 q2 q3
   refine region_merge [42,43,44,45,46,41,47,48,10,11] (fun ts w'=>(∃ g10,ts.getD 10 undef=.pointer (some ⟨g10,0,none⟩)∧CV w' g10 ⟨cu,cn,cs⟩)∧ts.getD 11 undef=.int .i64 z∧Below wb.heap.size wb w') ?_ ?_
   ·go_region_held3 (fun wS=>Below wb.heap.size wb wS∧(wS.cell? ⟨g9,0,none⟩=some (.int .i64 k)∧(wS.cell? ⟨g9,1,none⟩=some (.bool u)∧wS.cell? ⟨g,3,none⟩=some (.string tt))))
     (first | exact SK.out _ HC1.out | exact SK.out _ (up_box HC1.out _) | exact SK.out _ (put_below (Nat.le_refl _) HC1.out _ _ _) | exact SK.out _ (up_box (Below.refl _ _) _) | exact SK.out _ (up_box (Below.refl _ _) _).drew | exact SK.out _ (Below.refl _ _).drew | exact SK.out _ (Below.refl _ _) | fail "keep")
     ((first
       | (go_at_call 120;(with_reducible refine (HR.out (wb.alloc (.cells #[.bool false,.int .i64 0,.string ⟨#[]⟩] 61)).drew (HT5.out.later (up_box (Below.refl _ _) _).drew)).mono ?_);rintro e c1 ⟨rfl,h⟩
          have HC1:=hZ (up (up_box (Below.refl wb.heap.size wb) (.cells #[.bool false,.int .i64 0,.string ⟨#[]⟩] 61)).drew h)
          have HCV:=hZ (CV.later (CV.new wb false 0 ⟨#[]⟩).drew h)
          obtain⟨y0,y1,y2⟩:=HCV.out.lie
          obtain⟨y3,y4,y5⟩:=HCV.out.free
          simp only at y0 y1 y2
          clear h)
       | (go_at_call 120;(with_reducible refine (HR.out wb.drew (HT5.out.later (Below.refl _ _).drew)).mono ?_);rintro e c1 ⟨rfl,h⟩
          have HC1:=hZ (up (Below.refl wb.heap.size wb).drew h)
          clear h)
     ))
    all_goals first
     | exact⟨rfl,rfl,rfl,by kernel_rfl,⟨_,rfl,CV.put HCV.out cu cn cs⟩,rfl,put_below (Nat.le_refl _) HC1.out _ _ _⟩
     | exact⟨rfl,rfl,rfl,by kernel_rfl,⟨_,rfl,CV.new _ cu cn cs⟩,rfl,up_box HC1.out _⟩
   rintro ts w6 ⟨⟨g10,e10,hcv⟩,e11,b7⟩
   simp only [fill,List.setIfInBounds_toArray,List.set_cons_succ,List.set_cons_zero]
   rw [e10,e11]
   clear e10 e11
   have HC7:=hZ hcv
   have HX7:=hZ (HX.out.later b7)
   have HF7:=hZ (HF5.out.later b7)
   have HV7:=hZ (HV5.out.later b7)
   have HB7:=hZ (HB5.out.trans (b7.mono HB5.out.size))
   have HOF:=hZ (Sc.is_of HWS.out.1.1 HWS.out.1.2.1 HWS.out.1.2.2 HID.out HTY.out HRD.out HI.out b rfl)
   rw [← HWS.out.2] at HOF
   clear b7 HX HF5 HV5 HB5 HT5 HRD HI HID HTY HWS
   obtain⟨q0,q1,q2,q3⟩:=HF7.out
   cases ok with
   | false =>
    have HNO:Hid (∀ c y,¬ Sc.Is (bl s) c y):=hZ (by
     rcases HOF.out with ⟨h,_⟩|⟨_,h⟩
     ·cases h
     ·exact h)
    have f0:=(HV7.out).frozen 0
    have f1:=(HV7.out).frozen 1
    have f2:=(HV7.out).frozen 2
    have f3:=(HV7.out).frozen 3
    have f4:=(HV7.out).frozen 4
    have f5:=(HV7.out).frozen 5
    have f6:=(HV7.out).frozen 6
    have v0:=(HV7.out).cell 0
    have v1:=(HV7.out).cell 1
    have v2:=(HV7.out).cell 2
    have v3:=(HV7.out).cell 3
    have v4:=(HV7.out).cell 4
    have v5:=(HV7.out).cell 5
    have v6:=(HV7.out).cell 6
    simp only [zD,zE] at v0 v1 v2 v3 v4 v5 v6
    have HP:=hZ (put7 (HV7.out) Sc.co0)
    have HBP:=hZ (below7 (HB7.out) (Sc.co0))
    unfold Sc.co0 Cl.empty at HP HBP
    simp only at HP HBP
    clear HV7 HX7 HF7 HC7 HOF HZ q0 q2 q3
    go_wp2_with fail
    exact bodyPost_ret (retK rfl _ _ w.heap.size Sc.co0 rfl HP.out) rfl ⟨Sc.co0,false,false,rfl,.inr ⟨rfl,rfl,rfl,HNO.out⟩,HBP.out⟩
   | true =>
    cases hnm:Sc.name (bl b) with
    | false =>
     have HNO:Hid (∀ c y,¬ Sc.Is (bl s) c y):=hZ (by
      rcases HOF.out with ⟨_,h,_⟩|⟨_,h⟩
      ·rw [hnm] at h;cases h
      ·exact h)
     have HN:=hZ (fun w=>cIsName b w (by omega) false hnm)
     clear hnm
     go_wp2_with fail
     ((with_reducible refine (HN.out _).mono ?_);rintro e w7 ⟨rfl,rfl⟩)
     have f0:=(HV7.out).frozen 0
     have f1:=(HV7.out).frozen 1
     have f2:=(HV7.out).frozen 2
     have f3:=(HV7.out).frozen 3
     have f4:=(HV7.out).frozen 4
     have f5:=(HV7.out).frozen 5
     have f6:=(HV7.out).frozen 6
     have v0:=(HV7.out).cell 0
     have v1:=(HV7.out).cell 1
     have v2:=(HV7.out).cell 2
     have v3:=(HV7.out).cell 3
     have v4:=(HV7.out).cell 4
     have v5:=(HV7.out).cell 5
     have v6:=(HV7.out).cell 6
     simp only [zD,zE] at v0 v1 v2 v3 v4 v5 v6
     have HP:=hZ (put7 (HV7.out) Sc.co0)
     have HBP:=hZ (below7 (HB7.out) (Sc.co0))
     unfold Sc.co0 Cl.empty at HP HBP
     simp only at HP HBP
     clear HV7 HX7 HF7 HC7 HOF HZ HN q0 q2 q3
     go_wp2_with fail
     exact bodyPost_ret (retK rfl _ _ w.heap.size Sc.co0 rfl HP.out) rfl ⟨Sc.co0,false,false,rfl,.inr ⟨rfl,rfl,rfl,HNO.out⟩,HBP.out⟩
    | true =>
     have HN:=hZ (fun w=>cIsName b w (by omega) true hnm)
     by_cases hz0:z=0
     ·have HIS:Hid (Sc.Is (bl s) ⟨id,b,k,u,⟨cu,cn,cs⟩⟩ y):=hZ (by
       rcases HOF.out with ⟨_,_,_,h⟩|⟨h,_⟩
       ·exact h
       ·exact absurd ⟨rfl,hnm,by have:=HZ.out;omega⟩ h)
      subst hz0
      clear hnm
      go_wp2_with fail
      ((with_reducible refine (HN.out _).mono ?_);rintro e w7 ⟨rfl,rfl⟩)
      go_wp2_with fail
      generalize w6=wc at *
      have x0:=HX7.out.cell 0
      have x1:=HX7.out.cell 1
      have c0:=HC7.out.cell 0
      have c1:=HC7.out.cell 1
      have c2:=HC7.out.cell 2
      simp only [zD,zE] at x0 x1 c0 c1 c2
      have HV8:=HV7
      have HB8:=HB7
      have f0:=(HV8.out).frozen 0
      have f1:=(HV8.out).frozen 1
      have f2:=(HV8.out).frozen 2
      have f3:=(HV8.out).frozen 3
      have f4:=(HV8.out).frozen 4
      have f5:=(HV8.out).frozen 5
      have f6:=(HV8.out).frozen 6
      have v0:=(HV8.out).cell 0
      have v1:=(HV8.out).cell 1
      have v2:=(HV8.out).cell 2
      have v3:=(HV8.out).cell 3
      have v4:=(HV8.out).cell 4
      have v5:=(HV8.out).cell 5
      have v6:=(HV8.out).cell 6
      simp only [zD,zE] at v0 v1 v2 v3 v4 v5 v6
      have HP:=hZ (put7 (HV8.out) ⟨id,b,k,u,⟨cu,cn,cs⟩⟩)
      have HBP:=hZ (below7 (HB8.out) (⟨id,b,k,u,⟨cu,cn,cs⟩⟩))
      simp only at HP HBP
      clear HV8 HOF HN HZ q0 q2 q3
      refine region_merge [63,64,65,66,67,68,69,70,3,4] (fun ts w'=>ts.getD 3 undef=.bool y∧ts.getD 4 undef=.bool true∧Blk w' w.heap.size 63 [.int .i64 id,.string b,.int .i64 k,.bool u,.bool cu,.int .i64 cn,.string cs]∧Below w.heap.size w w') ?_ ?_
      ·clear SK HR HIS hcv HB7 HB8 hlt la lb ld lt hgl hm hm1 HX7 HC7 HF7 HV7
       go_region
       all_goals exact⟨rfl,rfl,rfl,by kernel_rfl,rfl,rfl,Blk.drew HP.out,HBP.out.drew⟩
      rintro ts w8 ⟨e3,e4,hp8,hb8⟩
      simp only [fill,List.setIfInBounds_toArray,List.set_cons_succ,List.set_cons_zero]
      rw [e3,e4]
      clear e3 e4 HP HBP HX7 HC7 HF7 HV7
      have HP:=hZ hp8
      have HBP:=hZ hb8
      clear hp8 hb8 f0 f1 f2 f3 f4 f5 f6 v0 v1 v2 v3 v4 v5 v6 x0 x1 c0 c1 c2 q1
      go_wp2_with fail
      exact bodyPost_ret (retK rfl _ _ w.heap.size ⟨id,b,k,u,⟨cu,cn,cs⟩⟩ rfl HP.out) rfl ⟨_,y,true,rfl,.inl ⟨rfl,HIS.out⟩,HBP.out⟩
     ·have HNO:Hid (∀ c y,¬ Sc.Is (bl s) c y):=hZ (by
       rcases HOF.out with ⟨_,_,h,_⟩|⟨_,h⟩
       ·exact absurd (by rw [← HZ.out,h];rfl) hz0
       ·exact h)
      have hz1:(z != 0)=true:=by simpa using hz0
      clear hnm hz0
      go_wp2_with fail
      ((with_reducible refine (HN.out _).mono ?_);rintro e w7 ⟨rfl,rfl⟩)
      have f0:=(HV7.out).frozen 0
      have f1:=(HV7.out).frozen 1
      have f2:=(HV7.out).frozen 2
      have f3:=(HV7.out).frozen 3
      have f4:=(HV7.out).frozen 4
      have f5:=(HV7.out).frozen 5
      have f6:=(HV7.out).frozen 6
      have v0:=(HV7.out).cell 0
      have v1:=(HV7.out).cell 1
      have v2:=(HV7.out).cell 2
      have v3:=(HV7.out).cell 3
      have v4:=(HV7.out).cell 4
      have v5:=(HV7.out).cell 5
      have v6:=(HV7.out).cell 6
      simp only [zD,zE] at v0 v1 v2 v3 v4 v5 v6
      have HP:=hZ (put7 (HV7.out) Sc.co0)
      have HBP:=hZ (below7 (HB7.out) (Sc.co0))
      unfold Sc.co0 Cl.empty at HP HBP
      simp only at HP HBP
      clear HV7 HX7 HF7 HC7 HOF HZ HN q0 q2 q3
      go_wp2_with fail
      exact bodyPost_ret (retK rfl _ _ w.heap.size Sc.co0 rfl HP.out) rfl ⟨Sc.co0,false,false,rfl,.inr ⟨rfl,rfl,rfl,HNO.out⟩,HBP.out⟩
open Go.RowKit Go.Shelf
attribute [local go_sem] Oper.semAt_some
abbrev LA:={ x:Nat × ByteArray // x.2.size≤100000∧x.1≤1000000 }
def encl (x:LA):Array Value:=#[.int .i64 (x.1.1:Nat),.string x.1.2]
def num (x:LA):Nat × List Nat:=(x.1.1,bl x.1.2)
theorem lines_new (s:ByteArray) (w:World) :
 Calls Tryz.prog 80 #[.string s] w fun e w'=>e=.returned (.func (.func 114) #[] #[.pointer (some ⟨w.heap.size,0,none⟩)])∧w'=w.alloc (.cells #[.string s] 9):=by
 go_enter Tryz.func80,Tryz.ntmps80
 go_wp2_with fail
 go_ret
 exact⟨rfl,rfl⟩
theorem cCut (s:ByteArray) (hm:s.size≤1000000) (w:World) (T:TabM w):Calls Tryz.prog 115 #[.string s,.string ⟨#[10]⟩] w fun e w'=>∃ a x y,e=.returned (.tuple #[.string a,.string x,.bool y])∧(bl x=Sc.behind (bl s)∧x.size≤s.size)∧∃ n,w'=w.drewN n:=by
 obtain⟨m,hmm⟩:=T
 exact (Tryz.strings_Cut s ⟨#[10]⟩ m w (by omega) hmm).mono fun e w' ⟨h1,h2⟩=>⟨_,_,_,h1,Sc.cut10 s,h2⟩
theorem grown_drewN (w:World) (n:Nat):w.grownBy (w.drewN n) none:=⟨rfl,rfl,rfl,Nat.le_refl _,fun k _ _=>rfl⟩
theorem below_dn (B:Nat) (w:World) (n:Nat):Below B w (w.drewN n):=⟨rfl,rfl,rfl,Nat.le_refl _,fun k _=>rfl⟩
def szOf (u:Value):Nat:=match u with | .string s=>s.size|_=>0
theorem lines_stops (n Bs B:Nat) (hn:1≤n) (s:ByteArray) (hm:s.size≤100000) (w:World) (hB:B≤w.heap.size) (hBs:Bs < w.heap.size) (hc:w.cell? ⟨Bs,0,none⟩=some (.string s)) (T:TabM w) (hBT:0 < B) :
 SeqStopsK Fence.wide n Tryz.prog 114 #[.pointer (some ⟨Bs,0,none⟩)] encl (Below B) (fun xs=>xs.map num=Sc.lns (bl s) 0) (fun xs=>∃ p x r,xs.map num=p++[x]∧Sc.lns (bl s) 0=p++x::r) (Sc.lns (bl s) 0).length w:=fun l J Jx W hW hJ _ hY h0=>by
 have hc':=(hW.cell (p:=⟨Bs,0,none⟩) hBs).trans hc
 have H0:=hZ h0
 have HW:Hid (Below B w W):=hZ (hW.mono hB)
 have HY:=hZ hY
 have HJ:=hZ hJ
 have HLN:=hZ (Sc.lns_len _ (bl s) (Nat.le_refl _) 0)
 have HTM:Hid (∀ w1,Below B w w1→TabM w1):=hZ (fun w1 hb=>by
  obtain⟨m,h⟩:=T
  exact⟨m,(hb.cell (p:=⟨0,0,none⟩) hBT).trans h⟩)
 have HSZ:=hZ hW.size
 clear h0 hY hW hc hJ T
 refine callsIn_of_wp Tryz.func114 rfl trivial ?_ rfl
 simp only [Tryz.ntmps114,List.size_toArray,List.length_cons,List.length_nil,Nat.reduceAdd,Nat.reduceSub,Array.replicate_succ,Array.replicate_zero,List.push_toArray,List.append_toArray,List.nil_append,List.cons_append]
 gi_wp2_with fail
 gi_loopw [3,4] (fun u i wr=>∃ (r:ByteArray) (pre:List LA),u=.string r∧i=.int .i64 (pre.length:Nat)∧Hid (pre.map num++Sc.lns (bl r) pre.length=Sc.lns (bl s) 0)∧r.size≤s.size∧Hid (J pre wr)∧Hid (Below B w wr)∧Hid (W.heap.size≤wr.heap.size)) (fun u _ _=>szOf u)
 case atStart=>exact⟨s,[],rfl,by rfl,hZ rfl,Nat.le_refl _,H0,HW,hZ (Nat.le_refl _)⟩
 case round =>
  obtain⟨r,pre,rfl,rfl,HE,hrs,HP,HB,HS⟩:=hrel
  clear H0 HW hc'
  by_cases hr:bl r=[]
  ·have e1:=bl_empty r
   rw [decide_eq_true hr] at e1
   have HD:Hid (pre.map num=Sc.lns (bl s) 0):=hZ (by
    have:=HE.out
    rw [hr,Sc.lns_nil,List.append_nil] at this
    exact this)
   clear hr
   gi_wp2
   go_end0
   exact⟨⟨_,rfl⟩,.inl ⟨pre,HD.out,HP.out⟩⟩
  ·have e1:=bl_empty r
   rw [decide_eq_false hr] at e1
   have HE2:Hid (pre.map num++(pre.length,Sc.ln (bl r))::Sc.lns (Sc.behind (bl r)) (pre.length+1)=Sc.lns (bl s) 0):=hZ (by rw [← Sc.lns_cons hr];exact HE.out)
   have hpl:pre.length < (Sc.lns (bl s) 0).length:=by
    have:=congrArg List.length HE2.out
    rw [List.length_append,List.length_map,List.length_cons] at this
    omega
   have hpl2:pre.length < 100000:=by have:=HLN.out;rw [bl_length] at this;omega
   have HBL:=hZ (Sc.behind_lt hr)
   have CC:=hZ (fun w1 hb=>cCut r (by omega) w1 (HTM.out w1 hb))
   clear hr HE
   gi_wp2_with fail
   refine⟨trivial,(callsIn_wide.2 (CC.out _ HB.out)).mono ?_⟩
   rintro e w2 ⟨a,x,y,rfl,⟨hx,hxs⟩,nn,rfl⟩
   have HJ2:Hid (J pre (wr.drewN nn)):=hZ (HJ.out pre wr _ none HP.out (grown_drewN wr nn) (fun _ h=>by cases h))
   have HB2:=hZ (HB.out.trans (below_dn B wr nn))
   have HS2:Hid (W.heap.size≤(wr.drewN nn).heap.size):=hZ HS.out
   generalize wr.drewN nn=w3 at *
   have hlt:x.size < r.size:=by
    have h1:=HBL.out
    rw [← hx,bl_length,bl_length] at h1;exact h1
   obtain⟨u,hu⟩:∃ u,r.extract 0 (r.size - x.size)=u:=⟨_,rfl⟩
   have hul:bl u=Sc.ln (bl r):=by rw [← hu];exact Sc.ln_cut r x hx
   have hus:u.size≤100000:=by rw [← hu,ByteArray.size_extract];omega
   have hsl:∀ w,(Instr.slice 9 (.string r) none (some (.int .i64 ((r.size:Int) - (x.size:Nat)))) none).run Tryz.prog w=.ok (.string u) w:=fun w=>by
    rw [run_slice_string_to_if w 9 r .i64 _ Tryz.underlying9,if_pos (by omega),show ((r.size:Int) - (x.size:Nat)).toNat=r.size - x.size by omega,hu]
   have hpp:u.size≤100000∧pre.length≤1000000:=⟨hus,by omega⟩
   obtain⟨px,hpx⟩:∃ px:LA,px=⟨(pre.length,u),hpp⟩:=⟨_,rfl⟩
   obtain⟨fn,tmps,assign,body,hy,hRo⟩:=HY.out pre px w3 HJ2.out hpl
   rw [hpx] at hy
   simp only [encl] at hy
   have HN:Hid ((pre++[px]).map num++Sc.lns (bl x) (pre++[px]).length=Sc.lns (bl s) 0):=hZ (by
    rw [← HE2.out,List.map_append,List.append_assoc,hpx,List.length_append,hx]
    show _++([(pre.length,bl u)]++_)=_
    rw [hul];rfl)
   have HX:Hid (∃ p x r,(pre++[px]).map num=p++[x]∧Sc.lns (bl s) 0=p++x::r):=hZ ⟨pre.map num,(pre.length,Sc.ln (bl r)),_,by rw [List.map_append,hpx,← hul];rfl,HE2.out.symm⟩
   have hl1:(pre++[px]).length=pre.length+1:=by simp
   have hxr:x.size≤s.size:=by omega
   clear hx hu hul HBL CC HP HB HJ2 HE2 HS
   gi_wp2
   refine hRo.mono ?_
   rintro e W3 (⟨rfl,hJ3,hk3⟩|⟨rfl,hJx3⟩)
   ·gi_wp2
    go_roundw
    case rel=>exact⟨x,pre++[px],rfl,by rw [hl1];go_num,HN,hxr,hZ hJ3,hZ (HB2.out.trans hk3),hZ (Nat.le_trans HS2.out hk3.size)⟩
    case measure=>simp [szOf];omega
   ·gi_wp2
    refine bodyPost_ret (results_none rfl _ _ _) rfl ?_
    exact⟨⟨_,rfl⟩,.inr ⟨_,HX.out,hJx3⟩⟩
attribute [local go_sem] Oper.semAt_some
theorem own_apart2 {α β:Type} {enc:α→List Value} {enc':β→List Value} {k k':Nat} {T T':TypeId} {w:World} {B B':Nat} {v v':Value} {l:List α} {l':List β} (h:Gn.Own enc k T w B v l) (h':Gn.Own enc' k' T' w B' v' l') (hT:T≠T') :
 v.ownBlock=none ∨ v.ownBlock≠v'.ownBlock:=by
 rcases h.2 with ⟨rfl,_⟩|⟨g,cap,cur,rfl,_,hh,_⟩
 ·exact .inl rfl
 ·refine .inr fun e=>?_
  rcases h'.2 with ⟨rfl,_⟩|⟨g',cap',cur',rfl,_,hh',_⟩
  ·cases e
  ·have e:g=g':=by simpa [Value.ownBlock] using e
   subst e
   rw [hh] at hh'
   injection hh' with hh'
   injection hh' with _ hh'
   exact hT hh'
def NoCells (W:World) (row:Option Nat):Prop:=∀ r,row=some r→∃ o:Obj,W.heap[r]?=some o∧o.isCells=false
theorem Blk.still {W W':World} {g:Nat} {t:TypeId} {cs:List Value} {row:Option Nat} (h:Blk W g t cs) (hg:W.grownBy W' row) (hr:NoCells W row):Blk W' g t cs:=by
 refine (hg.block g h.lt (fun e=>?_)).trans h
 obtain⟨o,ho,hc⟩:=hr g e.symm
 unfold Blk at h
 rw [h] at ho
 injection ho with ho
 subst ho
 simp [Obj.isCells] at hc
theorem own_still {α:Type} {enc:α→List Value} {k:Nat} {T:TypeId} {W W':World} {B:Nat} {v:Value} {l:List α} {row:Option Nat} (h:Gn.Own enc k T W B v l) (hg:W.grownBy W' row) (hr:NoCells W row):Gn.Own enc k T W' B v l:=by
 refine Gn.Own.kept h hg ?_
 rcases h.2 with ⟨rfl,_⟩|⟨g,cap,cur,rfl,_,hh,_⟩
 ·exact .inl rfl
 ·refine .inr fun e=>?_
  obtain⟨o,ho,hc⟩:=hr g e.symm
  rw [hh] at ho
  injection ho with ho
  subst ho
  simp [Obj.isCells] at hc
theorem Blk.app {W W':World} {g B:Nat} {t:TypeId} {cs:List Value} {v:Value} {α:Type} {enc:α→List Value} {k:Nat} {T:TypeId} {l:List α} (h:Blk W g t cs) (hg:W.grownBy W' v.ownBlock) (ho:Gn.Own enc k T W B v l) (hB:g < B):Blk W' g t cs :=
 (hg.block g h.lt (fun e=>by have:=(ho.lt g e.symm).1;omega)).trans h
theorem wpListIn_app {α:Type} {enc:α→List Value} {k:Nat} {S T:TypeId} {z:Value} {nb:Nat} {F:Fence} {nF:Nat} (L:Gn.Lay enc k) (Y:Gn.Ty S T z k nb) {w:World} {ops:Array Oper} {rest:List Oper} {o:Oper} {a:Act} {Q:Exit→Act→World→Prop} (hgd:o.guard=none) (s x:Operand)
 (ho:o.op=.call { callee:=.builtin .append,args:=#[s,x],argTypes:=#[S,S] })
 (base:Nat) (v:Value) (l:List α) (hs:a.eval s=v) (hown:Gn.Own enc k T w base v l) (u:Value) (r:List α) (hx:a.eval x=u) (hr:Gn.Rd enc k w w.heap.size u r)
 (hlen:l.length+r.length≤100000000) (hbase:base≤w.heap.size)
 (h:∀ v' w',Gn.Own enc k T w' base v' (l++r)→w.grownBy w' v.ownBlock→wpListIn F nF Tryz.prog ops Q rest (a.put o.dst v') w'):wpListIn F nF Tryz.prog ops Q (o::rest) a w:=by
 refine wpListIn_plain hgd fun K hK=>?_
 obtain⟨v',w',hrun,h2,h3,_,_⟩:=Gn.run_app L Y w o.type base v l hown u r hr hlen hbase
 unfold Oper.wpIn
 refine⟨by simp [Oper.about,ho,resolve,Target.leads,Sem.run_pure],?_⟩
 rw [Oper.semAt_plain F _ _ (by rw [ho];intro c hc';cases hc')]
 simp [execOp,ho,resolve,invoke,builtin,hs,hx,hrun,Result.andThen]
 exact hK _ _ (h v' w' h2 h3)
structure Go2 (H B:Nat) (W0 W:World):Prop where
 kf:KeepsFrom B W0 W
 blw:Below H W0 W
theorem Go2.refl (H B:Nat) (W:World):Go2 H B W W:=⟨KeepsFrom.refl _ _,Below.refl _ _⟩
theorem Go2.below {H B:Nat} {W0 W W':World} (h:Go2 H B W0 W) (hH:H≤W.heap.size) (hb:Below W.heap.size W W'):Go2 H B W0 W' :=
 ⟨h.kf.trans ⟨hb.size,fun k o _ hk _=>(hb.block k (Array.getElem?_eq_some_iff.1 hk).1).trans hk⟩,h.blw.trans (hb.mono hH)⟩
theorem Go2.set {H B:Nat} {W0 W:World} (h:Go2 H B W0 W) {p:Addr} (hp:H≤p.block) (v:Value):Go2 H B W0 (W.setCell p v) :=
 ⟨h.kf.trans ((KeepsOthers.setCell W p v).from B),h.blw.setCell hp v⟩
theorem Go2.app {α:Type} {enc:α→List Value} {k:Nat} {T:TypeId} {H B base:Nat} {W0 W W':World} {v:Value} {l:List α} (h:Go2 H B W0 W) (ho:Gn.Own enc k T W base v l) (hg:W.grownBy W' v.ownBlock) (hB:H≤base) (hs:H≤W.heap.size):Go2 H B W0 W' :=
 ⟨h.kf.trans ((KeepsOthers.of_grownBy hg (fun j o e hj=>by
  rcases ho.2 with ⟨rfl,_⟩|⟨g,cap,cur,rfl,_,hh,_⟩
  ·cases e
  ·have e:g=j:=by simpa [Value.ownBlock] using e
   subst e
   rw [hh] at hj
   injection hj with hj
   subst hj
   rfl)).from B),h.blw.grown hg hs (fun g e=>Nat.le_trans hB (ho.lt g e).1)⟩
def nilS:Value:=.slice none 0 0
structure MM (w:World) (cs:List Co) (ks:List Int) (cv kv:Value) (W:World):Prop where
 rd:Blk W (w.heap.size+1+1+1) 25 [cv,kv]
 oc:OwnK W (w.heap.size+4) cv cs
 ok:OwnI W (w.heap.size+4) kv ks
 r0:Blk W w.heap.size 25 [nilS,nilS]
 r1:Blk W (w.heap.size+1) 3 [.int .i64 0]
 r2:Blk W (w.heap.size+1+1) 29 [.int .i64 0]
 blw:Below w.heap.size w W
 sz:w.heap.size+5≤W.heap.size
structure PI (w:World) (pre:List LA) (cs:List Co) (ks:List Int) (cv kv:Value) (W:World):Prop where
 acc:Sc.acc (pre.map num) ([],[])=some (cs,ks)
 cl:cs.length=pre.length
 kl:ks.length≤pre.length
 cc:∀ c∈cs,Sc.Col c
 kk:∀ k∈ks,0≤k∧k≤1000000
 m:MM w cs ks cv kv W
theorem heap_set_far (W:World) {p:Addr} (v:Value) {g:Nat} (h:p.block≠g):(W.setCell p v).heap[g]?=W.heap[g]?:=by
 simp only [World.setCell,Array.getElem?_modify]
 rw [if_neg h]
theorem Blk.far {W:World} {g:Nat} {t:TypeId} {cs:List Value} (h:Blk W g t cs) {p:Addr} (hp:p.block≠g) (v:Value):Blk (W.setCell p v) g t cs:=by
 unfold Blk at h ⊢
 rw [heap_set_far W v hp];exact h
theorem own_far {α:Type} {enc:α→List Value} {k:Nat} {T:TypeId} {W:World} {B:Nat} {v:Value} {l:List α} (h:Gn.Own enc k T W B v l) {p:Addr} (hp:p.block < B) (x:Value):Gn.Own enc k T (W.setCell p x) B v l:=by
 obtain⟨h0,h1⟩:=h
 refine⟨h0,?_⟩
 rcases h1 with h1|⟨g,cap,cur,rfl,hg,hh,r⟩
 ·exact .inl h1
 ·exact .inr ⟨g,cap,cur,rfl,hg,(heap_set_far W x (by omega)).trans hh,r⟩
theorem Blk.app2 {W W':World} {g B:Nat} {t:TypeId} {cs:List Value} {v:Value} {α:Type} {enc:α→List Value} {k:Nat} {T:TypeId} {l:List α} (h:Blk W g t cs) (hg:W.grownBy W' v.ownBlock) (ho:Gn.Own enc k T W B v l) (hT:t≠T):Blk W' g t cs:=by
 refine (hg.block g h.lt (fun e=>?_)).trans h
 rcases ho.2 with ⟨rfl,_⟩|⟨g',cap,cur,rfl,_,hh,_⟩
 ·cases e
 ·have e:g=g':=by simpa [Value.ownBlock] using e
  subst e
  unfold Blk at h
  rw [h] at hh
  injection hh with hh
  injection hh with _ hh
  exact hT hh
theorem MM.later {w W W':World} {cs:List Co} {ks:List Int} {cv kv:Value} (h:MM w cs ks cv kv W) (hb:Below W.heap.size W W'):MM w cs ks cv kv W' :=
 ⟨h.rd.later hb,Gn.Own.later h.oc hb,Gn.Own.later h.ok hb,h.r0.later hb,h.r1.later hb,h.r2.later hb,up h.blw hb,Nat.le_trans h.sz hb.size⟩
theorem MM.key {w W W':World} {cs:List Co} {ks ks':List Int} {cv kv v:Value} (h:MM w cs ks cv kv W) (ho:OwnI W' (w.heap.size+4) v ks') (hg:W.grownBy W' kv.ownBlock) :
 Blk W' (w.heap.size+1+1+1) 25 [cv,kv]∧MM w cs ks' cv v (W'.setCell ⟨w.heap.size+1+1+1,1,none⟩ v):=by
 have h3:Blk W' (w.heap.size+1+1+1) 25 [cv,kv]:=h.rd.app hg h.ok (by omega)
 refine⟨h3,Blk.put h3 1 v,own_far (Gn.Own.kept h.oc hg (own_apart2 h.oc h.ok (by decide))) (by simp only;omega) v,own_far ho (by simp only;omega) v,(h.r0.app hg h.ok (by omega)).far (by simp only;omega) v,(h.r1.app hg h.ok (by omega)).far (by simp only;omega) v,(h.r2.app hg h.ok (by omega)).far (by simp only;omega) v,?_,?_⟩
 ·exact (h.blw.grown hg (by have:=h.sz;omega) (fun g e=>by have:=(h.ok.lt g e).1;omega)).setCell (by simp only;omega) v
 ·have:=hg.size;have:=h.sz;simp;omega
theorem MM.col {w W W':World} {cs cs':List Co} {ks:List Int} {cv kv v:Value} (h:MM w cs ks cv kv W) (ho:OwnK W' (w.heap.size+4) v cs') (hg:W.grownBy W' cv.ownBlock) :
 Blk W' (w.heap.size+1+1+1) 25 [cv,kv]∧MM w cs' ks v kv (W'.setCell ⟨w.heap.size+1+1+1,0,none⟩ v):=by
 have h3:Blk W' (w.heap.size+1+1+1) 25 [cv,kv]:=h.rd.app hg h.oc (by omega)
 refine⟨h3,Blk.put h3 0 v,own_far ho (by simp only;omega) v,own_far (Gn.Own.kept h.ok hg (own_apart2 h.ok h.oc (by decide))) (by simp only;omega) v,(h.r0.app hg h.oc (by omega)).far (by simp only;omega) v,(h.r1.app hg h.oc (by omega)).far (by simp only;omega) v,(h.r2.app hg h.oc (by omega)).far (by simp only;omega) v,?_,?_⟩
 ·exact (h.blw.grown hg (by have:=h.sz;omega) (fun g e=>by have:=(h.oc.lt g e).1;omega)).setCell (by simp only;omega) v
 ·have:=hg.size;have:=h.sz;simp;omega
structure PX (w:World) (pre:List LA) (p:List (Nat × List Nat)) (x:Nat × List Nat) (q:List Co × List Int) (W:World):Prop where
 pre:pre.map num=p++[x]
 acc:Sc.acc p ([],[])=some q
 rd:Sc.rd x.2=none
 r0:Blk W w.heap.size 25 [nilS,nilS]
 r1:Blk W (w.heap.size+1) 3 [.int .i64 (x.1:Nat)]
 r2:Blk W (w.heap.size+1+1) 29 [.int .i64 4]
 blw:Below w.heap.size w W
theorem PI.still {w W W':World} {pre:List LA} {cs:List Co} {ks:List Int} {cv kv:Value} {row:Option Nat} {B:Nat} (h:PI w pre cs ks cv kv W) (hg:W.grownBy W' row) (hr:∀ r,row=some r→B≤r∧∃ o:Obj,W.heap[r]?=some o∧o.isCells=false) (hB:w.heap.size≤B):PI w pre cs ks cv kv W':=by
 have hn:NoCells W row:=fun r e=>(hr r e).2
 obtain⟨h1,h2,h3,h4,h5,m⟩:=h
 exact⟨h1,h2,h3,h4,h5,m.rd.still hg hn,own_still m.oc hg hn,own_still m.ok hg hn,m.r0.still hg hn,m.r1.still hg hn,m.r2.still hg hn,m.blw.grown hg m.blw.size (fun g e=>Nat.le_trans hB (hr g e).1),Nat.le_trans m.sz hg.size⟩
theorem PX.still {w W W':World} {pre:List LA} {p:List (Nat × List Nat)} {x:Nat × List Nat} {q:List Co × List Int} {row:Option Nat} {B:Nat} (h:PX w pre p x q W) (hg:W.grownBy W' row) (hr:∀ r,row=some r→B≤r∧∃ o:Obj,W.heap[r]?=some o∧o.isCells=false) (hB:w.heap.size≤B):PX w pre p x q W':=by
 have hn:NoCells W row:=fun r e=>(hr r e).2
 exact⟨h.pre,h.acc,h.rd,h.r0.still hg hn,h.r1.still hg hn,h.r2.still hg hn,h.blw.grown hg h.blw.size (fun g e=>Nat.le_trans hB (hr g e).1)⟩
theorem PI.later {w W W':World} {pre:List LA} {cs:List Co} {ks:List Int} {cv kv:Value} (h:PI w pre cs ks cv kv W) (hb:Below W.heap.size W W'):PI w pre cs ks cv kv W' :=
 ⟨h.acc,h.cl,h.kl,h.cc,h.kk,h.m.later hb⟩
theorem schema_info:(Tryz.prog.info? 25).map (·.size)=some 2:=by kernel_rfl
theorem col_ok {c:Co} (h:Sc.Col c):KOk c:=by
 have hm:=Cl.may_le h.may.1
 have h0:=h.id0
 have h1:=h.id1
 have hn:=Sc.name_len h.nm
 rw [bl_length] at hn
 refine⟨⟨by omega,by omega⟩,⟨by omega,by omega⟩,by omega,h.n64,?_⟩
 have hz:=bl_nil (s:=c.d.s)
 rcases Cl.of_parts h.may.2 with ⟨_,_,_,h4⟩|⟨h1,h2⟩
 ·have:=hz.1 h4;omega
 ·unfold Cl.isK at h2
  rcases (show c.k=1 ∨ c.k=2 ∨ c.k=3 ∨ c.k=4 ∨ c.k=5 by omega) with e|e|e|e|e<;>rw [e] at h2<;>simp [h1] at h2
  ·have:=hz.1 h2.1;omega
  ·have:=hz.1 h2.1;omega
  ·have:=hz.1 h2;omega
  ·omega
  ·omega
attribute [local go_sem] Oper.semAt_some
theorem run_loadOne (w:World) (g:Nat) (T t:TypeId) (v:Value) (ha:∀ w,(isAgg T).run Tryz.prog w=.ok false w) (hg:w.heap[g]?=some (.cells #[v] t (0,0))):(loadVar T ⟨g,0,none⟩).run Tryz.prog w=.ok v w:=by
 have hc:w.cell? ⟨g,0,none⟩=some v:=by simp [World.cell?,hg]
 simp [loadVar,Sem.run_bind,ha,hc,go_sem]
theorem retP {fn:Func} {p a b:Tmp} (h:fn.results=#[.cell p 25,.cell a 3,.cell b 29]) (tmps:Array Value) (w:World) (g g1 g2:Nat) (cv kv:Value) (n e:Int) (hp:tmps.getD p undef=.pointer (some ⟨g,0,none⟩)) (ha:tmps.getD a undef=.pointer (some ⟨g1,0,none⟩)) (hb:tmps.getD b undef=.pointer (some ⟨g2,0,none⟩))
 (hg:w.heap[g]?=some (.cells #[cv,kv] 25 (0,0))) (h1:w.heap[g1]?=some (.cells #[.int .i64 n] 3 (0,0))) (h2:w.heap[g2]?=some (.cells #[.int .i64 e] 29 (0,0))) :
 (results fn tmps).run Tryz.prog w=.ok (.tuple #[.agg #[cv,kv],.int .i64 n,.int .i64 e]) w:=by
 have hp':tmps[p]?.getD undef=.pointer (some ⟨g,0,none⟩):=by simpa using hp
 have ha':tmps[a]?.getD undef=.pointer (some ⟨g1,0,none⟩):=by simpa using ha
 have hb':tmps[b]?.getD undef=.pointer (some ⟨g2,0,none⟩):=by simpa using hb
 simp [results,h,hp',ha',hb',asAddr,run_loadVar_row w g 25 25 _ (0,0) _ hg Tryz.underlying25 rfl schema_info,run_loadOne w g1 3 3 _ Tryz.isAgg3 h1,run_loadOne w g2 29 29 _ Tryz.isAgg29 h2]
theorem col7 {w:World} {g:Nat} {c:Co} (h:Blk w g 63 [.int .i64 c.id,.string c.nm,.int .i64 c.k,.bool c.u,.bool c.d.u,.int .i64 c.d.n,.string c.d.s]) :
 w.cell? ⟨g,0,none⟩=some (.int .i64 c.id)∧w.cell? ⟨g,1,none⟩=some (.string c.nm)∧w.cell? ⟨g,2,none⟩=some (.int .i64 c.k)∧w.cell? ⟨g,3,none⟩=some (.bool c.u)∧w.cell? ⟨g,4,none⟩=some (.bool c.d.u)∧w.cell? ⟨g,5,none⟩=some (.int .i64 c.d.n)∧w.cell? ⟨g,6,none⟩=some (.string c.d.s) :=
 ⟨h.cell 0,h.cell 1,h.cell 2,h.cell 3,h.cell 4,h.cell 5,h.cell 6⟩
def PPost (w:World) (a:Sc.Ans) (e:Ending) (w':World):Prop:=∃ cv kv,e=.returned (.tuple #[.agg #[cv,kv],.int .i64 (a.n:Nat),.int .i64 a.e])∧OwnK w' w.heap.size cv a.cs∧OwnI w' w.heap.size kv a.ks∧Below w.heap.size w w'
theorem own_form {α:Type} {enc:α→List Value} {k:Nat} {T:TypeId} {W:World} {B:Nat} {v:Value} {l:List α} (h:Gn.Own enc k T W B v l):∃ (n:Nat) (a:Option Addr) (c:Nat),v=.slice a n c:=by
 rcases h.2 with ⟨rfl,_⟩|⟨g,cap,cur,rfl,_⟩
 ·exact⟨_,_,_,rfl⟩
 ·exact⟨_,_,_,rfl⟩
theorem PI.put {w W W':World} {pre:List LA} {x:LA} {cs:List Co} {ks ks':List Int} {cv cv' kv kv':Value} {c:Co} {y:Bool} (h:PI w pre cs ks cv kv W) (hc:Sc.rd (bl x.1.2)=some (c,y)) (hk:ks'=if y=true then ks++[(x.1.1:Int)] else ks)
 (m:MM w (cs++[c]) ks' cv' kv' W'):PI w (pre++[x]) (cs++[c]) ks' cv' kv' W':=by
 subst hk
 refine⟨?_,by simp [h.cl],?_,?_,?_,m⟩
 ·rw [List.map_append]
  exact Sc.acc_snoc h.acc hc
 ·have:=h.kl
  split<;>simp<;>omega
 ·intro d hd
  rcases List.mem_append.1 hd with hd|hd
  ·exact h.cc d hd
  ·have:d=c:=by simpa using hd
   rw [this];exact (Sc.rd_is hc).1
 ·intro k hk
  have hx:=x.2.2
  cases y
  ·exact h.kk k hk
  ·rcases List.mem_append.1 hk with hk|hk
   ·exact h.kk k hk
   ·have:k=(x.1.1:Int):=by simpa using hk
    omega
theorem cParse (s:ByteArray) (hm:s.size≤100000) (w:World) (T:TA w) (a:Sc.Ans) (ha:Sc.parse (bl s)=a):Calls Tryz.prog 63 #[.string s] w fun e w'=>PPost w a e w':=by
 obtain⟨wa,hwa⟩:∃ wa,wa=((w.alloc (.cells #[.slice none 0 0,.slice none 0 0] 25)).alloc (.cells #[.int .i64 0] 3)).alloc (.cells #[.int .i64 0] 29):=⟨_,rfl⟩
 obtain⟨wb,hwb⟩:∃ wb,wb=wa.alloc (.cells #[.slice none 0 0,.slice none 0 0] 25):=⟨_,rfl⟩
 obtain⟨wc,hwc⟩:∃ wc,wc=wb.alloc (.cells #[.string s] 9):=⟨_,rfl⟩
 have hsa:wa.heap.size=w.heap.size+3:=by rw [hwa];simp
 have hsb:wb.heap.size=w.heap.size+4:=by rw [hwb];simp [hsa]
 have hsc:wc.heap.size=w.heap.size+5:=by rw [hwc];simp [hsb]
 have B1:Below w.heap.size w wa:=by rw [hwa];exact up_box (up_box (up_box (Below.refl _ _) _) _) _
 have B2:Below w.heap.size w wb:=by rw [hwb];exact up_box B1 _
 have B3:Below w.heap.size w wc:=by rw [hwc];exact up_box B2 _
 have hba:Below wa.heap.size wa wc:=by rw [hwc,hwb];exact up_box (up_box (Below.refl _ _) _) _
 have hbb:Below wb.heap.size wb wc:=by rw [hwc];exact up_box (Below.refl _ _) _
 have R0:Blk wc w.heap.size 25 [nilS,nilS]:=by
  refine Blk.later ?_ hba
  rw [hwa]
  exact Blk.later (Blk.later (Blk.new w 25 #[nilS,nilS]) (box_new _ _)) (box_new _ _)
 have R1:Blk wc (w.heap.size+1) 3 [.int .i64 0]:=by
  refine Blk.later ?_ hba
  have:=Blk.new (w.alloc (.cells #[.slice none 0 0,.slice none 0 0] 25)) 3 #[.int .i64 0]
  rw [show (w.alloc (.cells #[.slice none 0 0,.slice none 0 0] 25)).heap.size=w.heap.size+1 by simp] at this
  rw [hwa]
  exact Blk.later this (box_new _ _)
 have R2:Blk wc (w.heap.size+1+1) 29 [.int .i64 0]:=by
  refine Blk.later ?_ hba
  have:=Blk.new ((w.alloc (.cells #[.slice none 0 0,.slice none 0 0] 25)).alloc (.cells #[.int .i64 0] 3)) 29 #[.int .i64 0]
  rw [show ((w.alloc (.cells #[.slice none 0 0,.slice none 0 0] 25)).alloc (.cells #[.int .i64 0] 3)).heap.size=w.heap.size+1+1 by simp] at this
  rw [hwa]
  exact this
 have R3:Blk wc (w.heap.size+1+1+1) 25 [nilS,nilS]:=by
  refine Blk.later ?_ hbb
  have:=Blk.new wa 25 #[nilS,nilS]
  rw [hsa] at this
  rw [hwb]
  exact this
 have hg3:wc.cell? ⟨w.heap.size+4,0,none⟩=some (.string s):=by
  have:=(Blk.new wb 9 #[.string s]).cell 0
  rw [hsb] at this
  rw [hwc]
  exact this
 have hgm:0 < w.heap.size:=by obtain⟨m,h⟩:=T.mx;exact cell_lt h
 have HST:=hZ (lines_stops 7 (w.heap.size+4) w.heap.size (by omega) s hm wc (by omega) (by omega) hg3 (T.later B3).mx hgm)
 have CP:=hZ (lines_new s wb)
 rw [hsb] at CP
 have HPI:Hid (PI w [] [] [] nilS nilS wc):=hZ ⟨rfl,rfl,Nat.le_refl _,by simp,by simp,⟨R3,Gn.Own.nil _ _,Gn.Own.nil _ _,R0,R1,R2,B3,by omega⟩⟩
 have HT:=hZ T
 have HM:=hZ hm
 have HSC:=hZ hsc
 have HLN:=hZ (Sc.lns_len _ (bl s) (Nat.le_refl _) 0)
 have HA:Hid (Sc.prs (bl s) 0 [] []=a):=hZ (by
  rw [← ha]
  unfold Sc.parse
  rw [if_neg (by rw [bl_length];omega)])
 have hm2:¬ (s.size:Int) > 1048576:=by omega
 clear T ha B1 B2 B3 hba hbb R0 R1 R2 R3 hg3 hgm hsa hsb hsc
 refine (callsIn_wide (n:=8)).1 ?_
 refine callsIn_of_wp_marks Tryz.func63 rfl trivial ?_ rfl
 simp only [Tryz.ntmps63,List.size_toArray,List.length_cons,List.length_nil,Nat.reduceAdd,Nat.reduceSub,Array.replicate_succ,Array.replicate_zero,List.push_toArray,List.append_toArray,List.nil_append,List.cons_append]
 gi_wp2_with fail
 rw [← hwa]
 rw [← hwb]
 refine⟨trivial,(callsIn_wide.2 CP.out).mono ?_⟩
 rintro e w2 ⟨rfl,hw2⟩
 rw [← hwc] at hw2
 subst hw2
 clear CP hwb hwc hwa hm2
 gi_wp2_with fail
 refine wpIn_rangeFunc_ownG rfl (by omega) (gf:=114) (lb:=#[.pointer (some ⟨w.heap.size+4,0,none⟩)]) rfl trivial (enters_of Tryz.func114 (by kernel_rfl) rfl)
  HST.out belowK_t (belowK_b (by have:=HSC.out;omega)) (Below.refl _ _) (fun _=>rfl)
  (fun pre W=>∃ cs ks cv kv,PI w pre cs ks cv kv W)
  (fun c pre W=>c=.ret∧∃ p x q,PX w pre p x q W) ?own ?ownx ?start ?a1 ?assign ?body ?done ?stop
 case assign =>
  intro l x W K hK
  dsimp only [encl]
  gi_wp2
  exact hK
 case own =>
  rintro pre W W' row ⟨cs,ks,cv,kv,h⟩ hg hr
  exact⟨cs,ks,cv,kv,h.still hg hr (by have:=HSC.out;omega)⟩
 case ownx =>
  rintro c pre W W' row ⟨rfl,p,x,q,h⟩ hg hr
  exact⟨rfl,p,x,q,h.still hg hr (by have:=HSC.out;omega)⟩
 case start=>exact⟨_,_,_,_,HPI.out⟩
 case body =>
  rintro l pre x W ⟨cs,ks,cv,kv,hpi⟩ hlen
  have hpl:pre.length < 100000:=by
   have h1:=HLN.out
   rw [bl_length] at h1
   have h2:=HM.out
   omega
  have HP:=hZ hpi
  have CR:=hZ (cReadCol x.1.2 x.2.1 W (HT.out.later hpi.m.blw))
  clear hpi hlen
  gi_wp2_with fail
  refine⟨trivial,(CallsIn.inRound l (callsIn_wide.2 CR.out)).mono ?_⟩
  rintro e W1 ⟨c,y,ok,rfl,hres,hb1⟩
  have HP1:=hZ (HP.out.later hb1)
  have hg1:=(Go2.refl w.heap.size w2.heap.size W).below (by have:=HP.out.m.sz;omega) hb1
  have HBX:=hZ (box_new W1 (.cells #[.int .i64 c.id,.string c.nm,.int .i64 c.k,.bool c.u,.bool c.d.u,.int .i64 c.d.n,.string c.d.s] 63))
  have HV:=hZ (Blk.new W1 63 #[.int .i64 c.id,.string c.nm,.int .i64 c.k,.bool c.u,.bool c.d.u,.int .i64 c.d.n,.string c.d.s])
  have HG:=hZ (hg1.below (by have:=HP1.out.m.sz;omega) HBX.out)
  have HP2:=hZ (HP1.out.later HBX.out)
  have HRES:=hZ hres
  have HNC:Hid (cs.length+([c]:List Co).length≤100000000):=hZ (by have:=HP1.out.cl;simp only [List.length_cons,List.length_nil];omega)
  have HNK:Hid (ks.length+([(x.1.1:Int)]:List Int).length≤100000000):=hZ (by have:=HP1.out.kl;simp only [List.length_cons,List.length_nil];omega)
  have HBXS:=hZ HP1.out.m.sz
  unfold kov
  clear hres hb1 hg1 CR HP HP1 HBX
  cases ok with
  | false =>
   have HRN:Hid (Sc.rd (bl x.1.2)=none):=hZ (by
    rcases HRES.out with ⟨h,_⟩|⟨_,_,_,h⟩
    ·cases h
    ·exact Sc.rd_none h)
   have a0:=HP2.out.m.r0.cell 0
   have a1:=HP2.out.m.r0.cell 1
   have a2:=HP2.out.m.r0.frozen 0
   have a3:=HP2.out.m.r0.frozen 1
   have a4:=HP2.out.m.r1.cell 0
   have a5:=HP2.out.m.r1.frozen 0
   have a6:=HP2.out.m.r2.cell 0
   have a7:=HP2.out.m.r2.frozen 0
   simp only [zD,zE,nilS] at a0 a1 a4 a6
   have hr0:=(Blk.put (Blk.put HP2.out.m.r0 0 nilS) 1 nilS)
   have HX0:=hZ ((hr0.far (p:=⟨w.heap.size+1,0,none⟩) (by simp only;omega) (.int .i64 (x.1.1:Nat))).far (p:=⟨w.heap.size+1+1,0,none⟩) (by simp only;omega) (.int .i64 4))
   have hr1:=Blk.put ((HP2.out.m.r1.far (p:=⟨w.heap.size,0,none⟩) (by simp only;omega) nilS).far (p:=⟨w.heap.size,1,none⟩) (by simp only;omega) nilS) 0 (.int .i64 (x.1.1:Nat))
   have HX1:=hZ (hr1.far (p:=⟨w.heap.size+1+1,0,none⟩) (by simp only;omega) (.int .i64 4))
   have HX2:=hZ (Blk.put (((HP2.out.m.r2.far (p:=⟨w.heap.size,0,none⟩) (by simp only;omega) nilS).far (p:=⟨w.heap.size,1,none⟩) (by simp only;omega) nilS).far (p:=⟨w.heap.size+1,0,none⟩) (by simp only;omega) (.int .i64 (x.1.1:Nat))) 0 (.int .i64 4))
   have HXB:=hZ ((((HP2.out.m.blw.setCell (p:=⟨w.heap.size,0,none⟩) (Nat.le_refl _) nilS).setCell (p:=⟨w.heap.size,1,none⟩) (Nat.le_refl _) nilS).setCell (p:=⟨w.heap.size+1,0,none⟩) (Nat.le_succ _) (.int .i64 (x.1.1:Nat))).setCell (p:=⟨w.heap.size+1+1,0,none⟩) (by simp only;omega) (.int .i64 4))
   have HXG:=hZ ((((HG.out.set (p:=⟨w.heap.size,0,none⟩) (Nat.le_refl _) nilS).set (p:=⟨w.heap.size,1,none⟩) (Nat.le_refl _) nilS).set (p:=⟨w.heap.size+1,0,none⟩) (Nat.le_succ _) (.int .i64 (x.1.1:Nat))).set (p:=⟨w.heap.size+1+1,0,none⟩) (by simp only;omega) (.int .i64 4))
   unfold nilS at HX0 HX1 HX2 HXB HXG
   have HPX:=hZ HP2.out.acc
   clear hr0 hr1 HRES HNC HNK HV HG
   gi_wp2_with fail
   exact⟨HXG.out.kf,rfl,pre.map num,num x,(cs,ks),⟨by rw [List.map_append];rfl,HPX.out,HRN.out,HX0.out,HX1.out,HX2.out,HXB.out⟩⟩
  | true =>
   have HRD:Hid (Sc.rd (bl x.1.2)=some (c,y)):=hZ (by
    rcases HRES.out with ⟨_,h⟩|⟨h,_⟩
    ·exact Sc.rd_some h
    ·cases h)
   clear HRES
   cases y with
   | false =>
    have bb:=box_new (W1.alloc (.cells #[.int .i64 c.id,.string c.nm,.int .i64 c.k,.bool c.u,.bool c.d.u,.int .i64 c.d.n,.string c.d.s] 63)) (.cells #[.int .i64 c.id,.string c.nm,.int .i64 c.k,.bool c.u,.bool c.d.u,.int .i64 c.d.n,.string c.d.s] 63)
    have HMC:=hZ (HP2.out.m.later bb)
    have HRCC:=hZ (rd_one 63 coL (W1.alloc (.cells #[.int .i64 c.id,.string c.nm,.int .i64 c.k,.bool c.u,.bool c.d.u,.int .i64 c.d.n,.string c.d.s] 63)) c #[.int .i64 c.id,.string c.nm,.int .i64 c.k,.bool c.u,.bool c.d.u,.int .i64 c.d.n,.string c.d.s] rfl)
    rw [show (W1.alloc (.cells #[.int .i64 c.id,.string c.nm,.int .i64 c.k,.bool c.u,.bool c.d.u,.int .i64 c.d.n,.string c.d.s] 63)).heap.size=W1.heap.size+1 by simp] at HRCC
    have HGC:=hZ (HG.out.below (by have:=HP2.out.m.sz;omega) bb)
    have HSZC:=hZ (show w.heap.size+4≤((W1.alloc (.cells #[.int .i64 c.id,.string c.nm,.int .i64 c.k,.bool c.u,.bool c.d.u,.int .i64 c.d.n,.string c.d.s] 63)).alloc (.cells #[.int .i64 c.id,.string c.nm,.int .i64 c.k,.bool c.u,.bool c.d.u,.int .i64 c.d.n,.string c.d.s] 63)).heap.size by have:=HMC.out.sz;omega)
    have hd0:=HP2.out.m.rd.cell 0
    simp only [zD,zE] at hd0
    obtain⟨e0,e1,e2,e3,e4,e5,e6⟩:=col7 HV.out
    clear bb
    gi_wp2_with (gi_at_builtin;refine wpListIn_app coL coY rfl (.tmp 38) (.tmp 40) rfl (w.heap.size+4) cv cs rfl HMC.out.oc _ [c] rfl HRCC.out HNC.out HSZC.out ?_;intro v1 w1 ho1 hg1;obtain⟨nv,va,vc,rfl⟩:=own_form ho1;have HA:=hZ (HMC.out.col ho1 hg1);have HGA:=hZ (HGC.out.app HMC.out.oc hg1 (by omega) (by have:=HMC.out.sz;omega));have q0:=HA.out.1.cell 0;have q1:=HA.out.1.cell 1;have q2:=HA.out.1.frozen 0;have q3:=HA.out.1.frozen 1;simp only [zD,zE] at q0 q1;clear ho1 hg1)
    exact⟨(HGA.out.set (by simp only;omega) _).kf,(HGA.out.set (by simp only;omega) _).blw,cs++[c],ks,_,kv,HP2.out.put HRD.out rfl HA.out.2⟩
   | true =>
    have bb:=box_new (W1.alloc (.cells #[.int .i64 c.id,.string c.nm,.int .i64 c.k,.bool c.u,.bool c.d.u,.int .i64 c.d.n,.string c.d.s] 63)) (.cells #[.int .i64 (x.1.1:Nat)] 3)
    have HMb:=hZ (HP2.out.m.later bb)
    have HVb:=hZ (HV.out.later bb)
    have HRI:=hZ (rd_one 3 inL (W1.alloc (.cells #[.int .i64 c.id,.string c.nm,.int .i64 c.k,.bool c.u,.bool c.d.u,.int .i64 c.d.n,.string c.d.s] 63)) (x.1.1:Int) #[.int .i64 (x.1.1:Nat)] rfl)
    have HGb:=hZ (HG.out.below (by have:=HP2.out.m.sz;omega) bb)
    have HSb:=hZ (show w.heap.size+4≤((W1.alloc (.cells #[.int .i64 c.id,.string c.nm,.int .i64 c.k,.bool c.u,.bool c.d.u,.int .i64 c.d.n,.string c.d.s] 63)).alloc (.cells #[.int .i64 (x.1.1:Nat)] 3)).heap.size by have:=HMb.out.sz;omega)
    have hd1:=HP2.out.m.rd.cell 1
    simp only [zD,zE] at hd1
    clear bb
    rw [show (W1.alloc (.cells #[.int .i64 c.id,.string c.nm,.int .i64 c.k,.bool c.u,.bool c.d.u,.int .i64 c.d.n,.string c.d.s] 63)).heap.size=W1.heap.size+1 by simp] at HRI
    have HBN:Hid (w.heap.size+1+1+1≠W1.heap.size):=hZ (by have:=HBXS.out;omega)
    gi_wp2_with (first
     | (gi_at_builtin
        refine wpListIn_app inL inY rfl (.tmp 32) (.tmp 34) rfl (w.heap.size+4) kv ks rfl HMb.out.ok _ [(x.1.1:Int)] rfl HRI.out HNK.out HSb.out ?_
        intro v1 w1 ho1 hg1
        obtain⟨nv,va,vc,rfl⟩:=own_form ho1
        have HA:=hZ (HMb.out.key ho1 hg1)
        have hv3:=((HVb.out.app2 hg1 HMb.out.ok (by decide))).far (p:=⟨w.heap.size+1+1+1,1,none⟩) HBN.out (.slice va nv vc)
        have HG3:=hZ ((HGb.out.app HMb.out.ok hg1 (by omega) (by have:=HMb.out.sz;omega)).set (p:=⟨w.heap.size+1+1+1,1,none⟩) (by simp only;omega) (.slice va nv vc))
        have q0:=HA.out.1.cell 0
        have q1:=HA.out.1.cell 1
        have q2:=HA.out.1.frozen 0
        have q3:=HA.out.1.frozen 1
        have hd0:=HA.out.2.rd.cell 0
        simp only [zD,zE] at q0 q1 hd0
        obtain⟨e0,e1,e2,e3,e4,e5,e6⟩:=col7 hv3
        have b3:=box_new (w1.setCell ⟨w.heap.size+1+1+1,1,none⟩ (.slice va nv vc)) (.cells #[.int .i64 c.id,.string c.nm,.int .i64 c.k,.bool c.u,.bool c.d.u,.int .i64 c.d.n,.string c.d.s] 63)
        have HM3:=hZ (HA.out.2.later b3)
        have HG4:=hZ (HG3.out.below (by have:=HA.out.2.sz;omega) b3)
        have hrc3:=rd_one 63 coL (w1.setCell ⟨w.heap.size+1+1+1,1,none⟩ (.slice va nv vc)) c #[.int .i64 c.id,.string c.nm,.int .i64 c.k,.bool c.u,.bool c.d.u,.int .i64 c.d.n,.string c.d.s] rfl
        rw [World.size_setCell] at hrc3
        have HRC3:=hZ hrc3
        have HSZ3:=hZ (show w.heap.size+4≤((w1.setCell ⟨w.heap.size+1+1+1,1,none⟩ (.slice va nv vc)).alloc (.cells #[.int .i64 c.id,.string c.nm,.int .i64 c.k,.bool c.u,.bool c.d.u,.int .i64 c.d.n,.string c.d.s] 63)).heap.size by have:=HM3.out.sz;omega)
        clear ho1 hg1 hv3 b3 hrc3 HG3)
     | (gi_at_builtin
        refine wpListIn_app coL coY rfl (.tmp 38) (.tmp 40) rfl (w.heap.size+4) cv cs rfl HM3.out.oc _ [c] rfl HRC3.out HNC.out HSZ3.out ?_
        intro v2 w3 ho2 hg2
        obtain⟨nv2,va2,vc2,rfl⟩:=own_form ho2
        have HA2:=hZ (HM3.out.col ho2 hg2)
        have HGA2:=hZ (HG4.out.app HM3.out.oc hg2 (by omega) (by have:=HM3.out.sz;omega))
        clear q0 q1 q2 q3
        have q0:=HA2.out.1.cell 0
        have q1:=HA2.out.1.cell 1
        have q2:=HA2.out.1.frozen 0
        have q3:=HA2.out.1.frozen 1
        simp only [zD,zE] at q0 q1
        clear ho2 hg2))
    exact⟨(HGA2.out.set (by simp only;omega) _).kf,(HGA2.out.set (by simp only;omega) _).blw,cs++[c],ks++[(x.1.1:Int)],_,_,HP2.out.put HRD.out rfl HA2.out.2⟩
 case done =>
  rintro D xs W hD hx ⟨cs,ks,cv,kv,hpi⟩ hKD
  have hD5:w.heap.size+5≤D:=by have:=HSC.out;omega
  have HAA:Hid (Sc.fin cs ks=a):=hZ (by
   rw [← HA.out]
   have:=hpi.acc
   rw [hx] at this
   exact (Sc.prs_done _ (bl s) (Nat.le_refl _) 0 [] [] (cs,ks) this).symm)
  obtain⟨d,hd⟩:∃ d,Sc.ck cs ks=d:=⟨_,rfl⟩
  have CC:=hZ (cCheckS cv kv cs ks W (HT.out.later hpi.m.blw) (RdK.of hpi.m.oc) (RdI.of hpi.m.ok) (fun c hc=>col_ok (hpi.cc c hc)) (fun k hk=>by have:=hpi.kk k hk;constructor<;>omega) d hd)
  have HMM:=hZ hpi.m
  have HDD:=hZ hd
  have hdc:=Sc.ck_cases cs ks
  rw [hd] at hdc
  obtain⟨cn,ca,cc,rfl⟩:=own_form hpi.m.oc
  obtain⟨kn,ka,kc,rfl⟩:=own_form hpi.m.ok
  have d0:=hpi.m.rd.cell 0
  have d1:=hpi.m.rd.cell 1
  simp only [zD,zE] at d0 d1
  have hDW:D < W.heap.size:=(Array.getElem?_eq_some_iff.1 hKD).1
  clear hd hpi hx HA
  gi_wp2_with fail
  refine⟨trivial,(callsIn_wide.2 CC.out).mono ?_⟩
  rintro e W3 ⟨rfl,hb3⟩
  have HM3:=hZ (HMM.out.later hb3)
  have hK3:W3.heap[D]?=some (.deferred (some [])):=(hb3.block D hDW).trans hKD
  clear d0 d1 CC HMM hKD hb3 hDW
  have d0:=HM3.out.rd.cell 0
  have d1:=HM3.out.rd.cell 1
  have a0:=HM3.out.r0.cell 0
  have a1:=HM3.out.r0.cell 1
  have a2:=HM3.out.r0.frozen 0
  have a3:=HM3.out.r0.frozen 1
  have a4:=HM3.out.r1.cell 0
  have a5:=HM3.out.r1.frozen 0
  have a6:=HM3.out.r2.cell 0
  have a7:=HM3.out.r2.frozen 0
  simp only [zD,zE,nilS] at a0 a1 a4 a6 d0 d1
  rcases hdc with rfl|rfl
  ·have HAE:Hid (a=⟨cs,ks,0,0⟩):=hZ (by rw [← HAA.out];unfold Sc.fin;rw [if_pos HDD.out])
   have hr0:=hZ ((((Blk.put (Blk.put HM3.out.r0 0 (.slice ca cn cc)) 1 (.slice ka kn kc))).far (p:=⟨w.heap.size+1,0,none⟩) (by simp only;omega) (.int .i64 0)).far (p:=⟨w.heap.size+1+1,0,none⟩) (by simp only;omega) (.int .i64 0))
   have hr1:=hZ ((Blk.put (((HM3.out.r1).far (p:=⟨w.heap.size,0,none⟩) (by simp only;omega) (.slice ca cn cc)).far (p:=⟨w.heap.size,1,none⟩) (by simp only;omega) (.slice ka kn kc)) 0 (.int .i64 0)).far (p:=⟨w.heap.size+1+1,0,none⟩) (by simp only;omega) (.int .i64 0))
   have hr2:=hZ (Blk.put ((((HM3.out.r2).far (p:=⟨w.heap.size,0,none⟩) (by simp only;omega) (.slice ca cn cc)).far (p:=⟨w.heap.size,1,none⟩) (by simp only;omega) (.slice ka kn kc)).far (p:=⟨w.heap.size+1,0,none⟩) (by simp only;omega) (.int .i64 0)) 0 (.int .i64 0))
   have hbw:=hZ (((((HM3.out.blw.setCell (p:=⟨w.heap.size,0,none⟩) (by simp only;omega) (.slice ca cn cc)).setCell (p:=⟨w.heap.size,1,none⟩) (by simp only;omega) (.slice ka kn kc)).setCell (p:=⟨w.heap.size+1,0,none⟩) (by simp only;omega) (.int .i64 0)).setCell (p:=⟨w.heap.size+1+1,0,none⟩) (by simp only;omega) (.int .i64 0)))
   have hkd:=hZ ((heap_set_far (((W3.setCell ⟨w.heap.size,0,none⟩ (.slice ca cn cc)).setCell ⟨w.heap.size,1,none⟩ (.slice ka kn kc)).setCell ⟨w.heap.size+1,0,none⟩ (.int .i64 0)) (p:=⟨w.heap.size+1+1,0,none⟩) (.int .i64 0) (g:=D) (by simp only;omega)).trans ((heap_set_far ((W3.setCell ⟨w.heap.size,0,none⟩ (.slice ca cn cc)).setCell ⟨w.heap.size,1,none⟩ (.slice ka kn kc)) (p:=⟨w.heap.size+1,0,none⟩) (.int .i64 0) (g:=D) (by simp only;omega)).trans ((heap_set_far (W3.setCell ⟨w.heap.size,0,none⟩ (.slice ca cn cc)) (p:=⟨w.heap.size,1,none⟩) (.slice ka kn kc) (g:=D) (by simp only;omega)).trans ((heap_set_far W3 (p:=⟨w.heap.size,0,none⟩) (.slice ca cn cc) (g:=D) (by simp only;omega)).trans hK3))))
   have hoc:=hZ (own_far (own_far (own_far (own_far HM3.out.oc (p:=⟨w.heap.size,0,none⟩) (by simp only;omega) (.slice ca cn cc)) (p:=⟨w.heap.size,1,none⟩) (by simp only;omega) (.slice ka kn kc)) (p:=⟨w.heap.size+1,0,none⟩) (by simp only;omega) (.int .i64 0)) (p:=⟨w.heap.size+1+1,0,none⟩) (by simp only;omega) (.int .i64 0))
   have hok:=hZ (own_far (own_far (own_far (own_far HM3.out.ok (p:=⟨w.heap.size,0,none⟩) (by simp only;omega) (.slice ca cn cc)) (p:=⟨w.heap.size,1,none⟩) (by simp only;omega) (.slice ka kn kc)) (p:=⟨w.heap.size+1,0,none⟩) (by simp only;omega) (.int .i64 0)) (p:=⟨w.heap.size+1+1,0,none⟩) (by simp only;omega) (.int .i64 0))
   clear hK3 HDD HAA
   gi_wp2_with fail
   have hg:=grownBy_putObj' ((((W3.setCell ⟨w.heap.size,0,none⟩ (.slice ca cn cc)).setCell ⟨w.heap.size,1,none⟩ (.slice ka kn kc)).setCell ⟨w.heap.size+1,0,none⟩ (.int .i64 0)).setCell ⟨w.heap.size+1+1,0,none⟩ (.int .i64 0)) D (.deferred none)
   have hn:NoCells ((((W3.setCell ⟨w.heap.size,0,none⟩ (.slice ca cn cc)).setCell ⟨w.heap.size,1,none⟩ (.slice ka kn kc)).setCell ⟨w.heap.size+1,0,none⟩ (.int .i64 0)).setCell ⟨w.heap.size+1+1,0,none⟩ (.int .i64 0)) (some D):=fun r e=>by injection e with e;subst e;exact⟨_,hkd.out,rfl⟩
   refine⟨by simp,.inl ⟨_,_,rfl,run_takeDeferred hkd.out,?_⟩⟩
   refine⟨_,retP rfl _ _ w.heap.size (w.heap.size+1) (w.heap.size+1+1) (.slice ca cn cc) (.slice ka kn kc) 0 0 rfl rfl rfl (hr0.out.still hg hn) (hr1.out.still hg hn) (hr2.out.still hg hn),.slice ca cn cc,.slice ka kn kc,?_,?_,?_,?_⟩
   ·rw [HAE.out];rfl
   ·rw [HAE.out];exact Gn.Own.lower (own_still hoc.out hg hn) (by omega)
   ·rw [HAE.out];exact Gn.Own.lower (own_still hok.out hg hn) (by omega)
   ·exact hbw.out.grown hg hbw.out.size (fun g e=>by injection e with e;omega)
  ·have HAE:Hid (a=⟨[],[],0,2⟩):=hZ (by rw [← HAA.out];unfold Sc.fin;rw [if_neg (by rw [HDD.out];decide)])
   have hr0:=hZ ((((Blk.put (Blk.put HM3.out.r0 0 (.slice none 0 0)) 1 (.slice none 0 0))).far (p:=⟨w.heap.size+1,0,none⟩) (by simp only;omega) (.int .i64 0)).far (p:=⟨w.heap.size+1+1,0,none⟩) (by simp only;omega) (.int .i64 2))
   have hr1:=hZ ((Blk.put (((HM3.out.r1).far (p:=⟨w.heap.size,0,none⟩) (by simp only;omega) (.slice none 0 0)).far (p:=⟨w.heap.size,1,none⟩) (by simp only;omega) (.slice none 0 0)) 0 (.int .i64 0)).far (p:=⟨w.heap.size+1+1,0,none⟩) (by simp only;omega) (.int .i64 2))
   have hr2:=hZ (Blk.put ((((HM3.out.r2).far (p:=⟨w.heap.size,0,none⟩) (by simp only;omega) (.slice none 0 0)).far (p:=⟨w.heap.size,1,none⟩) (by simp only;omega) (.slice none 0 0)).far (p:=⟨w.heap.size+1,0,none⟩) (by simp only;omega) (.int .i64 0)) 0 (.int .i64 2))
   have hbw:=hZ (((((HM3.out.blw.setCell (p:=⟨w.heap.size,0,none⟩) (by simp only;omega) (.slice none 0 0)).setCell (p:=⟨w.heap.size,1,none⟩) (by simp only;omega) (.slice none 0 0)).setCell (p:=⟨w.heap.size+1,0,none⟩) (by simp only;omega) (.int .i64 0)).setCell (p:=⟨w.heap.size+1+1,0,none⟩) (by simp only;omega) (.int .i64 2)))
   have hkd:=hZ ((heap_set_far (((W3.setCell ⟨w.heap.size,0,none⟩ (.slice none 0 0)).setCell ⟨w.heap.size,1,none⟩ (.slice none 0 0)).setCell ⟨w.heap.size+1,0,none⟩ (.int .i64 0)) (p:=⟨w.heap.size+1+1,0,none⟩) (.int .i64 2) (g:=D) (by simp only;omega)).trans ((heap_set_far ((W3.setCell ⟨w.heap.size,0,none⟩ (.slice none 0 0)).setCell ⟨w.heap.size,1,none⟩ (.slice none 0 0)) (p:=⟨w.heap.size+1,0,none⟩) (.int .i64 0) (g:=D) (by simp only;omega)).trans ((heap_set_far (W3.setCell ⟨w.heap.size,0,none⟩ (.slice none 0 0)) (p:=⟨w.heap.size,1,none⟩) (.slice none 0 0) (g:=D) (by simp only;omega)).trans ((heap_set_far W3 (p:=⟨w.heap.size,0,none⟩) (.slice none 0 0) (g:=D) (by simp only;omega)).trans hK3))))
   clear hK3 HDD HAA
   gi_wp2_with fail
   have hg:=grownBy_putObj' ((((W3.setCell ⟨w.heap.size,0,none⟩ (.slice none 0 0)).setCell ⟨w.heap.size,1,none⟩ (.slice none 0 0)).setCell ⟨w.heap.size+1,0,none⟩ (.int .i64 0)).setCell ⟨w.heap.size+1+1,0,none⟩ (.int .i64 2)) D (.deferred none)
   have hn:NoCells ((((W3.setCell ⟨w.heap.size,0,none⟩ (.slice none 0 0)).setCell ⟨w.heap.size,1,none⟩ (.slice none 0 0)).setCell ⟨w.heap.size+1,0,none⟩ (.int .i64 0)).setCell ⟨w.heap.size+1+1,0,none⟩ (.int .i64 2)) (some D):=fun r e=>by injection e with e;subst e;exact⟨_,hkd.out,rfl⟩
   refine⟨by simp,.inl ⟨_,_,rfl,run_takeDeferred hkd.out,?_⟩⟩
   refine⟨_,retP rfl _ _ w.heap.size (w.heap.size+1) (w.heap.size+1+1) (.slice none 0 0) (.slice none 0 0) 0 2 rfl rfl rfl (hr0.out.still hg hn) (hr1.out.still hg hn) (hr2.out.still hg hn),.slice none 0 0,.slice none 0 0,?_,?_,?_,?_⟩
   ·rw [HAE.out];rfl
   ·rw [HAE.out];exact Gn.Own.nil _ _
   ·rw [HAE.out];exact Gn.Own.nil _ _
   ·exact hbw.out.grown hg hbw.out.size (fun g e=>by injection e with e;omega)
 case stop =>
  rintro D c pre W hD ⟨p,x,r,hpx,hl⟩ ⟨rfl,p',x',q,h⟩ hKD
  have hD5:w.heap.size+5≤D:=by have:=HSC.out;omega
  have HX:=hZ h
  have HAE:Hid (a=⟨[],[],x'.1,4⟩):=hZ (by
   have e:=hpx.symm.trans h.pre
   obtain⟨e1,e2⟩:=List.append_inj' e rfl
   subst e1
   injection e2 with e2
   subst e2
   rw [← HA.out]
   exact Sc.prs_stop _ (bl s) (Nat.le_refl _) 0 [] [] _ _ _ q hl h.acc h.rd)
  clear hpx hl h HA
  gi_wp2
  have hg:=grownBy_putObj' W D (.deferred none)
  have hn:NoCells W (some D):=fun r e=>by injection e with e;subst e;exact⟨_,hKD,rfl⟩
  refine⟨by simp,.inl ⟨_,_,rfl,run_takeDeferred hKD,?_⟩⟩
  refine⟨_,retP rfl _ _ w.heap.size (w.heap.size+1) (w.heap.size+1+1) (.slice none 0 0) (.slice none 0 0) (x'.1:Nat) 4 rfl rfl rfl (HX.out.r0.still hg hn) (HX.out.r1.still hg hn) (HX.out.r2.still hg hn),.slice none 0 0,.slice none 0 0,?_,?_,?_,?_⟩
  ·rw [HAE.out]
  ·rw [HAE.out];exact Gn.Own.nil _ _
  ·rw [HAE.out];exact Gn.Own.nil _ _
  ·exact HX.out.blw.grown hg HX.out.blw.size (fun g e=>by injection e with e;omega)
def JT (g n:Nat) (wd:ByteArray) (j:Nat) (v:Value) (w:World):Prop:=match j with
 | 0=>∃ g6,v=.slice (some ⟨g6,0,none⟩) 6 6∧WordsAt w g6
 | 1=>v=.pointer (some ⟨g,0,none⟩)
 | 2=>v=.int .i64 (n:Nat)
 | 3=>∃ g6,v=.pointer (some ⟨g6,n,none⟩)∧w.cell? ⟨g6,n,none⟩=some (.string wd)
 | _=>v=.string wd
def JW (g:Nat) (c:Co) (y:Bool) (tw tx:ByteArray) (j:Nat) (v:Value) (w:World):Prop:=match j with
 | 0=>v=.pointer (some ⟨g,0,none⟩)
 | 1=>v=.int .i64 c.id
 | 2=>v=.string (itS c.id)
 | 3=>v=.pointer (some ⟨g,1,none⟩)
 | 4=>v=.string c.nm
 | 5=>v=.pointer (some ⟨g,2,none⟩)
 | 6=>v=tv c.u c.k
 | 7=>v=.bool y
 | 8=>v=.string tw
 | 9=>v=.string tx
 | _=>∃ gs,v=.slice (some ⟨gs,0,none⟩) 4 4∧Four w gs (itS c.id) c.nm tw tx
theorem cContains (kv:Value) (ks:List Int) (w:World) (h:RdI w w.heap.size kv ks) (x:Int):Calls Tryz.prog 125 #[kv,.int .i64 x] w fun e w'=>e=.returned (.bool (ks.contains x))∧w=w':=by
 have hl:=Gn.Rd.len' h
 obtain⟨a,c,rfl,_⟩:=Gn.Rd.form h
 cases ks with
 | nil=>exact (Tryz.slices_Contains_int_empty a c x w).mono fun e w' ⟨h1,h2⟩=>⟨h1,h2.symm⟩
 | cons k ks =>
  have h0:=rdI_cell h (Below.refl _ _) (i:=0) (x:=k) rfl
  obtain⟨b,off,rfl,_⟩:=h0
  have:=Tryz.slices_Contains_int b off (k::ks).length c (k::ks) x w (Nat.le_refl _) hl (fun j hj=>by
   obtain⟨b',off',e,hc⟩:=rdI_cell h (Below.refl _ _) (i:=j) (x:=(k::ks)[j]) (List.getElem?_eq_getElem hj)
   injection e with e
   injection e with e1 e2
   subst e1 e2
   rw [hc,List.getD_eq_getElem?_getD,List.getElem?_eq_getElem hj];rfl)
  rw [List.take_length] at this
  exact this.mono fun e w' ⟨h1,h2⟩=>⟨h1,h2.symm⟩
open Go.RowKit
end Go.Proofs.YtenfjmdajlhfoabGreatDoor
