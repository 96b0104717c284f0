/- Texts. -/
import Derived.Test.YtenfjmdajlhfoabGreatDoorKScb
import Derived.OrdersIn
import Derived.ControlIn
import Derived.TacticsIn
import Derived.RangeFuncCalls
set_option maxHeartbeats 8000000
namespace Go.Proofs.YtenfjmdajlhfoabGreatDoor
open Go Go.RowKit
set_option linter.unusedVariables false
def upd (d:Nat→Bool) (j:Nat):Nat→Bool:=fun i=>if i=j then true else d i
structure GInvI (Lt:World→World→Prop) (I:(Nat→Bool)→World→Prop) (ops:Array Oper) (J:Nat→Value→World→Prop) (a0:Act) (w0:World) (listed:Array Bool) (a:Act) (w:World):Prop where
 b:Lt w0 w
 size:a.tmps.size=a0.tmps.size
 defers:a.defers=a0.defers
 old:∀ s,(∀ j,j < ops.size→dstOf ops j≠some s)→a.tmps[s]?=a0.tmps[s]?
 ls:listed.size=ops.size
 got:∀ j,j < ops.size→listed.getD j false=true→J j (valOf ops a j) w
 inv:I (fun j=>listed.getD j false) w
theorem GInvI.step {Lt:World→World→Prop} {I:(Nat→Bool)→World→Prop} {X:(Nat→Bool)→World→World→Prop} (ht:∀ a b c,Lt a b→Lt b c→Lt a c) {ops:Array Oper} {J:Nat→Value→World→Prop} {a0:Act} {w0:World} (hB:growB ops a0.tmps.size=true) (hJ:∀ (d:Nat→Bool) (j:Nat) (v:Value) (w w':World),d j=true→J j v w→Lt w w'→X d w w'→J j v w')
 {listed:Array Bool} {a:Act} {w w':World} {i:Nat} {o:Oper} {v:Value} (h:GInvI Lt I ops J a0 w0 listed a w) (ho:ops[i]?=some o) (hv:J i (match o.dst with|some _=>v|none=>undef) w') (hb:Lt w w') (hI:I (upd (fun j=>listed.getD j false) i) w') (hX:X (fun j=>listed.getD j false) w w') :
 GInvI Lt I ops J a0 w0 (listed.setIfInBounds i true) (a.put o.dst v) w':=by
 have hi:i < ops.size:=(Array.getElem?_eq_some_iff.1 ho).1
 obtain⟨_,hd⟩:=growB_spec hB ho
 have hdi:dstOf ops i=o.dst:=by unfold dstOf;rw [ho];rfl
 refine⟨ht _ _ _ h.b hb,?_,?_,fun s hs=>?_,by simp [h.ls],fun j hj hl=>?_,?_⟩
 ·unfold Act.put;split<;>simp [h.size]
 ·unfold Act.put;split<;>exact h.defers
 ·have hne:=hs i hi
  rw [hdi] at hne
  unfold Act.put
  split
  ·rename_i d hdd
   rw [hdd] at hne
   rw [Array.getElem?_setIfInBounds_ne (by intro e;exact hne (by rw [e]))]
   exact h.old s hs
  ·exact h.old s hs
 ·by_cases hij:j=i
  ·subst hij
   unfold valOf
   rw [hdi]
   unfold Act.put
   cases hdd:o.dst with
   | none=>rw [hdd] at hv;exact hv
   | some d =>
    rw [hdd] at hv
    have:=(hd d hdd).1
    simp only
    rw [Array.getD_eq_getD_getElem?,Array.getElem?_setIfInBounds_self,if_pos (by rw [h.size];exact this)]
    exact hv
  ·have hl2:listed.getD j false=true:=by
    rw [Array.getD_eq_getD_getElem?,Array.getElem?_setIfInBounds_ne (Ne.symm hij)] at hl
    rw [Array.getD_eq_getD_getElem?];exact hl
   have hg:=hJ (fun j=>listed.getD j false) _ _ _ _ hl2 (h.got j hj hl2) hb hX
   have e:valOf ops (a.put o.dst v) j=valOf ops a j:=by
    unfold valOf
    cases hdj:dstOf ops j with
    | none=>rfl
    | some s =>
     unfold Act.put
     cases hdd:o.dst with
     | none=>rfl
     | some d =>
      have hne:d≠s:=fun e=>(hd d hdd).2 j hj hij (by rw [hdj,e])
      simp only
      rw [Array.getD_eq_getD_getElem?,Array.getElem?_setIfInBounds_ne hne,← Array.getD_eq_getD_getElem?]
   rw [e];exact hg
 ·have e:(fun j=>(listed.setIfInBounds i true).getD j false)=upd (fun j=>listed.getD j false) i:=by
   funext j
   unfold upd
   by_cases hji:j=i
   ·subst hji
    rw [if_pos rfl,Array.getD_eq_getD_getElem?,Array.getElem?_setIfInBounds_self,if_pos (by rw [h.ls];exact hi)];rfl
   ·rw [if_neg hji,Array.getD_eq_getD_getElem?,Array.getElem?_setIfInBounds_ne (fun e=>hji e.symm),← Array.getD_eq_getD_getElem?]
  rw [e];exact hI
theorem wpAny_growI {Lt:World→World→Prop} {I:(Nat→Bool)→World→Prop} {X:(Nat→Bool)→World→World→Prop} (ht:∀ a b c,Lt a b→Lt b c→Lt a c) {P:Program} {ops:Array Oper} {Q:Exit→Act→World→Prop} {J:Nat→Value→World→Prop} {a0:Act} {w0:World} (hB:growB ops a0.tmps.size=true) (hJ:∀ (d:Nat→Bool) (j:Nat) (v:Value) (w w':World),d j=true→J j v w→Lt w w'→X d w w'→J j v w')
 (hstep:∀ (d:Nat→Bool) (j:Nat) (o:Oper) (a:Act) (w:World),ops[j]?=some o→d j=false→(∀ e∈o.after,Region.binds .any e=true→d e.on=true)→I d w→Lt w0 w→a.tmps.size=a0.tmps.size→(∀ s,(∀ j,j < ops.size→dstOf ops j≠some s)→a.tmps[s]?=a0.tmps[s]?) →
  (∀ e∈o.after,Region.binds .any e=true→J e.on (valOf ops a e.on) w)→wpOp P ops Q j (fun a' w'=>∃ v,a'=a.put o.dst v∧J j (match o.dst with|some _=>v|none=>undef) w'∧Lt w w'∧I (upd d j) w'∧X d w w') a w)
 (hend:∀ a w,I (fun j=>decide (j < ops.size)) w→Lt w0 w→a.defers=a0.defers→a.tmps.size=a0.tmps.size→(∀ s,(∀ j,j < ops.size→dstOf ops j≠some s)→a.tmps[s]?=a0.tmps[s]?)→(∀ j,j < ops.size→J j (valOf ops a j) w)→Q .normal a w) :
 ∀ (fuel:Nat) (listed:Array Bool) (a:Act) (w:World),GInvI Lt I ops J a0 w0 listed a w→listed.toList.count false=fuel→wpAny P .any ops Q fuel listed a w
 | fuel,listed,a,w,inv,hc=>by
  have fin:Region.ready .any ops listed=[]→Q .normal a w:=fun h0=>by
   have hall:∀ j,j < ops.size→listed.getD j false=true:=by
    intro j
    induction j using Nat.strongRecOn with
    | _ j ih =>
     intro hj
     cases hl:listed.getD j false with
     | true=>rfl
     | false =>
      exfalso
      obtain⟨o,ho⟩:∃ o,ops[j]?=some o:=⟨_,Array.getElem?_eq_getElem hj⟩
      have:j∈Region.ready .any ops listed:=mem_ready.2 ⟨by
       rw [Array.getD_eq_getD_getElem?] at hl ⊢
       rw [Array.getElem?_eq_getElem (by rw [inv.ls];exact hj)] at hl ⊢
       exact hl,o,ho,fun e he hb=>ih e.on ((growB_spec hB ho).1 e he hb) (by have:=(growB_spec hB ho).1 e he hb;omega)⟩
      rw [h0] at this;cases this
   exact hend a w (by
    have e:(fun j=>listed.getD j false)=fun j=>decide (j < ops.size):=by
     funext j
     by_cases hj:j < ops.size
     ·simp only [hall j hj,hj,decide_true]
     ·rw [Array.getD_eq_getD_getElem?,Array.getElem?_eq_none (by rw [inv.ls];omega)]
      simp [hj]
    rw [← e];exact inv.inv) inv.b inv.defers inv.size inv.old fun j hj=>inv.got j hj (hall j hj)
  cases fuel with
  | zero =>
   refine⟨?_,?_⟩
   ·cases hr:Region.ready .any ops listed with
    | nil=>rfl
    | cons i t =>
     exfalso
     have hi:i∈Region.ready .any ops listed:=by rw [hr];exact List.mem_cons_self ..
     obtain⟨hun,o,ho,_⟩:=mem_ready.1 hi
     have hlt:i < listed.size:=by rw [inv.ls];exact (Array.getElem?_eq_some_iff.1 ho).1
     have:=List.count_eq_zero.1 hc
     rw [Array.getD_eq_getD_getElem?,Array.getElem?_eq_getElem hlt] at hun
     exact this (by rw [← show listed[i]=false from hun];exact Array.getElem_mem_toList hlt)
   ·refine fin ?_
    cases hr:Region.ready .any ops listed with
    | nil=>rfl
    | cons i t =>
     exfalso
     have hi:i∈Region.ready .any ops listed:=by rw [hr];exact List.mem_cons_self ..
     obtain⟨hun,o,ho,_⟩:=mem_ready.1 hi
     have hlt:i < listed.size:=by rw [inv.ls];exact (Array.getElem?_eq_some_iff.1 ho).1
     have:=List.count_eq_zero.1 hc
     rw [Array.getD_eq_getD_getElem?,Array.getElem?_eq_getElem hlt] at hun
     exact this (by rw [← show listed[i]=false from hun];exact Array.getElem_mem_toList hlt)
  | succ f =>
   refine⟨fin,fun i hi=>?_⟩
   obtain⟨hun,o,ho,hdep⟩:=mem_ready.1 hi
   have hlt:i < listed.size:=by rw [inv.ls];exact (Array.getElem?_eq_some_iff.1 ho).1
   refine wpOp_mono (fun a' w' hh=>?_) (hstep _ i o a w ho (by rw [Array.getD_eq_getD_getElem?] at hun ⊢;rw [Array.getElem?_eq_getElem hlt] at hun ⊢;exact hun) hdep inv.inv inv.b inv.size inv.old fun e he hb=>inv.got e.on (by have:=(growB_spec hB ho).1 e he hb;have:=(Array.getElem?_eq_some_iff.1 ho).1;omega) (hdep e he hb))
   obtain⟨v,rfl,hv,hb,hI,hX⟩:=hh
   have hcount:(listed.setIfInBounds i true).toList.count false=f:=by
    obtain⟨l⟩:=listed
    simp only [List.size_toArray] at hlt
    simp [hlt] at hun
    simp only [List.setIfInBounds_toArray]
    have hm:l.count false≠0:=by
     intro h0
     exact List.count_eq_zero.1 h0 (hun▸List.getElem_mem hlt)
    simp only at hc
    rw [List.count_set hlt,hun]
    simp
    omega
   exact wpAny_growI ht hB hJ hstep hend f _ _ _ (inv.step ht hB hJ ho hv hb hI hX) hcount
theorem region_growI (Lt:World→World→Prop) (I:(Nat→Bool)→World→Prop) (X:(Nat→Bool)→World→World→Prop) (hr:∀ w,Lt w w) (ht:∀ a b c,Lt a b→Lt b c→Lt a c) {P:Program} {id:Nat} {ops:Array Oper} {Q:Exit→Act→World→Prop} (J:Nat→Value→World→Prop) {a0:Act} {w:World} (hm:P.follows .mixedOrders=true) (hB:growB ops a0.tmps.size=true) (hJ:∀ (d:Nat→Bool) (j:Nat) (v:Value) (w w':World),d j=true→J j v w→Lt w w'→X d w w'→J j v w') (h0:I (fun _=>false) w.drew)
 (hstep:∀ (d:Nat→Bool) (j:Nat) (o:Oper) (a:Act) (w1:World),ops[j]?=some o→d j=false→(∀ e∈o.after,Region.binds .any e=true→d e.on=true)→I d w1→Lt w.drew w1→a.tmps.size=a0.tmps.size→(∀ s,(∀ j,j < ops.size→dstOf ops j≠some s)→a.tmps[s]?=a0.tmps[s]?) →
  (∀ e∈o.after,Region.binds .any e=true→J e.on (valOf ops a e.on) w1)→wpOp P ops Q j (fun a' w'=>∃ v,a'=a.put o.dst v∧J j (match o.dst with|some _=>v|none=>undef) w'∧Lt w1 w'∧I (upd d j) w'∧X d w1 w') a w1)
 (hend:∀ a w1,I (fun j=>decide (j < ops.size)) w1→Lt w.drew w1→a.defers=a0.defers→a.tmps.size=a0.tmps.size→(∀ s,(∀ j,j < ops.size→dstOf ops j≠some s)→a.tmps[s]?=a0.tmps[s]?)→(∀ j,j < ops.size→J j (valOf ops a j) w1)→Q .normal a w1):(Code.region id ops true).wp P Q a0 w:=by
 refine wp_region_any hm ?_
 exact wpAny_growI ht (w0:=w.drew) hB hJ hstep hend _ _ _ _ ⟨hr _,rfl,rfl,fun s _=>rfl,by simp,fun j hj hl=>by rw [Array.getD_eq_getD_getElem?] at hl;simp [hj] at hl,by
  have e:(fun j=>(Array.replicate ops.size false).getD j false)=fun _=>false:=by
   funext j
   rw [Array.getD_eq_getD_getElem?,Array.getElem?_replicate]
   split<;>rfl
  rw [e];exact h0⟩ (by simp)
theorem growI_val {Lt:World→World→Prop} {I:(Nat→Bool)→World→Prop} {X:(Nat→Bool)→World→World→Prop} {d:Nat→Bool} {P:Program} {ops:Array Oper} {Q:Exit→Act→World→Prop} {J:Nat→Value→World→Prop} {a:Act} {w:World} {j:Nat} {o:Oper} (v:Value) (w':World) (ho:ops[j]?=some o) (hw:Region.wanted o (yielded ops a.tmps)=true)
 (hr:(execOp a.eval o).run P w=.ok (.value v) w') (hb:Lt w w') (hI:I (upd d j) w') (hX:X d w w') (hJ:J j (match o.dst with|some _=>v|none=>undef) w'):wpOp P ops Q j (fun a' w'=>∃ v,a'=a.put o.dst v∧J j (match o.dst with|some _=>v|none=>undef) w'∧Lt w w'∧I (upd d j) w'∧X d w w') a w:=by
 unfold wpOp
 rw [ho]
 simp only [hw,if_true]
 left
 unfold Oper.wp
 rw [hr]
 exact⟨v,rfl,hJ,hb,hI,hX⟩
theorem growI_skip {Lt:World→World→Prop} {I:(Nat→Bool)→World→Prop} {X:(Nat→Bool)→World→World→Prop} {d:Nat→Bool} {P:Program} {ops:Array Oper} {Q:Exit→Act→World→Prop} {J:Nat→Value→World→Prop} {a:Act} {w:World} {j:Nat} {o:Oper} (w':World) (ho:ops[j]?=some o) (hw:Region.wanted o (yielded ops a.tmps)=true)
 (hn:o.dst=none) (hr:(execOp a.eval o).run P w=.ok .skip w') (hb:Lt w w') (hI:I (upd d j) w') (hX:X d w w') (hJ:J j undef w'):wpOp P ops Q j (fun a' w'=>∃ v,a'=a.put o.dst v∧J j (match o.dst with|some _=>v|none=>undef) w'∧Lt w w'∧I (upd d j) w'∧X d w w') a w:=by
 unfold wpOp
 rw [ho]
 simp only [hw,if_true]
 left
 unfold Oper.wp
 rw [hr]
 exact⟨undef,by unfold Act.put;rw [hn],by rw [hn];exact hJ,hb,hI,hX⟩
theorem growI_call {Lt:World→World→Prop} {I:(Nat→Bool)→World→Prop} {X:(Nat→Bool)→World→World→Prop} {d:Nat→Bool} {P:Program} {ops:Array Oper} {Q:Exit→Act→World→Prop} {J:Nat→Value→World→Prop} {a:Act} {w:World} {j:Nat} {o:Oper} (f:FuncId) (args:Array Value) (ho:ops[j]?=some o) (hw:Region.wanted o (yielded ops a.tmps)=true)
 (hr:(execOp a.eval o).run P w=.ok (.enter f args) w) (hc:Calls P f args w fun e w'=>∃ v,e=.returned v∧J j (match o.dst with|some _=>v|none=>undef) w'∧Lt w w'∧I (upd d j) w'∧X d w w'):wpOp P ops Q j (fun a' w'=>∃ v,a'=a.put o.dst v∧J j (match o.dst with|some _=>v|none=>undef) w'∧Lt w w'∧I (upd d j) w'∧X d w w') a w:=by
 unfold wpOp
 rw [ho]
 simp only [hw,if_true]
 left
 unfold Oper.wp
 rw [hr,Oper.upon_enter]
 refine Calls.mono hc fun e w' ⟨v,he,h1,h2,h3,h4⟩=>?_
 subst he
 exact⟨v,rfl,h1,h2,h3,h4⟩
theorem growI_not {Lt:World→World→Prop} {I:(Nat→Bool)→World→Prop} {X:(Nat→Bool)→World→World→Prop} {d:Nat→Bool} {P:Program} {ops:Array Oper} {Q:Exit→Act→World→Prop} {J:Nat→Value→World→Prop} {a:Act} {w:World} {j:Nat} {o:Oper} (ho:ops[j]?=some o) (hw:Region.wanted o (yielded ops a.tmps)=false)
 (hb:Lt w w) (hI:I (upd d j) w) (hX:X d w w) (hJ:J j undef w):wpOp P ops Q j (fun a' w'=>∃ v,a'=a.put o.dst v∧J j (match o.dst with|some _=>v|none=>undef) w'∧Lt w w'∧I (upd d j) w'∧X d w w') a w:=by
 unfold wpOp
 rw [ho]
 simp only [hw]
 exact⟨undef,rfl,by cases o.dst<;>exact hJ,hb,hI,hX⟩
theorem region_growI_merge (Lt:World→World→Prop) (I:(Nat→Bool)→World→Prop) (X:(Nat→Bool)→World→World→Prop) (hr:∀ w,Lt w w) (ht:∀ a b c,Lt a b→Lt b c→Lt a c) {P:Program} {id:Nat} {ops:Array Oper} {Q:Exit→Act→World→Prop} (J:Nat→Value→World→Prop) (ws:List Nat) (R:Array Value→World→Prop) {a0:Act} {w:World} (hm:P.follows .mixedOrders=true) (hB:growB ops a0.tmps.size=true)
 (hW:((List.range ops.size).all fun j=>match dstOf ops j with|some s=>ws.contains s|none=>true)=true) (hJ:∀ (d:Nat→Bool) (j:Nat) (v:Value) (w w':World),d j=true→J j v w→Lt w w'→X d w w'→J j v w') (h0:I (fun _=>false) w.drew)
 (hstep:∀ (Q:Exit→Act→World→Prop) (d:Nat→Bool) (j:Nat) (o:Oper) (a:Act) (w1:World),ops[j]?=some o→d j=false→(∀ e∈o.after,Region.binds .any e=true→d e.on=true)→I d w1→Lt w.drew w1→a.tmps.size=a0.tmps.size→(∀ s,(∀ j,j < ops.size→dstOf ops j≠some s)→a.tmps[s]?=a0.tmps[s]?) →
  (∀ e∈o.after,Region.binds .any e=true→J e.on (valOf ops a e.on) w1)→wpOp P ops Q j (fun a' w'=>∃ v,a'=a.put o.dst v∧J j (match o.dst with|some _=>v|none=>undef) w'∧Lt w1 w'∧I (upd d j) w'∧X d w1 w') a w1)
 (hend:∀ a w1,I (fun j=>decide (j < ops.size)) w1→Lt w.drew w1→(∀ j,j < ops.size→J j (valOf ops a j) w1)→R a.tmps w1)
 (k:∀ (ts:Array Value) (w':World),R ts w'→Q .normal ⟨fill ts ws a0.tmps,a0.defers⟩ w'):(Code.region id ops true).wp P Q a0 w:=by
 refine region_merge ws R (region_growI Lt I X hr ht J hm hB hJ h0 (hstep _) fun a w1 hi hb hd hs hold hj=>⟨rfl,hd,hs,?_,hend a w1 hi hb hj⟩) k
 apply Array.ext_getElem?
 intro i
 rw [blank_get,blank_get,hs]
 by_cases hi:i∈ws
 ·by_cases h2:i < a0.tmps.size
  ·rw [if_pos ⟨hi,h2⟩,if_pos ⟨hi,h2⟩]
  ·rw [if_neg (fun h=>h2 h.2),if_neg (fun h=>h2 h.2),Array.getElem?_eq_none (by omega),Array.getElem?_eq_none (by omega)]
 ·rw [if_neg (fun h=>hi h.1),if_neg (fun h=>hi h.1)]
  refine hold i fun j hj e=>hi ?_
  have:=List.all_eq_true.1 hW j (List.mem_range.2 hj)
  rw [e] at this
  simpa using this
structure Spc (Lt:World→World→Prop) where
 f:Value→World→Prop
 keep:∀ v w w',f v w→Lt w w'→f v w'
def Spc.eq {Lt:World→World→Prop} (u:Value):Spc Lt:=⟨fun v _=>v=u,fun _ _ _ h _=>h⟩
def Spc.any {Lt:World→World→Prop}:Spc Lt:=⟨fun _ _=>True,fun _ _ _ _ _=>trivial⟩
def kjI {Lt:World→World→Prop} (L:Array (Spc Lt)) (j:Nat) (v:Value) (w:World):Prop:=(L.getD j Spc.any).f v w
theorem kjI_later {Lt:World→World→Prop} {X:(Nat→Bool)→World→World→Prop} {L:Array (Spc Lt)}:∀ (d:Nat→Bool) (j:Nat) (v:Value) (w w':World),d j=true→kjI L j v w→Lt w w'→X d w w'→kjI L j v w':=fun d j v w w' _ h hb _=>(L.getD j Spc.any).keep v w w' h hb
def kjP {Lt:World→World→Prop} (p:Nat) (F:Value→World→Prop) (L:Array (Spc Lt)) (j:Nat) (v:Value) (w:World):Prop:=if j=p then F v w else kjI L j v w
theorem yieldedI {ops:Array Oper} {ts:Array Value} {j s:Nat} {b:Bool} (h:dstOf ops j=some s) (e:ts.getD s undef=.bool b):yielded ops ts j=some b:=by
 unfold yielded
 have h':(ops[j]?).bind (·.dst)=some s:=h
 rw [h']
 rw [Array.getD_eq_getD_getElem?] at e
 simp only [Option.bind_some]
 cases hh:ts[s]? with
 | none=>rw [hh] at e;cases e
 | some v=>rw [hh] at e;simp only [Option.getD_some] at e;rw [e]
theorem wantedI {o:Oper} {y:Nat→Option Bool} {j:Nat} {b:Bool} (h:o.guard=some (j,b)) (e:y j=some b):Region.wanted o y=true:=by
 unfold Region.wanted
 rw [h]
 simp [e]
theorem unwantedI {o:Oper} {y:Nat→Option Bool} {j:Nat} {b c:Bool} (h:o.guard=some (j,b)) (e:y j=some c) (hn:c≠b):Region.wanted o y=false:=by
 unfold Region.wanted
 rw [h]
 simp [e,hn]
set_option maxRecDepth 100000
theorem gvT (d:Nat→Bool) {P:Program} {ops:Array Oper} {Q:Exit→Act→World→Prop} {J:Nat→Value→World→Prop} {a:Act} {w:World} {j:Nat} {o:Oper} (v:Value) (ho:ops[j]?=some o) (hw:Region.wanted o (yielded ops a.tmps)=true) (hr:(execOp a.eval o).run P w=.ok (.value v) w) (hJ:J j (match o.dst with|some _=>v|none=>undef) w) :
 wpOp P ops Q j (fun a' w'=>∃ v,a'=a.put o.dst v∧J j (match o.dst with|some _=>v|none=>undef) w'∧(fun u v:World=>Below u.heap.size u v) w w'∧(fun (_:Nat→Bool) (_:World)=>True) (upd d j) w'∧(fun (_:Nat→Bool) (_ _:World)=>True) d w w') a w :=
 growI_val (Lt:=fun u v:World=>Below u.heap.size u v) (I:=fun _ _=>True) (X:=fun _ _ _=>True) (d:=d) v w ho hw hr (Below.refl _ _) trivial trivial hJ
theorem gnT (d:Nat→Bool) {P:Program} {ops:Array Oper} {Q:Exit→Act→World→Prop} {J:Nat→Value→World→Prop} {a:Act} {w:World} {j:Nat} {o:Oper} (ho:ops[j]?=some o) (hw:Region.wanted o (yielded ops a.tmps)=false) (hJ:J j undef w) :
 wpOp P ops Q j (fun a' w'=>∃ v,a'=a.put o.dst v∧J j (match o.dst with|some _=>v|none=>undef) w'∧(fun u v:World=>Below u.heap.size u v) w w'∧(fun (_:Nat→Bool) (_:World)=>True) (upd d j) w'∧(fun (_:Nat→Bool) (_ _:World)=>True) d w w') a w :=
 growI_not (Lt:=fun u v:World=>Below u.heap.size u v) (I:=fun _ _=>True) (X:=fun _ _ _=>True) (d:=d) ho hw (Below.refl _ _) trivial trivial hJ
theorem region_mergeR {l n:Nat} {P:Program} {c:Code} (ws:List Nat) (R:Array Value→World→Prop) {Q:Exit→Act→World→Prop} {a:Act} {w:World}
 (h:c.wpIn (Fence.wide.inRound l) n P (fun e a' w'=>e=.normal∧a'.defers=a.defers∧a'.tmps.size=a.tmps.size∧blank ws a'.tmps=blank ws a.tmps∧R a'.tmps w') a w)
 (k:∀ (ts:Array Value) (w':World),R ts w'→Q .normal ⟨fill ts ws a.tmps,a.defers⟩ w'):c.wpIn (Fence.wide.inRound l) n P Q a w:=by
 refine wpIn_mono h (fun e a' w' hh=>?_)
 obtain⟨rfl,hd,hs,hb,hr⟩:=hh
 have:=k a'.tmps w' hr
 rw [fill_of hb hs,← hd] at this
 exact this
theorem wpAny_growR {l n:Nat} {Lt:World→World→Prop} {I:(Nat→Bool)→World→Prop} {X:(Nat→Bool)→World→World→Prop} (ht:∀ a b c,Lt a b→Lt b c→Lt a c) {P:Program} {ops:Array Oper} {Q:Exit→Act→World→Prop} {J:Nat→Value→World→Prop} {a0:Act} {w0:World} (hB:growB ops a0.tmps.size=true) (hJ:∀ (d:Nat→Bool) (j:Nat) (v:Value) (w w':World),d j=true→J j v w→Lt w w'→X d w w'→J j v w')
 (hstep:∀ (d:Nat→Bool) (j:Nat) (o:Oper) (a:Act) (w:World),ops[j]?=some o→d j=false→(∀ e∈o.after,Region.binds .any e=true→d e.on=true)→I d w→Lt w0 w→a.tmps.size=a0.tmps.size→(∀ s,(∀ j,j < ops.size→dstOf ops j≠some s)→a.tmps[s]?=a0.tmps[s]?) →
  (∀ e∈o.after,Region.binds .any e=true→J e.on (valOf ops a e.on) w)→wpOpIn (Fence.wide.inRound l) n P ops Q j (fun a' w'=>∃ v,a'=a.put o.dst v∧J j (match o.dst with|some _=>v|none=>undef) w'∧Lt w w'∧I (upd d j) w'∧X d w w') a w)
 (hend:∀ a w,I (fun j=>decide (j < ops.size)) w→Lt w0 w→a.defers=a0.defers→a.tmps.size=a0.tmps.size→(∀ s,(∀ j,j < ops.size→dstOf ops j≠some s)→a.tmps[s]?=a0.tmps[s]?)→(∀ j,j < ops.size→J j (valOf ops a j) w)→Q .normal a w) :
 ∀ (fuel:Nat) (listed:Array Bool) (a:Act) (w:World),GInvI Lt I ops J a0 w0 listed a w→listed.toList.count false=fuel→wpAnyIn (Fence.wide.inRound l) n P .any ops Q fuel listed a w
 | fuel,listed,a,w,inv,hc=>by
  have fin:Region.ready .any ops listed=[]→Q .normal a w:=fun h0=>by
   have hall:∀ j,j < ops.size→listed.getD j false=true:=by
    intro j
    induction j using Nat.strongRecOn with
    | _ j ih =>
     intro hj
     cases hl:listed.getD j false with
     | true=>rfl
     | false =>
      exfalso
      obtain⟨o,ho⟩:∃ o,ops[j]?=some o:=⟨_,Array.getElem?_eq_getElem hj⟩
      have:j∈Region.ready .any ops listed:=mem_ready.2 ⟨by
       rw [Array.getD_eq_getD_getElem?] at hl ⊢
       rw [Array.getElem?_eq_getElem (by rw [inv.ls];exact hj)] at hl ⊢
       exact hl,o,ho,fun e he hb=>ih e.on ((growB_spec hB ho).1 e he hb) (by have:=(growB_spec hB ho).1 e he hb;omega)⟩
      rw [h0] at this;cases this
   exact hend a w (by
    have e:(fun j=>listed.getD j false)=fun j=>decide (j < ops.size):=by
     funext j
     by_cases hj:j < ops.size
     ·simp only [hall j hj,hj,decide_true]
     ·rw [Array.getD_eq_getD_getElem?,Array.getElem?_eq_none (by rw [inv.ls];omega)]
      simp [hj]
    rw [← e];exact inv.inv) inv.b inv.defers inv.size inv.old fun j hj=>inv.got j hj (hall j hj)
  cases fuel with
  | zero =>
   refine⟨?_,?_⟩
   ·cases hr:Region.ready .any ops listed with
    | nil=>rfl
    | cons i t =>
     exfalso
     have hi:i∈Region.ready .any ops listed:=by rw [hr];exact List.mem_cons_self ..
     obtain⟨hun,o,ho,_⟩:=mem_ready.1 hi
     have hlt:i < listed.size:=by rw [inv.ls];exact (Array.getElem?_eq_some_iff.1 ho).1
     have:=List.count_eq_zero.1 hc
     rw [Array.getD_eq_getD_getElem?,Array.getElem?_eq_getElem hlt] at hun
     exact this (by rw [← show listed[i]=false from hun];exact Array.getElem_mem_toList hlt)
   ·refine fin ?_
    cases hr:Region.ready .any ops listed with
    | nil=>rfl
    | cons i t =>
     exfalso
     have hi:i∈Region.ready .any ops listed:=by rw [hr];exact List.mem_cons_self ..
     obtain⟨hun,o,ho,_⟩:=mem_ready.1 hi
     have hlt:i < listed.size:=by rw [inv.ls];exact (Array.getElem?_eq_some_iff.1 ho).1
     have:=List.count_eq_zero.1 hc
     rw [Array.getD_eq_getD_getElem?,Array.getElem?_eq_getElem hlt] at hun
     exact this (by rw [← show listed[i]=false from hun];exact Array.getElem_mem_toList hlt)
  | succ f =>
   refine⟨fin,fun i hi=>?_⟩
   obtain⟨hun,o,ho,hdep⟩:=mem_ready.1 hi
   have hlt:i < listed.size:=by rw [inv.ls];exact (Array.getElem?_eq_some_iff.1 ho).1
   refine wpOpIn_mono (fun a' w' hh=>?_) (hstep _ i o a w ho (by rw [Array.getD_eq_getD_getElem?] at hun ⊢;rw [Array.getElem?_eq_getElem hlt] at hun ⊢;exact hun) hdep inv.inv inv.b inv.size inv.old fun e he hb=>inv.got e.on (by have:=(growB_spec hB ho).1 e he hb;have:=(Array.getElem?_eq_some_iff.1 ho).1;omega) (hdep e he hb))
   obtain⟨v,rfl,hv,hb,hI,hX⟩:=hh
   have hcount:(listed.setIfInBounds i true).toList.count false=f:=by
    obtain⟨l⟩:=listed
    simp only [List.size_toArray] at hlt
    simp [hlt] at hun
    simp only [List.setIfInBounds_toArray]
    have hm:l.count false≠0:=by
     intro h0
     exact List.count_eq_zero.1 h0 (hun▸List.getElem_mem hlt)
    simp only at hc
    rw [List.count_set hlt,hun]
    simp
    omega
   exact wpAny_growR ht hB hJ hstep hend f _ _ _ (inv.step ht hB hJ ho hv hb hI hX) hcount
theorem region_growR {l n:Nat} (Lt:World→World→Prop) (I:(Nat→Bool)→World→Prop) (X:(Nat→Bool)→World→World→Prop) (hr:∀ w,Lt w w) (ht:∀ a b c,Lt a b→Lt b c→Lt a c) {P:Program} {id:Nat} {ops:Array Oper} {Q:Exit→Act→World→Prop} (J:Nat→Value→World→Prop) {a0:Act} {w:World} (hm:P.follows .mixedOrders=true) (hB:growB ops a0.tmps.size=true) (hJ:∀ (d:Nat→Bool) (j:Nat) (v:Value) (w w':World),d j=true→J j v w→Lt w w'→X d w w'→J j v w') (h0:I (fun _=>false) w.drew)
 (hstep:∀ (d:Nat→Bool) (j:Nat) (o:Oper) (a:Act) (w1:World),ops[j]?=some o→d j=false→(∀ e∈o.after,Region.binds .any e=true→d e.on=true)→I d w1→Lt w.drew w1→a.tmps.size=a0.tmps.size→(∀ s,(∀ j,j < ops.size→dstOf ops j≠some s)→a.tmps[s]?=a0.tmps[s]?) →
  (∀ e∈o.after,Region.binds .any e=true→J e.on (valOf ops a e.on) w1)→wpOpIn (Fence.wide.inRound l) n P ops Q j (fun a' w'=>∃ v,a'=a.put o.dst v∧J j (match o.dst with|some _=>v|none=>undef) w'∧Lt w1 w'∧I (upd d j) w'∧X d w1 w') a w1)
 (hend:∀ a w1,I (fun j=>decide (j < ops.size)) w1→Lt w.drew w1→a.defers=a0.defers→a.tmps.size=a0.tmps.size→(∀ s,(∀ j,j < ops.size→dstOf ops j≠some s)→a.tmps[s]?=a0.tmps[s]?)→(∀ j,j < ops.size→J j (valOf ops a j) w1)→Q .normal a w1):(Code.region id ops true).wpIn (Fence.wide.inRound l) n P Q a0 w:=by
 refine wpIn_region_any hm ?_
 exact wpAny_growR ht (w0:=w.drew) hB hJ hstep hend _ _ _ _ ⟨hr _,rfl,rfl,fun s _=>rfl,by simp,fun j hj hl=>by rw [Array.getD_eq_getD_getElem?] at hl;simp [hj] at hl,by
  have e:(fun j=>(Array.replicate ops.size false).getD j false)=fun _=>false:=by
   funext j
   rw [Array.getD_eq_getD_getElem?,Array.getElem?_replicate]
   split<;>rfl
  rw [e];exact h0⟩ (by simp)
theorem growR_val {l n:Nat} {Lt:World→World→Prop} {I:(Nat→Bool)→World→Prop} {X:(Nat→Bool)→World→World→Prop} {d:Nat→Bool} {P:Program} {ops:Array Oper} {Q:Exit→Act→World→Prop} {J:Nat→Value→World→Prop} {a:Act} {w:World} {j:Nat} {o:Oper} (v:Value) (w':World) (ho:ops[j]?=some o) (hw:Region.wanted o (yielded ops a.tmps)=true)
 (hr:(execOp a.eval o).run P w=.ok (.value v) w') (hb:Lt w w') (hI:I (upd d j) w') (hX:X d w w') (hJ:J j (match o.dst with|some _=>v|none=>undef) w') (hd2:∀ c,o.op≠.defer c:=by intro c hc;cases hc):wpOpIn (Fence.wide.inRound l) n P ops Q j (fun a' w'=>∃ v,a'=a.put o.dst v∧J j (match o.dst with|some _=>v|none=>undef) w'∧Lt w w'∧I (upd d j) w'∧X d w w') a w:=by
 unfold wpOpIn
 rw [ho]
 simp only [hw,if_true]
 refine⟨fun _ _=>trivial,?_⟩
 rw [Oper.semAt_plain _ _ _ hd2,hr]
 exact⟨v,rfl,hJ,hb,hI,hX⟩
theorem growR_skip {l n:Nat} {Lt:World→World→Prop} {I:(Nat→Bool)→World→Prop} {X:(Nat→Bool)→World→World→Prop} {d:Nat→Bool} {P:Program} {ops:Array Oper} {Q:Exit→Act→World→Prop} {J:Nat→Value→World→Prop} {a:Act} {w:World} {j:Nat} {o:Oper} (w':World) (ho:ops[j]?=some o) (hw:Region.wanted o (yielded ops a.tmps)=true)
 (hn:o.dst=none) (hr:(execOp a.eval o).run P w=.ok .skip w') (hb:Lt w w') (hI:I (upd d j) w') (hX:X d w w') (hJ:J j undef w') (hd2:∀ c,o.op≠.defer c:=by intro c hc;cases hc):wpOpIn (Fence.wide.inRound l) n P ops Q j (fun a' w'=>∃ v,a'=a.put o.dst v∧J j (match o.dst with|some _=>v|none=>undef) w'∧Lt w w'∧I (upd d j) w'∧X d w w') a w:=by
 unfold wpOpIn
 rw [ho]
 simp only [hw,if_true]
 refine⟨fun _ _=>trivial,?_⟩
 rw [Oper.semAt_plain _ _ _ hd2,hr]
 exact⟨undef,by unfold Act.put;rw [hn],by rw [hn];exact hJ,hb,hI,hX⟩
theorem region_growR_merge {l n:Nat} (Lt:World→World→Prop) (I:(Nat→Bool)→World→Prop) (X:(Nat→Bool)→World→World→Prop) (hr:∀ w,Lt w w) (ht:∀ a b c,Lt a b→Lt b c→Lt a c) {P:Program} {id:Nat} {ops:Array Oper} {Q:Exit→Act→World→Prop} (J:Nat→Value→World→Prop) (ws:List Nat) (R:Array Value→World→Prop) {a0:Act} {w:World} (hm:P.follows .mixedOrders=true) (hB:growB ops a0.tmps.size=true)
 (hW:((List.range ops.size).all fun j=>match dstOf ops j with|some s=>ws.contains s|none=>true)=true) (hJ:∀ (d:Nat→Bool) (j:Nat) (v:Value) (w w':World),d j=true→J j v w→Lt w w'→X d w w'→J j v w') (h0:I (fun _=>false) w.drew)
 (hstep:∀ (Q:Exit→Act→World→Prop) (d:Nat→Bool) (j:Nat) (o:Oper) (a:Act) (w1:World),ops[j]?=some o→d j=false→(∀ e∈o.after,Region.binds .any e=true→d e.on=true)→I d w1→Lt w.drew w1→a.tmps.size=a0.tmps.size→(∀ s,(∀ j,j < ops.size→dstOf ops j≠some s)→a.tmps[s]?=a0.tmps[s]?) →
  (∀ e∈o.after,Region.binds .any e=true→J e.on (valOf ops a e.on) w1)→wpOpIn (Fence.wide.inRound l) n P ops Q j (fun a' w'=>∃ v,a'=a.put o.dst v∧J j (match o.dst with|some _=>v|none=>undef) w'∧Lt w1 w'∧I (upd d j) w'∧X d w1 w') a w1)
 (hend:∀ a w1,I (fun j=>decide (j < ops.size)) w1→Lt w.drew w1→(∀ j,j < ops.size→J j (valOf ops a j) w1)→R a.tmps w1)
 (k:∀ (ts:Array Value) (w':World),R ts w'→Q .normal ⟨fill ts ws a0.tmps,a0.defers⟩ w'):(Code.region id ops true).wpIn (Fence.wide.inRound l) n P Q a0 w:=by
 refine region_mergeR ws R (region_growR Lt I X hr ht J hm hB hJ h0 (hstep _) fun a w1 hi hb hd hs hold hj=>⟨rfl,hd,hs,?_,hend a w1 hi hb hj⟩) k
 apply Array.ext_getElem?
 intro i
 rw [blank_get,blank_get,hs]
 by_cases hi:i∈ws
 ·by_cases h2:i < a0.tmps.size
  ·rw [if_pos ⟨hi,h2⟩,if_pos ⟨hi,h2⟩]
  ·rw [if_neg (fun h=>h2 h.2),if_neg (fun h=>h2 h.2),Array.getElem?_eq_none (by omega),Array.getElem?_eq_none (by omega)]
 ·rw [if_neg (fun h=>hi h.1),if_neg (fun h=>hi h.1)]
  refine hold i fun j hj e=>hi ?_
  have:=List.all_eq_true.1 hW j (List.mem_range.2 hj)
  rw [e] at this
  simpa using this
structure GInvA (Lt:World→World→Prop) (I:(Nat→Bool)→Array Value→World→Prop) (ops:Array Oper) (J:Nat→Value→World→Prop) (a0:Act) (w0:World) (listed:Array Bool) (a:Act) (w:World):Prop where
 b:Lt w0 w
 size:a.tmps.size=a0.tmps.size
 defers:a.defers=a0.defers
 old:∀ s,(∀ j,j < ops.size→dstOf ops j≠some s)→a.tmps[s]?=a0.tmps[s]?
 ls:listed.size=ops.size
 got:∀ j,j < ops.size→listed.getD j false=true→J j (valOf ops a j) w
 inv:I (fun j=>listed.getD j false) a.tmps w
theorem GInvA.step {Lt:World→World→Prop} {I:(Nat→Bool)→Array Value→World→Prop} {X:(Nat→Bool)→World→World→Prop} (ht:∀ a b c,Lt a b→Lt b c→Lt a c) {ops:Array Oper} {J:Nat→Value→World→Prop} {a0:Act} {w0:World} (hB:growB ops a0.tmps.size=true) (hJ:∀ (d:Nat→Bool) (j:Nat) (v:Value) (w w':World),d j=true→J j v w→Lt w w'→X d w w'→J j v w')
 {listed:Array Bool} {a:Act} {w w':World} {i:Nat} {o:Oper} {v:Value} (h:GInvA Lt I ops J a0 w0 listed a w) (ho:ops[i]?=some o) (hv:J i (match o.dst with|some _=>v|none=>undef) w') (hb:Lt w w') (hI:I (upd (fun j=>listed.getD j false) i) (a.put o.dst v).tmps w') (hX:X (fun j=>listed.getD j false) w w') :
 GInvA Lt I ops J a0 w0 (listed.setIfInBounds i true) (a.put o.dst v) w':=by
 have hi:i < ops.size:=(Array.getElem?_eq_some_iff.1 ho).1
 obtain⟨_,hd⟩:=growB_spec hB ho
 have hdi:dstOf ops i=o.dst:=by unfold dstOf;rw [ho];rfl
 refine⟨ht _ _ _ h.b hb,?_,?_,fun s hs=>?_,by simp [h.ls],fun j hj hl=>?_,?_⟩
 ·unfold Act.put;split<;>simp [h.size]
 ·unfold Act.put;split<;>exact h.defers
 ·have hne:=hs i hi
  rw [hdi] at hne
  unfold Act.put
  split
  ·rename_i d hdd
   rw [hdd] at hne
   rw [Array.getElem?_setIfInBounds_ne (by intro e;exact hne (by rw [e]))]
   exact h.old s hs
  ·exact h.old s hs
 ·by_cases hij:j=i
  ·subst hij
   unfold valOf
   rw [hdi]
   unfold Act.put
   cases hdd:o.dst with
   | none=>rw [hdd] at hv;exact hv
   | some d =>
    rw [hdd] at hv
    have:=(hd d hdd).1
    simp only
    rw [Array.getD_eq_getD_getElem?,Array.getElem?_setIfInBounds_self,if_pos (by rw [h.size];exact this)]
    exact hv
  ·have hl2:listed.getD j false=true:=by
    rw [Array.getD_eq_getD_getElem?,Array.getElem?_setIfInBounds_ne (Ne.symm hij)] at hl
    rw [Array.getD_eq_getD_getElem?];exact hl
   have hg:=hJ (fun j=>listed.getD j false) _ _ _ _ hl2 (h.got j hj hl2) hb hX
   have e:valOf ops (a.put o.dst v) j=valOf ops a j:=by
    unfold valOf
    cases hdj:dstOf ops j with
    | none=>rfl
    | some s =>
     unfold Act.put
     cases hdd:o.dst with
     | none=>rfl
     | some d =>
      have hne:d≠s:=fun e=>(hd d hdd).2 j hj hij (by rw [hdj,e])
      simp only
      rw [Array.getD_eq_getD_getElem?,Array.getElem?_setIfInBounds_ne hne,← Array.getD_eq_getD_getElem?]
   rw [e];exact hg
 ·have e:(fun j=>(listed.setIfInBounds i true).getD j false)=upd (fun j=>listed.getD j false) i:=by
   funext j
   unfold upd
   by_cases hji:j=i
   ·subst hji
    rw [if_pos rfl,Array.getD_eq_getD_getElem?,Array.getElem?_setIfInBounds_self,if_pos (by rw [h.ls];exact hi)];rfl
   ·rw [if_neg hji,Array.getD_eq_getD_getElem?,Array.getElem?_setIfInBounds_ne (fun e=>hji e.symm),← Array.getD_eq_getD_getElem?]
  rw [e];exact hI
theorem wpAny_growA {Lt:World→World→Prop} {I:(Nat→Bool)→Array Value→World→Prop} {X:(Nat→Bool)→World→World→Prop} (ht:∀ a b c,Lt a b→Lt b c→Lt a c) {P:Program} {ops:Array Oper} {Q:Exit→Act→World→Prop} {J:Nat→Value→World→Prop} {a0:Act} {w0:World} (hB:growB ops a0.tmps.size=true) (hJ:∀ (d:Nat→Bool) (j:Nat) (v:Value) (w w':World),d j=true→J j v w→Lt w w'→X d w w'→J j v w')
 (hstep:∀ (d:Nat→Bool) (j:Nat) (o:Oper) (a:Act) (w:World),ops[j]?=some o→d j=false→(∀ e∈o.after,Region.binds .any e=true→d e.on=true)→I d a.tmps w→Lt w0 w→a.tmps.size=a0.tmps.size→(∀ s,(∀ j,j < ops.size→dstOf ops j≠some s)→a.tmps[s]?=a0.tmps[s]?) →
  (∀ e∈o.after,Region.binds .any e=true→J e.on (valOf ops a e.on) w)→wpOp P ops Q j (fun a' w'=>∃ v,a'=a.put o.dst v∧J j (match o.dst with|some _=>v|none=>undef) w'∧Lt w w'∧I (upd d j) a'.tmps w'∧X d w w') a w)
 (hend:∀ a w,I (fun j=>decide (j < ops.size)) a.tmps w→Lt w0 w→a.defers=a0.defers→a.tmps.size=a0.tmps.size→(∀ s,(∀ j,j < ops.size→dstOf ops j≠some s)→a.tmps[s]?=a0.tmps[s]?)→(∀ j,j < ops.size→J j (valOf ops a j) w)→Q .normal a w) :
 ∀ (fuel:Nat) (listed:Array Bool) (a:Act) (w:World),GInvA Lt I ops J a0 w0 listed a w→listed.toList.count false=fuel→wpAny P .any ops Q fuel listed a w
 | fuel,listed,a,w,inv,hc=>by
  have fin:Region.ready .any ops listed=[]→Q .normal a w:=fun h0=>by
   have hall:∀ j,j < ops.size→listed.getD j false=true:=by
    intro j
    induction j using Nat.strongRecOn with
    | _ j ih =>
     intro hj
     cases hl:listed.getD j false with
     | true=>rfl
     | false =>
      exfalso
      obtain⟨o,ho⟩:∃ o,ops[j]?=some o:=⟨_,Array.getElem?_eq_getElem hj⟩
      have:j∈Region.ready .any ops listed:=mem_ready.2 ⟨by
       rw [Array.getD_eq_getD_getElem?] at hl ⊢
       rw [Array.getElem?_eq_getElem (by rw [inv.ls];exact hj)] at hl ⊢
       exact hl,o,ho,fun e he hb=>ih e.on ((growB_spec hB ho).1 e he hb) (by have:=(growB_spec hB ho).1 e he hb;omega)⟩
      rw [h0] at this;cases this
   exact hend a w (by
    have e:(fun j=>listed.getD j false)=fun j=>decide (j < ops.size):=by
     funext j
     by_cases hj:j < ops.size
     ·simp only [hall j hj,hj,decide_true]
     ·rw [Array.getD_eq_getD_getElem?,Array.getElem?_eq_none (by rw [inv.ls];omega)]
      simp [hj]
    rw [← e];exact inv.inv) inv.b inv.defers inv.size inv.old fun j hj=>inv.got j hj (hall j hj)
  cases fuel with
  | zero =>
   refine⟨?_,?_⟩
   ·cases hr:Region.ready .any ops listed with
    | nil=>rfl
    | cons i t =>
     exfalso
     have hi:i∈Region.ready .any ops listed:=by rw [hr];exact List.mem_cons_self ..
     obtain⟨hun,o,ho,_⟩:=mem_ready.1 hi
     have hlt:i < listed.size:=by rw [inv.ls];exact (Array.getElem?_eq_some_iff.1 ho).1
     have:=List.count_eq_zero.1 hc
     rw [Array.getD_eq_getD_getElem?,Array.getElem?_eq_getElem hlt] at hun
     exact this (by rw [← show listed[i]=false from hun];exact Array.getElem_mem_toList hlt)
   ·refine fin ?_
    cases hr:Region.ready .any ops listed with
    | nil=>rfl
    | cons i t =>
     exfalso
     have hi:i∈Region.ready .any ops listed:=by rw [hr];exact List.mem_cons_self ..
     obtain⟨hun,o,ho,_⟩:=mem_ready.1 hi
     have hlt:i < listed.size:=by rw [inv.ls];exact (Array.getElem?_eq_some_iff.1 ho).1
     have:=List.count_eq_zero.1 hc
     rw [Array.getD_eq_getD_getElem?,Array.getElem?_eq_getElem hlt] at hun
     exact this (by rw [← show listed[i]=false from hun];exact Array.getElem_mem_toList hlt)
  | succ f =>
   refine⟨fin,fun i hi=>?_⟩
   obtain⟨hun,o,ho,hdep⟩:=mem_ready.1 hi
   have hlt:i < listed.size:=by rw [inv.ls];exact (Array.getElem?_eq_some_iff.1 ho).1
   refine wpOp_mono (fun a' w' hh=>?_) (hstep _ i o a w ho (by rw [Array.getD_eq_getD_getElem?] at hun ⊢;rw [Array.getElem?_eq_getElem hlt] at hun ⊢;exact hun) hdep inv.inv inv.b inv.size inv.old fun e he hb=>inv.got e.on (by have:=(growB_spec hB ho).1 e he hb;have:=(Array.getElem?_eq_some_iff.1 ho).1;omega) (hdep e he hb))
   obtain⟨v,rfl,hv,hb,hI,hX⟩:=hh
   have hcount:(listed.setIfInBounds i true).toList.count false=f:=by
    obtain⟨l⟩:=listed
    simp only [List.size_toArray] at hlt
    simp [hlt] at hun
    simp only [List.setIfInBounds_toArray]
    have hm:l.count false≠0:=by
     intro h0
     exact List.count_eq_zero.1 h0 (hun▸List.getElem_mem hlt)
    simp only at hc
    rw [List.count_set hlt,hun]
    simp
    omega
   exact wpAny_growA ht hB hJ hstep hend f _ _ _ (inv.step ht hB hJ ho hv hb hI hX) hcount
theorem region_growA (Lt:World→World→Prop) (I:(Nat→Bool)→Array Value→World→Prop) (X:(Nat→Bool)→World→World→Prop) (hr:∀ w,Lt w w) (ht:∀ a b c,Lt a b→Lt b c→Lt a c) {P:Program} {id:Nat} {ops:Array Oper} {Q:Exit→Act→World→Prop} (J:Nat→Value→World→Prop) {a0:Act} {w:World} (hm:P.follows .mixedOrders=true) (hB:growB ops a0.tmps.size=true) (hJ:∀ (d:Nat→Bool) (j:Nat) (v:Value) (w w':World),d j=true→J j v w→Lt w w'→X d w w'→J j v w') (h0:I (fun _=>false) a0.tmps w.drew)
 (hstep:∀ (d:Nat→Bool) (j:Nat) (o:Oper) (a:Act) (w1:World),ops[j]?=some o→d j=false→(∀ e∈o.after,Region.binds .any e=true→d e.on=true)→I d a.tmps w1→Lt w.drew w1→a.tmps.size=a0.tmps.size→(∀ s,(∀ j,j < ops.size→dstOf ops j≠some s)→a.tmps[s]?=a0.tmps[s]?) →
  (∀ e∈o.after,Region.binds .any e=true→J e.on (valOf ops a e.on) w1)→wpOp P ops Q j (fun a' w'=>∃ v,a'=a.put o.dst v∧J j (match o.dst with|some _=>v|none=>undef) w'∧Lt w1 w'∧I (upd d j) a'.tmps w'∧X d w1 w') a w1)
 (hend:∀ a w1,I (fun j=>decide (j < ops.size)) a.tmps w1→Lt w.drew w1→a.defers=a0.defers→a.tmps.size=a0.tmps.size→(∀ s,(∀ j,j < ops.size→dstOf ops j≠some s)→a.tmps[s]?=a0.tmps[s]?)→(∀ j,j < ops.size→J j (valOf ops a j) w1)→Q .normal a w1):(Code.region id ops true).wp P Q a0 w:=by
 refine wp_region_any hm ?_
 exact wpAny_growA ht (w0:=w.drew) hB hJ hstep hend _ _ _ _ ⟨hr _,rfl,rfl,fun s _=>rfl,by simp,fun j hj hl=>by rw [Array.getD_eq_getD_getElem?] at hl;simp [hj] at hl,by
  have e:(fun j=>(Array.replicate ops.size false).getD j false)=fun _=>false:=by
   funext j
   rw [Array.getD_eq_getD_getElem?,Array.getElem?_replicate]
   split<;>rfl
  rw [e];exact h0⟩ (by simp)
theorem growA_val {Lt:World→World→Prop} {I:(Nat→Bool)→Array Value→World→Prop} {X:(Nat→Bool)→World→World→Prop} {d:Nat→Bool} {P:Program} {ops:Array Oper} {Q:Exit→Act→World→Prop} {J:Nat→Value→World→Prop} {a:Act} {w:World} {j:Nat} {o:Oper} (v:Value) (w':World) (ho:ops[j]?=some o) (hw:Region.wanted o (yielded ops a.tmps)=true)
 (hr:(execOp a.eval o).run P w=.ok (.value v) w') (hb:Lt w w') (hI:I (upd d j) (a.put o.dst v).tmps w') (hX:X d w w') (hJ:J j (match o.dst with|some _=>v|none=>undef) w'):wpOp P ops Q j (fun a' w'=>∃ v,a'=a.put o.dst v∧J j (match o.dst with|some _=>v|none=>undef) w'∧Lt w w'∧I (upd d j) a'.tmps w'∧X d w w') a w:=by
 unfold wpOp
 rw [ho]
 simp only [hw,if_true]
 left
 unfold Oper.wp
 rw [hr]
 exact⟨v,rfl,hJ,hb,hI,hX⟩
theorem growA_skip {Lt:World→World→Prop} {I:(Nat→Bool)→Array Value→World→Prop} {X:(Nat→Bool)→World→World→Prop} {d:Nat→Bool} {P:Program} {ops:Array Oper} {Q:Exit→Act→World→Prop} {J:Nat→Value→World→Prop} {a:Act} {w:World} {j:Nat} {o:Oper} (w':World) (ho:ops[j]?=some o) (hw:Region.wanted o (yielded ops a.tmps)=true)
 (hn:o.dst=none) (hr:(execOp a.eval o).run P w=.ok .skip w') (hb:Lt w w') (hI:I (upd d j) a.tmps w') (hX:X d w w') (hJ:J j undef w'):wpOp P ops Q j (fun a' w'=>∃ v,a'=a.put o.dst v∧J j (match o.dst with|some _=>v|none=>undef) w'∧Lt w w'∧I (upd d j) a'.tmps w'∧X d w w') a w:=by
 unfold wpOp
 rw [ho]
 simp only [hw,if_true]
 left
 unfold Oper.wp
 rw [hr]
 exact⟨undef,by unfold Act.put;rw [hn],by rw [hn];exact hJ,hb,by unfold Act.put;rw [hn];exact hI,hX⟩
theorem growA_call {Lt:World→World→Prop} {I:(Nat→Bool)→Array Value→World→Prop} {X:(Nat→Bool)→World→World→Prop} {d:Nat→Bool} {P:Program} {ops:Array Oper} {Q:Exit→Act→World→Prop} {J:Nat→Value→World→Prop} {a:Act} {w:World} {j:Nat} {o:Oper} (f:FuncId) (args:Array Value) (ho:ops[j]?=some o) (hw:Region.wanted o (yielded ops a.tmps)=true)
 (hr:(execOp a.eval o).run P w=.ok (.enter f args) w) (hc:Calls P f args w fun e w'=>∃ v,e=.returned v∧J j (match o.dst with|some _=>v|none=>undef) w'∧Lt w w'∧I (upd d j) (a.put o.dst v).tmps w'∧X d w w'):wpOp P ops Q j (fun a' w'=>∃ v,a'=a.put o.dst v∧J j (match o.dst with|some _=>v|none=>undef) w'∧Lt w w'∧I (upd d j) a'.tmps w'∧X d w w') a w:=by
 unfold wpOp
 rw [ho]
 simp only [hw,if_true]
 left
 unfold Oper.wp
 rw [hr,Oper.upon_enter]
 refine Calls.mono hc fun e w' ⟨v,he,h1,h2,h3,h4⟩=>?_
 subst he
 exact⟨v,rfl,h1,h2,h3,h4⟩
theorem region_growA_merge (Lt:World→World→Prop) (I:(Nat→Bool)→Array Value→World→Prop) (X:(Nat→Bool)→World→World→Prop) (hr:∀ w,Lt w w) (ht:∀ a b c,Lt a b→Lt b c→Lt a c) {P:Program} {id:Nat} {ops:Array Oper} {Q:Exit→Act→World→Prop} (J:Nat→Value→World→Prop) (ws:List Nat) (R:Array Value→World→Prop) {a0:Act} {w:World} (hm:P.follows .mixedOrders=true) (hB:growB ops a0.tmps.size=true)
 (hW:((List.range ops.size).all fun j=>match dstOf ops j with|some s=>ws.contains s|none=>true)=true) (hJ:∀ (d:Nat→Bool) (j:Nat) (v:Value) (w w':World),d j=true→J j v w→Lt w w'→X d w w'→J j v w') (h0:I (fun _=>false) a0.tmps w.drew)
 (hstep:∀ (Q:Exit→Act→World→Prop) (d:Nat→Bool) (j:Nat) (o:Oper) (a:Act) (w1:World),ops[j]?=some o→d j=false→(∀ e∈o.after,Region.binds .any e=true→d e.on=true)→I d a.tmps w1→Lt w.drew w1→a.tmps.size=a0.tmps.size→(∀ s,(∀ j,j < ops.size→dstOf ops j≠some s)→a.tmps[s]?=a0.tmps[s]?) →
  (∀ e∈o.after,Region.binds .any e=true→J e.on (valOf ops a e.on) w1)→wpOp P ops Q j (fun a' w'=>∃ v,a'=a.put o.dst v∧J j (match o.dst with|some _=>v|none=>undef) w'∧Lt w1 w'∧I (upd d j) a'.tmps w'∧X d w1 w') a w1)
 (hend:∀ a w1,I (fun j=>decide (j < ops.size)) a.tmps w1→Lt w.drew w1→(∀ j,j < ops.size→J j (valOf ops a j) w1)→R a.tmps w1)
 (k:∀ (ts:Array Value) (w':World),R ts w'→Q .normal ⟨fill ts ws a0.tmps,a0.defers⟩ w'):(Code.region id ops true).wp P Q a0 w:=by
 refine region_merge ws R (region_growA Lt I X hr ht J hm hB hJ h0 (hstep _) fun a w1 hi hb hd hs hold hj=>⟨rfl,hd,hs,?_,hend a w1 hi hb hj⟩) k
 apply Array.ext_getElem?
 intro i
 rw [blank_get,blank_get,hs]
 by_cases hi:i∈ws
 ·by_cases h2:i < a0.tmps.size
  ·rw [if_pos ⟨hi,h2⟩,if_pos ⟨hi,h2⟩]
  ·rw [if_neg (fun h=>h2 h.2),if_neg (fun h=>h2 h.2),Array.getElem?_eq_none (by omega),Array.getElem?_eq_none (by omega)]
 ·rw [if_neg (fun h=>hi h.1),if_neg (fun h=>hi h.1)]
  refine hold i fun j hj e=>hi ?_
  have:=List.all_eq_true.1 hW j (List.mem_range.2 hj)
  rw [e] at this
  simpa using this
open Go.RowKit
set_option linter.unusedSimpArgs false
theorem coc_set7:∀ (l:List Co) (i:Nat) (x:Co),i < l.length→(((((((Gn.cells coc l).set (i * 7) (.int .i64 x.id)).set (i * 7+1) (.string x.nm)).set (i * 7+2) (.int .i64 x.k)).set (i * 7+3) (.bool x.u)).set (i * 7+4) (.bool x.d.u)).set (i * 7+5) (.int .i64 x.d.n)).set (i * 7+6) (.string x.d.s)=Gn.cells coc (l.set i x)
 | [],i,x,h=>by simp at h
 | y::t,0,x,_=>rfl
 | y::t,i+1,x,h=>by
  have ih:=coc_set7 t i x (by simpa using h)
  rw [List.set_cons_succ,Gn.cells_cons,Gn.cells_cons,← ih]
  rw [show (i+1) * 7=i * 7+7 by omega,show i * 7+7+1=i * 7+1+7 by omega,show i * 7+7+2=i * 7+2+7 by omega,show i * 7+7+3=i * 7+3+7 by omega,show i * 7+7+4=i * 7+4+7 by omega,show i * 7+7+5=i * 7+5+7 by omega,show i * 7+7+6=i * 7+6+7 by omega]
  rfl
def put7W (w:World) (g o:Nat) (x:Co):World:=((((((w.setCell ⟨g,o,none⟩ (.int .i64 x.id)).setCell ⟨g,o+1,none⟩ (.string x.nm)).setCell ⟨g,o+2,none⟩ (.int .i64 x.k)).setCell ⟨g,o+3,none⟩ (.bool x.u)).setCell ⟨g,o+4,none⟩ (.bool x.d.u)).setCell ⟨g,o+5,none⟩ (.int .i64 x.d.n)).setCell ⟨g,o+6,none⟩ (.string x.d.s)
theorem own_put7 {w:World} {base g n cap i:Nat} {l:List Co} (h:OwnK w base (.slice (some ⟨g,0,none⟩) n cap) l) (hn:l.length=n) (hi:i < n) (x:Co) :
 OwnK (put7W w g (i * 7) x) base (.slice (some ⟨g,0,none⟩) n cap) (l.set i x):=by
 unfold OwnK Gn.Own at h ⊢
 rw [List.length_set]
 rw [hn] at h ⊢
 have h3:=(((((((h.stored (i * 7) (.int .i64 x.id)).1.stored (i * 7+1) (.string x.nm)).1.stored (i * 7+2) (.int .i64 x.k)).1.stored (i * 7+3) (.bool x.u)).1.stored (i * 7+4) (.bool x.d.u)).1.stored (i * 7+5) (.int .i64 x.d.n)).1.stored (i * 7+6) (.string x.d.s)).1
 rw [coc_set7 l i x (by omega)] at h3
 exact h3
theorem grown_put7 {w:World} {base g n cap i:Nat} {l:List Co} (h:OwnK w base (.slice (some ⟨g,0,none⟩) n cap) l) (x:Co):Touch (fun k=>k=g) w (put7W w g (i * 7) x):=by
 unfold put7W
 have hS:(fun k=>k=g) g:=rfl
 exact (((((((Touch.refl _ _).setCell hS _).setCell hS _).setCell hS _).setCell hS _).setCell hS _).setCell hS _).setCell hS _
theorem own_there7 {w:World} {base g n cap i:Nat} {l:List Co} (h:OwnK w base (.slice (some ⟨g,0,none⟩) n cap) l) (hn:l.length=n) (hi:i < n):w.there g (i * 7) 7:=fun j hj=>by
 unfold OwnK Gn.Own at h
 rw [hn] at h
 have hc:=Gn.cells_len coL l
 refine⟨?_,h.frozenAt _⟩
 rw [h.cellAt (i * 7+j) (by omega),List.getElem?_eq_getElem (by rw [hc];omega)];rfl
structure SV (w:World) (g:Nat) (cv kv:Value) (cs:List Co) (ks:List Int):Prop where
 x:Blk w g 25 [cv,kv]
 c:RdK w w.heap.size cv cs
 k:RdI w w.heap.size kv ks
theorem eq_bl (x y:ByteArray):(x.toList == y.toList)=decide (bl x=bl y):=by
 by_cases h:bl x=bl y
 ·have:=bl_inj h
  subst this;simp
 ·have h2:x≠y:=fun e=>h (by rw [e])
  have h3:x.toList≠y.toList:=fun e=>h2 (by
   have h4:x.data.toList=y.data.toList:=by rw [← ByteArray.toList_eq,← ByteArray.toList_eq];exact e
   cases x;cases y
   simp at h4
   rw [h4])
  simp [h,h3]
end Go.Proofs.YtenfjmdajlhfoabGreatDoor
namespace Go.Proofs.YtenfjmdajlhfoabGreatDoor.Ev
open Cl
set_option linter.unusedVariables false
set_option linter.unusedSimpArgs false
abbrev Sm:=List Co × List Int
def sm0:Sm:=([],[])
def hi (h:Int) (l:List Co):Int:=l.foldl (fun h c=>max h c.id) h
def hiL (l:List Sm):Int:=l.foldl (fun h s=>hi h s.1) 0
def wider (a b:Co):Bool:=decide (a.k=2) && (decide (b.k=3) && decide (b.u=a.u))
def sameT (a b:Co):Bool:=decide (a.k=b.k) && decide (a.u=b.u)
def stay (a b:Co):Bool:=decide (bl a.nm=bl b.nm) && (eqc a.d b.d && (sameT a b || wider a b))
def fid (a:List Co) (n:Int):Nat × Bool:=Sc.find (Sc.byId n) a
def goAt (a:List Co) (h:Int) (c:Co):Bool:=if (fid a c.id).2=true then stay (a.getD (fid a c.id).1 Sc.co0) c else decide (h < c.id)
def kidF (ks:List Int):Nat→List Co→List Int
 | _,[]=>[]
 | i,c::t=>if ((i:Nat):Int)∈ks then c.id::kidF ks (i+1) t else kidF ks (i+1) t
theorem kidF_cons (ks:List Int) (i:Nat) (c:Co) (t:List Co):kidF ks i (c::t)=if ((i:Nat):Int)∈ks then c.id::kidF ks (i+1) t else kidF ks (i+1) t:=rfl
def kid (s:Sm):List Int:=kidF s.2 0 s.1
def fol (a b:Sm) (h:Int):Bool:=b.1.all (goAt a.1 h) && decide (kid a=kid b)
def folAt (l:List Sm) (i:Nat):Bool:=decide (i=0) || fol (l.getD (i - 1) sm0) (l.getD i sm0) (hiL (l.take i))
def isCh (l:List Sm):Bool:=(List.range l.length).all (folAt l)
def allOk (l:List Sm):Bool:=l.all fun s=>decide (Sc.ck s.1 s.2=0)
def chain (l:List Sm):Int:=if 64 < l.length then 5 else if allOk l=true then (if isCh l=true then 0 else 120) else 2
def mvd (a b:List Co) (r:List C):List C:=b.map fun c=>if (fid a c.id).2=true then r.getD (fid a c.id).1 Cl.empty else c.d
def go (a:List Co):List Sm→List C→List C
 | [],r=>r
 | s::t,r=>go s.1 t (mvd a s.1 r)
structure Ans where
 r:List C
 e:Int
def carry (l:List Sm) (f t:Int) (r:List C):Ans :=
 if chain l≠0 then ⟨[],chain l⟩ else if f < 1 ∨ t < f ∨ (l.length:Int) < t then ⟨[],131⟩
 else if Rw.chkR (tys (l.getD (f.toNat - 1) sm0).1) r≠0 then ⟨[],Rw.chkR (tys (l.getD (f.toNat - 1) sm0).1) r⟩
 else ⟨go (l.getD (f.toNat - 1) sm0).1 ((l.take t.toNat).drop f.toNat) r,0⟩
theorem hi_lt:∀ {l:List Co} {h x:Int},hi h l < x↔h < x∧∀ c∈l,c.id < x
 | [],h,x=>by simp [hi]
 | c::t,h,x=>by
  have ih:=hi_lt (l:=t) (h:=max h c.id) (x:=x)
  unfold hi at ih ⊢
  rw [List.foldl_cons,ih]
  simp only [List.mem_cons,forall_eq_or_imp]
  constructor
  ·rintro ⟨h1,h2⟩;exact⟨by omega,by omega,h2⟩
  ·rintro ⟨h1,h2,h3⟩;exact⟨by omega,h3⟩
theorem hiL_snoc (l:List Sm) (s:Sm):hiL (l++[s])=hi (hiL l) s.1:=by unfold hiL;rw [List.foldl_append];rfl
theorem hiF_lt:∀ {l:List Sm} {h x:Int},l.foldl (fun h s=>hi h s.1) h < x↔h < x∧∀ s∈l,∀ c∈s.1,c.id < x
 | [],h,x=>by simp
 | s::t,h,x=>by
  rw [List.foldl_cons,hiF_lt,hi_lt]
  simp only [List.mem_cons,forall_eq_or_imp,and_assoc]
theorem hiL_lt {l:List Sm} {x:Int}:hiL l < x↔0 < x∧∀ s∈l,∀ c∈s.1,c.id < x:=hiF_lt
theorem fid_some {a:List Co} {n:Int} {i:Nat} (h:fid a n=(i,true)):∃ d,a[i]?=some d∧d.id=n:=by
 unfold fid at h
 induction a generalizing i with
 | nil=>simp [Sc.find] at h
 | cons x t ih =>
  unfold Sc.find at h
  split at h
  ·next h1 =>
   injection h with h2 _
   subst h2
   exact⟨x,rfl,by simpa [Sc.byId] using h1⟩
  ·split at h
   ·next h1 h2 =>
    injection h with h3 _
    subst h3
    obtain⟨d,hd,he⟩:=ih (i:=(Sc.find (Sc.byId n) t).1) (by rw [← h2])
    exact⟨d,by simpa using hd,he⟩
   ·injection h with _ h3;cases h3
def Rise (l:List Co):Prop:=∀ (i j:Nat) (c d:Co),i < j→l[i]?=some c→l[j]?=some d→c.id < d.id
theorem okC_at {l:List Co} (h:Sc.okC l=true) {i:Nat} {c:Co} (hc:l[i]?=some c):1≤c.id∧c.id≤1048576∧Sc.name (bl c.nm)=true∧chk c.u c.k c.d=0:=by
 obtain⟨⟨h1,h2⟩,h3,h4,_⟩:=Sc.okAt_parts.1 ((Sc.okC_iff.1 h).2 i c hc)
 refine⟨?_,h2,h3,h4⟩
 have:∀ i,i≤l.length→1≤Sc.least l i:=fun i=>by
  induction i with
  | zero=>intro _;simp [Sc.least]
  | succ i ih =>
   intro hi
   obtain⟨d,hd⟩:∃ d,l[i]?=some d:=⟨_,List.getElem?_eq_getElem (by omega)⟩
   have h5:=(Sc.okAt_parts.1 ((Sc.okC_iff.1 h).2 i d hd)).1.1
   have:=ih (by omega)
   unfold Sc.least
   rw [if_neg (by omega),Nat.add_sub_cancel,Sc.getD_of hd]
   omega
 have:=this i (by have:=(List.getElem?_eq_some_iff.1 hc).1;omega)
 omega
theorem okC_rise {l:List Co} (h:Sc.okC l=true):Rise l:=by
 intro i j c d hij hc hd
 induction j generalizing d with
 | zero=>omega
 | succ j ih =>
  obtain⟨e,he⟩:∃ e,l[j]?=some e:=⟨_,List.getElem?_eq_getElem (by have:=(List.getElem?_eq_some_iff.1 hd).1;omega)⟩
  have h1:=(Sc.okAt_parts.1 ((Sc.okC_iff.1 h).2 _ d hd)).1.1
  unfold Sc.least at h1
  rw [if_neg (by omega),Nat.add_sub_cancel,Sc.getD_of he] at h1
  rcases Nat.lt_or_ge i j with hlt|hge
  ·have:=ih e hlt he;omega
  ·obtain rfl:i=j:=by omega
   rw [hc] at he;injection he with he;subst he;omega
structure St (a b:Co):Prop where
 nm:a.nm=b.nm
 d:a.d=b.d
 u:a.u=b.u
 k:a.k=b.k ∨ (a.k=2∧b.k=3)
def T (a b:List Co):Prop:=∀ c∈b,(∃ i d,fid a c.id=(i,true)∧a[i]?=some d∧St d c) ∨ ((fid a c.id).2=false∧∀ d∈a,d.id < c.id)
theorem mvd_len (a b:List Co) (r:List C):(mvd a b r).length=b.length:=by unfold mvd;simp
def mv1 (a:List Co) (r:List C) (c:Co):C:=if (fid a c.id).2=true then r.getD (fid a c.id).1 Cl.empty else c.d
theorem mvd_at {a b:List Co} {r:List C} {i:Nat} {c:Co} (h:b[i]?=some c):(mvd a b r)[i]?=some (mv1 a r c):=by unfold mvd mv1;rw [List.getElem?_map,h];rfl
theorem chkR_zero {ts:List Rw.Ty} {r:List C}:Rw.chkR ts r=0↔r.length=ts.length∧∀ (i:Nat) (t:Rw.Ty) (c:C),ts[i]?=some t→r[i]?=some c→chk t.1 t.2 c=0:=by
 have fz:∀ l:List Int,Rw.fnz l=0↔∀ x∈l,x=0:=fun l=>by
  induction l with
  | nil=>simp [Rw.fnz]
  | cons x t ih =>
   unfold Rw.fnz
   by_cases h:x=0
   ·rw [if_neg (by omega),ih];simp [h]
   ·rw [if_pos h];simp [h]
 unfold Rw.chkR
 by_cases hl:r.length=ts.length
 ·rw [if_neg (by omega),fz]
  constructor
  ·intro h
   refine⟨hl,fun i t c ht hc=>?_⟩
   have:=h ((chk t.1 t.2 c:Nat):Int) (List.mem_of_getElem? (i:=i) (by unfold Rw.chkL;rw [List.getElem?_zipWith,ht,hc]))
   omega
  ·rintro ⟨_,h⟩ x hx
   obtain⟨i,hi⟩:=List.getElem?_of_mem hx
   unfold Rw.chkL at hi
   rw [List.getElem?_zipWith] at hi
   cases h1:ts[i]? with
   | none=>rw [h1] at hi;cases hi
   | some t =>
    cases h2:r[i]? with
    | none=>rw [h1,h2] at hi;cases hi
    | some c =>
     rw [h1,h2] at hi
     injection hi with hi
     rw [← hi,h i t c h1 h2];rfl
 ·rw [if_pos hl]
  constructor
  ·intro h;omega
  ·rintro ⟨h,_⟩;exact absurd h hl
theorem isCh_iff {l:List Sm}:isCh l=true↔∀ i,i < l.length→folAt l i=true:=by unfold isCh;simp [List.all_eq_true]
theorem isCh_no {l:List Sm} {i:Nat} (hi:i < l.length) (h:folAt l i=false):isCh l=false:=by
 cases e:isCh l with
 | false=>rfl
 | true=>have:=isCh_iff.1 e i hi;rw [h] at this;cases this
theorem allOk_no {l:List Sm} {i:Nat} {s:Sm} (h:l[i]?=some s) (hn:Sc.ck s.1 s.2=2):allOk l=false:=by
 cases e:allOk l with
 | false=>rfl
 | true =>
  unfold allOk at e
  rw [List.all_eq_true] at e
  have:=e s (List.mem_of_getElem? h)
  rw [hn] at this;simp at this
theorem chain_zero {l:List Sm}:chain l=0↔l.length≤64∧(∀ s∈l,Sc.ck s.1 s.2=0)∧isCh l=true:=by
 unfold chain allOk
 by_cases h1:64 < l.length
 ·rw [if_pos h1];constructor
  ·intro h;omega
  ·rintro ⟨h,_⟩;omega
 ·rw [if_neg h1]
  by_cases h2:(l.all fun s=>decide (Sc.ck s.1 s.2=0))=true
  ·rw [if_pos h2]
   rw [List.all_eq_true] at h2
   by_cases h3:isCh l=true
   ·rw [if_pos h3];exact⟨fun _=>⟨by omega,fun s hs=>by simpa using h2 s hs,h3⟩,fun _=>rfl⟩
   ·rw [if_neg h3];constructor
    ·intro h;omega
    ·rintro ⟨_,_,h⟩;exact absurd h h3
  ·rw [if_neg h2]
   constructor
   ·intro h;omega
   ·rintro ⟨_,h,_⟩
    exact absurd (List.all_eq_true.2 fun s hs=>by simpa using h s hs) h2
theorem fol_iff {a b:Sm} {h:Int}:fol a b h=true↔(∀ c∈b.1,goAt a.1 h c=true)∧kid a=kid b:=by unfold fol;simp [List.all_eq_true]
theorem getD_at {α:Type} {l:List α} {i:Nat} {x z:α} (h:l[i]?=some x):l.getD i z=x:=by rw [List.getD_eq_getElem?_getD,h];rfl
structure Ch (l:List Sm):Prop where
 ok:∀ s∈l,Sc.ck s.1 s.2=0
 ch:isCh l=true
theorem Ch.of {l:List Sm} (h:Ev.chain l=0):Ch l:=by obtain⟨_,h1,h2⟩:=chain_zero.1 h;exact⟨h1,h2⟩
def lastOf (a:List Co):List Sm→List Co
 | []=>a
 | s::t=>lastOf s.1 t
theorem go_snoc:∀ (t:List Sm) (a:List Co) (s:Sm) (r:List C),go a (t++[s]) r=mvd (lastOf a t) s.1 (go a t r)
 | [],a,s,r=>rfl
 | x::t,a,s,r=>go_snoc t x.1 s _
theorem lastOf_snoc:∀ (t:List Sm) (a:List Co) (s:Sm),lastOf a (t++[s])=s.1
 | [],a,s=>rfl
 | x::t,a,s=>lastOf_snoc t x.1 s
set_option maxRecDepth 100000
def kk (m:Nat):Int:=if m=0 ∨ m=5 ∨ m=7 then 2 else if m=1 then 3 else if m=2 ∨ m=6 then 4 else if m=3 then 1 else 5
def ku (m:Nat):Bool:=decide (5 < m)
def dS:ByteArray:=⟨#[100]⟩
def kd (m:Nat):C:=if 5 < m then ⟨true,0,⟨#[]⟩⟩ else if kk m=4 ∨ kk m=5 then ⟨false,0,⟨#[100]⟩⟩ else ⟨false,1,⟨#[]⟩⟩
def knd (n:Int):Nat:=(n % 8).toNat
def kcol (n id:Int) (nm:ByteArray):Co:=⟨id,nm,kk (knd n),ku (knd n),kd (knd n)⟩
def cn (i:Nat):ByteArray:=⟨#[99]⟩++(⟨#[97,98,99,100,101,102]⟩:ByteArray).extract i (i+1)
def nn (i:Nat):ByteArray:=⟨#[110]⟩++(⟨#[97,98,99,100,101,102,103]⟩:ByteArray).extract i (i+1)
def ogL:List Nat→Nat
 | [_]=>0
 | [x,y]=>if x=99 then y - 96 else y - 90
 | _=>100
def og (c:Co):Nat:=ogL (bl c.nm)
def key0:Co:=⟨1,⟨#[107]⟩,2,false,⟨false,0,⟨#[]⟩⟩⟩
def base (C:List Int):Nat→List Co
 | 0=>[key0]
 | i+1=>base C i++[kcol (C.getD i 0) (i+2) (cn i)]
structure V3 where
 a:Int
 b:Int
 c:Int
def bit (g k:Nat):Bool:=decide (g / 2 ^ k % 2=1)
def wid (w k:Nat) (c:Co):Co:=if (bit w k && decide (c.k=2))=true then ⟨c.id,c.nm,3,c.u,c.d⟩ else c
def gone (g k:Nat):Bool:=decide (0 < k) && bit g k
def keepF (g w:Nat):Nat→List Co→List Co
 | _,[]=>[]
 | k,c::t=>if gone g k=true then keepF g w (k+1) t else wid w k c::keepF g w (k+1) t
def b16 (n:Int):Nat:=(n % 65536).toNat
structure VS where
 s:List Co
 id:Int
def vkeep (v:V3) (s:List Co):List Co:=keepF (b16 v.a) (b16 v.b) 0 (s.take 14)
def vstep (i:Nat) (v:V3) (x:VS):VS :=
 if v.c.tmod 2≠0 then ⟨vkeep v x.s++[kcol (v.c.tdiv 2) (x.id+1+(b16 v.a % 2:Nat)) (nn i)],x.id+1+(b16 v.a % 2:Nat)⟩ else ⟨vkeep v x.s,x.id⟩
structure VO where
 x:VS
 out:List Sm
def v30:V3:=⟨0,0,0⟩
def vers (s0:List Co) (id0:Int) (V:List V3):Nat→VO
 | 0=>⟨⟨s0,id0⟩,[(s0,[0])]⟩
 | i+1=>⟨vstep i (V.getD i v30) (vers s0 id0 V i).x,(vers s0 id0 V i).out++[((vstep i (V.getD i v30) (vers s0 id0 V i).x).s,[0])]⟩
def mkch (C:List Int) (V:List V3):List Sm:=(vers (base C (min C.length 6)) (1+(min C.length 6:Nat)) V (min V.length 7)).out
structure CO (n:Int) (o:Nat) (c:Co):Prop where
 id0:1≤c.id
 id1:c.id≤n
 og:og c < o
 nm:Sc.name (bl c.nm)=true
 ck:chk c.u c.k c.d=0
 n0:0≤c.d.n∧c.d.n≤1
 s1:c.d.s.size≤1
 m2:c.nm.size≤2
def Up (c d:Co):Prop:=c.id < d.id∧og c < og d
structure CL (n:Int) (o:Nat) (l:List Co):Prop where
 co:∀ c∈l,CO n o c
 up:l.Pairwise Up
 hd:∃ c t,l=c::t∧c.id=1∧c.u=false∧(c.k=2 ∨ c.k=3)
structure VI (i:Nat) (y:VO):Prop where
 cl:CL y.x.id (7+i) y.x.s
 id:y.x.id≤7+2 * (i:Nat)
 sl:y.x.s.length≤7+i
 ol:y.out.length=i+1
 last:y.out[i]?=some (y.x.s,[0])
 ch:Ch y.out
 hi:hiL y.out≤y.x.id
 all:∀ p∈y.out,p.2=[0]∧p.1.length≤14∧∃ (n:Int) (o:Nat),n≤21∧CL n o p.1
structure MkIs (l:List Sm):Prop where
 len0:1≤l.length
 len:l.length≤8
 ch:Ch l
 all:∀ p∈l,p.2=[0]∧p.1.length≤14∧∃ (n:Int) (o:Nat),n≤21∧CL n o p.1
def eight:ByteArray:=⟨#[97,98,99,100,101,102,103,104]⟩
def cellP (c:Co) (n:Int):C :=
 if (c.u && decide (n % 3=0))=true then ⟨true,0,⟨#[]⟩⟩ else if c.k=1 then ⟨false,n % 2,⟨#[]⟩⟩ else if c.k=2 then ⟨false,n % 4294967296 - 2147483648,⟨#[]⟩⟩
 else if c.k=3 then ⟨false,n,⟨#[]⟩⟩ else ⟨false,0,eight.extract 0 (n % 9).toNat⟩
theorem eight_size (n:Int):(eight.extract 0 (n % 9).toNat).size≤8:=by
 rw [ByteArray.size_extract,show eight.size=8 from rfl];omega
theorem cellP_i64 (c:Co) (n:Int) (h:I64 n):I64 (cellP c n).n:=by
 unfold cellP I64 at *
 repeat' split
 all_goals (simp only;omega)
theorem cellP_size (c:Co) (n:Int):(cellP c n).s.size≤8:=by
 have:=eight_size n
 unfold cellP
 repeat' split
 all_goals first|(simp only;exact this)|(simp only;decide)
def numAt (n:List Int) (i:Nat):Int:=if n.length=0 then (i:Int) else n.getD (i % n.length) 0
def rowF (n:List Int):Nat→List Co→List C
 | _,[]=>[]
 | i,c::t=>cellP c (numAt n i)::rowF n (i+1) t
theorem rowF_len (n:List Int):∀ (l:List Co) (i:Nat),(rowF n i l).length=l.length
 | [],i=>rfl
 | c::t,i=>by unfold rowF;simp [rowF_len n t (i+1)]
theorem rowF_snoc (n:List Int):∀ (l:List Co) (i:Nat) (c:Co),rowF n i (l++[c])=rowF n i l++[cellP c (numAt n (i+l.length))]
 | [],i,c=>by simp [rowF]
 | x::t,i,c=>by
  rw [List.cons_append]
  unfold rowF
  rw [rowF_snoc n t (i+1) c,List.length_cons,show i+1+t.length=i+(t.length+1) by omega];rfl
theorem rowF_at (n:List Int):∀ (l:List Co) (i j:Nat) (c:Co),l[j]?=some c→(rowF n i l)[j]?=some (cellP c (numAt n (i+j)))
 | [],i,j,c,h=>by simp at h
 | x::t,i,0,c,h=>by simp at h;subst h;rfl
 | x::t,i,j+1,c,h=>by
  unfold rowF
  rw [List.getElem?_cons_succ,rowF_at n t (i+1) j c (by simpa using h),show i+1+j=i+(j+1) by omega]
theorem numAt_i64 (n:List Int) (i:Nat) (hi:i≤1000000) (h:∀ x∈n,I64 x):I64 (numAt n i):=by
 unfold numAt
 split
 ·unfold I64;omega
 ·next h0 =>
  obtain⟨x,hx⟩:∃ x,n[i % n.length]?=some x:=⟨_,List.getElem?_eq_getElem (Nat.mod_lt _ (by omega))⟩
  rw [Sc.getD_of hx]
  exact h x (List.mem_of_getElem? hx)
theorem rowF_all (n:List Int) (l:List Co) (hl:l.length≤1000000) (h:∀ x∈n,I64 x):∀ c∈rowF n 0 l,I64 c.n∧c.s.size≤8:=fun c hc=>by
 obtain⟨j,hj⟩:=List.getElem?_of_mem hc
 have hlt:=(List.getElem?_eq_some_iff.1 hj).1
 rw [rowF_len] at hlt
 obtain⟨x,hx⟩:∃ x,l[j]?=some x:=⟨_,List.getElem?_eq_getElem hlt⟩
 rw [rowF_at n l 0 j x hx] at hj
 injection hj with hj;subst hj
 exact⟨cellP_i64 x _ (numAt_i64 n _ (by omega) h),cellP_size x _⟩
theorem ok_len {a:List Co} {r:List C} (h:Rw.chkR (tys a) r=0):r.length=a.length:=by
 have:=(chkR_zero.1 h).1
 rw [tys_len] at this
 exact this
def Small (r:List C):Prop:=∀ c∈r,I64 c.n∧c.s.size≤8
end Go.Proofs.YtenfjmdajlhfoabGreatDoor.Ev
namespace Go.Proofs.YtenfjmdajlhfoabGreatDoor
open Go.RowKit Go.Shelf
set_option linter.unusedVariables false
set_option linter.unusedSimpArgs false
set_option maxRecDepth 100000
attribute [local go_sem] Oper.semAt_some
structure Sx where
 a1:Option Addr
 c1:Nat
 a2:Option Addr
 c2:Nat
 s:Ev.Sm
def Sx.v (x:Sx):Value:=.slice x.a1 x.s.1.length x.c1
def Sx.kv (x:Sx):Value:=.slice x.a2 x.s.2.length x.c2
def sxc (x:Sx):List Value:=[x.v,x.kv]
theorem sxL:Gn.Lay sxc 2:=⟨fun _=>rfl,fun x v hv=>by simp [sxc] at hv;rcases hv with rfl|rfl<;>rfl,by omega⟩
def sxz:Value:=.agg #[.slice none 0 0,.slice none 0 0]
theorem sxY:Gn.Ty 38 25 sxz 2 48:=⟨Tryz.underlying38,by kernel_rfl,by kernel_rfl,rfl,by omega⟩
def sms (L:List Sx):List Ev.Sm:=L.map (·.s)
theorem sms_len (L:List Sx):(sms L).length=L.length:=by simp [sms]
theorem sms_at {L:List Sx} {i:Nat} {x:Sx} (h:L[i]?=some x):(sms L)[i]?=some x.s:=by unfold sms;rw [List.getElem?_map,h];rfl
structure RdS (w:World) (B:Nat) (x:Sx):Prop where
 c:RdK w B x.v x.s.1
 k:RdI w B x.kv x.s.2
theorem RdS.later {w w':World} {x:Sx} (h:RdS w w.heap.size x) (hb:Below w.heap.size w w'):RdS w' w'.heap.size x:=⟨h.c.later hb,h.k.later hb⟩
structure RdSm (w:World) (B:Nat) (v:Value) (L:List Sx):Prop where
 rd:Gn.Rd sxc 2 w B v L
 el:∀ x∈L,RdS w B x
theorem RdSm.later {w w':World} {v:Value} {L:List Sx} (h:RdSm w w.heap.size v L) (hb:Below w.heap.size w w'):RdSm w' w'.heap.size v L:=⟨Gn.Rd.later h.rd hb,fun x hx=>(h.el x hx).later hb⟩
theorem rdS_cells {W w:World} {B n c:Nat} {ad:Option Addr} {L:List Sx} (h:RdSm W B (.slice ad n c) L) (hb:Below B W w) {i:Nat} {x:Sx} (hi:L[i]?=some x) :
 ∃ b off,ad=some ⟨b,off,none⟩∧w.cell? ⟨b,off+i * 2,none⟩=some x.v∧w.cell? ⟨b,off+i * 2+1,none⟩=some x.kv:=by
 obtain⟨hl,e⟩:=List.getElem?_eq_some_iff.1 hi
 obtain⟨b,off,rfl,_,hc⟩:=Gn.Rd.at h.rd hb hl
 rw [e] at hc
 exact⟨b,off,rfl,hc 0 _ rfl,hc 1 _ rfl⟩
theorem rdS_to {w:World} {B c m:Nat} {a:Option Addr} {L:List Sx} (h:RdSm w B (.slice a L.length c) L) (hm:m≤L.length):RdSm w B (.slice a m c) (L.take m):=⟨rd_to h.rd hm,fun x hx=>h.el x (List.mem_of_mem_take hx)⟩
structure SmOk (s:Ev.Sm):Prop where
 k:∀ c∈s.1,KOk c
 i:∀ q∈s.2,Cl.I64 q
 n:s.1.length≤1000000
 m:s.2.length≤1000000
def SmsOk (L:List Sx):Prop:=∀ x∈L,SmOk x.s
theorem own_tch {α:Type} {enc:α→List Value} {k:Nat} {T:TypeId} {S:Nat→Prop} {w w':World} {B:Nat} {v:Value} {l:List α} (h:Gn.Own enc k T w B v l) (ht:Touch S w w') (hn:∀ g,B≤g→¬ S g):Gn.Own enc k T w' B v l:=by
 obtain⟨h0,h1⟩:=h
 refine⟨h0,?_⟩
 rcases h1 with h1|⟨g,cap,cur,rfl,hg,hh,r⟩
 ·exact .inl h1
 ·have hlt:g < w.heap.size:=by
   rcases Nat.lt_or_ge g w.heap.size with hlt|hge
   ·exact hlt
   ·rw [Array.getElem?_eq_none hge] at hh;cases hh
  exact .inr ⟨g,cap,cur,rfl,hg,(ht.block g hlt (hn g hg)).trans hh,r⟩
abbrev IA (l:List Co):={ x:Nat × Co // l[x.1]?=some x.2 }
def enci {l:List Co} (x:IA l):Array Value:=#[.int .i64 (x.1.1:Nat),.int .i64 x.1.2.id]
def pl {l:List Co} (xs:List (IA l)):List Nat:=xs.map fun x=>x.1.1
def cl {l:List Co} (xs:List (IA l)):List Co:=xs.map fun x=>x.1.2
theorem cl_of {l:List Co} {xs:List (IA l)} (h:pl xs=List.range l.length):cl xs=l:=by
 refine List.ext_getElem? fun i=>?_
 have h2:=congrArg (fun z=>z[i]?) h
 simp only [pl,List.getElem?_map] at h2
 unfold cl
 rw [List.getElem?_map]
 cases hx:xs[i]? with
 | none =>
  rw [hx] at h2
  simp only [Option.map_none] at h2
  rw [eq_comm,List.getElem?_eq_none_iff,List.length_range] at h2
  rw [List.getElem?_eq_none h2];rfl
 | some x =>
  rw [hx] at h2
  simp only [Option.map_some] at h2
  have hi:i < l.length:=by
   have:=(List.getElem?_eq_some_iff.1 h2.symm).1
   simpa using this
  rw [List.getElem?_range hi] at h2
  injection h2 with h2
  have:=x.2
  rw [h2] at this
  rw [this];rfl
theorem ids_new (v kv:Value) (w:World) :
 Calls Tryz.prog 71 #[.agg #[v,kv]] w fun e w'=>e=.returned (.func (.func 85) #[] #[.pointer (some ⟨w.heap.size,0,none⟩)])∧w'=w.alloc (.cells #[v,kv] 25):=by
 go_enter Tryz.func71,Tryz.ntmps71
 go_wp2_with fail
 go_ret
 exact⟨rfl,rfl⟩
theorem ids_stops (n Bs B:Nat) (hn:1≤n) (a:Option Addr) (c:Nat) (l:List Co) (hl:l.length≤1000000) (w:World) (hB:B≤w.heap.size) (hBs:Bs < w.heap.size) (h0:w.cell? ⟨Bs,0,none⟩=some (.slice a l.length c)) (hr:RdK w B (.slice a l.length c) l) :
 SeqStopsK Fence.wide n Tryz.prog 85 #[.pointer (some ⟨Bs,0,none⟩)] (enci (l:=l)) (Below B) (fun xs=>pl xs=List.range l.length) (fun _=>True) l.length w:=fun ll J Jx W hW hJ _ hY h0J=>by
 have hc':=(hW.cell (p:=⟨Bs,0,none⟩) hBs).trans h0
 have H0:=hZ h0J
 have HW:Hid (Below B w W):=hZ (hW.mono hB)
 have HY:=hZ hY
 have HJ:=hZ hJ
 have HR:=hZ hr
 clear h0J hY hW h0 hJ hr
 refine callsIn_of_wp Tryz.func85 rfl trivial ?_ rfl
 simp only [Tryz.ntmps85,List.size_toArray,List.length_cons,List.length_nil,Nat.reduceAdd,Nat.reduceSub,Array.replicate_succ,Array.replicate_zero,List.push_toArray,List.append_toArray,List.nil_append,List.cons_append]
 gi_wp2_with fail
 gi_loopw [8] (fun i wr=>∃ pre:List (IA l),i=.int .i64 (pre.length:Nat)∧pre.length≤l.length∧Hid (pl pre=List.range pre.length)∧Hid (J pre wr)∧Hid (Below B w wr)∧Hid (W.heap.size≤wr.heap.size)) (fun i _=>l.length - (intOf i).toNat)
 case atStart=>exact⟨[],by rfl,Nat.zero_le _,hZ rfl,H0,HW,hZ (Nat.le_refl _)⟩
 case round =>
  obtain⟨pre,rfl,hk,HE,HP,HB,HS⟩:=hrel
  clear H0 HW hc'
  by_cases hlt:pre.length < l.length
  ·have hlt1:(pre.length:Int) < l.length:=by omega
   obtain⟨x,hx⟩:∃ x,l[pre.length]?=some x:=⟨_,List.getElem?_eq_getElem hlt⟩
   obtain⟨b1,o1,rfl,p0,p1,p2,p3,p4,p5,p6⟩:=rdK_cells HR.out HB.out hx
   obtain⟨px,hpx⟩:∃ px:IA l,px=⟨(pre.length,x),hx⟩:=⟨_,rfl⟩
   have HE2:Hid (pl (pre++[px])=List.range (pre++[px]).length):=hZ (by
    unfold pl
    rw [List.map_append,List.length_append,List.length_singleton,List.range_succ,hpx]
    exact congrArg (·++_) HE.out)
   have hlen:(pre++[px]).length=pre.length+1:=by simp
   have HJ2:=hZ (HJ.out pre wr (wr.alloc (.cells #[.int .i64 x.id,.string x.nm,.int .i64 x.k,.bool x.u,.bool x.d.u,.int .i64 x.d.n,.string x.d.s] 63)) none HP.out (World.grownBy_alloc _ _ none) (fun _ h=>by cases h))
   have HB2:=hZ (HB.out.trans ((box_new wr (.cells #[.int .i64 x.id,.string x.nm,.int .i64 x.k,.bool x.u,.bool x.d.u,.int .i64 x.d.n,.string x.d.s] 63)).mono (Nat.le_trans hB HB.out.size)))
   have HS2:Hid (W.heap.size≤(wr.alloc (.cells #[.int .i64 x.id,.string x.nm,.int .i64 x.k,.bool x.u,.bool x.d.u,.int .i64 x.d.n,.string x.d.s] 63)).heap.size):=hZ (by have:=HS.out;simp;omega)
   obtain⟨fn,tmps,assign,body,hy,hRo⟩:=HY.out pre px _ HJ2.out hlt
   rw [hpx] at hy
   simp only [enci] at hy
   clear hpx hx HJ2 HE HP
   obtain⟨xi,xm,xk,xu,⟨xa,xb,xc⟩⟩:=x
   simp only at p0 p1 p2 p3 p4 p5 p6 HB2 HS2 hy hRo
   gi_wp2
   refine hRo.mono ?_
   rintro e W3 (⟨rfl,hJ3,hk3⟩|⟨rfl,hJx3⟩)
   ·gi_wp2
    go_roundw
    case rel=>exact⟨pre++[px],by rw [hlen];go_num,by omega,HE2,hZ hJ3,hZ (HB2.out.trans hk3),hZ (Nat.le_trans HS2.out hk3.size)⟩
    case measure=>simp [intOf];omega
   ·gi_wp2
    refine bodyPost_ret (results_none rfl _ _ _) rfl ?_
    exact⟨⟨_,rfl⟩,.inr ⟨_,trivial,hJx3⟩⟩
  ·have hlt1:¬ (pre.length:Int) < l.length:=by omega
   have he:pre.length=l.length:=by omega
   have HD:Hid (pl pre=List.range l.length):=hZ (by rw [← he];exact HE.out)
   clear he
   gi_wp2
   go_end0
   exact⟨⟨_,rfl⟩,.inl ⟨pre,HD.out,HP.out⟩⟩
attribute [local go_sem] Oper.semAt_some
def kf (ks:List Int) {l:List Co} (xs:List (IA l)):List Int:=xs.flatMap fun x=>if ks.contains ((x.1.1:Nat):Int) then [x.1.2.id] else []
theorem kf_snoc (ks:List Int) {l:List Co} (xs:List (IA l)) (x:IA l):kf ks (xs++[x])=kf ks xs++(if ks.contains ((x.1.1:Nat):Int) then [x.1.2.id] else []):=by unfold kf;simp
theorem kf_from (ks:List Int) {l:List Co}:∀ (xs:List (IA l)) (i:Nat) (t:List Co),xs.map (fun x=>x.1.1)=List.range' i t.length→xs.map (fun x=>x.1.2)=t→kf ks xs=Ev.kidF ks i t
 | [],i,t,_,h=>by simp at h;subst h;rfl
 | x::xs,i,t,h1,h2=>by
  match t with
  | []=>simp at h2
  | c::t =>
   simp only [List.map_cons,List.cons.injEq] at h2
   rw [List.length_cons,List.range'_succ,List.map_cons,List.cons.injEq] at h1
   have ih:=kf_from ks xs (i+1) t h1.2 h2.2
   have e:kf ks (x::xs)=(if ks.contains ((x.1.1:Nat):Int) then [x.1.2.id] else [])++kf ks xs:=by unfold kf;simp
   rw [e,ih,h1.1,h2.1,Ev.kidF_cons]
   by_cases hm:((i:Nat):Int)∈ks
   ·rw [if_pos hm,if_pos (by simpa using hm)];rfl
   ·rw [if_neg hm,if_neg (by simpa using hm)];rfl
theorem kf_all (ks:List Int) {l:List Co} {xs:List (IA l)} (h:pl xs=List.range l.length):kf ks xs=Ev.kid (l,ks):=kf_from ks xs 0 l (by rw [← List.range_eq_range'];exact h) (cl_of h)
structure KW (w:World) (v kv:Value) (K:List Int) (kx:Value) (W:World):Prop where
 s:Blk W w.heap.size 25 [v,kv]
 r:Blk W (w.heap.size+1) 23 [kx]
 o:OwnI W (w.heap.size+2) kx K
 b:Below w.heap.size w W
 z:w.heap.size+3≤W.heap.size
theorem KW.later {w W W':World} {v kv kx:Value} {K:List Int} (h:KW w v kv K kx W) (hb:Below W.heap.size W W'):KW w v kv K kx W' :=
 ⟨h.s.later hb,h.r.later hb,Gn.Own.later h.o hb,up h.b hb,Nat.le_trans h.z hb.size⟩
theorem KW.still {w W W':World} {v kv kx:Value} {K:List Int} {row:Option Nat} {B:Nat} (h:KW w v kv K kx W) (hg:W.grownBy W' row) (hr:∀ r,row=some r→B≤r∧∃ o:Obj,W.heap[r]?=some o∧o.isCells=false) (hB:w.heap.size≤B):KW w v kv K kx W':=by
 have hn:NoCells W row:=fun r e=>(hr r e).2
 exact⟨h.s.still hg hn,h.r.still hg hn,own_still h.o hg hn,h.b.grown hg h.b.size (fun g e=>Nat.le_trans hB (hr g e).1),Nat.le_trans h.z hg.size⟩
theorem KW.app {w W W':World} {v kv kx v1:Value} {K K':List Int} (h:KW w v kv K kx W) (ho:OwnI W' (w.heap.size+2) v1 K') (hg:W.grownBy W' kx.ownBlock) :
 Blk W' (w.heap.size+1) 23 [kx]∧KW w v kv K' v1 (W'.setCell ⟨w.heap.size+1,0,none⟩ v1):=by
 have h3:Blk W' (w.heap.size+1) 23 [kx]:=h.r.app hg h.o (by omega)
 refine⟨h3,(h.s.app hg h.o (by omega)).far (by simp only;omega) v1,Blk.put h3 0 v1,own_far ho (by simp only;omega) v1,?_,?_⟩
 ·exact (h.b.grown hg (by have:=h.z;omega) (fun g e=>by have:=(h.o.lt g e).1;omega)).setCell (by simp only;omega) v1
 ·have:=hg.size;have:=h.z;simp;omega
theorem cKeyIds (x:Sx) (hN:SmOk x.s) (w:World) (h:RdS w w.heap.size x) :
 Calls Tryz.prog 89 #[.agg #[x.v,x.kv]] w fun e w'=>∃ u,e=.returned u∧OwnI w' w.heap.size u (Ev.kid x.s)∧Below w.heap.size w w':=by
 obtain⟨a1,c1,a2,c2,⟨l,ks⟩⟩:=x
 unfold Sx.v Sx.kv
 obtain⟨hk,hkk⟩:=h
 unfold Sx.v at hk
 unfold Sx.kv at hkk
 have hln:=hN.n
 simp only at hk hkk hln ⊢
 obtain⟨wa,hwa⟩:∃ wa,wa=(w.alloc (.cells #[.slice a1 l.length c1,.slice a2 ks.length c2] 25)).alloc (.cells #[.slice none 0 0] 23):=⟨_,rfl⟩
 obtain⟨wb,hwb⟩:∃ wb,wb=wa.alloc (.cells #[.slice a1 l.length c1,.slice a2 ks.length c2] 25):=⟨_,rfl⟩
 have hsa:wa.heap.size=w.heap.size+2:=by rw [hwa];simp
 have hsb:wb.heap.size=w.heap.size+3:=by rw [hwb];simp [hsa]
 have B1:Below w.heap.size w wa:=by rw [hwa];exact up_box (box_new _ _) _
 have B2:Below w.heap.size w wb:=by rw [hwb];exact up_box B1 _
 have hab:Below wa.heap.size wa wb:=by rw [hwb];exact box_new _ _
 have R0:Blk wb w.heap.size 25 [.slice a1 l.length c1,.slice a2 ks.length c2]:=by
  refine Blk.later ?_ hab
  rw [hwa]
  exact Blk.later (Blk.new w 25 #[.slice a1 l.length c1,.slice a2 ks.length c2]) (box_new _ _)
 have R1:Blk wb (w.heap.size+1) 23 [.slice none 0 0]:=by
  refine Blk.later ?_ hab
  have:=Blk.new (w.alloc (.cells #[.slice a1 l.length c1,.slice a2 ks.length c2] 25)) 23 #[.slice none 0 0]
  rw [show (w.alloc (.cells #[.slice a1 l.length c1,.slice a2 ks.length c2] 25)).heap.size=w.heap.size+1 by simp] at this
  rw [hwa]
  exact this
 have hg2:wb.cell? ⟨w.heap.size+2,0,none⟩=some (.slice a1 l.length c1):=by
  have:=(Blk.new wa 25 #[.slice a1 l.length c1,.slice a2 ks.length c2]).cell 0
  rw [hsa] at this
  rw [hwb]
  exact this
 have HST:=hZ (ids_stops 7 (w.heap.size+2) w.heap.size (by omega) a1 c1 l hln wb (by omega) (by omega) hg2 (Gn.Rd.below hk B2 (Nat.le_refl _)))
 have CP:=hZ (ids_new (.slice a1 l.length c1) (.slice a2 ks.length c2) wa)
 rw [hsa] at CP
 have HKW:Hid (KW w (.slice a1 l.length c1) (.slice a2 ks.length c2) [] (.slice none 0 0) wb):=hZ ⟨R0,R1,Gn.Own.nil _ _,B2,by omega⟩
 have HKK:=hZ hkk
 have HSB:=hZ hsb
 have HLN:=hZ hln
 clear hk hkk B1 B2 hab R0 R1 hg2 hsa hsb hln hN
 refine (callsIn_wide (n:=8)).1 ?_
 refine callsIn_of_wp_marks Tryz.func89 rfl trivial ?_ rfl
 simp only [Tryz.ntmps89,List.size_toArray,List.length_cons,List.length_nil,Nat.reduceAdd,Nat.reduceSub,Array.replicate_succ,Array.replicate_zero,List.push_toArray,List.append_toArray,List.nil_append,List.cons_append]
 gi_wp2_with fail
 rw [← hwa]
 refine⟨trivial,(callsIn_wide.2 CP.out).mono ?_⟩
 rintro e w2 ⟨rfl,hw2⟩
 rw [← hwb] at hw2
 subst hw2
 clear CP hwb hwa
 gi_wp2_with fail
 refine wpIn_rangeFunc_ownG rfl (by omega) (gf:=85) (lb:=#[.pointer (some ⟨w.heap.size+2,0,none⟩)]) rfl trivial (enters_of Tryz.func85 (by kernel_rfl) rfl)
  HST.out belowK_t (belowK_b (by have:=HSB.out;omega)) (Below.refl _ _) (fun _=>rfl)
  (fun pre W=>∃ kx,KW w (.slice a1 l.length c1) (.slice a2 ks.length c2) (kf ks pre) kx W∧(kf ks pre).length≤pre.length)
  (fun c pre W=>False) ?own ?ownx ?start ?a1 ?assign ?body ?done ?stop
 case assign =>
  intro l x W K hK
  dsimp only [enci]
  gi_wp2
  exact hK
 case own =>
  rintro pre W W' row ⟨kx,h,h2⟩ hg hr
  exact⟨kx,h.still hg hr (by have:=HSB.out;omega),h2⟩
 case ownx=>exact fun c pre W W' row h=>h.elim
 case start=>exact⟨_,HKW.out,Nat.le_refl _⟩
 case body =>
  rintro ll pre x W ⟨kx,hkw,hkl⟩ hlen
  have HP:=hZ hkw
  have CC:=hZ (cContains (.slice a2 ks.length c2) ks W (Gn.Rd.later HKK.out (by exact hkw.b)) (x.1.1:Nat))
  have d0:=hkw.s.cell 0
  have d1:=hkw.s.cell 1
  have q0:=hkw.r.cell 0
  have q1:=hkw.r.frozen 0
  simp only [zD,zE] at d0 d1 q0
  have HN:Hid ((kf ks pre).length+([x.1.2.id]:List Int).length≤100000000):=hZ (by have:=HLN.out;simp only [List.length_cons,List.length_nil];omega)
  have HL:Hid ((kf ks pre).length≤pre.length):=hZ hkl
  have HSN:=hZ (kf_snoc ks pre x)
  clear hkw hlen hkl
  gi_wp2_with fail
  refine⟨trivial,(CallsIn.inRound ll (callsIn_wide.2 CC.out)).mono ?_⟩
  rintro e W1 ⟨rfl,rfl⟩
  clear CC
  cases hc:ks.contains ((x.1.1:Nat):Int) with
  | false =>
   rw [hc,if_neg (by decide),List.append_nil] at HSN
   gi_wp2_with fail
   exact⟨KeepsFrom.refl _ _,Below.refl _ _,kx,by rw [HSN.out];exact HP.out,by rw [HSN.out,List.length_append];have:=HL.out;omega⟩
  | true =>
   rw [hc,if_pos rfl] at HSN
   have bb:=box_new W (.cells #[.int .i64 x.1.2.id] 3)
   have HPb:=hZ (HP.out.later bb)
   have HRI:=hZ (rd_one 3 inL W x.1.2.id #[.int .i64 x.1.2.id] rfl)
   have HG:=hZ ((Go2.refl w.heap.size w2.heap.size W).below (by have:=HP.out.z;omega) bb)
   have HS2:=hZ (show w.heap.size+2≤(W.alloc (.cells #[.int .i64 x.1.2.id] 3)).heap.size by have:=HPb.out.z;omega)
   clear bb
   gi_wp2_with (gi_at_builtin;refine wpListIn_app inL inY rfl (.tmp 14) (.tmp 16) rfl (w.heap.size+2) kx (kf ks pre) rfl HPb.out.o _ [x.1.2.id] rfl HRI.out HN.out HS2.out ?_;intro v1 w1 ho1 hg1;obtain⟨nv,va,vc,rfl⟩:=own_form ho1;have HA:=hZ (HPb.out.app ho1 hg1);have HGA:=hZ (HG.out.app HPb.out.o hg1 (by omega) (by have:=HPb.out.z;omega));clear q0 q1;have q0:=HA.out.1.cell 0;have q1:=HA.out.1.frozen 0;simp only [zD,zE] at q0;clear ho1 hg1)
   exact⟨(HGA.out.set (by simp only;omega) _).kf,(HGA.out.set (by simp only;omega) _).blw,_,by rw [HSN.out];exact HA.out.2,by rw [HSN.out,List.length_append,List.length_append];have:=HL.out;simp only [List.length_cons,List.length_nil];omega⟩
 case done =>
  rintro D xs W hD hx ⟨kx,hkw,_⟩ hKD
  have hD3:w.heap.size+3≤D:=by have:=HSB.out;omega
  have HAA:Hid (kf ks xs=Ev.kid (l,ks)):=hZ (kf_all ks hx)
  have HM:=hZ hkw
  have q0:=hkw.r.cell 0
  simp only [zD,zE] at q0
  clear hx hkw
  gi_wp2_with fail
  have hg:=grownBy_putObj' W D (.deferred none)
  have hn:NoCells W (some D):=fun r e=>by injection e with e;subst e;exact⟨_,hKD,rfl⟩
  refine⟨by simp,.inl ⟨_,_,rfl,run_takeDeferred hKD,?_⟩⟩
  refine⟨_,results_tmp rfl _ _ _,kx,rfl,?_,?_⟩
  ·rw [← HAA.out];exact Gn.Own.lower (own_still HM.out.o hg hn) (by omega)
  ·exact HM.out.b.grown hg HM.out.b.size (fun g e=>by injection e with e;omega)
 case stop=>exact fun D c pre W _ _ h=>h.elim
end Go.Proofs.YtenfjmdajlhfoabGreatDoor
