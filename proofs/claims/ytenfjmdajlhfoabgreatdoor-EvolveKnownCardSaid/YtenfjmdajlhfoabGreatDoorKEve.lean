/- Texts. -/
import Derived.Test.YtenfjmdajlhfoabGreatDoorKEvb
namespace Go.Proofs.YtenfjmdajlhfoabGreatDoor
open Go Go.RowKit
set_option linter.unusedVariables false
set_option linter.unusedSimpArgs false
structure VI1 (B N:Nat) (T:TypeId) (z x:List Value) (s ja js:Nat) (d:Nat→Bool) (ts:Array Value) (u:World):Prop where
 sz:ts.size=N
 bz:B≤u.heap.size
 a:d ja=true→∃ p,ts.getD s undef=.pointer (some ⟨p,0,none⟩)∧B≤p∧Blk u p T (bif d js then x else z)
 m:d js=true→d ja=true
theorem VI1.put {B N:Nat} {T:TypeId} {z x:List Value} {s ja js:Nat} {d:Nat→Bool} {ts:Array Value} {u u':World} (h:VI1 B N T z x s ja js d ts u) {s' j:Nat} {v:Value} (hs:s'≠s) (h1:ja≠j) (h2:js≠j) (hb:Below u.heap.size u u'):VI1 B N T z x s ja js (upd d j) (ts.setIfInBounds s' v) u':=by
 refine⟨by simp [h.sz],Nat.le_trans h.bz hb.size,?_,?_⟩<;>simp only [upd_no h1,upd_no h2,getD_put v hs]
 ·intro e
  obtain⟨p,p1,p2,p3⟩:=h.a e
  exact⟨p,p1,p2,p3.later hb⟩
 ·exact h.m
theorem VI1.new {B N:Nat} {T:TypeId} {z x:List Value} {s ja js:Nat} {d:Nat→Bool} {ts:Array Value} {u:World} (h:VI1 B N T z x s ja js d ts u) (hd:d ja=false) (hs:s < N) (hj:js≠ja):VI1 B N T z x s ja js (upd d ja) (ts.setIfInBounds s (.pointer (some ⟨u.heap.size,0,none⟩))) (u.alloc (.cells z.toArray T)):=by
 have h12:d js=false:=by
  cases e:d js with
  | false=>rfl
  | true=>have:=h.m e;rw [hd] at this;cases this
 refine⟨by simp [h.sz],by have:=h.bz;simp;omega,?_,?_⟩<;>simp only [upd_at,upd_no hj,getD_self _ (show s < ts.size by rw [h.sz];exact hs)]
 ·intro _
  refine⟨_,rfl,h.bz,?_⟩
  rw [h12]
  exact Blk.new u T _
 ·intro e;rw [h12] at e;cases e
theorem VI1.store {B N:Nat} {T:TypeId} {z x:List Value} {s ja js:Nat} {d:Nat→Bool} {ts:Array Value} {u u':World} (h:VI1 B N T z x s ja js d ts u) (hd:d ja=true) (hj:ja≠js) (hz:B≤u'.heap.size) (hx:∀ p,ts.getD s undef=.pointer (some ⟨p,0,none⟩)→Blk u' p T x):VI1 B N T z x s ja js (upd d js) ts u':=by
 refine⟨h.sz,hz,?_,?_⟩<;>simp only [upd_at,upd_no hj]
 ·intro e
  obtain⟨p,p1,p2,p3⟩:=h.a e
  exact⟨p,p1,p2,hx p p1⟩
 ·intro _;exact hd
theorem VI1.start {B N:Nat} {T:TypeId} {z x:List Value} {s ja js:Nat} {ts:Array Value} {u:World} (hz:ts.size=N) (hb:B≤u.heap.size):VI1 B N T z x s ja js (fun _=>false) ts u:=⟨hz,hb,fun e=>(by cases e),fun e=>(by cases e)⟩
end Go.Proofs.YtenfjmdajlhfoabGreatDoor
