/- Texts. -/
import Derived.Test.YtenfjmdajlhfoabGreatDoorKU1
import Derived.Test.YtenfjmdajlhfoabGreatDoorKShelf
import Derived.WalkKit
import Derived.WalkSpells
import Derived.WalkLawsBesides
import Derived.Lib.Hide
import Derived.IntWalk
import Derived.Laws.BytesArg
import Derived.Laws.Strings3
import Derived.Deep.QuietTactic
import Derived.BigQuiet
import Derived.Lib.OthersKept
import Derived.Maps.OwnSet
import Derived.Lib.AppendStr
set_option maxHeartbeats 2000000
namespace Go.Proofs.YtenfjmdajlhfoabGreatDoor
open Go.RowKit
set_option linter.unusedVariables false
def bl (s:ByteArray):List Nat:=s.data.toList.map UInt8.toNat
theorem bl_length (s:ByteArray):(bl s).length=s.size:=by simp [bl]
theorem bl_byte (s:ByteArray):∀ x∈bl s,x < 256:=by
 intro x hx
 obtain⟨b,_,rfl⟩:=List.mem_map.1 hx
 exact b.toNat_lt
theorem str_bl (s:ByteArray):str (bl s)=s:=by
 refine ByteArray.ext (Array.toList_inj.1 ?_)
 simp only [str,strOfNums_data,bl,List.map_map]
 conv=>rhs;rw [← List.map_id s.data.toList]
 refine List.map_congr_left fun b _=>?_
 simp
theorem bl_str (l:List Nat) (h:∀ x∈l,x < 256):bl (str l)=l:=by
 simp only [str,strOfNums_data,bl,List.map_map]
 conv=>rhs;rw [← List.map_id l]
 refine List.map_congr_left fun x hx=>?_
 have:=h x hx
 simp;omega
theorem bl_inj {s t:ByteArray} (h:bl s=bl t):s=t:=by rw [← str_bl s,← str_bl t,h]
theorem bl_extract (s:ByteArray) (a b:Nat):bl (s.extract a b)=((bl s).drop a).take (b - a):=by
 unfold bl
 rw [Lib.extract_data,List.map_take,List.map_drop]
theorem bl_from (s:ByteArray) (a:Nat):bl (s.extract a s.size)=(bl s).drop a:=by
 rw [bl_extract,List.take_of_length_le (by rw [List.length_drop,bl_length];exact Nat.le_refl _)]
theorem bl_to (s:ByteArray) (b:Nat):bl (s.extract 0 b)=(bl s).take b:=by
 rw [bl_extract];simp
theorem bl_at (s:ByteArray) (k:Nat) (h:k < s.size):(s[k]'h).toNat=(bl s).getD k 0:=by
 unfold bl
 have h2:k < s.data.toList.length:=by simpa using h
 rw [List.getD_eq_getElem?_getD,List.getElem?_map,List.getElem?_eq_getElem h2]
 rfl
theorem bl_eq (s t:ByteArray):(s.toList == t.toList)=decide (bl s=bl t):=by
 rw [Lib.toList_data,Lib.toList_data,Bool.eq_iff_iff]
 simp only [beq_iff_eq,decide_eq_true_eq]
 refine⟨fun h=>by unfold bl;rw [h],fun h=>by rw [bl_inj h]⟩
theorem bl_empty (s:ByteArray):s.toList.isEmpty=decide (bl s=[]):=by
 rw [Lib.toList_data,Bool.eq_iff_iff]
 simp [bl]
theorem bl_nil {s:ByteArray}:bl s=[]↔s.size=0:=by
 rw [← bl_length];exact⟨fun h=>by rw [h];rfl,fun h=>List.eq_nil_of_length_eq_zero h⟩
theorem str_append (a b:List Nat):str (a++b)=str a++str b:=by
 refine ByteArray.ext (Array.toList_inj.1 ?_)
 rw [ByteArray.data_append]
 simp [str,strOfNums_data]
theorem str_size (l:List Nat):(str l).size=l.length:=by rw [Lib.size_eq,str,strOfNums_data];simp
theorem dec_go (s:ByteArray):Lib.decodeGo s=if s.size=0 then (65533,0) else Utf.dec (bl s):=by
 unfold Lib.decodeGo Utf.dec
 by_cases h:s.size=0
 ·rw [if_pos h,if_pos h]
 ·rw [if_neg h,if_neg h,Lib.decode_at]
  have g:∀ k,(s.get! k).toNat=(bl s).getD k 0:=by
   intro k
   rcases Nat.lt_or_ge k s.size with hk|hk
   ·rw [Utf8W.get!_of_lt s k hk,bl_at]
   ·rw [List.getD_eq_getElem?_getD,List.getElem?_eq_none (by rw [bl_length];exact hk)]
    have:s.get! k=default:=by
     cases s with
     | mk d=>exact getElem!_neg d k (by have h2:d.size≤k:=hk;omega)
    rw [this];rfl
  rw [g,g,g,g,bl_length];simp
theorem dec_from (s:ByteArray) (k:Nat) (h:k < s.size):Utf8.decode s k=Utf.dec ((bl s).drop k):=by
 unfold Utf.dec
 rw [Lib.decode_at]
 have g:∀ k,(s.get! k).toNat=(bl s).getD k 0:=by
  intro k
  rcases Nat.lt_or_ge k s.size with hk|hk
  ·rw [Utf8W.get!_of_lt s k hk,bl_at]
  ·rw [List.getD_eq_getElem?_getD,List.getElem?_eq_none (by rw [bl_length];exact hk)]
   have:s.get! k=default:=by
    cases s with
    | mk d=>exact getElem!_neg d k (by have h2:d.size≤k:=hk;omega)
   rw [this];rfl
 rw [g,g,g,g,List.length_drop,bl_length]
 simp [List.getD_eq_getElem?_getD,List.getElem?_drop]
def Tab (w:World):Prop:=Lib.Utf8Tabs 1 2 w
theorem Tab.size {w:World} (h:Tab w):1 < w.heap.size∧2 < w.heap.size:=by
 have h0:=h.1 0 (by omega)
 have h1:=(h.2 0 (by omega)).1
 constructor
 ·rcases Nat.lt_or_ge 1 w.heap.size with hlt|hge
  ·exact hlt
  ·simp [World.cell?,Array.getElem?_eq_none hge] at h0
 ·rcases Nat.lt_or_ge 2 w.heap.size with hlt|hge
  ·exact hlt
  ·simp [World.cell?,Array.getElem?_eq_none hge] at h1
def TabAt (B:Nat):Prop:=1 < B∧2 < B
theorem Tab.below {w w':World} {B:Nat} (h:Tab w) (hB:TabAt B) (hb:Below B w w'):Tab w' :=
 ⟨fun c hc=>(hb.cell (p:=⟨1,c,none⟩) hB.1).trans (h.1 c hc),
  fun i hi=>⟨(hb.cell (p:=⟨2,2 * i,none⟩) hB.2).trans (h.2 i hi).1,(hb.cell (p:=⟨2,2 * i+1,none⟩) hB.2).trans (h.2 i hi).2⟩⟩
theorem Tab.later {w w':World} (h:Tab w) (hb:Below w.heap.size w w'):Tab w':=h.below h.size hb
end Go.Proofs.YtenfjmdajlhfoabGreatDoor
namespace Go.Proofs.YtenfjmdajlhfoabGreatDoor.Tp
open Go.Lib
set_option linter.unusedVariables false
structure Nd where
 kind:Int
 key:ByteArray
 n:Int
 s:ByteArray
 size:Int
inductive Fo where
 | nil
 | node (kind:Int) (key:ByteArray) (n:Int) (s:ByteArray) (kids rest:Fo)
def flat:Fo→List Nd
 | .nil=>[]
 | .node k y n s c r=>⟨k,y,n,s,1+((flat c).length:Nat)⟩::(flat c++flat r)
def sz (F:Fo):Nat:=(flat F).length
@[simp] theorem flat_nil:flat .nil=[]:=rfl
@[simp] theorem sz_nil:sz .nil=0:=rfl
theorem flat_node (k:Int) (y:ByteArray) (n:Int) (s:ByteArray) (c r:Fo):flat (.node k y n s c r)=⟨k,y,n,s,1+(sz c:Nat)⟩::(flat c++flat r):=rfl
def app:Fo→Fo→Fo
 | .nil,G=>G
 | .node k y n s c r,G=>.node k y n s c (app r G)
def keys:Fo→List ByteArray
 | .nil=>[]
 | .node _ y _ _ _ r=>y::keys r
def dep:Fo→Nat
 | .nil=>0
 | .node _ _ _ _ c r=>max (1+dep c) (dep r)
def hf (k n:Int) (s:ByteArray):Prop :=
 ((k=1 ∨ k=2 ∨ k=3)∧n=0∧s.size=0) ∨ (k=4∧s.size=0) ∨ (k=5∧n=0∧Utf.vld (bl s)=true) ∨ ((k=6 ∨ k=7)∧n=0∧s.size=0)
def ko (k:Int) (ys:List ByteArray):Prop :=
 if k=7 then (∀ y∈ys,Utf.vld (bl y)=true)∧ys.Nodup else ∀ y∈ys,y.size=0
def good:Fo→Prop
 | .nil=>True
 | .node k y n s c r=>hf k n s∧(k≤5→c=.nil)∧ko k (keys c)∧good c∧good r
def k1 (k:Int) (a:List ByteArray) (y:ByteArray):Prop:=if k=7 then Utf.vld (bl y)=true∧y ∉ a else y.size=0
def At (l:List Nd) (a:Nat) (F:Fo):Prop:=flat F <+: l.drop a
def Val (l:List Nd) (a m:Nat) (F:Fo):Prop:=(∃ k y n s c,F=.node k y n s c .nil)∧At l a F∧good F∧sz F≤m
def Vp (l:List Nd) (a m:Nat):Prop:=∃ F,Val l a m F
def less:List Nat→List Nat→Bool
 | [],[]=>false
 | [],_::_=>true
 | _::_,[]=>false
 | a::s,b::t=>decide (a < b) || (decide (a=b) && less s t)
def ly (x y:ByteArray):Bool:=less (bl x) (bl y)
def trs:Fo→List Fo
 | .nil=>[]
 | .node k y n s c r=>.node k y n s c .nil::trs r
def cat:List Fo→Fo
 | []=>.nil
 | T::ts=>app T (cat ts)
def Single (T:Fo):Prop:=∃ k y n s c,T=.node k y n s c .nil
def kyo:Fo→ByteArray
 | .nil=>⟨#[]⟩
 | .node _ y _ _ _ _=>y
def insL (T:Fo):List Fo→List Fo
 | []=>[T]
 | S::ts=>if ly (kyo S) (kyo T)=true then S::insL T ts else T::S::ts
def srtL (ts:List Fo):List Fo:=ts.foldl (fun acc T=>insL T acc) []
def Rise (ts:List Fo):Prop:=ts.Pairwise fun a b=>ly (kyo a) (kyo b)=true
def sT:Fo→Fo
 | .nil=>.nil
 | .node k y n s c r=>.node k y n s (if k=7 then cat (srtL (trs (sT c))) else sT c) (sT r)
end Go.Proofs.YtenfjmdajlhfoabGreatDoor.Tp
namespace Go.Proofs.YtenfjmdajlhfoabGreatDoor
open Go.RowKit
set_option linter.unusedVariables false
structure Touch (S:Nat→Prop) (w w':World):Prop where
 os:w'.os=w.os
 tape:w'.tape=w.tape
 output:w'.output=w.output
 size:w.heap.size≤w'.heap.size
 block:∀ k,k < w.heap.size→¬ S k→w'.heap[k]?=w.heap[k]?
theorem Touch.refl (S:Nat→Prop) (w:World):Touch S w w:=⟨rfl,rfl,rfl,Nat.le_refl _,fun _ _ _=>rfl⟩
theorem Touch.trans {S S':Nat→Prop} {a b c:World} (h:Touch S a b) (k:Touch S' b c) (hS:∀ i,S' i→S i ∨ a.heap.size≤i):Touch S a c :=
 ⟨k.os.trans h.os,k.tape.trans h.tape,k.output.trans h.output,Nat.le_trans h.size k.size,fun i hi hn =>
  (k.block i (Nat.lt_of_lt_of_le hi h.size) (fun hs=>(hS i hs).elim hn (by omega))).trans (h.block i hi hn)⟩
theorem Touch.mono {S S':Nat→Prop} {w w':World} (h:Touch S w w') (hS:∀ i,S i→S' i):Touch S' w w' :=
 ⟨h.os,h.tape,h.output,h.size,fun k hk hn=>h.block k hk fun hs=>hn (hS k hs)⟩
theorem Touch.undrew {S:Nat→Prop} {w w':World} (h:Touch S w.drew w'):Touch S w w':=⟨h.os,h.tape,h.output,h.size,h.block⟩
theorem Touch.of_below {S:Nat→Prop} {w w':World} (h:Below w.heap.size w w'):Touch S w w':=⟨h.os,h.tape,h.output,h.size,fun k hk _=>h.block k hk⟩
theorem Touch.below {S:Nat→Prop} {B:Nat} {w w':World} (h:Touch S w w') (hB:B≤w.heap.size) (hS:∀ i,S i→B≤i):Below B w w' :=
 ⟨h.os,h.tape,h.output,h.size,fun k hk=>h.block k (by omega) fun hs=>by have:=hS k hs;omega⟩
theorem Touch.setCell {S:Nat→Prop} {a w:World} (h:Touch S a w) {p:Addr} (hp:S p.block) (u:Value):Touch S a (w.setCell p u) :=
 ⟨h.os,h.tape,h.output,by simp [World.setCell];exact h.size,fun k hk hn=>(Below.heap_setCell w p u k (fun e=>hn (by rw [e];exact hp))).trans (h.block k hk hn)⟩
theorem Touch.cell {S:Nat→Prop} {w w':World} (h:Touch S w w') {p:Addr} (hp:p.block < w.heap.size) (hn:¬ S p.block):w'.cell? p=w.cell? p:=World.cell?_of_block (w:=w) (h.block p.block hp hn)
def Blk (w:World) (g:Nat) (t:TypeId) (cs:List Value):Prop:=w.heap[g]?=some (.cells cs.toArray t (0,0))
theorem Blk.lt {w:World} {g:Nat} {t:TypeId} {cs:List Value} (h:Blk w g t cs):g < w.heap.size:=by
 rcases Nat.lt_or_ge g w.heap.size with hlt|hge
 ·exact hlt
 ·unfold Blk at h;rw [Array.getElem?_eq_none hge] at h;cases h
theorem Blk.cell {w:World} {g:Nat} {t:TypeId} {cs:List Value} (h:Blk w g t cs) (k:Nat):w.cell? ⟨g,k,none⟩=cs[k]?:=by
 have:=cell_of_row w g k _ t (0,0) h
 rw [this]
 simp
theorem Blk.frozen {w:World} {g:Nat} {t:TypeId} {cs:List Value} (h:Blk w g t cs) (k:Nat):w.frozen? ⟨g,k,none⟩=false:=by
 unfold Blk at h
 simp [World.frozen?,h]
theorem Blk.put {w:World} {g:Nat} {t:TypeId} {cs:List Value} (h:Blk w g t cs) (k:Nat) (x:Value):Blk (w.setCell ⟨g,k,none⟩ x) g t (cs.set k x):=by
 unfold Blk at h ⊢
 simp only [World.setCell,Array.getElem?_modify,h]
 simp
theorem Blk.touch {S:Nat→Prop} {w w':World} {g:Nat} {t:TypeId} {cs:List Value} (h:Blk w g t cs) (ht:Touch S w w') (hn:¬ S g):Blk w' g t cs:=(ht.block g h.lt hn).trans h
theorem Blk.later {w w':World} {g:Nat} {t:TypeId} {cs:List Value} (h:Blk w g t cs) (hb:Below w.heap.size w w'):Blk w' g t cs:=(hb.block g h.lt).trans h
theorem Blk.new (w:World) (t:TypeId) (cs:Array Value):Blk (w.alloc (.cells cs t)) w.heap.size t cs.toList:=by
 unfold Blk
 rw [heap_alloc_new]
theorem Blk.drew {w:World} {g:Nat} {t:TypeId} {cs:List Value} (h:Blk w g t cs):Blk w.drew g t cs:=h
theorem Own.lt {w:World} {base:Nat} {v:Value} {l:List Nat} (h:Own w base v l) (k:Nat) (hk:v.ownBlock=some k):base≤k∧k < w.heap.size:=h.1.lt k hk
theorem go_yes (s:ByteArray) (h:Utf.nw (bl s)≠0):Lib.decodeGo s=(Utf.nr (bl s),Utf.nw (bl s))∧¬ (Utf.nr (bl s)=65533∧Utf.nw (bl s)≤1):=by
 have h0:¬ (bl s=[] ∨ ((Utf.dec (bl s)).1=65533∧(Utf.dec (bl s)).2≤1)):=by
  intro hc;unfold Utf.nw at h;rw [if_pos hc] at h;exact h rfl
 have e1:Utf.nw (bl s)=(Utf.dec (bl s)).2:=by unfold Utf.nw;rw [if_neg h0]
 have e2:Utf.nr (bl s)=(Utf.dec (bl s)).1:=by unfold Utf.nr;rw [if_neg h]
 rw [dec_go,if_neg (fun e=>h0 (.inl (bl_nil.2 e))),e1,e2]
 exact⟨rfl,fun e=>h0 (.inr e)⟩
theorem go_no (s:ByteArray) (h:Utf.nw (bl s)=0):(Lib.decodeGo s).1=65533∧(Lib.decodeGo s).2≤1:=by
 rw [dec_go]
 by_cases h0:s.size=0
 ·rw [if_pos h0];simp
 ·rw [if_neg h0]
  by_cases h1:bl s=[] ∨ ((Utf.dec (bl s)).1=65533∧(Utf.dec (bl s)).2≤1)
  ·rcases h1 with h1|h1
   ·exact absurd (bl_nil.1 h1) h0
   ·exact h1
  ·unfold Utf.nw at h
   rw [if_neg h1] at h
   exfalso
   have h2:=Utf.dec_some (bl s).length _ _ _ _ (Utf.getD_byte (bl_byte s) 0) (Utf.getD_byte (bl_byte s) 1) (Utf.getD_byte (bl_byte s) 2) (Utf.getD_byte (bl_byte s) 3) (by rw [bl_length];omega) (fun e=>h1 (.inr e))
   change _∧_∧((Utf.dec (bl s)).2=1∧_ ∨ (Utf.dec (bl s)).2=2∧_ ∨ (Utf.dec (bl s)).2=3∧_ ∨ (Utf.dec (bl s)).2=4∧_) at h2
   omega
theorem next_yes (s:ByteArray) (w:World) (T:Tab w) (h:Utf.nw (bl s)≠0) :
 Calls Tryz.prog 157 #[.string s] w fun e w'=>e=.returned (.tuple #[.int .i32 (Utf.nr (bl s):Nat),.int .i64 (Utf.nw (bl s):Nat),.bool true])∧Below w.heap.size w w':=by
 have C:=Tryz.utf8_DecodeRuneInString s w T
 obtain⟨e1,e2⟩:=go_yes s h
 rw [e1] at C
 clear e1 h
 generalize Utf.nr (bl s)=R at *
 generalize Utf.nw (bl s)=K at *
 by_cases h1:R=65533
 ·have h2:¬ ((K:Int)≤1):=by omega
  have h3:((R:Int) == 65533)=true:=by simp;omega
  clear h1 e2
  go_enter Tryz.func157,Tryz.ntmps157
  go_wp2_with (go_at_call 123;refine C.mono ?_;rintro e w' ⟨rfl,hb⟩)
  go_ret3
  exact⟨rfl,hb⟩
 ·have h3:((R:Int) == 65533)=false:=by simp;omega
  clear h1 e2
  go_enter Tryz.func157,Tryz.ntmps157
  go_wp2_with (go_at_call 123;refine C.mono ?_;rintro e w' ⟨rfl,hb⟩)
  go_ret3
  exact⟨rfl,hb⟩
theorem next_no (s:ByteArray) (w:World) (T:Tab w) (h:Utf.nw (bl s)=0) :
 Calls Tryz.prog 157 #[.string s] w fun e w'=>e=.returned (.tuple #[.int .i32 0,.int .i64 0,.bool false])∧Below w.heap.size w w':=by
 have C:=Tryz.utf8_DecodeRuneInString s w T
 obtain⟨e1,e2⟩:=go_no s h
 clear h
 rw [e1] at C
 clear e1
 generalize (Lib.decodeGo s).2=K at *
 have h2:((K:Int)≤1):=by omega
 go_enter Tryz.func157,Tryz.ntmps157
 go_wp2_with (go_at_call 123;refine C.mono ?_;rintro e w' ⟨rfl,hb⟩)
 go_ret3
 exact⟨rfl,hb⟩
def isR (x:Int):Prop:=0≤x∧Utf.isr x.toNat
instance (x:Int):Decidable (isR x):=by unfold isR;infer_instance
theorem isR_nat (r:Nat):isR (r:Int)↔Utf.isr r:=by unfold isR;simp
theorem conv_lit (w:World) (l:List Nat) (c:Array Value) (n:Nat) (hc:c.toList=vals l) (hn:n=l.length) (hb:∀ x∈l,x < 256) (hm:l.length≤100000) :
 (convert 107 9 (.slice (some ⟨w.heap.size,0,none⟩) n n)).run Tryz.prog (w.alloc (.cells c 5))=.ok (.string (str l)) (w.alloc (.cells c 5)):=by
 subst hn
 refine run_str _ (w.heap.size+1) _ l ⟨_,_,rfl,Nat.le_refl _,by simp only [maxLen];omega,by simp,hb,fun hp=>⟨w.heap.size,0,rfl,by omega,fun k hk=>?_⟩⟩
 have:=(Blk.new w 5 c).cell (0+k)
 rw [this,hc]
 simp [vals,List.getElem?_eq_getElem hk]
set_option maxRecDepth 100000 in
theorem rput_yes (r:Nat) (w:World) (h:Utf.isr r) :
 Calls Tryz.prog 171 #[.int .i32 r] w fun e w'=>e=.returned (.tuple #[.string (str (Utf.enc r)),.bool true])∧Below w.heap.size w w':=by
 unfold Utf.isr at h
 by_cases h1:r < 128
 ·have E:=hZ (Utf.enc_low r h1)
  have h2:((r:Int) % 256)=r:=by omega
  have C:=conv_lit w [r] #[.int .u8 (r:Nat)] 1 rfl rfl (by simp;omega) (by simp)
  have h3:(r:Int) < 128:=by omega
  have h4:(0:Int)≤r:=by omega
  clear h h1
  generalize (r:Int)=x at *
  go_enter Tryz.func171,Tryz.ntmps171
  go_wp2
  go_ret2
  exact⟨by rw [E.out];rfl,(Below.refl _ _).alloc (Nat.le_refl _) _⟩
 ·by_cases h2:r < 2048
  ·have E:=hZ (show Utf.enc r=[192+r / 64,128+r % 64] by unfold Utf.enc;rw [if_neg h1,if_pos h2])
   have C:=conv_lit (w.alloc (.cells #[.int .u8 ((r:Int) % 256)] 5)) [192+r / 64,128+r % 64] #[.int .u8 (192+(r:Int) / 64),.int .u8 (128+(r:Int) % 64)] 2 (by simp [vals]) rfl (by simp;omega) (by simp)
   rw [World.size_alloc] at C
   have h3:(128:Int)≤r:=by omega
   have h4:(r:Int) < 2048:=by omega
   clear h h1 h2
   generalize (r:Int)=x at *
   go_enter Tryz.func171,Tryz.ntmps171
   go_wp2
   go_ret2
   exact⟨by rw [E.out];rfl,((Below.refl _ _).alloc (Nat.le_refl _) _).alloc (by simp) _⟩
  ·by_cases h2':r < 65536
   ·have E:=hZ (show Utf.enc r=[224+r / 4096,128+r / 64 % 64,128+r % 64] by unfold Utf.enc;rw [if_neg h1,if_neg h2,if_pos h2'])
    have C:=conv_lit (w.alloc (.cells #[.int .u8 ((r:Int) % 256)] 5)) [224+r / 4096,128+r / 64 % 64,128+r % 64] #[.int .u8 (224+(r:Int) / 4096),.int .u8 (128+(r:Int) / 64 % 64),.int .u8 (128+(r:Int) % 64)] 3 (by simp [vals]) rfl (by simp;omega) (by simp)
    rw [World.size_alloc] at C
    have h3:(2048:Int)≤r:=by omega
    have h4:(r:Int) < 65536:=by omega
    rcases (show (r:Int) < 55296 ∨ 57343 < (r:Int) by omega) with h5|h5
    all_goals
     clear h h1 h2 h2'
     generalize (r:Int)=x at *
     go_enter Tryz.func171,Tryz.ntmps171
     go_wp2
     go_ret2
     exact⟨by rw [E.out];rfl,((Below.refl _ _).alloc (Nat.le_refl _) _).alloc (by simp) _⟩
   ·have E:=hZ (show Utf.enc r=[240+r / 262144,128+r / 4096 % 64,128+r / 64 % 64,128+r % 64] by unfold Utf.enc;rw [if_neg h1,if_neg h2,if_neg h2'])
    have C:=conv_lit (w.alloc (.cells #[.int .u8 ((r:Int) % 256)] 5)) [240+r / 262144,128+r / 4096 % 64,128+r / 64 % 64,128+r % 64] #[.int .u8 (240+(r:Int) / 262144),.int .u8 (128+(r:Int) / 4096 % 64),.int .u8 (128+(r:Int) / 64 % 64),.int .u8 (128+(r:Int) % 64)] 4 (by simp [vals]) rfl (by simp;omega) (by simp)
    rw [World.size_alloc] at C
    have h3:(65536:Int)≤r:=by omega
    have h4:(r:Int)≤1114111:=by omega
    clear h h1 h2 h2'
    generalize (r:Int)=x at *
    go_enter Tryz.func171,Tryz.ntmps171
    go_wp2
    go_ret2
    exact⟨by rw [E.out];rfl,((Below.refl _ _).alloc (Nat.le_refl _) _).alloc (by simp) _⟩
set_option maxRecDepth 100000 in
theorem rput_no (x:Int) (w:World) (h:¬ isR x) (lo : -2147483648≤x) (hi:x≤2147483647) :
 Calls Tryz.prog 171 #[.int .i32 x] w fun e w'=>e=.returned (.tuple #[.string ⟨#[]⟩,.bool false])∧w=w':=by
 unfold isR Utf.isr at h
 rcases (show x < 0 ∨ 1114111 < x ∨ (55296≤x∧x≤57343) by omega) with h1|h1|⟨h1,h2⟩
 all_goals
  clear h
  go_enter Tryz.func171,Tryz.ntmps171
  go_wp2
  go_ret2
  exact⟨rfl,rfl⟩
theorem ret_int {k:IntKind} {a b:Int} (h:a=b):Ending.returned (.int k a)=.returned (.int k b):=by rw [h]
def pa (h:Nat) (l:List Nat):Nat→Nat
 | 0=>h
 | k+1=>64 * pa h l k+l.getD (k+1) 0 % 64
def mask (L b:Nat):Nat:=if L=2 then b % 32 else if L=3 then b % 16 else if L=4 then b % 8 else b
theorem pa_lt (h:Nat) (l:List Nat) (hh:h < 256):∀ k,pa h l k < 256 * 64 ^ k
 | 0=>by simp [pa];omega
 | k+1=>by
  have:=pa_lt h l hh k
  simp only [pa,Nat.pow_succ]
  omega
theorem pa_small (h:Nat) (l:List Nat) (hh:h < 256) (k:Nat) (hk:k≤3):pa h l k < 67108864:=by
 have h1:=pa_lt h l hh k
 have h2:64 ^ k≤64 ^ 3:=Nat.pow_le_pow_right (by omega) hk
 omega
theorem pa_num (l:List Nat) (h0:0 < l.length) (h4:l.length≤4):pa (mask l.length (l.getD 0 0)) l (l.length - 1)=Utf.num l:=by
 match l,h0,h4 with
 | [a],_,_=>simp [pa,mask,Utf.num]
 | [a,b],_,_=>simp [pa,mask,Utf.num];omega
 | [a,b,c],_,_=>simp [pa,mask,Utf.num];omega
 | [a,b,c,d],_,_=>simp [pa,mask,Utf.num];omega
theorem mask_lt (L b:Nat) (h:b < 256):mask L b < 256:=by
 unfold mask;repeat' split
 all_goals omega
set_option maxRecDepth 100000 in
theorem number_at (s:ByteArray) (w:World) (L h b:Nat) (hs:s.size=L) (h0:0 < L) (h4:L≤4) (hh:h=mask L b) (hb:b=(bl s).getD 0 0) :
 Calls Tryz.prog 170 #[.string s] w fun e w'=>e=.returned (.int .i32 (pa h (bl s) (L - 1):Nat))∧w=w':=by
 have hb0:=bl_at s 0 (by omega)
 have hlt:=Utf.getD_byte (bl_byte s) 0
 rw [← hb] at hb0 hlt
 have hh':h < 256:=by rw [hh];exact mask_lt L b hlt
 have HB:=hZ (fun k h=>bl_at s k h)
 have HP:=hZ (fun k hk=>pa_small h (bl s) hh' k hk)
 have HC:=hZ (fun k=>Utf.getD_byte (bl_byte s) k)
 have hd1:decide (0 < s.size)=true:=by simp;omega
 have hsz:s.size≤4:=by omega
 have hp0:pa h (bl s) 0=h:=rfl
 clear hb
 rcases (show L=1 ∨ L=2 ∨ L=3 ∨ L=4 by omega) with e|e|e|e
 all_goals
  subst e
  simp only [mask,if_true,if_false,Nat.reduceEqDiff] at hh
  have HH:=hZ hh
  have HS:=hZ hs
  clear hh hp0
  go_enter Tryz.func170,Tryz.ntmps170
  go_wp2
  go_loop [3,4] (fun n i=>∃ k:Nat,k+1≤s.size∧i=.int .i64 ((k:Int)+1)∧n=.int .i64 (pa h (bl s) k:Nat)) (fun _ i=>s.size - (intOf i).toNat)
  case atStart=>exact⟨0,by omega,rfl,by rw [show pa h (bl s) 0=h from rfl,HH.out];try simp⟩
  case round =>
   obtain⟨k,hk,rfl,rfl⟩:=hrel
   have hp:=HP.out k (by omega)
   have HE:=hZ (show pa h (bl s) (k+1)=64 * pa h (bl s) k+(bl s).getD (k+1) 0 % 64 from rfl)
   by_cases hlt:k+1 < s.size
   ·have hx:=HB.out (k+1) hlt
    have hx2:=HC.out (k+1)
    have hlt':(k:Int)+1 < s.size:=by omega
    generalize (bl s).getD (k+1) 0=d at *
    generalize hq:pa h (bl s) k=q at *
    have HQ:=hZ hq
    clear hq hb0 hs
    go_wp2
    go_round
    case rel=>exact⟨k+1,by omega,by go_num,by rw [HE.out];simp⟩
    case measure=>simp [intOf];omega
   ·have hlt':¬ ((k:Int)+1 < s.size):=by omega
    have hk0:k=s.size - 1:=by omega
    generalize hq:pa h (bl s) k=q at *
    have HF:=hZ (show pa h (bl s) (s.size - 1)=q by rw [← hk0];exact hq)
    clear hb0 hs HE hq hk0
    go_wp2
    go_ret
    exact⟨ret_int (by rw [← HF.out,HS.out]),rfl⟩
theorem number (s:ByteArray) (w:World) (h0:0 < s.size) (h4:s.size≤4) :
 Calls Tryz.prog 170 #[.string s] w fun e w'=>e=.returned (.int .i32 (Utf.num (bl s):Nat))∧w=w':=by
 have h:=number_at s w s.size _ _ rfl h0 h4 rfl rfl
 have h2:=pa_num (bl s) (by rw [bl_length];omega) (by rw [bl_length];omega)
 rw [bl_length] at h2
 rwa [h2] at h
theorem up {w w1 w2:World} (h1:Below w.heap.size w w1) (h2:Below w1.heap.size w1 w2):Below w.heap.size w w2:=h1.trans (h2.mono h1.size)
set_option maxRecDepth 100000 in
theorem rnext (s:ByteArray) (w:World) (hm:s.size≤maxLen) (N:Nat) (hN:Utf.nw (bl s)=N) :
 Calls Tryz.prog 150 #[.string s] w fun e w'=>e=.returned (.tuple #[.int .i32 (Utf.nr (bl s):Nat),.int .i64 (N:Nat),.bool (decide (N≠0))])∧Below w.heap.size w w':=by
 unfold maxLen at hm
 have h4:=Utf.nw_le4 (bl s) (bl_byte s)
 have hle:=Utf.nw_le (bl s) (bl_byte s)
 rw [bl_length] at hle
 rw [hN] at h4 hle
 have HN:=hZ hN
 clear hN
 go_enter Tryz.func150,Tryz.ntmps150
 go_wp2
 go_loopw [5] (fun i wr=>∃ k:Nat,k≤4∧k≤s.size∧i=.int .i64 ((k:Int)+1)∧(N=0 ∨ k < N)∧Below w.heap.size w wr) (fun i _=>5 - (intOf i).toNat)
 case atStart=>exact⟨0,by omega,by omega,rfl,by omega,Below.refl _ _⟩
 case round =>
  obtain⟨k,hk4,hks,rfl,hkn,hb⟩:=hrel
  by_cases hlt:k < 4∧k < s.size
  ·obtain⟨hl4,hls⟩:=hlt
   have hx:(s.extract 0 (k+1)).size=k+1:=by rw [ByteArray.size_extract];omega
   have CN:=number (s.extract 0 (k+1)) wr (by omega) (by omega)
   have hbl:=bl_to s (k+1)
   rw [hbl] at CN
   have hR:=Utf.ref_test (bl s) (bl_byte s) (k+1) (by omega) (by rw [bl_length];omega)
   have hF:=Utf.ref_rune (bl s) (bl_byte s) (k+1) (by omega)
   have hlt2:=Utf.num_lt ((bl s).take (k+1)) (Utf.take_byte (bl_byte s) _)
   rw [HN.out] at hR hF
   have hi1:(k:Int)+1≤4:=by omega
   have hi2:(k:Int)+1≤s.size:=by omega
   generalize hr:Utf.num ((bl s).take (k+1))=r at *
   by_cases hw:N=k+1
   ·have ⟨i1,i2⟩:=hR.2 hw
    have hq:((str (Utf.enc r)).toList == (s.extract 0 (k+1)).toList)=true:=by rw [bl_eq,bl_str _ (Utf.enc_byte r i1),hbl,i2];simp
    have HE:=hZ (hF hw)
    have HW:=hZ hw
    have CP:=rput_yes r wr i1
    clear hR hF hr hw hbl hx i2 hkn
    go_wp2_with (first
     | (go_at_call 170;refine CN.mono ?_;rintro e w' ⟨rfl,hw'⟩;subst hw')
     | (go_at_call 171;refine CP.mono ?_;rintro e w2 ⟨rfl,hb2⟩))
    go_ret3
    exact⟨by rw [← HE.out,HW.out];simp,up hb hb2⟩
   ·by_cases i1:Utf.isr r
    ·have hq:((str (Utf.enc r)).toList == (s.extract 0 (k+1)).toList)=false:=by
      rw [bl_eq,bl_str _ (Utf.enc_byte r i1),hbl]
      exact decide_eq_false fun e=>hw (hR.1 ⟨i1,e⟩)
     have CP:=rput_yes r wr i1
     clear hR hF hr hbl hx
     go_wp2_with (first
      | (go_at_call 170;refine CN.mono ?_;rintro e w' ⟨rfl,hw'⟩;subst hw')
      | (go_at_call 171;refine CP.mono ?_;rintro e w2 ⟨rfl,hb2⟩))
     go_roundw
     case rel=>exact⟨k+1,by omega,by omega,by go_num,by omega,up hb hb2⟩
     case measure=>simp [intOf];omega
    ·have CP:=rput_no (r:Int) wr (by rw [isR_nat];exact i1) (by omega) (by omega)
     clear hR hF hr hbl hx
     go_wp2_with (first
      | (go_at_call 170;refine CN.mono ?_;rintro e w' ⟨rfl,hw'⟩;subst hw')
      | (go_at_call 171;refine CP.mono ?_;rintro e w2 ⟨rfl,hw'⟩;subst hw'))
     go_roundw
     case rel=>exact⟨k+1,by omega,by omega,by go_num,by omega,hb⟩
     case measure=>simp [intOf];omega
  ·have h0:N=0:=by omega
   have hnr:=hZ (Utf.nx_none (bl s) (by rw [HN.out];exact h0))
   have HZ:=hZ h0
   by_cases hl4:k < 4
   ·have hi1:(k:Int)+1≤4:=by omega
    have hi2:¬ ((k:Int)+1≤s.size):=by omega
    clear h0
    go_wp2
    go_ret3
    exact⟨by rw [hnr.out,HZ.out];simp,hb⟩
   ·have hi1:¬ ((k:Int)+1≤4):=by omega
    clear h0
    go_wp2
    go_ret3
    exact⟨by rw [hnr.out,HZ.out];simp,hb⟩
theorem rnext_yes (s:ByteArray) (w:World) (hm:s.size≤maxLen) (h:Utf.nw (bl s)≠0) :
 Calls Tryz.prog 150 #[.string s] w fun e w'=>e=.returned (.tuple #[.int .i32 (Utf.nr (bl s):Nat),.int .i64 (Utf.nw (bl s):Nat),.bool true])∧Below w.heap.size w w' :=
 (rnext s w hm _ rfl).mono fun _ _ ⟨he,hb⟩=>⟨by rw [he];simp [h],hb⟩
theorem rnext_no (s:ByteArray) (w:World) (hm:s.size≤maxLen) (h:Utf.nw (bl s)=0) :
 Calls Tryz.prog 150 #[.string s] w fun e w'=>e=.returned (.tuple #[.int .i32 0,.int .i64 0,.bool false])∧Below w.heap.size w w' :=
 (rnext s w hm _ rfl).mono fun _ _ ⟨he,hb⟩=>⟨by rw [he,Utf.nx_none _ h,h];simp,hb⟩
theorem ret_bool {a b:Bool} (h:a=b):Ending.returned (.bool a)=.returned (.bool b):=by rw [h]
def sz:Value→Nat
 | .string t=>t.size
 | _=>0
set_option maxRecDepth 100000 in
theorem rvalid (s:ByteArray) (w:World) (hm:s.size≤maxLen) (b:Bool) (hb:Utf.vld (bl s)=b) :
 Calls Tryz.prog 124 #[.string s] w fun e w'=>e=.returned (.bool b)∧Below w.heap.size w w':=by
 have HB:=hZ hb
 clear hb
 go_enter Tryz.func124,Tryz.ntmps124
 go_wp2
 go_loopw [0] (fun v wr=>∃ t:ByteArray,v=.string t∧t.size≤maxLen∧Hid (Utf.vld (bl t)=b)∧Below w.heap.size w wr) (fun v _=>sz v)
 case atStart=>exact⟨s,rfl,hm,HB,Below.refl _ _⟩
 case round =>
  obtain⟨t,rfl,hm',HV,hbw⟩:=hrel
  have hm2:=hm'
  unfold maxLen at hm2
  by_cases h0:0 < t.size
  ·have hne:bl t≠[]:=fun e=>by have:=bl_nil.1 e;omega
   have hs:=Utf.vld_step (bl t) hne
   rw [HV.out] at hs
   by_cases h1:Utf.nw (bl t)=0
   ·rw [if_pos h1] at hs
    have HS:=hZ hs
    have C:=rnext_no t wr hm' h1
    clear hs h1 hne
    go_wp2_with (go_at_call 150;refine C.mono ?_;rintro e w2 ⟨rfl,hb2⟩)
    go_ret
    exact⟨ret_bool HS.out.symm,up hbw hb2⟩
   ·rw [if_neg h1] at hs
    have hle:=Utf.nw_le (bl t) (bl_byte t)
    rw [bl_length] at hle
    have hf:=bl_from t (Utf.nw (bl t))
    have C:=rnext_yes t wr hm' h1
    generalize Utf.nr (bl t)=r at *
    generalize Utf.nw (bl t)=n at *
    have HS:=hZ hs
    have HF:=hZ hf
    clear hs hf hne
    go_wp2_with (go_at_call 150;refine C.mono ?_;rintro e w2 ⟨rfl,hb2⟩)
    go_roundw
    case rel=>exact⟨_,rfl,by rw [ByteArray.size_extract];omega,by rw [HF.out];exact hZ HS.out.symm,up hbw hb2⟩
    case measure=>simp [sz];omega
  ·have h2:bl t=[]:=bl_nil.2 (by omega)
   have h3:=HV.out
   rw [h2,Utf.vld_nil] at h3
   have H3:=hZ h3
   clear h3 h2
   go_wp2
   go_ret
   exact⟨ret_bool H3.out,hbw⟩
theorem dec_step (l:List Nat) (h:Utf.nw l≠0):Utf.dec l=(Utf.nr l,Utf.nw l):=by
 have h0:¬ (l=[] ∨ ((Utf.dec l).1=65533∧(Utf.dec l).2≤1)):=by
  intro hc;unfold Utf.nw at h;rw [if_pos hc] at h;exact h rfl
 have e1:Utf.nw l=(Utf.dec l).2:=by unfold Utf.nw;rw [if_neg h0]
 have e2:Utf.nr l=(Utf.dec l).1:=by unfold Utf.nr;rw [if_neg h]
 rw [e1,e2]
set_option maxRecDepth 100000 in
theorem valid (s:ByteArray) (w:World) (T:Tab w) (hm:s.size≤maxLen) (b:Bool) (hb:Utf.vld (bl s)=b) :
 Calls Tryz.prog 130 #[.string s] w fun e w'=>e=.returned (.bool b)∧Below w.heap.size w w':=by
 unfold maxLen at hm
 have HB:=hZ hb
 have HT:=hZ T
 clear hb T
 go_enter Tryz.func130,Tryz.ntmps130
 go_wp2
 go_loopw [] (fun wr=>∃ pos:Nat,pos≤s.size∧wr.heap[w.heap.size]?=some (.stringIter s pos)∧Below w.heap.size w wr∧Hid (Utf.vld ((bl s).drop pos)=b)) (fun wr=>s.size - wr.iterPos w.heap.size)
 case atStart=>exact⟨0,by omega,by have:=World.iter_heap w s 0;simpa using this,(Below.refl _ _).alloc (Nat.le_refl _) _,by simpa using HB⟩
 case round =>
  obtain⟨pos,hps,hit,hbw,HV⟩:=hrel
  by_cases hp:pos < s.size
  ·have hnx:∀ ty,(Instr.next (.pointer (some ⟨w.heap.size,0,none⟩)) true ty).run Tryz.prog wr=_:=fun ty=>Lib.run_next_any_at wr w.heap.size s pos ty hit hp
   have hne:(bl s).drop pos≠[]:=fun e=>by have:=congrArg List.length e;simp [bl_length] at this;omega
   have hs:=Utf.vld_step _ hne
   rw [HV.out] at hs
   have hbl:=bl_from s pos
   rw [dec_from s pos hp] at hnx
   by_cases h1:Utf.nw ((bl s).drop pos)=0
   ·rw [if_pos h1] at hs
    have hT2:∀ q,Tab (wr.iterAt w.heap.size s q):=fun q=>HT.out.later (Lib.below_iterAt hbw (Nat.le_refl _) s q)
    have hB2:=Lib.below_iterAt hbw (k:=w.heap.size) (Nat.le_refl _) s (pos+(Utf.dec ((bl s).drop pos)).2)
    have C:=next_no (s.extract pos s.size) _ (hT2 (pos+(Utf.dec ((bl s).drop pos)).2)) (by rw [hbl];exact h1)
    generalize Utf.dec ((bl s).drop pos)=d at *
    have HS:=hZ hs
    clear hs h1 hne hbl hT2
    go_wp2_with (go_at_call 157;refine C.mono ?_;rintro e w2 ⟨rfl,hb2⟩)
    go_ret
    exact⟨ret_bool HS.out.symm,up hB2 hb2⟩
   ·rw [if_neg h1] at hs
    have hle:=Utf.nw_le _ (Utf.drop_byte (bl_byte s) pos)
    rw [List.length_drop,bl_length] at hle
    rw [dec_step _ h1] at hnx
    have hT2:∀ q,Tab (wr.iterAt w.heap.size s q):=fun q=>HT.out.later (Lib.below_iterAt hbw (Nat.le_refl _) s q)
    have hB2:=Lib.below_iterAt hbw (k:=w.heap.size) (Nat.le_refl _) s (pos+Utf.nw ((bl s).drop pos))
    have hit2:=Lib.iterAt_heap wr w.heap.size s pos (pos+Utf.nw ((bl s).drop pos)) hit
    have C:=next_yes (s.extract pos s.size) _ (hT2 (pos+Utf.nw ((bl s).drop pos))) (by rw [hbl];exact h1)
    rw [hbl] at C
    rw [List.drop_drop] at hs
    generalize Utf.nr ((bl s).drop pos)=r at *
    generalize Utf.nw ((bl s).drop pos)=n at *
    have HS:=hZ hs
    have HI:=hZ hit
    have HI2:=hZ hit2
    have hlt:w.heap.size < (wr.iterAt w.heap.size s (pos+n)).heap.size:=(Array.getElem?_eq_some_iff.1 hit2).1
    clear hs hne hbl hT2 hit hit2
    go_wp2_with (go_at_call 157;refine C.mono ?_;rintro e w2 ⟨rfl,hb2⟩)
    go_roundw
    case rel=>exact⟨pos+n,by omega,(hb2.block _ hlt).trans HI2.out,up hB2 hb2,hZ HS.out.symm⟩
    case measure =>
     simp only [World.iterPos,(hb2.block _ hlt).trans HI2.out,HI.out]
     omega
  ·have hnx:∀ ty,(Instr.next (.pointer (some ⟨w.heap.size,0,none⟩)) true ty).run Tryz.prog wr=_:=fun ty=>Lib.run_next_end_at wr w.heap.size s pos ty hit hp
   have h3:=HV.out
   rw [List.drop_of_length_le (by rw [bl_length];omega),Utf.vld_nil] at h3
   have H3:=hZ h3
   clear h3
   go_wp2
   go_ret
   exact⟨ret_bool H3.out,hbw⟩
def ents:Nat→List (Nat × Nat)→List MapEntry
 | _,[]=>[]
 | i,p::t=>{ key:=.int .i32 (p.1:Nat),val:=.int .i32 (p.2:Nat),born:=i }::ents (i+1) t
theorem ents_snoc:∀ (i:Nat) (l:List (Nat × Nat)) (p:Nat × Nat),ents i (l++[p])=ents i l++[{ key:=.int .i32 (p.1:Nat),val:=.int .i32 (p.2:Nat),born:=i+l.length }]
 | i,[],p=>by simp [ents]
 | i,q::t,p=>by
  rw [List.cons_append,ents,ents,ents_snoc (i+1) t p]
  simp;omega
def lk:List (Nat × Nat)→Nat→Option Nat
 | [],_=>none
 | p::t,x=>if x=p.1 then some p.2 else lk t x
theorem find_none (x:Nat):∀ (l:List (Nat × Nat)) (i j:Nat),lk l x=none→Instr.findNow (.int .i32) (.int .i32 (x:Nat)) (ents i l) j=some none
 | [],_,_,_=>rfl
 | p::t,i,j,h=>by
  unfold lk at h
  by_cases hx:x=p.1
  ·rw [if_pos hx] at h;cases h
  ·rw [if_neg hx] at h
   have hb:(((x:Nat):Int) == ((p.1:Nat):Int))=false:=by simp;omega
   simp only [ents,Instr.findNow,Instr.sameNow,if_true,hb]
   exact find_none x t (i+1) (j+1) h
theorem find_some (x v:Nat):∀ (l:List (Nat × Nat)) (i j:Nat),lk l x=some v→∃ q,Instr.findNow (.int .i32) (.int .i32 (x:Nat)) (ents i l) j=some (some (q,.int .i32 (v:Nat)))
 | [],_,_,h=>by cases h
 | p::t,i,j,h=>by
  unfold lk at h
  by_cases hx:x=p.1
  ·rw [if_pos hx] at h
   cases h
   refine⟨j,?_⟩
   have hb:(((x:Nat):Int) == ((p.1:Nat):Int))=true:=by simp;omega
   simp only [ents,Instr.findNow,Instr.sameNow,if_true,hb]
  ·rw [if_neg hx] at h
   have hb:(((x:Nat):Int) == ((p.1:Nat):Int))=false:=by simp;omega
   simp only [ents,Instr.findNow,Instr.sameNow,if_true,hb]
   exact find_some x v t (i+1) (j+1) h
def IsMap (w:World) (m:Nat) (l:List (Nat × Nat)):Prop:=w.heap[m]?=some (.map (ents 0 l).toArray l.length)
theorem IsMap.lt {w:World} {m:Nat} {l:List (Nat × Nat)} (h:IsMap w m l):m < w.heap.size:=(Array.getElem?_eq_some_iff.1 h).1
theorem IsMap.later {w w':World} {m:Nat} {l:List (Nat × Nat)} (h:IsMap w m l) (hb:Below w.heap.size w w'):IsMap w' m l:=(hb.block m h.lt).trans h
theorem check_int (w:World) (b:Bool) (x:Int):(Instr.checkKey b 10000 21 (.int .i32 x)).run Tryz.prog w=.ok () w:=by
 unfold Instr.checkKey
 simp [Sem.run_bind,run_underlying Tryz.underlying21,Result.andThen]
theorem find_key (w:World) (x:Nat) (es:List MapEntry) (r:Option (Nat × Value)) (h:Instr.findNow (.int .i32) (.int .i32 (x:Nat)) es 0=some r) :
 (Instr.findKey 21 (.int .i32 (x:Nat)) es).run Tryz.prog w=.ok r w:=by
 unfold Instr.findKey
 simp [Sem.run_bind,run_underlying Tryz.underlying21,Result.andThen,h]
theorem look_none {w:World} {m:Nat} {l:List (Nat × Nat)} (h:IsMap w m l) (x:Nat) (hx:lk l x=none) :
 (Instr.lookup 174 (.map (some m)) (.int .i32 (x:Nat)) true).run Tryz.prog w=.ok (.tuple #[.int .i32 0,.bool false]) w:=by
 unfold Instr.lookup IsMap at *
 simp [Sem.run_bind,run_underlying Tryz.underlying174,Result.andThen,getObj,Sem.run,h,check_int,find_key w x _ _ (find_none x l 0 0 hx),Tryz.zeroValue21]
theorem look_some {w:World} {m:Nat} {l:List (Nat × Nat)} (h:IsMap w m l) (x v:Nat) (hx:lk l x=some v) :
 (Instr.lookup 174 (.map (some m)) (.int .i32 (x:Nat)) true).run Tryz.prog w=.ok (.tuple #[.int .i32 (v:Nat),.bool true]) w:=by
 obtain⟨q,hq⟩:=find_some x v l 0 0 hx
 unfold Instr.lookup IsMap at *
 simp [Sem.run_bind,run_underlying Tryz.underlying174,Result.andThen,getObj,Sem.run,h,check_int,find_key w x _ _ hq]
def stored (w:World) (m:Nat) (l:List (Nat × Nat)) (p:Nat × Nat):World:={ w with heap:=w.heap.setIfInBounds m (.map (ents 0 (l++[p])).toArray (l.length+1)) }
theorem store_new {w:World} {m:Nat} {l:List (Nat × Nat)} (h:IsMap w m l) (x v:Nat) (hx:lk l x=none) :
 (Instr.mapUpdate 174 (.map (some m)) (.int .i32 (x:Nat)) (.int .i32 (v:Nat))).run Tryz.prog w=.ok () (stored w m l (x,v)):=by
 unfold Instr.mapUpdate IsMap at *
 simp [Sem.run_bind,run_underlying Tryz.underlying174,Result.andThen,getObj,setObj,Sem.run,h,check_int,find_key w x _ _ (find_none x l 0 0 hx),stored,ents_snoc]
theorem IsMap.stored {w:World} {m:Nat} {l:List (Nat × Nat)} (h:IsMap w m l) (p:Nat × Nat):IsMap (stored w m l p) m (l++[p]):=by
 have:=h.lt
 unfold IsMap Go.Proofs.YtenfjmdajlhfoabGreatDoor.stored
 simp [this]
theorem stored_other (w:World) (m:Nat) (l:List (Nat × Nat)) (p:Nat × Nat) (k:Nat) (h:k≠m):(Go.Proofs.YtenfjmdajlhfoabGreatDoor.stored w m l p).heap[k]?=w.heap[k]?:=by
 simp [Go.Proofs.YtenfjmdajlhfoabGreatDoor.stored,Ne.symm h]
theorem stored_size (w:World) (m:Nat) (l:List (Nat × Nat)) (p:Nat × Nat):(Go.Proofs.YtenfjmdajlhfoabGreatDoor.stored w m l p).heap.size=w.heap.size:=by simp [Go.Proofs.YtenfjmdajlhfoabGreatDoor.stored]
theorem below_stored {B:Nat} {a w:World} (h:Below B a w) {m:Nat} (hm:B≤m) (l:List (Nat × Nat)) (p:Nat × Nat):Below B a (Go.Proofs.YtenfjmdajlhfoabGreatDoor.stored w m l p) :=
 h.trans ⟨rfl,rfl,rfl,by rw [stored_size];exact Nat.le_refl _,fun k hk=>stored_other w m l p k (by omega)⟩
theorem lk_fresh:∀ (l:List (Nat × Nat)) (x:Nat),(∀ p∈l,p.1≠x)→lk l x=none
 | [],_,_=>rfl
 | p::t,x,h=>by
  unfold lk
  rw [if_neg (fun e=>h p (List.mem_cons_self ..) e.symm)]
  exact lk_fresh t x fun q hq=>h q (List.mem_cons_of_mem _ hq)
def prs (a b:List Nat):List (Nat × Nat):=a.zip b
theorem dec_low (l:List Nat) (h:l.getD 0 0 < 128):Utf.dec l=(l.getD 0 0,1):=by
 unfold Utf.dec Lib.decodeN
 rw [if_pos h]
set_option maxRecDepth 100000 in
theorem paired (f g:ByteArray) (w:World) (n:Nat) (hf:f.size=n) (hg:g.size=n) (hn:n≤100) (h1:∀ k,k < n→(bl f).getD k 0 < 128) (h2:∀ i j,i < j→j < n→(bl f).getD i 0≠(bl f).getD j 0) :
 Calls Tryz.prog 158 #[.string f,.string g] w fun e w'=>e=.returned (.map (some w.heap.size))∧IsMap w' w.heap.size (prs (bl f) (bl g))∧Below w.heap.size w w':=by
 have hmm:=@run_makeMap Tryz.prog
 have H1:=hZ h1
 have H2:=hZ h2
 have HF:=hZ hf
 have HG:=hZ hg
 have hlen:(prs (bl f) (bl g)).length=n:=by simp [prs,bl_length,hf,hg]
 have HL:=hZ hlen
 have hsz:f.size≤100:=by omega
 have hsz2:f.size≤g.size:=by omega
 clear h1 h2 hf hg hlen
 go_enter Tryz.func158,Tryz.ntmps158
 go_wp2
 go_loopw [] (fun wr=>∃ k:Nat,k≤f.size∧wr.heap[w.heap.size+1]?=some (.stringIter f k)∧IsMap wr w.heap.size ((prs (bl f) (bl g)).take k)∧Below w.heap.size w wr) (fun wr=>f.size - wr.iterPos (w.heap.size+1))
 case atStart =>
  refine⟨0,by omega,?_,?_,((Below.refl _ w).alloc (Nat.le_refl _) _).alloc (by simp) _⟩
  ·have:=World.iter_heap (w.alloc (.map #[] 0)) f 0
   simpa using this
  ·unfold IsMap
   have h0:=heap_alloc_new w (.map #[] 0)
   have h3:=((Below.refl _ (w.alloc (.map #[] 0))).alloc (Nat.le_refl _) (.stringIter f 0)).block w.heap.size (by simp)
   exact h3.trans h0
 case round =>
  obtain⟨k,hk,hit,hmap,hbw⟩:=hrel
  by_cases hp:k < f.size
  ·have hnx:∀ ty,(Instr.next (.pointer (some ⟨w.heap.size+1,0,none⟩)) true ty).run Tryz.prog wr=_:=fun ty=>Lib.run_next_any_at wr (w.heap.size+1) f k ty hit hp
   have hlow:=H1.out k (by rw [← HF.out];exact hp)
   have hgd:((bl f).drop k).getD 0 0=(bl f).getD k 0:=by simp [List.getD_eq_getElem?_getD,List.getElem?_drop]
   rw [dec_from f k hp,dec_low _ (by rw [hgd];exact hlow),hgd] at hnx
   have hgk:=bl_at g k (by omega)
   have hsnoc:(prs (bl f) (bl g)).take (k+1)=(prs (bl f) (bl g)).take k++[((bl f).getD k 0,(bl g).getD k 0)]:=by
    have hkl:k < (prs (bl f) (bl g)).length:=by rw [HL.out,← HF.out];exact hp
    rw [List.take_succ_eq_append_getElem hkl]
    have a1:k < (bl f).length:=by rw [bl_length];exact hp
    have a2:k < (bl g).length:=by rw [bl_length];omega
    simp [prs,List.getD_eq_getElem?_getD,List.getElem?_eq_getElem a1,List.getElem?_eq_getElem a2]
   have hlenk:((prs (bl f) (bl g)).take k).length=k:=by rw [List.length_take,HL.out,← HF.out];omega
   have hfresh:lk ((prs (bl f) (bl g)).take k) ((bl f).getD k 0)=none:=by
    refine lk_fresh _ _ fun p hp'=>?_
    obtain⟨i,hi,rfl⟩:=List.mem_iff_getElem.1 hp'
    rw [hlenk] at hi
    have a1:i < (bl f).length:=by rw [bl_length];omega
    have:=H2.out i k hi (by rw [← HF.out];exact hp)
    simpa [prs,List.getD_eq_getElem?_getD,List.getElem?_eq_getElem a1] using this
   have hbt:=Utf.getD_byte (bl_byte g) k
   have hmap2:IsMap (wr.iterAt (w.heap.size+1) f (k+1)) w.heap.size ((prs (bl f) (bl g)).take k):=(Lib.iterAt_other wr (w.heap.size+1) w.heap.size f (k+1) (by omega)).trans hmap
   have hst:=store_new hmap2 ((bl f).getD k 0) ((bl g).getD k 0) hfresh
   have hit2:=Lib.iterAt_heap wr (w.heap.size+1) f k (k+1) hit
   have hb2:=Lib.below_iterAt hbw (k:=w.heap.size+1) (by omega) f (k+1)
   have hmap3:=hmap2.stored ((bl f).getD k 0,(bl g).getD k 0)
   rw [← hsnoc] at hmap3
   have hit3:=(stored_other (wr.iterAt (w.heap.size+1) f (k+1)) w.heap.size ((prs (bl f) (bl g)).take k) ((bl f).getD k 0,(bl g).getD k 0) (w.heap.size+1) (by omega)).trans hit2
   have hb3:=below_stored hb2 (m:=w.heap.size) (Nat.le_refl _) ((prs (bl f) (bl g)).take k) ((bl f).getD k 0,(bl g).getD k 0)
   generalize stored (wr.iterAt (w.heap.size+1) f (k+1)) w.heap.size ((prs (bl f) (bl g)).take k) ((bl f).getD k 0,(bl g).getD k 0)=w3 at *
   generalize (bl f).getD k 0=x at *
   generalize (bl g).getD k 0=y at *
   have HI:=hZ hit
   have HI3:=hZ hit3
   have HM3:=hZ hmap3
   clear hit hit2 hit3 hmap hmap2 hmap3 hsnoc hlenk hfresh hgd
   go_wp2
   go_roundw
   case rel=>exact⟨k+1,by omega,HI3.out,HM3.out,hb3⟩
   case measure=>simp only [World.iterPos,HI.out,HI3.out];omega
  ·have hnx:∀ ty,(Instr.next (.pointer (some ⟨w.heap.size+1,0,none⟩)) true ty).run Tryz.prog wr=_:=fun ty=>Lib.run_next_end_at wr (w.heap.size+1) f k ty hit hp
   have hall:(prs (bl f) (bl g)).take k=prs (bl f) (bl g):=List.take_of_length_le (by rw [HL.out,← HF.out];omega)
   rw [hall] at hmap
   have HM:=hZ hmap
   clear hmap hit hall
   go_wp2
   go_ret
   exact⟨rfl,HM.out,hbw⟩
def Bld (B b:Nat) (l:List Nat) (w:World):Prop:=Lib.IsBuilder 109 5 B b (vals l) w∧∀ x∈l,x < 256
def Wrote (B b:Nat) (l:List Nat) (w w':World):Prop:=Bld B b l w'∧Below B w w'∧Lib.OthersKept 5 (some b) w w'
theorem row_kept {w w':World} {B:Nat} {e:TypeId} {v:Value} {n:Nat} {xs:List Value} (h:w.ownsRow B e 1 v n xs) (hk:∀ (k:Nat) c t f,w.heap[k]?=some (Obj.cells c t f)→w'.heap[k]?=some (Obj.cells c t f)):w'.ownsRow B e 1 v n xs:=by
 obtain⟨h0,h1⟩:=h
 refine⟨h0,?_⟩
 rcases h1 with h1|⟨g,cap,cur,rfl,hg,hh,r⟩
 ·exact .inl h1
 ·exact .inr ⟨g,cap,cur,rfl,hg,hk _ _ _ _ hh,r⟩
theorem Bld.kept {w w':World} {B b:Nat} {l:List Nat} (h:Bld B b l w) (hk:∀ (k:Nat) c t f,w.heap[k]?=some (Obj.cells c t f)→w'.heap[k]?=some (Obj.cells c t f)):Bld B b l w':=by
 obtain⟨h,hb⟩:=h
 refine⟨?_,hb⟩
 rcases h with ⟨h1,v,h2,h3,h4⟩|⟨h1,v,h2,h3,h4⟩
 ·exact .inl ⟨h1,v,hk _ _ _ _ h2,row_kept h3 hk,h4⟩
 ·exact .inr ⟨h1,v,hk _ _ _ _ h2,row_kept h3 hk,h4⟩
theorem Bld.later {w w':World} {B b:Nat} {l:List Nat} (h:Bld B b l w) (hb:Below w.heap.size w w'):Bld B b l w' :=
 h.kept fun k c t f hk=>(hb.block k (Array.getElem?_eq_some_iff.1 hk).1).trans hk
theorem Bld.iterAt {w:World} {B b:Nat} {l:List Nat} (h:Bld B b l w) {k:Nat} {s:ByteArray} {pos:Nat} (hit:w.heap[k]?=some (.stringIter s pos)) (q:Nat):Bld B b l (w.iterAt k s q) :=
 h.kept fun j c t f hj=>(Lib.iterAt_other w k j s q (fun e=>by subst e;rw [hit] at hj;cases hj)).trans hj
theorem Bld.fresh (w:World):Bld w.heap.size w.heap.size [] (w.alloc (.cells #[.pointer none,.slice none 0 0] 109)):=⟨Lib.fresh_isBuilder _ _ w,by simp⟩
theorem Bld.lt {w:World} {B b:Nat} {l:List Nat} (h:Bld B b l w):b < w.heap.size:=by
 rcases h.1 with h|h
 ·exact h.lt
 ·exact h.lt
theorem b_size:(Tryz.prog.info? 109).map (·.size)=some 2:=by kernel_rfl
theorem b_lies:liesAt Tryz.prog Tryz.prog.depth 109 (2 / Tryz.prog.cellsOf 109) 0 109 1=true:=by kernel_rfl
set_option maxRecDepth 100000 in
theorem copyCheck (B b:Nat) (bs:List Value) (w:World) (h:Lib.IsBuilder 109 5 B b bs w) :
 Calls Tryz.prog 109 #[.pointer (some ⟨b,0,none⟩)] w fun e w'=>e=.returned (.tuple #[])∧Lib.BuilderAt 109 5 B b (.pointer (some ⟨b,0,none⟩)) bs w'∧Below B w w'∧Lib.OthersKept 5 (some b) w w':=by
 obtain⟨j,hj,hjs⟩:=Option.map_eq_some_iff.1 b_size
 rcases h with h|h
 ·have h0:=h.cell0
  have hsh:=h.shape
  have hfz:=h.frozen0
  have HH:=hZ h
  clear h
  go_enter Tryz.func109,Tryz.ntmps109
  go_wp2
  rw [Lib.run_to_unsafe w ⟨b,0,none⟩ Tryz.underlying106 Tryz.underlying161 hj (by rw [hjs];decide) hsh (Nat.zero_lt_succ 1)]
  simp only [Result.andThen]
  rw [Oper.upon_value]
  go_wp2
  rw [run_callFunc_extern Tryz.func137 (by kernel_rfl) (by kernel_rfl) (by kernel_rfl) (e:=Extern.AbiNoEscape.same) (by kernel_rfl)]
  rw [Lib.run_noEscape]
  simp only [Result.andThen]
  rw [Oper.upon_value]
  go_wp2
  rw [Lib.run_from_unsafe w ⟨b,0,none⟩ Tryz.underlying161 Tryz.underlying106 hj hsh b_lies]
  simp only [Result.andThen]
  rw [Oper.upon_value]
  go_wp2
  go_end0
  exact⟨rfl,HH.out.used _,(Below.refl B w).setCell (p:=⟨b,0,none⟩) HH.out.1 _,(Lib.OthersKept.refl _ _ w).setCell ⟨b,0,none⟩ rfl _⟩
 ·have h0:=h.cell0
  have HH:=hZ h
  clear h
  go_enter Tryz.func109,Tryz.ntmps109
  go_wp2
  rw [Lib.run_neq_ptr_same w _ Tryz.underlying106 hj]
  go_wp2
  go_end0
  exact⟨rfl,HH.out,Below.refl B _,Lib.OthersKept.refl _ _ _⟩
theorem used_parts {B b:Nat} {bs:List Value} {w:World} (h:Lib.BuilderAt 109 5 B b (.pointer (some ⟨b,0,none⟩)) bs w) :
 ∃ a c,w.heap[b]?=some (.cells #[.pointer (some ⟨b,0,none⟩),.slice a bs.length c] 109 (0,0))∧w.ownsRow B 5 1 (.slice a bs.length c) bs.length bs ∧
  (Value.slice a bs.length c).ownBlock≠some b∧B≤b∧b < w.heap.size:=by
 have hlt:=h.lt
 obtain⟨hB,v,hbk,hown,hne⟩:=h
 rcases id hown.2 with ⟨hv,h0⟩|⟨g,cap,cur,hv,_⟩
 ·have e:v=Value.slice none bs.length 0:=by rw [h0,hv]
  rw [e] at hbk hown
  exact⟨none,0,hbk,hown,by simp [Value.ownBlock],hB,hlt⟩
 ·exact⟨_,_,by rw [← hv];exact hbk,by rw [← hv];exact hown,by rw [← hv];exact hne,hB,hlt⟩
theorem row_kind {w:World} {B:Nat} {e:TypeId} {v:Value} {n:Nat} {xs:List Value} (h:w.ownsRow B e 1 v n xs):∀ g,v.ownBlock=some g→∃ c fz,w.heap[g]?=some (.cells c e fz):=by
 intro g hg
 rcases h.2 with ⟨rfl,_⟩|⟨g',cap,cur,rfl,_,hgg,_⟩
 ·simp [Value.ownBlock] at hg
 ·simp [Value.ownBlock] at hg
  subst hg
  exact⟨cur,_,hgg⟩
theorem row_shape {w:World} {B:Nat} {e:TypeId} {v:Value} {n:Nat} {xs:List Value} (h:w.ownsRow B e 1 v n xs):∃ a c,v=.slice a n c:=by
 rcases h.2 with ⟨hv,h0⟩|⟨g,cap,cur,hv,_⟩
 ·exact⟨none,0,by rw [hv,h0]⟩
 ·exact⟨_,_,hv⟩
theorem cell_heap {w:World} {b:Nat} {c:Array Value} {t:TypeId} {f:Nat × Nat} (h:w.heap[b]?=some (.cells c t f)) (k:Nat):w.cell? ⟨b,k,none⟩=c[k]?:=by
 have:=cell_of_row w b k c t f h
 rw [this]
set_option maxHeartbeats 2000000 in
set_option maxRecDepth 100000 in
theorem writeByte (B b:Nat) (l:List Nat) (c:Nat) (w:World) (h:Bld B b l w) (hc:c < 256) (hlen:l.length≤1000000000) (hBw:B≤w.heap.size) :
    Calls Tryz.prog 134 #[.pointer (some ⟨b,0,none⟩),.int .u8 (c:Nat)] w fun e w'=>e=.returned .nilIface∧Wrote B b (l++[c]) w w':=by
  obtain⟨h,hby⟩:=h
  obtain⟨i0,hi,hz0,hz1,hz2⟩:=byte_parts
  have HBY:=hZ hby
  have HH:=hZ h
  clear hby h
  go_enter Tryz.func134,Tryz.ntmps134
  go_wp2_with (go_at_call 109;refine (copyCheck B b _ _ HH.out).mono ?_)
  rintro e w1 ⟨rfl,h1,hb1,hk1⟩
  obtain⟨a1,cp1,hbk,hown,hne,hB,hlt⟩:=used_parts h1
  have HLV:=hZ (vals_length l)
  have c0:=cell_heap hbk 0
  have c1:=cell_heap hbk 1
  simp at c0 c1
  have HK:=hZ hbk
  have HN:=hZ hne
  have HO:=hZ hown
  clear hbk hne h1 hown
  go_wp2_with (at_builtin;refine wpList_append_own _ rfl _ _ 107 rfl B 5 i0 (.int .u8 0) 1 1 Tryz.underlying107 hi hz0 hz1 hz2 rfl (by decide) _ _ _ rfl (HO.out.alloc _) ⟨w1.heap.size,0,none⟩ 1 1 [.int .u8 (c:Nat)] rfl rfl ?c1 ?c2 ?c3 ?c4 ?c5 ?_)
  case c1 =>
    intro j u hj
    match j,hj with
    | 0,hj=>simp at hj;subst hj;simp [Addr.add]
  case c2=>intro u hu;simp at hu;subst hu;rfl
  case c3=>rw [HLV.out];unfold maxLen;simp;omega
  case c4=>rw [HLV.out];simp;omega
  case c5=>have:=hb1.size;simp;omega
  intro v' w2 hown' hgrow _
  have hb2:w2.heap[b]?=some (.cells #[.pointer (some ⟨b,0,none⟩),.slice a1 (vals l).length cp1] 109 (0,0)):=by
    rw [hgrow.block b (by simp;omega) (fun e=>HN.out e.symm),Lib.alloc_old w1 _ b hlt]
    exact HK.out
  have d0:=cell_heap hb2 0
  have d1:=cell_heap hb2 1
  simp at d0 d1
  have f1:w2.frozen? ⟨b,1,none⟩=false:=by simp [World.frozen?,hb2]
  obtain⟨a2,cp2,rfl⟩:=row_shape hown'
  have HB2:=hZ hb2
  have HO2:=hZ hown'
  clear hb2 hown'
  go_wp2
  go_ret
  refine⟨rfl,⟨.inr (Lib.BuilderAt.put (T:=109) (e:=5) (bs':=vals (l++[c])) hB HB2.out ?_ (by decide)),fun x hx=>?_⟩,?_,?_⟩
  · have:=HO2.out
    rw [vals_append]
    simpa [vals] using this
  · rcases List.mem_append.1 hx with hx|hx
    · exact HBY.out x hx
    · simp at hx;omega
  · exact ((hb1.alloc (by have:=hb1.size;omega) _).grown hgrow (by have:=hb1.size;simp;omega) (fun k hk=>(HO.out.lt k hk).1)).setCell (p:=⟨b,1,none⟩) hB _
  · refine ((hk1.alloc _).grown hgrow fun g hg=>?_).setCell ⟨b,1,none⟩ rfl _
    obtain⟨cc,fz,hcc⟩:=row_kind HO.out g hg
    exact⟨cc,fz,(Lib.alloc_old w1 _ g (Array.getElem?_eq_some_iff.1 hcc).1).trans hcc⟩
theorem cells_enc (r:Nat) (h:Utf.isr r):Lib.runeCells (r:Int)=vals (Utf.enc r):=by
 unfold Utf.isr at h
 unfold Lib.runeCells vals Utf.enc
 by_cases h1:r < 128
 ·rw [Lib.encodeRuneZ_one (by omega) (by omega),if_pos h1];simp
 ·by_cases h2:r < 2048
  ·rw [Lib.encodeRuneZ_two (by omega) (by omega),if_neg h1,if_pos h2];simp
  ·by_cases h3:r < 65536
   ·rw [Lib.encodeRuneZ_three (by omega),if_neg h1,if_neg h2,if_pos h3];simp
   ·rw [Lib.encodeRuneZ_four (by omega) (by omega),if_neg h1,if_neg h2,if_neg h3];simp
set_option maxRecDepth 100000 in
theorem writeRune (B b:Nat) (l:List Nat) (r:Nat) (w:World) (h:Bld B b l w) (hr:Utf.isr r) (hlen:l.length≤1000000000) (hBw:B≤w.heap.size) :
 Calls Tryz.prog 159 #[.pointer (some ⟨b,0,none⟩),.int .i32 (r:Nat)] w fun e w'=>(∃ n,e=.returned (.tuple #[.int .i64 n,.nilIface]))∧Wrote B b (l++Utf.enc r) w w':=by
 obtain⟨h,hby⟩:=h
 have HBY:=hZ hby
 have HH:=hZ h
 have HE:=hZ (cells_enc r hr)
 have HEB:=hZ (Utf.enc_byte r hr)
 have HLV:=hZ (vals_length l)
 have hr2:r≤1114111:=by unfold Utf.isr at hr;omega
 have hl4:=Utf.enc_len r
 clear hby h hr
 go_enter Tryz.func159,Tryz.ntmps159
 go_wp2_with (go_at_call 109;refine (copyCheck B b _ _ HH.out).mono ?_)
 rintro e w1 ⟨rfl,h1,hb1,hk1⟩
 obtain⟨a1,cp1,hbk,hown,hne,hB,hlt⟩:=used_parts h1
 have c0:=cell_heap hbk 0
 have c1:=cell_heap hbk 1
 simp at c0 c1
 have HK:=hZ hbk
 have HN:=hZ hne
 have HO:=hZ hown
 clear hbk hne h1 hown
 go_wp2_with (go_at_call 182;refine (Tryz.utf8_AppendRune_plain B _ _ _ (r:Int) (by omega) (by omega) _ HO.out (by rw [HLV.out];omega) (by have:=hb1.size;omega)).mono ?_)
 rintro e w2 ⟨v',rfl,hown',o,hgrow⟩
 rw [HE.out,vals_length] at hown'
 have hb2:w2.heap[b]?=some (.cells #[.pointer (some ⟨b,0,none⟩),.slice a1 (vals l).length cp1] 109 (0,0)):=by
  rw [hgrow.block b (by simp;omega) (fun e=>HN.out e.symm),Lib.alloc_old w1 _ b hlt]
  exact HK.out
 have d0:=cell_heap hb2 0
 have d1:=cell_heap hb2 1
 simp at d0 d1
 have f1:w2.frozen? ⟨b,1,none⟩=false:=by simp [World.frozen?,hb2]
 obtain⟨a2,cp2,rfl⟩:=row_shape hown'
 have HB2:=hZ hb2
 have HO2:=hZ hown'
 clear hb2 hown'
 go_wp2
 go_ret2
 refine⟨⟨_,rfl⟩,⟨.inr (Lib.BuilderAt.put (T:=109) (e:=5) (bs':=vals (l++Utf.enc r)) hB HB2.out ?_ (by decide)),fun x hx=>?_⟩,?_,?_⟩
 ·have:=HO2.out
  simpa [vals_append,vals_length] using this
 ·rcases List.mem_append.1 hx with hx|hx
  ·exact HBY.out x hx
  ·exact HEB.out x hx
 ·exact ((hb1.alloc (by have:=hb1.size;omega) _).grown hgrow (by have:=hb1.size;simp;omega) (fun k hk=>(HO.out.lt k hk).1)).setCell (p:=⟨b,1,none⟩) hB _
 ·refine ((hk1.alloc _).grown hgrow fun g hg=>?_).setCell ⟨b,1,none⟩ rfl _
  obtain⟨cc,fz,hcc⟩:=row_kind HO.out g hg
  exact⟨cc,fz,(Lib.alloc_old w1 _ g (Array.getElem?_eq_some_iff.1 hcc).1).trans hcc⟩
theorem strCells_bl (s:ByteArray):Lib.strCells s=vals (bl s):=by simp [Lib.strCells,vals,bl]
set_option maxRecDepth 100000 in
theorem writeString (B b:Nat) (l:List Nat) (s:ByteArray) (w:World) (h:Bld B b l w) (hs:s.size≤100) (hlen:l.length≤1000000000) (hBw:B≤w.heap.size) :
 Calls Tryz.prog 75 #[.pointer (some ⟨b,0,none⟩),.string s] w fun e w'=>(∃ n,e=.returned (.tuple #[.int .i64 n,.nilIface]))∧Wrote B b (l++bl s) w w':=by
 obtain⟨h,hby⟩:=h
 obtain⟨i0,hi,hz0,hz1,hz2⟩:=byte_parts
 have HBY:=hZ hby
 have HH:=hZ h
 have HLV:=hZ (vals_length l)
 clear hby h
 go_enter Tryz.func75,Tryz.ntmps75
 go_wp2_with (go_at_call 109;refine (copyCheck B b _ _ HH.out).mono ?_)
 rintro e w1 ⟨rfl,h1,hb1,hk1⟩
 obtain⟨a1,cp1,hbk,hown,hne,hB,hlt⟩:=used_parts h1
 have c0:=cell_heap hbk 0
 have c1:=cell_heap hbk 1
 simp at c0 c1
 have HK:=hZ hbk
 have HN:=hZ hne
 have HO:=hZ hown
 clear hbk hne h1 hown
 go_wp2_with (at_builtin;refine Lib.wpList_append_own_string _ rfl _ _ 107 9 rfl B 5 i0 Tryz.underlying107 Tryz.underlying9 hi hz0 hz1 hz2 _ _ _ rfl HO.out s rfl (by rw [HLV.out];simp only [maxLen];omega) (by rw [HLV.out];omega) (by have:=hb1.size;omega) ?_)
 intro v' w2 hown' hgrow _
 have hb2:w2.heap[b]?=some (.cells #[.pointer (some ⟨b,0,none⟩),.slice a1 (vals l).length cp1] 109 (0,0)):=by
  rw [hgrow.block b hlt (fun e=>HN.out e.symm)]
  exact HK.out
 have d0:=cell_heap hb2 0
 have d1:=cell_heap hb2 1
 simp at d0 d1
 have f1:w2.frozen? ⟨b,1,none⟩=false:=by simp [World.frozen?,hb2]
 obtain⟨a2,cp2,rfl⟩:=row_shape hown'
 have HB2:=hZ hb2
 have HO2:=hZ hown'
 clear hb2 hown'
 go_wp2
 go_ret2
 refine⟨⟨_,rfl⟩,⟨.inr (Lib.BuilderAt.put (T:=109) (e:=5) (bs':=vals (l++bl s)) hB HB2.out ?_ (by decide)),fun x hx=>?_⟩,?_,?_⟩
 ·have:=HO2.out
  rw [vals_append,List.length_append,vals_length (bl s),bl_length,← strCells_bl]
  exact this
 ·rcases List.mem_append.1 hx with hx|hx
  ·exact HBY.out x hx
  ·exact bl_byte s x hx
 ·exact (hb1.grown hgrow (by have:=hb1.size;omega) (fun k hk=>(HO.out.lt k hk).1)).setCell (p:=⟨b,1,none⟩) hB _
 ·exact (hk1.grown hgrow fun g hg=>row_kind HO.out g hg).setCell ⟨b,1,none⟩ rfl _
theorem vals_bytes (l:List Nat) (h:∀ x∈l,x < 256):vals l=Lib.byteCells (l.map UInt8.ofNat):=by
 unfold vals Lib.byteCells
 rw [List.map_map]
 refine List.map_congr_left fun x hx=>?_
 have:=h x hx
 simp;omega
theorem str_bytes (l:List Nat):(⟨(l.map UInt8.ofNat).toArray⟩:ByteArray)=str l:=by
 refine ByteArray.ext (Array.toList_inj.1 ?_)
 simp [str,strOfNums_data,List.map_map]
theorem bString (B b:Nat) (l:List Nat) (w:World) (h:Bld B b l w) (hBw:B≤w.heap.size) :
 Calls Tryz.prog 76 #[.pointer (some ⟨b,0,none⟩)] w fun e w'=>e=.returned (.string (str l))∧Below B w w':=by
 obtain⟨h,hb⟩:=h
 rw [vals_bytes l hb] at h
 have:=Tryz.Builder_String_any B b _ w h hBw
 rwa [str_bytes] at this
end Go.Proofs.YtenfjmdajlhfoabGreatDoor
