/- Texts. -/
import Derived.Test.YtenfjmdajlhfoabGreatDoorKEvc
set_option maxHeartbeats 8000000
namespace Go.Proofs.YtenfjmdajlhfoabGreatDoor.Sc
open Cl
set_option linter.unusedVariables false
set_option linter.unusedSimpArgs false
set_option maxRecDepth 100000
def mstr (n:Int):ByteArray:=if n=0 then ⟨#[]⟩ else if n=1 then ⟨#[97,32,98]⟩ else if n=2 then ⟨#[34,10]⟩ else if n=3 then ⟨#[195,164]⟩ else ⟨#[110,117,108,108]⟩
def mbyt (n:Int):ByteArray:=if n=0 then ⟨#[]⟩ else if n=1 then ⟨#[0,255]⟩ else if n=2 then ⟨#[120]⟩ else if n=3 then ⟨#[32]⟩ else ⟨#[10]⟩
def mnum (n:Int):Int:=if n=0 then 0 else if n=1 then 1 else if n=2 then 2147483647 else if n=3 then -2147483648 else 7
def mcell0 (n:Int):C:=⟨false,mnum n,⟨#[]⟩⟩
def mcell (k n:Int) (u:Bool):C :=
 if (decide (n=0) && u)=true then ⟨true,0,⟨#[]⟩⟩ else if k=1 then ⟨false,n % 2,⟨#[]⟩⟩ else if k=3∧n > 2 then ⟨false,-9223372036854775808,⟨#[]⟩⟩
 else if k=4 then ⟨false,0,mstr n⟩ else if k=5 then ⟨false,0,mbyt n⟩ else ⟨false,mnum n,⟨#[]⟩⟩
def mbase (z:Int):ByteArray:=if z=0 then ⟨#[97]⟩ else if z=1 then ⟨#[105,100]⟩ else if z=2 then ⟨#[110,95,49]⟩ else if z=3 then ⟨#[120,57]⟩ else ⟨#[118,97,108,117,101]⟩
def letters:ByteArray:=⟨#[97,98,99,100,101,102,103,104,105,106,107,108,109,110,111,112]⟩
def mname (z:Int) (i:Nat):ByteArray:=(mbase z++⟨#[95]⟩)++letters.extract i (i+1)
def mcol (a b c d e id:Int) (i:Nat):Co:=⟨id+1+e % 9,mname (c % 5) i,1+a % 5,decide (b % 3=0),mcell (1+a % 5) (d % 5) (decide (b % 3=0))⟩
end Go.Proofs.YtenfjmdajlhfoabGreatDoor.Sc
namespace Go.Proofs.YtenfjmdajlhfoabGreatDoor
open Go.RowKit
set_option linter.unusedVariables false
set_option maxRecDepth 100000
theorem rMay (u:Bool) (k:Int) (w:World) (b:Bool) (hb:Cl.may k=b):Calls Tryz.prog 83 #[tv u k] w fun e w'=>e=.returned (.bool b)∧Below w.heap.size w w':=by
 unfold Cl.may at hb
 unfold tv
 by_cases h1:1≤k
 ·by_cases h2:k≤5
  ·obtain rfl:b=true:=by rw [← hb];simp;omega
   clear hb
   go_enter Tryz.func83,Tryz.ntmps83
   go_wp2_with fail
   go_ret
   exact⟨rfl,box_new _ _⟩
  ·obtain rfl:b=false:=by rw [← hb];simp;omega
   clear hb
   go_enter Tryz.func83,Tryz.ntmps83
   go_wp2_with fail
   go_ret
   exact⟨rfl,box_new _ _⟩
 ·obtain rfl:b=false:=by rw [← hb];simp;omega
  clear hb
  go_enter Tryz.func83,Tryz.ntmps83
  go_wp2_with fail
  go_ret
  exact⟨rfl,box_new _ _⟩
theorem ofNull (u:Bool) (k:Int) (n:Int) (s:ByteArray) (w:World) (b:Bool) (hm:s.size≤1000000) (hb:Cl.of u k ⟨true,n,s⟩=b):Calls Tryz.prog 84 #[tv u k,cv ⟨true,n,s⟩] w fun e w'=>e=.returned (.bool b)∧Below w.heap.size w w':=by
 have B0:=hZ (BX.start w u k ⟨true,n,s⟩)
 simp only at B0
 unfold tv cv
 simp only
 by_cases hu:u=true
 ·subst hu
  by_cases hn:n=0
  ·subst hn
   by_cases he:bl s=[]
   ·have q2:s.toList.isEmpty=true:=by rw [bl_empty];simp [he]
    have q1:s.toList=[]:=by simpa using q2
    have q3:(s.toList == [])=true:=by simp [q1]
    obtain rfl:b=true:=by rw [← hb];simp [Cl.of,Cl.none?,Cl.isK,he]
    clear hb
    go_enter Tryz.func84,Tryz.ntmps84
    go_wp2_with fail
    go_ret
    exact⟨rfl,B0.out.b⟩
   ·have q2:s.toList.isEmpty=false:=by rw [bl_empty];simp [he]
    have q1:¬ s.toList=[]:=by simpa using q2
    have q3:(s.toList == [])=false:=by simp [q1]
    obtain rfl:b=false:=by rw [← hb];simp [Cl.of,Cl.none?,Cl.isK,he]
    clear hb
    go_enter Tryz.func84,Tryz.ntmps84
    go_wp2_with fail
    go_ret
    exact⟨rfl,B0.out.b⟩
  ·have d0:(n == 0)=false:=by simp [hn]
   obtain rfl:b=false:=by rw [← hb];simp [Cl.of,Cl.none?,Cl.isK,hn]
   clear hb
   go_enter Tryz.func84,Tryz.ntmps84
   go_wp2_with fail
   go_ret
   exact⟨rfl,B0.out.b⟩
 ·have hf:u=false:=by simpa using hu
  subst hf
  obtain rfl:b=false:=by rw [← hb];simp [Cl.of,Cl.none?,Cl.isK]
  clear hb
  go_enter Tryz.func84,Tryz.ntmps84
  go_wp2_with fail
  go_ret
  exact⟨rfl,B0.out.b⟩
theorem ofK1 (u:Bool) (n:Int) (s:ByteArray) (w:World) (b:Bool) (hm:s.size≤1000000) (hb:Cl.of u 1 ⟨false,n,s⟩=b):Calls Tryz.prog 84 #[tv u 1,cv ⟨false,n,s⟩] w fun e w'=>e=.returned (.bool b)∧Below w.heap.size w w':=by
 have B0:=hZ (BX.start w u 1 ⟨false,n,s⟩)
 simp only at B0
 unfold tv cv
 simp only
 by_cases he:bl s=[]
 ·have q2:s.toList.isEmpty=true:=by rw [bl_empty];simp [he]
  have q1:s.toList=[]:=by simpa using q2
  have q3:(s.toList == [])=true:=by simp [q1]
  by_cases hn:n=0
  ·subst hn
   obtain rfl:b=true:=by rw [← hb];simp [Cl.of,Cl.none?,Cl.isK,he]
   clear hb
   go_enter Tryz.func84,Tryz.ntmps84
   go_wp2_with fail
   go_ret
   exact⟨rfl,B0.out.b⟩
  ·have d0:(n == 0)=false:=by simp [hn]
   by_cases h1:n=1
   ·subst h1
    obtain rfl:b=true:=by rw [← hb];simp [Cl.of,Cl.none?,Cl.isK,he]
    clear hb
    go_enter Tryz.func84,Tryz.ntmps84
    go_wp2_with fail
    go_ret
    exact⟨rfl,B0.out.b⟩
   ·have d1:(n == 1)=false:=by simp [h1]
    obtain rfl:b=false:=by rw [← hb];simp [Cl.of,Cl.none?,Cl.isK,he,hn,h1]
    clear hb
    go_enter Tryz.func84,Tryz.ntmps84
    go_wp2_with fail
    go_ret
    exact⟨rfl,B0.out.b⟩
 ·have q2:s.toList.isEmpty=false:=by rw [bl_empty];simp [he]
  have q1:¬ s.toList=[]:=by simpa using q2
  have q3:(s.toList == [])=false:=by simp [q1]
  obtain rfl:b=false:=by rw [← hb];simp [Cl.of,Cl.none?,Cl.isK,he]
  clear hb
  go_enter Tryz.func84,Tryz.ntmps84
  go_wp2_with fail
  go_ret
  exact⟨rfl,B0.out.b⟩
theorem ofK2 (u:Bool) (n:Int) (s:ByteArray) (w:World) (b:Bool) (hm:s.size≤1000000) (hb:Cl.of u 2 ⟨false,n,s⟩=b):Calls Tryz.prog 84 #[tv u 2,cv ⟨false,n,s⟩] w fun e w'=>e=.returned (.bool b)∧Below w.heap.size w w':=by
 have B0:=hZ (BX.start w u 2 ⟨false,n,s⟩)
 simp only at B0
 unfold tv cv
 simp only
 by_cases he:bl s=[]
 ·have q2:s.toList.isEmpty=true:=by rw [bl_empty];simp [he]
  have q1:s.toList=[]:=by simpa using q2
  have q3:(s.toList == [])=true:=by simp [q1]
  by_cases h1 : -2147483648≤n
  ·by_cases h2:n≤2147483647
   ·obtain rfl:b=true:=by rw [← hb];simp [Cl.of,Cl.none?,Cl.isK,he,h1,h2]
    clear hb
    go_enter Tryz.func84,Tryz.ntmps84
    go_wp2_with fail
    go_ret
    exact⟨rfl,B0.out.b⟩
   ·obtain rfl:b=false:=by rw [← hb];simp [Cl.of,Cl.none?,Cl.isK,he,h1,h2]
    clear hb
    go_enter Tryz.func84,Tryz.ntmps84
    go_wp2_with fail
    go_ret
    exact⟨rfl,B0.out.b⟩
  ·obtain rfl:b=false:=by rw [← hb];simp [Cl.of,Cl.none?,Cl.isK,he,h1]
   clear hb
   go_enter Tryz.func84,Tryz.ntmps84
   go_wp2_with fail
   go_ret
   exact⟨rfl,B0.out.b⟩
 ·have q2:s.toList.isEmpty=false:=by rw [bl_empty];simp [he]
  have q1:¬ s.toList=[]:=by simpa using q2
  have q3:(s.toList == [])=false:=by simp [q1]
  obtain rfl:b=false:=by rw [← hb];simp [Cl.of,Cl.none?,Cl.isK,he]
  clear hb
  go_enter Tryz.func84,Tryz.ntmps84
  go_wp2_with fail
  go_ret
  exact⟨rfl,B0.out.b⟩
theorem ofK3 (u:Bool) (n:Int) (s:ByteArray) (w:World) (b:Bool) (hm:s.size≤1000000) (hb:Cl.of u 3 ⟨false,n,s⟩=b):Calls Tryz.prog 84 #[tv u 3,cv ⟨false,n,s⟩] w fun e w'=>e=.returned (.bool b)∧Below w.heap.size w w':=by
 have B0:=hZ (BX.start w u 3 ⟨false,n,s⟩)
 simp only at B0
 unfold tv cv
 simp only
 by_cases he:bl s=[]
 ·have q2:s.toList.isEmpty=true:=by rw [bl_empty];simp [he]
  have q1:s.toList=[]:=by simpa using q2
  have q3:(s.toList == [])=true:=by simp [q1]
  obtain rfl:b=true:=by rw [← hb];simp [Cl.of,Cl.none?,Cl.isK,he]
  clear hb
  go_enter Tryz.func84,Tryz.ntmps84
  go_wp2_with fail
  go_ret
  exact⟨rfl,B0.out.b⟩
 ·have q2:s.toList.isEmpty=false:=by rw [bl_empty];simp [he]
  have q1:¬ s.toList=[]:=by simpa using q2
  have q3:(s.toList == [])=false:=by simp [q1]
  obtain rfl:b=false:=by rw [← hb];simp [Cl.of,Cl.none?,Cl.isK,he]
  clear hb
  go_enter Tryz.func84,Tryz.ntmps84
  go_wp2_with fail
  go_ret
  exact⟨rfl,B0.out.b⟩
theorem ofK5 (u:Bool) (n:Int) (s:ByteArray) (w:World) (b:Bool) (hm:s.size≤1000000) (hb:Cl.of u 5 ⟨false,n,s⟩=b):Calls Tryz.prog 84 #[tv u 5,cv ⟨false,n,s⟩] w fun e w'=>e=.returned (.bool b)∧Below w.heap.size w w':=by
 have B0:=hZ (BX.start w u 5 ⟨false,n,s⟩)
 simp only at B0
 unfold tv cv
 simp only
 by_cases hn:n=0
 ·subst hn
  by_cases h1:s.size≤1024
  ·have h1i:(s.size:Int)≤1024:=by omega
   obtain rfl:b=true:=by rw [← hb];simp [Cl.of,Cl.none?,Cl.isK,h1]
   clear hb
   go_enter Tryz.func84,Tryz.ntmps84
   go_wp2_with fail
   go_ret
   exact⟨rfl,B0.out.b⟩
  ·have h1i:¬ (s.size:Int)≤1024:=by omega
   obtain rfl:b=false:=by rw [← hb];simp [Cl.of,Cl.none?,Cl.isK,h1]
   clear hb
   go_enter Tryz.func84,Tryz.ntmps84
   go_wp2_with fail
   go_ret
   exact⟨rfl,B0.out.b⟩
 ·have d0:(n == 0)=false:=by simp [hn]
  obtain rfl:b=false:=by rw [← hb];simp [Cl.of,Cl.none?,Cl.isK,hn]
  clear hb
  go_enter Tryz.func84,Tryz.ntmps84
  go_wp2_with fail
  go_ret
  exact⟨rfl,B0.out.b⟩
theorem ofK4 (u:Bool) (n:Int) (s:ByteArray) (w:World) (b:Bool) (hm:s.size≤1000000) (hb:Cl.of u 4 ⟨false,n,s⟩=b):Calls Tryz.prog 84 #[tv u 4,cv ⟨false,n,s⟩] w fun e w'=>e=.returned (.bool b)∧Below w.heap.size w w':=by
 have B0:=hZ (BX.start w u 4 ⟨false,n,s⟩)
 simp only at B0
 unfold tv cv
 simp only
 by_cases hn:n=0
 ·subst hn
  by_cases h1:s.size≤1024
  ·have h1i:(s.size:Int)≤1024:=by omega
   obtain rfl:b=Utf.vld (bl s):=by rw [← hb];simp [Cl.of,Cl.none?,Cl.isK,h1]
   clear hb
   have CV4:=hZ (fun w=>rvalid s w (by unfold maxLen;omega) _ rfl)
   go_enter Tryz.func84,Tryz.ntmps84
   go_wp2_with fail
   ((with_reducible refine (CV4.out _).mono ?_);rintro e w1 ⟨rfl,b1⟩)
   have BB:=hZ (up B0.out.b b1)
   clear b1
   go_wp2_with fail
   go_ret
   exact⟨rfl,BB.out⟩
  ·have h1i:¬ (s.size:Int)≤1024:=by omega
   obtain rfl:b=false:=by rw [← hb];simp [Cl.of,Cl.none?,Cl.isK,h1]
   clear hb
   go_enter Tryz.func84,Tryz.ntmps84
   go_wp2_with fail
   go_ret
   exact⟨rfl,B0.out.b⟩
 ·have d0:(n == 0)=false:=by simp [hn]
  obtain rfl:b=false:=by rw [← hb];simp [Cl.of,Cl.none?,Cl.isK,hn]
  clear hb
  go_enter Tryz.func84,Tryz.ntmps84
  go_wp2_with fail
  go_ret
  exact⟨rfl,B0.out.b⟩
theorem rOf (u:Bool) (k:Int) (c:Cl.C) (w:World) (b:Bool) (hk:Cl.may k=true) (hm:c.s.size≤1000000) (hb:Cl.of u k c=b):Calls Tryz.prog 84 #[tv u k,cv c] w fun e w'=>e=.returned (.bool b)∧Below w.heap.size w w':=by
 obtain⟨c0,n,s⟩:=c
 obtain⟨h1,h2⟩:=Cl.may_le hk
 cases c0
 ·have:k=1 ∨ k=2 ∨ k=3 ∨ k=4 ∨ k=5:=by omega
  rcases this with rfl|rfl|rfl|rfl|rfl
  ·exact ofK1 u n s w b hm hb
  ·exact ofK2 u n s w b hm hb
  ·exact ofK3 u n s w b hm hb
  ·exact ofK4 u n s w b hm hb
  ·exact ofK5 u n s w b hm hb
 ·exact ofNull u k n s w b hm hb
theorem rCheck (u:Bool) (k:Int) (c:Cl.C) (w:World) (hm:c.s.size≤1000000) (e0:Nat) (he:Cl.chk u k c=e0):Calls Tryz.prog 65 #[tv u k,cv c] w fun e w'=>e=.returned (.int .i64 (e0:Nat))∧Below w.heap.size w w':=by
 have B0:=hZ (BX.start w u k c)
 have CM:=hZ (fun w=>rMay u k w _ rfl)
 have CO:=hZ (fun (h:Cl.may k=true) w=>rOf u k c w _ h hm rfl)
 unfold Cl.chk at he
 obtain⟨c0,n,s⟩:=c
 unfold tv cv at CO ⊢
 unfold tv at CM
 simp only at CO B0 ⊢
 clear hm
 cases hk:Cl.may k
 ·rw [hk] at CM
  rw [if_pos hk] at he
  subst he
  clear hk CO
  go_enter Tryz.func65,Tryz.ntmps65
  go_wp2_with fail
  ((with_reducible refine (CM.out _).mono ?_);rintro e w1 ⟨rfl,b1⟩)
  have B1:=hZ (B0.out.later b1)
  clear b1
  obtain⟨⟨t0,t1⟩,⟨c0,c1,c2⟩⟩:=B1.out.lies
  simp only at c0 c1 c2
  go_wp2_with fail
  go_ret
  exact⟨rfl,B1.out.b⟩
 ·have CF:=hZ (CO.out hk)
  rw [hk] at CM
  rw [if_neg (by rw [hk];decide)] at he
  clear hk CO
  cases ho:Cl.of u k ⟨c0,n,s⟩
  ·rw [ho] at CF
   rw [if_pos ho] at he
   subst he
   clear ho
   go_enter Tryz.func65,Tryz.ntmps65
   go_wp2_with fail
   ((with_reducible refine (CM.out _).mono ?_);rintro e w1 ⟨rfl,b1⟩)
   have B1:=hZ (B0.out.later b1)
   clear b1
   obtain⟨⟨t0,t1⟩,⟨c0,c1,c2⟩⟩:=B1.out.lies
   simp only at c0 c1 c2
   go_wp2_with fail
   ((with_reducible refine (CF.out _).mono ?_);rintro e w2 ⟨rfl,b2⟩)
   have B2:=hZ (B1.out.later b2)
   clear b2
   obtain⟨⟨t0,t1⟩,⟨c0,c1,c2⟩⟩:=B2.out.lies
   simp only at c0 c1 c2
   go_wp2_with fail
   go_ret
   exact⟨rfl,B2.out.b⟩
  ·rw [ho] at CF
   rw [if_neg (by rw [ho];decide)] at he
   subst he
   clear ho
   go_enter Tryz.func65,Tryz.ntmps65
   go_wp2_with fail
   ((with_reducible refine (CM.out _).mono ?_);rintro e w1 ⟨rfl,b1⟩)
   have B1:=hZ (B0.out.later b1)
   clear b1
   obtain⟨⟨t0,t1⟩,⟨c0,c1,c2⟩⟩:=B1.out.lies
   simp only at c0 c1 c2
   go_wp2_with fail
   ((with_reducible refine (CF.out _).mono ?_);rintro e w2 ⟨rfl,b2⟩)
   have B2:=hZ (B1.out.later b2)
   clear b2
   obtain⟨⟨t0,t1⟩,⟨c0,c1,c2⟩⟩:=B2.out.lies
   simp only at c0 c1 c2
   go_wp2_with fail
   go_ret
   exact⟨rfl,B2.out.b⟩
end Go.Proofs.YtenfjmdajlhfoabGreatDoor
namespace Go.Proofs.YtenfjmdajlhfoabGreatDoor.Sc
open Cl
set_option linter.unusedVariables false
set_option linter.unusedSimpArgs false
def prevId (l:List Co) (j:Nat):Int:=if j=0 then 0 else (l.getD (j - 1) co0).id
structure MC (l:List Co) (id:Int):Prop where
 at_:∀ j c,l[j]?=some c→∃ a b c' d e,c=mcol a b c' d e (prevId l j) j
 id:id=prevId l l.length
theorem okKAt_parts {l:List Co} {ks:List Int} {i:Nat} {k:Int}:okKAt l ks i k=true↔(leastK ks i≤k∧k < (l.length:Int))∧(l.getD k.toNat co0).u=false:=by
 unfold okKAt
 simp
end Go.Proofs.YtenfjmdajlhfoabGreatDoor.Sc
namespace Go.Proofs.YtenfjmdajlhfoabGreatDoor
open Go.RowKit
set_option linter.unusedVariables false
set_option linter.unusedSimpArgs false
set_option maxRecDepth 100000
theorem rPlace (v kv:Value) (l:List Co) (q:Int) (w:World) (h:RdK w w.heap.size v l) (hl:l.length≤1000000) (n:Nat) (y:Bool) (hn:Sc.find (Sc.byId q) l=(n,y)) :
 Calls Tryz.prog 66 #[.agg #[v,kv],.int .i64 q] w fun e w'=>e=.returned (.tuple #[.int .i64 (n:Nat),.bool y])∧Below w.heap.size w w':=by
 have HN:=hZ hn
 obtain⟨a,c,rfl,_⟩:=Gn.Rd.form h
 have HB:=hZ (box_new w (.cells #[.slice a l.length c,kv] 25))
 have HR:=hZ (h.later HB.out)
 have HX:=hZ (Blk.new w 25 #[.slice a l.length c,kv])
 clear h hn
 go_enter Tryz.func66,Tryz.ntmps66
 go_wp2_with fail
 generalize hg:w.heap.size=g at *
 generalize w.alloc (.cells #[.slice a l.length c,kv] 25)=wb at *
 have x0:=HX.out.cell 0
 simp only [List.getElem?_cons_zero] at x0
 go_loopw [6] (fun i wr=>∃ k:Nat,k≤l.length∧i=.int .i64 (k:Nat)∧Hid (∀ j d,j < k→l[j]?=some d→Sc.byId q d=false)∧wb=wr) (fun i _=>l.length - (intOf i).toNat)
 case atStart=>exact⟨0,by omega,by rfl,hZ (fun j d hj=>by omega),rfl⟩
 case round =>
  obtain⟨k,hk,rfl,HE,rfl⟩:=hrel
  by_cases hlt:k < l.length
  ·have hlt1:(k:Int) < l.length:=by omega
   obtain⟨x,hx⟩:∃ x,l[k]?=some x:=⟨_,List.getElem?_eq_getElem hlt⟩
   obtain⟨b1,o1,rfl,p0,p1,p2,p3,p4,p5,p6⟩:=rdK_cells HR.out (Below.refl _ _) hx
   cases hp:Sc.byId q x with
   | false =>
    have HE2:Hid (∀ j d,j < k+1→l[j]?=some d→Sc.byId q d=false):=hZ (fun j d hj hd=>by
     rcases Nat.lt_succ_iff_lt_or_eq.1 hj with h2|rfl
     ·exact HE.out j d h2 hd
     ·rw [hx] at hd;injection hd with hd;rw [← hd];exact hp)
    obtain⟨xi,xm,xk,xu,⟨xa,xb,xc⟩⟩:=x
    simp only at p0 p1
    unfold Sc.byId at hp
    simp only at hp
    have h1:(xi == q)=false:=by simpa using hp
    clear hx hp HE p2 p3 p4 p5 p6
    go_wp2_with fail
    go_roundw
    case rel=>exact⟨k+1,by omega,by go_num,HE2,trivial⟩
    case measure=>simp [intOf];omega
   | true =>
    have e:=Sc.find_hit hx hp HE.out
    rw [HN.out] at e
    injection e with e1 e2
    subst e1 e2
    obtain⟨xi,xm,xk,xu,⟨xa,xb,xc⟩⟩:=x
    simp only at p0 p1
    unfold Sc.byId at hp
    simp only at hp
    have h1:(xi == q)=true:=by simpa using hp
    clear hx hp HE HN p2 p3 p4 p5 p6
    go_wp2_with fail
    go_ret2
    exact⟨rfl,by first|exact HB.out|(rw [hg];exact HB.out)⟩
  ·have hlt1:¬ (k:Int) < l.length:=by omega
   have e:=Sc.find_miss (p:=Sc.byId q) (l:=l) (fun j d hd=>HE.out j d (by have:=(List.getElem?_eq_some_iff.1 hd).1;omega) hd)
   rw [HN.out] at e
   injection e with e1 e2
   subst e1 e2
   clear HN HE
   go_wp2_with fail
   go_ret2
   exact⟨rfl,by first|exact HB.out|(rw [hg];exact HB.out)⟩
theorem rIsName (s:ByteArray) (w:World) (hm:s.size≤1000000) (b:Bool) (hb:Sc.name (bl s)=b):Calls Tryz.prog 67 #[.string s] w fun e w'=>e=.returned (.bool b)∧w=w':=by
 have HI:=hZ (@Sc.name_iff (bl s))
 rw [hb,bl_length] at HI
 clear hb
 by_cases h0:s.size < 1
 ·have g0:(s.size:Int) < 1:=by omega
  obtain rfl:b=false:=falseIf HI.out (fun h=>by omega)
  go_enter Tryz.func67,Tryz.ntmps67
  go_wp2_with fail
  go_ret
  exact⟨rfl,rfl⟩
 ·have g0:¬ (s.size:Int) < 1:=by omega
  by_cases h1:s.size > 32
  ·have g1:(s.size:Int) > 32:=by omega
   obtain rfl:b=false:=falseIf HI.out (fun h=>by omega)
   go_enter Tryz.func67,Tryz.ntmps67
   go_wp2_with fail
   go_ret
   exact⟨rfl,rfl⟩
  ·have g1:¬ (s.size:Int) > 32:=by omega
   have hs1:1≤s.size:=by omega
   have hs2:s.size≤32:=by omega
   clear h0 h1
   go_enter Tryz.func67,Tryz.ntmps67
   go_wp2_with fail
   go_loopw [3] (fun i wr=>∃ k:Nat,k≤s.size∧i=.int .i64 (k:Nat)∧Hid ((∀ j,j < k→Sc.isn ((bl s).getD j 0)=true)∧(0 < k→Sc.isl ((bl s).getD 0 0)=true))∧w=wr) (fun i _=>s.size - (intOf i).toNat)
   case atStart=>exact⟨0,by omega,by rfl,hZ ⟨fun j hj=>by omega,fun h=>by omega⟩,rfl⟩
   case round =>
    obtain⟨k,hk,rfl,HE,rfl⟩:=hrel
    by_cases hlt:k < s.size
    ·have hlt1:(k:Int) < s.size:=by omega
     have h4:=bl_at s k hlt
     have hyb:=bl_byte s ((bl s).getD k 0) (by rw [List.getD_eq_getElem?_getD,List.getElem?_eq_getElem (by rw [bl_length];omega)];simp)
     obtain⟨y,hy⟩:∃ y,(bl s).getD k 0=y:=⟨_,rfl⟩
     have HY:=hZ hy
     rw [hy] at h4 hyb
     clear hy
     have HGO:Hid (Sc.isn y=true→(0 < k ∨ Sc.isl y=true)→(∀ j,j < k+1→Sc.isn ((bl s).getD j 0)=true)∧(0 < k+1→Sc.isl ((bl s).getD 0 0)=true)):=hZ (fun h1 h2=>⟨fun j hj=>by
      rcases Nat.lt_succ_iff_lt_or_eq.1 hj with h2|rfl
      ·exact HE.out.1 j h2
      ·rw [HY.out];exact h1,fun _=>by
      rcases Nat.eq_zero_or_pos k with rfl|h0
      ·rw [HY.out];exact h2.resolve_left (by omega)
      ·exact HE.out.2 h0⟩)
     have HNO:Hid ((Sc.isn y=false ∨ (k=0∧Sc.isl y=false))→b=false):=hZ (fun h=>falseIf HI.out (fun hh=>by
      rcases h with h|⟨rfl,h⟩
      ·have:=hh.2.2 k hlt;rw [HY.out,h] at this;cases this
      ·have:=hh.2.1;rw [HY.out,h] at this;cases this))
     clear HE HY HI
     by_cases ha:(97:Int)≤y∧(y:Int)≤122
     ·obtain⟨a1,a2⟩:=ha
      have HGO2:=hZ (HGO.out (by unfold Sc.isn Sc.isl;simp;omega) (.inr (by unfold Sc.isl;simp;omega)))
      clear HGO HNO
      go_wp2_with fail
      go_roundw
      case rel=>exact⟨k+1,by omega,by go_num,HGO2,trivial⟩
      case measure=>simp [intOf];omega
     ·rcases (show (y:Int) < 97 ∨ 122 < (y:Int) by omega) with hb2|hb2
      all_goals
       try have hd:decide ((y:Int)≤122)=false:=by (simp;omega)
       rcases Nat.eq_zero_or_pos k with h0|h0
       ·obtain rfl:b=false:=HNO.out (.inr ⟨h0,by unfold Sc.isl;simp;omega⟩)
        have hk0:((k:Int) == 0)=true:=by simp;omega
        clear HGO HNO h0 ha
        go_wp2_with fail
        go_ret
        exact⟨rfl,rfl⟩
       ·have hk0:((k:Int) == 0)=false:=by simp;omega
        clear ha
        by_cases h95:(y:Int)=95
        ·first
         | (exfalso;omega)
         | (have h96:((y:Int) != 95)=false:=by simp [h95]
            have HGO2:=hZ (HGO.out (by unfold Sc.isn Sc.isl;simp;omega) (.inl h0))
            clear HGO HNO h0
            go_wp2_with fail
            go_roundw
            case rel=>exact⟨k+1,by omega,by go_num,HGO2,trivial⟩
            case measure=>simp [intOf];omega
          )
        ·have h96:((y:Int) != 95)=true:=by simpa using h95
         rcases (show (y:Int) < 48 ∨ 57 < (y:Int) ∨ (48≤(y:Int)∧(y:Int)≤57) by omega) with h5|h5|⟨h5,h6⟩
         ·first
          | (exfalso;omega)
          | (have h48:¬ (48:Int)≤y:=by omega
             obtain rfl:b=false:=HNO.out (.inl (by unfold Sc.isn Sc.isl;simp;omega))
             clear HGO HNO h0
             go_wp2_with fail
             go_ret
             exact⟨rfl,rfl⟩
           )
         ·first
          | (exfalso;omega)
          | (have h48:¬ (y:Int) < 48:=by omega
             obtain rfl:b=false:=HNO.out (.inl (by unfold Sc.isn Sc.isl;simp;omega))
             clear HGO HNO h0
             go_wp2_with fail
             go_ret
             exact⟨rfl,rfl⟩
           )
         ·first
          | (exfalso;omega)
          | (have h48:¬ (y:Int) < 48:=by omega
             have h57:¬ 57 < (y:Int):=by omega
             have HGO2:=hZ (HGO.out (by unfold Sc.isn Sc.isl;simp;omega) (.inl h0))
             clear HGO HNO h0
             go_wp2_with fail
             go_roundw
             case rel=>exact⟨k+1,by omega,by go_num,HGO2,trivial⟩
             case measure=>simp [intOf];omega
           )
    ·have hlt1:¬ (k:Int) < s.size:=by omega
     obtain rfl:b=true:=HI.out.2 ⟨by omega,HE.out.2 (by omega),fun j hj=>HE.out.1 j (by omega)⟩
     go_wp2_with fail
     go_ret
     exact⟨rfl,rfl⟩
open Go.RowKit Go.Sort
theorem rowCheckR (kv rv:Value) (ks:List Co) (r:List Cl.C) (w:World) (hk:RdK w w.heap.size kv ks) (hr:RdC w w.heap.size rv r) (hl:r.length≤1000000) (hm:∀ c∈r,c.s.size≤1000000) (d:Int) (hd:Rw.chkR (tys ks) r=d) :
 Calls Tryz.prog 38 #[kv,rv] w fun e w'=>e=.returned (.int .i64 d)∧Below w.heap.size w w':=by
 have HK:=hZ hk
 have HR:=hZ hr
 have HM:=hZ hm
 obtain⟨ka,kc,rfl,_⟩:=Gn.Rd.form hk
 obtain⟨ra,rc,rfl,_⟩:=Gn.Rd.form hr
 have hlk:=Gn.Rd.len' hk
 clear hk hr hm
 by_cases hn:r.length=ks.length
 ·have hn1:((r.length:Int) != (ks.length:Nat))=false:=by simp;omega
  have e:Rw.fnz (Rw.chkL (tys ks) r)=d:=by
   unfold Rw.chkR at hd
   rw [tys_len,if_neg (by omega)] at hd
   exact hd
  have HE0:=hZ e
  have HL:=hZ (show (Rw.chkL (tys ks) r).length=r.length by unfold Rw.chkL;rw [List.length_zipWith,tys_len];omega)
  have HN:=hZ hn
  clear hd e hn
  go_enter Tryz.func38,Tryz.ntmps38
  go_wp2_with fail
  go_loopw [5] (fun i wr=>∃ k:Nat,k≤r.length∧i=.int .i64 (k:Nat)∧Hid (Rw.fnz ((Rw.chkL (tys ks) r).drop k)=d)∧Hid (Below w.heap.size w wr)) (fun i _=>r.length - (intOf i).toNat)
  case atStart=>exact⟨0,by omega,by rfl,HE0,hZ (Below.refl _ _)⟩
  case round =>
   obtain⟨k,hk,rfl,HE,HU⟩:=hrel
   by_cases hlt:k < r.length
   ·have hlt1:(k:Int) < r.length:=by omega
    have hlt2:(k:Int) < ks.length:=by have:=HN.out;omega
    obtain⟨x,hx⟩:∃ x,r[k]?=some x:=⟨_,List.getElem?_eq_getElem hlt⟩
    obtain⟨d1,hdd⟩:∃ d1,(Rw.chkL (tys ks) r)[k]?=some d1:=⟨_,List.getElem?_eq_getElem (by rw [HL.out];exact hlt)⟩
    obtain⟨t,ht,hd1⟩:=chkL_at hx hdd
    obtain⟨b1,o1,rfl,p0,p1,p2⟩:=rdC_cells HR.out HU.out hx
    obtain⟨b2,o2,rfl,s0,s1⟩:=rdK_type HK.out HU.out ht
    have HE2:=hZ ((Rw.fnz_drop hdd).symm.trans HE.out)
    have HC:=hZ (fun w=>rCheck t.u t.k x w (HM.out x (List.mem_of_getElem? hx)) _ rfl)
    rw [hd1] at HC
    obtain⟨xu,xn,xs⟩:=x
    unfold cv tv at HC
    simp only at p0 p1 p2 HC
    clear hx hdd ht hd1 HE
    have q0:=fun d os=>cell_regrown p0 d os
    have q1:=fun d os=>cell_regrown p1 d os
    have q2:=fun d os=>cell_regrown p2 d os
    have q3:=fun d os=>cell_regrown s0 d os
    have q4:=fun d os=>cell_regrown s1 d os
    have Q:=hZ (fun d os=>Calls.regrown_of (HC.out (grow (redrawn wr d) os)))
    clear p0 p1 p2 s0 s1 HC
    go_wp2_with fail
    refine wp_region_quiet_below (by kernel_rfl) (by kernel_rfl) ?_
    iterate 11 (quiet_step (first|with_reducible exact Q.out _ _))
    refine wpQuiet_nil ?_
    intro _ hw'
    obtain⟨⟨dq,osq⟩,hw''⟩:=hw'
    have HU2:=hZ (up HU.out (show Below wr.heap.size wr _ from hw''▸below_regrown wr dq osq))
    clear hw'' HU Q
    by_cases hz:d1=0
    ·subst hz
     rw [if_neg (by omega)] at HE2
     go_wp2_with fail
     go_roundw
     case rel=>exact⟨k+1,by omega,by go_num,HE2,HU2⟩
     case measure=>simp [intOf];omega
    ·rw [if_pos hz] at HE2
     have hz1:(d1 != 0)=true:=by simpa using hz
     obtain rfl:d1=d:=HE2.out
     go_wp2_with fail
     go_ret
     exact⟨rfl,HU2.out⟩
   ·have hlt1:¬ (k:Int) < r.length:=by omega
    obtain rfl:(0:Int)=d:=(Rw.fnz_end (by rw [HL.out];omega)).symm.trans HE.out
    go_wp2_with fail
    go_ret
    exact⟨rfl,HU.out⟩
 ·have hn1:((r.length:Int) != (ks.length:Nat))=true:=by simp;omega
  obtain rfl:(100:Int)=d:=by
   unfold Rw.chkR at hd
   rw [tys_len,if_pos hn] at hd
   exact hd
  clear hd hn HK HR HM
  go_enter Tryz.func38,Tryz.ntmps38
  go_wp2_with fail
  go_ret
  exact⟨rfl,Below.refl _ _⟩
end Go.Proofs.YtenfjmdajlhfoabGreatDoor
