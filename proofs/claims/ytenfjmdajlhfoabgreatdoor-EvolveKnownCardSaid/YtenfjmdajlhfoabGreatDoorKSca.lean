/- Texts. -/
import Derived.Lib.SplitLaws
import Derived.Lib.SlicesS
import Derived.Test.YtenfjmdajlhfoabGreatDoorKClDo
import Derived.Lib.QuietBelow
import Derived.Test.YtenfjmdajlhfoabGreatDoorKClReadB
import Derived.Laws.StructEq
set_option maxHeartbeats 16000000
namespace Go.Proofs.YtenfjmdajlhfoabGreatDoor.Sc
open Cl
set_option linter.unusedVariables false
set_option linter.unusedSimpArgs false
def isl (c:Nat):Bool:=decide (97≤c∧c≤122)
def isn (c:Nat):Bool:=isl c || decide (48≤c∧c≤57) || decide (c=95)
def name (l:List Nat):Bool:=decide (1≤l.length∧l.length≤32) && isl (l.getD 0 0) && l.all isn
def co0:Co:=⟨0,⟨#[]⟩,0,false,Cl.empty⟩
def least (l:List Co) (i:Nat):Int:=if i=0 then 1 else (l.getD (i - 1) co0).id+1
def fresh (l:List Co) (i:Nat) (c:Co):Bool:=(l.take i).all fun d=>decide (bl d.nm≠bl c.nm)
def okAt (l:List Co) (i:Nat) (c:Co):Bool:=decide (least l i≤c.id∧c.id≤1048576) && name (bl c.nm) && decide (chk c.u c.k c.d=0) && fresh l i c
def okC (l:List Co):Bool:=decide (1≤l.length∧l.length≤32) && (List.range l.length).all fun i=>okAt l i (l.getD i co0)
def leastK (ks:List Int) (i:Nat):Int:=if i=0 then 0 else ks.getD (i - 1) 0+1
def okKAt (l:List Co) (ks:List Int) (i:Nat) (k:Int):Bool:=decide (leastK ks i≤k∧k < (l.length:Int)) && !(l.getD k.toNat co0).u
def okK (l:List Co) (ks:List Int):Bool:=decide (ks.length≤8) && (List.range ks.length).all fun i=>okKAt l ks i (ks.getD i 0)
def ck (l:List Co) (ks:List Int):Int:=if (okC l && okK l ks)=true then 0 else 2
theorem getD_of {α:Type} {l:List α} {i:Nat} {x z:α} (h:l[i]?=some x):l.getD i z=x:=by rw [List.getD_eq_getElem?_getD,h];rfl
theorem okC_iff {l:List Co}:okC l=true↔(1≤l.length∧l.length≤32)∧∀ i c,l[i]?=some c→okAt l i c=true:=by
 unfold okC
 simp only [Bool.and_eq_true,decide_eq_true_eq,List.all_eq_true,List.mem_range]
 constructor
 ·rintro ⟨h1,h2⟩
  refine⟨h1,fun i c hc=>?_⟩
  have:=h2 i (List.getElem?_eq_some_iff.1 hc).1
  rwa [getD_of hc] at this
 ·rintro ⟨h1,h2⟩
  refine⟨h1,fun i hi=>h2 i _ ?_⟩
  rw [List.getD_eq_getElem?_getD,List.getElem?_eq_getElem hi];rfl
theorem okC_no {l:List Co} {i:Nat} {c:Co} (h:l[i]?=some c) (hn:okAt l i c=false):okC l=false:=by
 cases e:okC l with
 | false=>rfl
 | true=>have:=(okC_iff.1 e).2 i c h;rw [hn] at this;cases this
theorem okK_iff {l:List Co} {ks:List Int}:okK l ks=true↔ks.length≤8∧∀ i k,ks[i]?=some k→okKAt l ks i k=true:=by
 unfold okK
 simp only [Bool.and_eq_true,decide_eq_true_eq,List.all_eq_true,List.mem_range]
 constructor
 ·rintro ⟨h1,h2⟩
  refine⟨h1,fun i c hc=>?_⟩
  have:=h2 i (List.getElem?_eq_some_iff.1 hc).1
  rwa [getD_of hc] at this
 ·rintro ⟨h1,h2⟩
  refine⟨h1,fun i hi=>h2 i _ ?_⟩
  rw [List.getD_eq_getElem?_getD,List.getElem?_eq_getElem hi];rfl
theorem okK_no {l:List Co} {ks:List Int} {i:Nat} {c:Int} (h:ks[i]?=some c) (hn:okKAt l ks i c=false):okK l ks=false:=by
 cases e:okK l ks with
 | false=>rfl
 | true=>have:=(okK_iff.1 e).2 i c h;rw [hn] at this;cases this
theorem ck_no {l:List Co} {ks:List Int} (h:okC l=false ∨ okK l ks=false):ck l ks=2:=by
 unfold ck
 rcases h with h|h<;>rw [h]<;>simp
theorem ck_ok {l:List Co} {ks:List Int} (h1:okC l=true) (h2:okK l ks=true):ck l ks=0:=by unfold ck;rw [h1,h2];rfl
theorem ck_zero {l:List Co} {ks:List Int}:ck l ks=0↔okC l=true∧okK l ks=true:=by
 unfold ck
 cases okC l<;>cases okK l ks<;>simp
theorem ck_cases (l:List Co) (ks:List Int):ck l ks=0 ∨ ck l ks=2:=by unfold ck;split<;>simp
theorem okAt_parts {l:List Co} {i:Nat} {c:Co}:okAt l i c=true↔(least l i≤c.id∧c.id≤1048576)∧name (bl c.nm)=true∧chk c.u c.k c.d=0∧fresh l i c=true:=by
 unfold okAt
 simp only [Bool.and_eq_true,decide_eq_true_eq,and_assoc]
def find (p:Co→Bool):List Co→Nat × Bool
 | []=>(0,false)
 | c::t=>if p c=true then (0,true) else if (find p t).2=true then ((find p t).1+1,true) else (0,false)
theorem find_hit {p:Co→Bool}:∀ {l:List Co} {i:Nat} {c:Co},l[i]?=some c→p c=true→(∀ (j:Nat) (d:Co),j < i→l[j]?=some d→p d=false)→find p l=(i,true)
 | [],i,c,h,_,_=>by simp at h
 | x::t,0,c,h,hp,_=>by
  simp at h;subst h
  unfold find;rw [if_pos hp]
 | x::t,i+1,c,h,hp,hb=>by
  have h0:=hb 0 x (by omega) rfl
  have ih:=find_hit (l:=t) (i:=i) (by simpa using h) hp (fun j d hj hd=>hb (j+1) d (by omega) (by simpa using hd))
  unfold find
  rw [h0,ih];simp
theorem find_miss {p:Co→Bool}:∀ {l:List Co},(∀ (j:Nat) (d:Co),l[j]?=some d→p d=false)→find p l=(0,false)
 | [],_=>rfl
 | x::t,h=>by
  have h0:=h 0 x rfl
  have ih:=find_miss (l:=t) (fun j d hd=>h (j+1) d (by simpa using hd))
  unfold find
  rw [h0,ih];simp
theorem find_no {p:Co→Bool}:∀ {l:List Co},(find p l).2=false→∀ d∈l,p d=false
 | [],_,d,hd=>by cases hd
 | x::t,h,d,hd=>by
  unfold find at h
  split at h
  ·cases h
  ·next h1 =>
   split at h
   ·cases h
   ·next h2 =>
    rcases List.mem_cons.1 hd with rfl|hd
    ·simpa using h1
    ·exact find_no (by simpa using h2) d hd
theorem find_yes {p:Co→Bool}:∀ {l:List Co},(find p l).2=true→∃ d∈l,p d=true
 | [],h=>by cases h
 | x::t,h=>by
  unfold find at h
  split at h
  ·next h1=>exact⟨x,by simp,h1⟩
  ·split at h
   ·next h2 =>
    obtain⟨d,hd,hp⟩:=find_yes h2
    exact⟨d,List.mem_cons_of_mem _ hd,hp⟩
   ·cases h
def byName (s:ByteArray) (c:Co):Bool:=decide (bl c.nm=bl s)
def byId (n:Int) (c:Co):Bool:=decide (c.id=n)
theorem fresh_find (l:List Co) (i:Nat) (c:Co):fresh l i c=!(find (byName c.nm) (l.take i)).2:=by
 unfold fresh
 cases h:(find (byName c.nm) (l.take i)).2 with
 | false =>
  have:=find_no h
  rw [Bool.not_false,List.all_eq_true]
  intro d hd
  have:=this d hd
  unfold byName at this
  simpa using this
 | true =>
  obtain⟨d,hd,hp⟩:=find_yes h
  rw [Bool.not_true,List.all_eq_false]
  refine⟨d,hd,?_⟩
  unfold byName at hp
  simpa using hp
def word (k:Int):List Nat:=if k=1 then [98,111,111,108] else if k=2 then [105,110,116,51,50] else if k=3 then [105,110,116,54,52] else if k=4 then [115,116,114,105,110,103] else if k=5 then [98,121,116,101,115] else []
def typ (u:Bool) (k:Int) (key:Bool):List Nat:=word k++((if u=true then [63] else [])++(if key=true then [42] else []))
def line (c:Co) (key:Bool):List Nat:=Jr.dnum c.id++32::(bl c.nm++32::(typ c.u c.k key++32::(bl (txt c.k c.d)++[10])))
structure Col (c:Co):Prop where
 id0:0≤c.id
 id1:c.id≤1048576
 nm:name (bl c.nm)=true
 ck:chk c.u c.k c.d=0
 n64:I64 c.d.n
theorem cut_eq {z:Nat}:∀ {a a' x x':List Nat},z ∉ a→z ∉ a'→a++z::x=a'++z::x'→a=a'∧x=x'
 | [],[],x,x',_,_,e=>by simpa using e
 | [],b::a',x,x',_,h',e=>by
  simp only [List.nil_append,List.cons_append,List.cons.injEq] at e
  exact absurd (by rw [e.1];simp) h'
 | b::a,[],x,x',h,_,e=>by
  simp only [List.nil_append,List.cons_append,List.cons.injEq] at e
  exact absurd (by rw [← e.1];simp) h
 | b::a,b'::a',x,x',h,h',e=>by
  simp only [List.cons_append,List.cons.injEq] at e
  obtain⟨h1,h2⟩:=cut_eq (a:=a) (a':=a') (fun hm=>h (List.mem_cons_of_mem _ hm)) (fun hm=>h' (List.mem_cons_of_mem _ hm)) e.2
  exact⟨by rw [e.1,h1],h2⟩
theorem dnum_dig {n:Int} (h:0≤n):∀ c∈Jr.dnum n,48≤c∧c≤57:=by
 intro c hc
 unfold Jr.dnum Jr.sgn at hc
 rw [if_neg (by simp;omega)] at hc
 have:=Jr.dcs_isd n.natAbs c hc
 simpa [Jr.isd] using this
theorem name_all {l:List Nat} (h:name l=true):∀ c∈l,c=95 ∨ (48≤c∧c≤57) ∨ (97≤c∧c≤122):=by
 unfold name at h
 simp only [Bool.and_eq_true,List.all_eq_true] at h
 intro c hc
 have:=h.2 c hc
 unfold isn isl at this
 simp at this;omega
theorem name_len {l:List Nat} (h:name l=true):1≤l.length∧l.length≤32:=by
 unfold name at h
 simp only [Bool.and_eq_true,decide_eq_true_eq] at h
 exact h.1.1
theorem word_let (k:Int):∀ c∈word k,(48≤c∧c≤57) ∨ (97≤c∧c≤122):=by
 intro c hc
 unfold word at hc
 repeat' split at hc
 all_goals simp at hc
 all_goals omega
theorem typ_all (u:Bool) (k:Int) (key:Bool):∀ c∈typ u k key,c≠32∧c≠10:=by
 intro c hc
 unfold typ at hc
 rcases List.mem_append.1 hc with h|h
 ·have:=word_let k c h;omega
 ·cases u<;>cases key<;>simp at h<;>omega
theorem typ_inj {u u':Bool} {k k':Int} {y y':Bool} (h:may k=true) (h':may k'=true) (e:typ u k y=typ u' k' y'):u=u'∧k=k'∧y=y':=by
 obtain⟨a,b⟩:=may_le h
 obtain⟨a',b'⟩:=may_le h'
 rcases (show k=1 ∨ k=2 ∨ k=3 ∨ k=4 ∨ k=5 by omega) with rfl|rfl|rfl|rfl|rfl<;>rcases (show k'=1 ∨ k'=2 ∨ k'=3 ∨ k'=4 ∨ k'=5 by omega) with rfl|rfl|rfl|rfl|rfl
 all_goals
  clear h h' a b a' b'
  revert u u' y y'
  decide
theorem Col.may {c:Co} (h:Col c):may c.k=true∧of c.u c.k c.d=true:=chk_ok h.ck
theorem esc_ten:∀ l:List Nat,10 ∉ Utf.escs l
 | []=>by simp [Utf.escs]
 | b::l=>by
  rw [Utf.escs_cons]
  intro h
  rcases List.mem_append.1 h with h|h
  ·revert h
   unfold Utf.escB
   repeat' split
   all_goals simp
   all_goals first|omega|skip
   all_goals (unfold Utf.hex;repeat' split)
   all_goals first|omega|skip
  ·exact esc_ten l h
theorem hex_ten (d:Nat):Utf.hex d≠10∧Utf.hex d≠32:=by unfold Utf.hex;split<;>omega
theorem hexs_ten:∀ l:List Nat,10 ∉ hexs l
 | []=>by simp [hexs]
 | b::l=>by
  rw [hexs_cons]
  have:=(hex_ten (b / 16)).1
  have:=(hex_ten (b % 16)).1
  have:=hexs_ten l
  simp only [List.mem_cons,not_or]
  exact⟨fun h=>by omega,fun h=>by omega,this⟩
theorem dnum_ten (n:Int):10 ∉ Jr.dnum n:=by
 intro h
 unfold Jr.dnum Jr.sgn at h
 rcases List.mem_append.1 h with h|h
 ·split at h<;>simp at h
 ·have:=Jr.dcs_isd _ 10 h
  simp [Jr.isd] at this
theorem txt_ten (k:Int) (c:C):10 ∉ bl (txt k c):=by
 unfold txt
 repeat' split
 ·decide
 ·decide
 ·decide
 ·rw [itS_dnum];exact dnum_ten _
 ·rw [bl_str _ (Utf.tidy_byte _ (bl_byte _))]
  unfold Utf.tidy
  have:=esc_ten (bl c.s)
  simp [this]
 ·rw [bl_str _ (fun x hx=>by
   simp only [List.mem_cons] at hx
   rcases hx with rfl|hx
   ·omega
   ·exact hexs_byte (bl_byte c.s) x hx)]
  have:=hexs_ten (bl c.s)
  simp [this]
theorem line_words {c:Co} {y:Bool} (hc:Col c) {a b d t:List Nat} (ha:32 ∉ a) (hb:32 ∉ b) (hd:32 ∉ d):line c y=a++32::(b++32::(d++32::(t++[10])))↔Jr.dnum c.id=a∧bl c.nm=b∧typ c.u c.k y=d∧bl (txt c.k c.d)=t:=by
 constructor
 ·intro e
  unfold line at e
  obtain⟨e1,e⟩:=cut_eq (fun h=>by have:=dnum_dig hc.id0 _ h;omega) ha e
  obtain⟨e2,e⟩:=cut_eq (fun h=>by have:=name_all hc.nm _ h;omega) hb e
  obtain⟨e3,e⟩:=cut_eq (fun h=>(typ_all _ _ _ _ h).1 rfl) hd e
  exact⟨e1,e2,e3,List.append_cancel_right e⟩
 ·rintro ⟨rfl,rfl,rfl,rfl⟩;rfl
theorem line_inj {c c':Co} {y y':Bool} (hc:Col c) (hc':Col c') (e:line c y=line c' y'):c=c'∧y=y':=by
 have h:=(line_words hc (a:=Jr.dnum c'.id) (b:=bl c'.nm) (d:=typ c'.u c'.k y') (t:=bl (txt c'.k c'.d)) (fun h=>by have:=dnum_dig hc'.id0 _ h;omega) (fun h=>by have:=name_all hc'.nm _ h;omega) (fun h=>(typ_all _ _ _ _ h).1 rfl)).1 e
 obtain⟨h1,h2,h3,h4⟩:=h
 obtain⟨u1,u2,u3⟩:=typ_inj hc.may.1 hc'.may.1 h3
 have i0:=hc.id0;have i1:=hc.id1;have j0:=hc'.id0;have j1:=hc'.id1
 rw [← itS_dnum,← itS_dnum] at h1
 have e1:=itS_inj (n:=c.id) (m:=c'.id) (by omega) (by omega) (bl_inj h1)
 have e2:=bl_inj h2
 have m1:=hc.may
 have m2:=hc'.may
 rw [← u1,← u2] at m2
 rw [← u2] at h4
 have e4:=txt_of_inj m1.1 m1.2 m2.2 hc.n64 hc'.n64 (bl_inj h4)
 obtain⟨a1,a2,a3,a4,a5⟩:=c
 obtain⟨b1,b2,b3,b4,b5⟩:=c'
 simp only at e1 e2 e4 u1 u2
 subst e1 e2 e4 u1 u2
 exact⟨rfl,u3⟩
def pre (c:Co) (y:Bool):List Nat:=Jr.dnum c.id++32::(bl c.nm++32::(typ c.u c.k y++32::bl (txt c.k c.d)))
theorem line_pre (c:Co) (y:Bool):line c y=pre c y++[10]:=by unfold line pre;simp
theorem pre_ten {c:Co} {y:Bool} (hc:Col c):10 ∉ pre c y:=by
 unfold pre
 intro h
 simp only [List.mem_append,List.mem_cons] at h
 rcases h with h|h|h|h|h|h|h
 ·have:=dnum_dig hc.id0 _ h;omega
 ·omega
 ·have:=name_all hc.nm _ h;omega
 ·omega
 ·exact (typ_all _ _ _ _ h).2 rfl
 ·omega
 ·exact txt_ten _ _ h
def ll:List Nat→Nat
 | []=>0
 | c::t=>if c=10 then 1 else ll t+1
theorem ll_le:∀ t:List Nat,ll t≤t.length
 | []=>Nat.le_refl _
 | c::t=>by have:=ll_le t;unfold ll;split<;>simp;omega
theorem ll_pos {t:List Nat} (h:t≠[]):1≤ll t:=by
 cases t with
 | nil=>exact absurd rfl h
 | cons c t=>unfold ll;split<;>omega
theorem ll_of:∀ {a x:List Nat},10 ∉ a→ll (a++10::x)=a.length+1
 | [],x,_=>by simp [ll]
 | b::a,x,h=>by
  have hb:¬ b=10:=fun e=>h (by rw [e];simp)
  have:=ll_of (a:=a) (x:=x) (fun hm=>h (List.mem_cons_of_mem _ hm))
  rw [List.cons_append]
  unfold ll
  rw [if_neg hb,this];simp
theorem ll_none:∀ {a:List Nat},10 ∉ a→ll a=a.length
 | [],_=>rfl
 | b::a,h=>by
  have hb:¬ b=10:=fun e=>h (by rw [e];simp)
  unfold ll
  rw [if_neg hb,ll_none (a:=a) (fun hm=>h (List.mem_cons_of_mem _ hm))];rfl
def ln (t:List Nat):List Nat:=t.take (ll t)
def behind (t:List Nat):List Nat:=t.drop (ll t)
theorem ln_behind (t:List Nat):ln t++behind t=t:=List.take_append_drop _ _
theorem behind_lt {t:List Nat} (h:t≠[]):(behind t).length < t.length:=by
 have:=ll_pos h
 have:0 < t.length:=List.length_pos_iff.2 h
 unfold behind
 rw [List.length_drop];omega
theorem ln_of {a x:List Nat} (h:10 ∉ a):ln (a++10::x)=a++[10]∧behind (a++10::x)=x:=by
 unfold ln behind
 rw [ll_of h,show a++10::x=(a++[10])++x by simp,show a.length+1=(a++[10]).length by simp]
 exact⟨List.take_left' rfl,List.drop_left' rfl⟩
theorem ln_none {a:List Nat} (h:10 ∉ a):ln a=a∧behind a=[]:=by
 unfold ln behind
 rw [ll_none h];simp
def Is (t:List Nat) (c:Co) (y:Bool):Prop:=Col c∧t=line c y
open Classical in
noncomputable def rd (t:List Nat):Option (Co × Bool):=if h:∃ p:Co × Bool,Is t p.1 p.2 then some (Classical.choose h) else none
theorem rd_some {t:List Nat} {c:Co} {y:Bool} (h:Is t c y):rd t=some (c,y):=by
 unfold rd
 have hx:∃ p:Co × Bool,Is t p.1 p.2:=⟨(c,y),h⟩
 rw [dif_pos hx]
 have hs:=Classical.choose_spec hx
 obtain⟨e1,e2⟩:=line_inj hs.1 h.1 (hs.2.symm.trans h.2)
 exact congrArg some (Prod.ext e1 e2)
theorem rd_none {t:List Nat} (h:∀ c y,¬ Is t c y):rd t=none:=by
 unfold rd
 rw [dif_neg]
 rintro ⟨p,hp⟩
 exact h _ _ hp
theorem rd_is {t:List Nat} {c:Co} {y:Bool} (h:rd t=some (c,y)):Is t c y:=by
 unfold rd at h
 split at h
 ·next hx =>
  have hs:=Classical.choose_spec hx
  injection h with h
  rw [h] at hs;exact hs
 ·cases h
structure Ans where
 cs:List Co
 ks:List Int
 n:Nat
 e:Int
def fin (cs:List Co) (ks:List Int):Ans:=if ck cs ks=0 then ⟨cs,ks,0,0⟩ else ⟨[],[],0,2⟩
noncomputable def prs (t:List Nat) (n:Nat) (cs:List Co) (ks:List Int):Ans :=
 if h:t=[] then fin cs ks else
 match rd (ln t) with
 | none=>⟨[],[],n,4⟩
 | some (c,y)=>prs (behind t) (n+1) (cs++[c]) (if y=true then ks++[(n:Int)] else ks)
termination_by t.length
decreasing_by exact behind_lt h
noncomputable def parse (t:List Nat):Ans:=if 1048576 < t.length then ⟨[],[],0,5⟩ else prs t 0 [] []
theorem prs_nil (n:Nat) (cs:List Co) (ks:List Int):prs [] n cs ks=fin cs ks:=by rw [prs,dif_pos rfl]
theorem prs_none {t:List Nat} (h:t≠[]) (hr:rd (ln t)=none) (n:Nat) (cs:List Co) (ks:List Int):prs t n cs ks=⟨[],[],n,4⟩:=by rw [prs,dif_neg h,hr]
theorem prs_some {t:List Nat} (h:t≠[]) {c:Co} {y:Bool} (hr:rd (ln t)=some (c,y)) (n:Nat) (cs:List Co) (ks:List Int):prs t n cs ks=prs (behind t) (n+1) (cs++[c]) (if y=true then ks++[(n:Int)] else ks):=by rw [prs,dif_neg h,hr]
def textFrom (K:List Int):Nat→List Co→List Nat
 | _,[]=>[]
 | i,c::t=>line c (K.contains (i:Int))++textFrom K (i+1) t
def text (l:List Co) (K:List Int):List Nat:=textFrom K 0 l
def keysFrom (K:List Int):Nat→List Co→List Int
 | _,[]=>[]
 | i,c::t=>(if K.contains (i:Int)=true then [(i:Int)] else [])++keysFrom K (i+1) t
theorem textFrom_congr {K K':List Int}:∀ (l:List Co) (i:Nat),(∀ j:Nat,i≤j→j < i+l.length→K.contains (j:Int)=K'.contains (j:Int))→textFrom K i l=textFrom K' i l
 | [],i,_=>rfl
 | c::t,i,h=>by
  rw [textFrom,textFrom,h i (Nat.le_refl _) (by simp),textFrom_congr t (i+1) (fun j h1 h2=>h j (by omega) (by simp;omega))]
theorem prs_back:∀ (m:Nat) (t:List Nat),t.length≤m→∀ (n:Nat) (cs:List Co) (ks:List Int),(prs t n cs ks).e=0→∃ l Kl,(prs t n cs ks).cs=cs++l∧(prs t n cs ks).ks=ks++Kl∧(prs t n cs ks).n=0∧ck (cs++l) (ks++Kl)=0∧(∀ c∈l,Col c)∧(∀ k∈Kl,(n:Int)≤k∧k < ((n+l.length:Nat):Int))∧textFrom Kl n l=t:=by
 intro m
 induction m with
 | zero =>
  intro t ht n cs ks he
  obtain rfl:=List.eq_nil_of_length_eq_zero (Nat.le_zero.1 ht)
  rw [prs_nil] at he ⊢
  unfold fin at he ⊢
  split at he
  ·next h=>rw [if_pos h];exact⟨[],[],by simp,by simp,rfl,by simpa using h,by simp,by simp,rfl⟩
  ·cases he
 | succ m ih =>
  intro t ht n cs ks he
  by_cases h0:t=[]
  ·subst h0
   rw [prs_nil] at he ⊢
   unfold fin at he ⊢
   split at he
   ·next h=>rw [if_pos h];exact⟨[],[],by simp,by simp,rfl,by simpa using h,by simp,by simp,rfl⟩
   ·cases he
  ·cases hr:rd (ln t) with
   | none=>rw [prs_none h0 hr] at he;cases he
   | some p =>
    obtain⟨c,y⟩:=p
    have hi:=rd_is hr
    rw [prs_some h0 hr] at he ⊢
    have hlt:=behind_lt h0
    obtain⟨l,Kl,h1,h2,h3,h4,h5,h6,h7⟩:=ih (behind t) (by omega) (n+1) _ _ he
    refine⟨c::l,(if y=true then [(n:Int)] else [])++Kl,by rw [h1];simp,?_,h3,?_,?_,?_,?_⟩
    ·rw [h2];split<;>simp
    ·have e:(cs++[c])++l=cs++c::l:=by simp
     rw [e] at h4
     cases y<;>simpa using h4
    ·intro d hd
     rcases List.mem_cons.1 hd with rfl|hd
     ·exact hi.1
     ·exact h5 d hd
    ·intro k hk
     rcases List.mem_append.1 hk with hk|hk
     ·cases y<;>simp at hk
      subst hk;simp;omega
     ·have:=h6 k hk;simp at *;omega
    ·rw [textFrom]
     have hno:Kl.contains (n:Int)=false:=by
      rw [List.contains_eq_any_beq,List.any_eq_false]
      intro x hx
      have:=h6 x hx
      simp;omega
     have hy:((if y=true then [(n:Int)] else [])++Kl).contains (n:Int)=y:=by
      cases y
      ·simpa using hno
      ·simp
     rw [hy,textFrom_congr (K':=Kl) l (n+1) (fun j hj _=>by
      cases y
      ·simp
      ·have:((j:Int) == (n:Int))=false:=by simp;omega
       simp only [if_true,List.cons_append,List.nil_append,List.contains_cons,this,Bool.false_or]),h7,← hi.2]
     exact ln_behind t
theorem bl_at? (s:ByteArray) (k:Nat):(bl s)[k]?=(s.data.toList[k]?).map UInt8.toNat:=by unfold bl;rw [List.getElem?_map]
theorem ix1 (s:ByteArray) (c:UInt8):(Lib.indexB s ⟨#[c]⟩ = -1∧c.toNat ∉ bl s) ∨
 ∃ i:Nat,Lib.indexB s ⟨#[c]⟩=i∧i+1≤s.size∧c.toNat ∉ bl (s.extract 0 i)∧bl s=bl (s.extract 0 i)++c.toNat::bl (s.extract (i+1) s.size):=by
 have e:Lib.indexB s ⟨#[c]⟩=Lib.indexByte s.data.toList c:=Lib.index_one _ _
 rcases Lib.indexB_cases s ⟨#[c]⟩ with h|⟨i,h,hi⟩
 ·left
  refine⟨h,fun hm=>?_⟩
  rw [e] at h
  obtain⟨k,hk,hk2⟩:=List.getElem_of_mem hm
  have h1:(bl s)[k]?=some c.toNat:=by rw [List.getElem?_eq_getElem hk,hk2]
  rw [bl_at?] at h1
  cases hq:s.data.toList[k]? with
  | none=>rw [hq] at h1;cases h1
  | some b =>
   rw [hq] at h1
   have h2:b.toNat=c.toNat:=by simpa using h1
   exact Lib.indexByte_none h k (by rw [hq,UInt8.toNat_inj.1 h2])
 ·right
  have hi1:i+1≤s.size:=hi
  refine⟨i,h,hi1,?_,?_⟩
  ·rw [e] at h
   obtain⟨_,h2⟩:=Lib.indexByte_some h
   rw [bl_to]
   intro hm
   obtain⟨k,hk,hk2⟩:=List.getElem_of_mem hm
   have hki:k < i:=by rw [List.length_take] at hk;omega
   have h1:(bl s)[k]?=some c.toNat:=by
    rw [List.getElem_take] at hk2
    rw [List.getElem?_eq_getElem (by rw [bl_length];omega),hk2]
   rw [bl_at?] at h1
   cases hq:s.data.toList[k]? with
   | none=>rw [hq] at h1;cases h1
   | some b =>
    rw [hq] at h1
    have h3:b.toNat=c.toNat:=by simpa using h1
    exact h2 k hki (by rw [hq,UInt8.toNat_inj.1 h3])
  ·rw [e] at h
   obtain⟨h1,_⟩:=Lib.indexByte_some h
   have h2:(bl s)[i]?=some c.toNat:=by rw [bl_at?,h1];rfl
   obtain⟨hl,h3⟩:=List.getElem?_eq_some_iff.1 h2
   rw [bl_to,bl_from,← h3,← List.drop_eq_getElem_cons hl,List.take_append_drop]
theorem count_cut {a r:List Nat} (h:32 ∉ a):(a++32::r).count 32=r.count 32+1:=by
 rw [List.count_append,List.count_cons,List.count_eq_zero.2 h];simp
theorem count_none {a:List Nat} (h:32 ∉ a):a.count 32=0:=List.count_eq_zero.2 h
theorem split4 (s:ByteArray) (p:List ByteArray) (hp:Lib.splitB ⟨#[32]⟩ 0 (min 4 (s.size+1) - 1) s=p):(p.length < 4∧(bl s).count 32 < 3) ∨
 ∃ a b d t:ByteArray,p=[a,b,d,t]∧32 ∉ bl a∧32 ∉ bl b∧32 ∉ bl d∧bl s=bl a++32::(bl b++32::(bl d++32::bl t))∧a.size≤s.size∧b.size≤s.size∧d.size≤s.size∧t.size≤s.size:=by
 subst hp
 by_cases h3:s.size < 3
 ·left
  have h1:=Lib.splitB_length_le ⟨#[32]⟩ 0 (min 4 (s.size+1) - 1) s
  have h2:=List.count_le_length (a:=32) (l:=bl s)
  rw [bl_length] at h2
  exact⟨by omega,by omega⟩
 ·rw [show min 4 (s.size+1) - 1=3 by omega]
  rcases ix1 s 32 with ⟨h,hn⟩|⟨i,h,hi,ha,e1⟩
  ·left
   rw [Lib.splitB_miss _ _ _ _ h]
   have:=count_none (a:=bl s) hn
   exact⟨by simp,by omega⟩
  ·rw [Lib.splitB_hit _ _ _ _ _ h]
   have hz1:(⟨#[32]⟩:ByteArray).size=1:=rfl
   rw [hz1,Nat.add_zero]
   generalize hs1:s.extract (i+1) s.size=s1 at *
   have l1:s1.size≤s.size:=by rw [← hs1,ByteArray.size_extract];omega
   have la:(s.extract 0 i).size≤s.size:=by rw [ByteArray.size_extract];omega
   have c1:(bl s).count 32=(bl s1).count 32+1:=by rw [e1];exact count_cut ha
   rcases ix1 s1 32 with ⟨h,hn⟩|⟨j,h,hj,hb,e2⟩
   ·left
    rw [Lib.splitB_miss _ _ _ _ h]
    have:=count_none (a:=bl s1) hn
    exact⟨by simp,by omega⟩
   ·rw [Lib.splitB_hit _ _ _ _ _ h,hz1,Nat.add_zero]
    generalize hs2:s1.extract (j+1) s1.size=s2 at *
    have l2:s2.size≤s1.size:=by rw [← hs2,ByteArray.size_extract];omega
    have lb:(s1.extract 0 j).size≤s1.size:=by rw [ByteArray.size_extract];omega
    have c2:(bl s1).count 32=(bl s2).count 32+1:=by rw [e2];exact count_cut hb
    rcases ix1 s2 32 with ⟨h,hn⟩|⟨k,h,hk,hd,e3⟩
    ·left
     rw [Lib.splitB_miss _ _ _ _ h]
     have:=count_none (a:=bl s2) hn
     exact⟨by simp,by omega⟩
    ·right
     rw [Lib.splitB_hit _ _ _ _ _ h,hz1,Nat.add_zero,Lib.splitB_zero]
     have l3:(s2.extract (k+1) s2.size).size≤s2.size:=by rw [ByteArray.size_extract];omega
     have ld:(s2.extract 0 k).size≤s2.size:=by rw [ByteArray.size_extract];omega
     exact⟨_,_,_,_,rfl,ha,hb,hd,by rw [e1,e2,e3];rfl,la,by omega,by omega,by omega⟩
theorem sfx1 (s:ByteArray) (c:UInt8):(Lib.hasSuffix s.data.toList [c]=true∧bl s=bl ⟨(Lib.trimSuffix s.data.toList [c]).toArray⟩++[c.toNat]) ∨
 (Lib.hasSuffix s.data.toList [c]=false∧(∀ r,bl s≠r++[c.toNat])∧(⟨(Lib.trimSuffix s.data.toList [c]).toArray⟩:ByteArray)=s):=by
 cases h:Lib.hasSuffix s.data.toList [c] with
 | true =>
  left
  refine⟨rfl,?_⟩
  unfold Lib.trimSuffix
  rw [if_pos h]
  unfold Lib.hasSuffix at h
  rw [List.isSuffixOf_iff_suffix] at h
  obtain⟨r,hr⟩:=h
  rw [bl_arr]
  unfold bl
  rw [← hr]
  simp
 | false =>
  right
  refine⟨rfl,fun r e=>?_,?_⟩
  ·have:Lib.hasSuffix s.data.toList [c]=true:=by
    unfold Lib.hasSuffix
    rw [List.isSuffixOf_iff_suffix]
    unfold bl at e
    obtain⟨x,y,e1,e2,e3⟩:=List.map_eq_append_iff.1 e
    refine⟨x,?_⟩
    rw [e1]
    congr 1
    cases y with
    | nil=>cases e3
    | cons z y =>
     simp at e3
     rw [e3.2,UInt8.toNat_inj.1 e3.1]
   rw [h] at this;cases this
  ·unfold Lib.trimSuffix
   rw [if_neg (by rw [h];simp)]
def W:List ByteArray:=[⟨#[]⟩,⟨#[98,111,111,108]⟩,⟨#[105,110,116,51,50]⟩,⟨#[105,110,116,54,52]⟩,⟨#[115,116,114,105,110,103]⟩,⟨#[98,121,116,101,115]⟩]
def Wd (k:Int) (x:ByteArray):Prop:=(may k=true∧word k=bl x) ∨ (may k=false∧(k=0 ∨ k = -1)∧∀ k',may k'=true→word k'≠bl x)
theorem word_ne {k:Int} (h:may k=true):word k≠[]:=by
 obtain⟨a,b⟩:=may_le h
 rcases (show k=1 ∨ k=2 ∨ k=3 ∨ k=4 ∨ k=5 by omega) with rfl|rfl|rfl|rfl|rfl<;>decide
theorem W_bl (k:Nat) (h:k < 6):bl (W.getD k ByteArray.empty)=word (k:Int):=by
 rcases (show k=0 ∨ k=1 ∨ k=2 ∨ k=3 ∨ k=4 ∨ k=5 by omega) with rfl|rfl|rfl|rfl|rfl|rfl<;>decide
theorem idxW (x:ByteArray):Wd (Lib.idxOfS (W.take 6) x) x:=by
 by_cases hx:∃ k,k < 6∧W.getD k ByteArray.empty=x
 ·obtain⟨k,hk,e⟩:=hx
  have hmin:∀ j,j < k→W.getD j ByteArray.empty≠x:=fun j hj e2=>by
   have h1:word (j:Int)=word (k:Int):=by rw [← W_bl j (by omega),← W_bl k hk,e,e2]
   revert h1
   rcases (show k=0 ∨ k=1 ∨ k=2 ∨ k=3 ∨ k=4 ∨ k=5 by omega) with rfl|rfl|rfl|rfl|rfl|rfl<;>rcases (show j=0 ∨ j=1 ∨ j=2 ∨ j=3 ∨ j=4 by omega) with rfl|rfl|rfl|rfl|rfl<;>first|omega|decide
  rw [Lib.idxOfS_hit W 6 k x hk (by decide) e hmin]
  have hb:=W_bl k hk
  rw [e] at hb
  by_cases h0:k=0
  ·subst h0
   right
   refine⟨by decide,.inl rfl,fun k' hk'=>?_⟩
   rw [hb]
   exact word_ne hk'
  ·left
   exact⟨by unfold may;simp;omega,hb.symm⟩
 ·rw [Lib.idxOfS_miss W 6 x (fun j hj e=>hx ⟨j,hj,e⟩)]
  right
  refine⟨by decide,.inr rfl,fun k' hk' e=>hx ⟨k'.toNat,?_,?_⟩⟩
  ·have:=may_le hk';omega
  ·have hm:=may_le hk'
   apply bl_inj
   rw [W_bl _ (by omega),← e]
   congr 1;omega
def Ty (t:List Nat) (u:Bool) (k:Int) (y:Bool):Prop:=(may k=true∧typ u k y=t) ∨ (may k=false∧∀ u' k' y',may k'=true→typ u' k' y'≠t)
theorem last_not {k:Int} (h:may k=true) (r:List Nat) (z:Nat) (hz:z=42 ∨ z=63):word k≠r++[z]:=by
 intro e
 have:=word_let k z (by rw [e];simp)
 omega
theorem Ty.of {t:List Nat} {y u:Bool} {t1:List Nat} {x:ByteArray} {k:Int} (h1:(y=true∧t=t1++[42]) ∨ (y=false∧(∀ r,t≠r++[42])∧t1=t)) (h2:(u=true∧t1=bl x++[63]) ∨ (u=false∧(∀ r,t1≠r++[63])∧bl x=t1)) (hk:Wd k x):Ty t u k y:=by
 rcases hk with ⟨k1,k2⟩|⟨k1,k2,k3⟩
 ·left
  refine⟨k1,?_⟩
  unfold typ
  rcases h1 with ⟨rfl,rfl⟩|⟨rfl,_,rfl⟩<;>rcases h2 with ⟨rfl,h2⟩|⟨rfl,_,h2⟩
  ·simp [k2,h2]
  ·simp [k2,h2]
  ·rw [h2];simp [k2]
  ·simp [k2,h2]
 ·right
  refine⟨k1,fun u' k' y' hk' e=>?_⟩
  have hw:=k3 k' hk'
  have hy:word k'++(if u'=true then [63] else [])=t1:=by
   unfold typ at e
   cases y' with
   | true =>
    rcases h1 with ⟨rfl,h1⟩|⟨rfl,h1,_⟩
    ·rw [h1,← List.append_assoc] at e
     exact List.append_cancel_right e
    ·exact absurd (by rw [← e,← List.append_assoc];rfl) (h1 (word k'++(if u'=true then [63] else [])))
   | false =>
    simp only [Bool.false_eq_true,if_false,List.append_nil] at e
    rcases h1 with ⟨rfl,h1⟩|⟨rfl,_,h1⟩
    ·rw [h1] at e
     cases u' with
     | true =>
      have:=List.append_inj_right' (s₁:=word k') (t₁:=[63]) (s₂:=t1) (t₂:=[42]) e rfl
      cases this
     | false =>
      simp only [Bool.false_eq_true,if_false,List.append_nil] at e
      exact absurd e (last_not hk' _ 42 (.inl rfl))
    ·rw [h1];exact e
  cases u' with
  | true =>
   rcases h2 with ⟨rfl,h2⟩|⟨rfl,h2,_⟩
   ·rw [h2] at hy
    exact hw (List.append_cancel_right hy)
   ·exact h2 _ hy.symm
  | false =>
   simp only [Bool.false_eq_true,if_false,List.append_nil] at hy
   rcases h2 with ⟨rfl,h2⟩|⟨rfl,_,h2⟩
   ·rw [h2] at hy
    exact absurd hy (last_not hk' _ 63 (.inr rfl))
   ·exact hw (by rw [hy,h2])
def Idw (t:List Nat) (n:Int) (ok:Bool):Prop:=(ok=true∧0≤n∧n≤1048576∧Jr.dnum n=t) ∨ (ok=false∧∀ m:Int,0≤m→m≤1048576→Jr.dnum m≠t)
theorem line_count (c:Co) (y:Bool):3≤(line c y).count 32:=by
 unfold line
 simp only [List.count_append,List.count_cons]
 simp;omega
theorem line_last (c:Co) (y:Bool):∃ r,line c y=r++[10]:=⟨_,line_pre c y⟩
theorem not_last {t:List Nat} (h:∀ r,t≠r++[10]):∀ c y,¬ Is t c y:=fun c y hi=>by
 obtain⟨r,hr⟩:=line_last c y
 exact h r (hi.2.trans hr)
theorem not_few {t:List Nat} (h:t.count 32 < 3):∀ c y,¬ Is (t++[10]) c y:=fun c y hi=>by
 have:=line_count c y
 rw [← hi.2,List.count_append] at this
 simp at this
 omega
theorem is_words {a b d t:List Nat} (ha:32 ∉ a) (hb:32 ∉ b) (hd:32 ∉ d) {c:Co} {y:Bool}:Is (a++32::(b++32::(d++32::t))++[10]) c y↔Col c∧Jr.dnum c.id=a∧bl c.nm=b∧typ c.u c.k y=d∧bl (txt c.k c.d)=t:=by
 have e:a++32::(b++32::(d++32::t))++[10]=a++32::(b++32::(d++32::(t++[10]))):=by simp
 constructor
 ·rintro ⟨h1,h2⟩
  rw [e] at h2
  exact⟨h1,(line_words h1 ha hb hd).1 h2.symm⟩
 ·rintro ⟨h1,h2⟩
  rw [e]
  exact⟨h1,((line_words h1 ha hb hd).2 h2).symm⟩
theorem is_of {a b d:List Nat} {t:ByteArray} (ha:32 ∉ a) (hb:32 ∉ b) (hd:32 ∉ d) {n:Int} {ok:Bool} (hn:Idw a n ok) {u:Bool} {k:Int} {y:Bool} (hy:Ty d u k y) {c:C} {e:Nat} (hr:Rdd u k t c e) (hi:I64 c.n) (nm:ByteArray) (hm:bl nm=b) :
 (ok=true∧name b=true∧e=0∧Is (a++32::(b++32::(d++32::bl t))++[10]) ⟨n,nm,k,u,c⟩ y) ∨ (¬ (ok=true∧name b=true∧e=0)∧∀ c' y',¬ Is (a++32::(b++32::(d++32::bl t))++[10]) c' y'):=by
 by_cases h:ok=true∧name b=true∧e=0
 ·left
  obtain⟨h1,h2,h3⟩:=h
  refine⟨h1,h2,h3,(is_words ha hb hd).2 ?_⟩
  rcases hn with ⟨_,n1,n2,n3⟩|⟨n1,_⟩
  ·rcases hr with ⟨r1,_⟩|⟨r1,r2,r3,r4,r5⟩|⟨_,r2,_⟩
   ·omega
   ·rcases hy with ⟨y1,y2⟩|⟨y1,_⟩
    ·refine⟨⟨n1,n2,by rw [hm];exact h2,?_,r4⟩,n3,hm,y2,by rw [r5]⟩
     show chk u k c=0
     unfold chk
     rw [r1,r3];rfl
    ·rw [r1] at y1;cases y1
   ·omega
  ·rw [h1] at n1;cases n1
 ·right
  refine⟨h,fun c' y' hc=>?_⟩
  obtain⟨h1,h2,h3,h4,h5⟩:=(is_words ha hb hd).1 hc
  have hk:=h1.may
  rcases hn with ⟨n0,n1,n2,n3⟩|⟨_,n1⟩
  ·refine h ⟨n0,by rw [← h3];exact h1.nm,?_⟩
   rcases hy with ⟨y1,y2⟩|⟨_,y2⟩
   ·obtain⟨u1,u2,u3⟩:=typ_inj y1 hk.1 (y2.trans h4.symm)
    rcases hr with ⟨_,r1,_⟩|⟨_,r2,_⟩|⟨_,_,_,r4⟩
    ·rw [y1] at r1;cases r1
    ·exact r2
    ·refine absurd ?_ (r4 c'.d (by rw [u1,u2];exact hk.2) h1.n64)
     rw [u2];exact bl_inj h5
   ·exact absurd h4 (y2 _ _ _ hk.1)
  ·exact absurd h2 (n1 _ h1.id0 h1.id1)
def lns (t:List Nat) (n:Nat):List (Nat × List Nat):=if h:t=[] then [] else (n,ln t)::lns (behind t) (n+1)
termination_by t.length
decreasing_by exact behind_lt h
theorem lns_nil (n:Nat):lns [] n=[]:=by rw [lns,dif_pos rfl]
theorem lns_cons {t:List Nat} (h:t≠[]) (n:Nat):lns t n=(n,ln t)::lns (behind t) (n+1):=by rw [lns,dif_neg h]
theorem lns_len:∀ (m:Nat) (t:List Nat),t.length≤m→∀ n,(lns t n).length≤t.length:=by
 intro m
 induction m with
 | zero =>
  intro t ht n
  obtain rfl:=List.eq_nil_of_length_eq_zero (Nat.le_zero.1 ht)
  rw [lns_nil];exact Nat.le_refl _
 | succ m ih =>
  intro t ht n
  by_cases h:t=[]
  ·subst h;rw [lns_nil];exact Nat.le_refl _
  ·have hlt:=behind_lt h
   have:=ih (behind t) (by omega) (n+1)
   rw [lns_cons h,List.length_cons];omega
noncomputable def acc:List (Nat × List Nat)→List Co × List Int→Option (List Co × List Int)
 | [],s=>some s
 | x::r,s=>match rd x.2 with
  | none=>none
  | some p=>acc r (s.1++[p.1],if p.2=true then s.2++[(x.1:Int)] else s.2)
theorem acc_append:∀ (p r:List (Nat × List Nat)) (s:List Co × List Int),acc (p++r) s=(acc p s).bind (acc r)
 | [],r,s=>rfl
 | x::p,r,s=>by
  rw [List.cons_append,acc,acc]
  cases rd x.2 with
  | none=>rfl
  | some q=>exact acc_append p r _
theorem acc_snoc {p:List (Nat × List Nat)} {x:Nat × List Nat} {s q:List Co × List Int} {c:Co} {y:Bool} (h:acc p s=some q) (hx:rd x.2=some (c,y)):acc (p++[x]) s=some (q.1++[c],if y=true then q.2++[(x.1:Int)] else q.2):=by
 rw [acc_append,h]
 show acc [x] q=_
 rw [acc,hx];rfl
theorem prs_done:∀ (m:Nat) (t:List Nat),t.length≤m→∀ (n:Nat) (cs:List Co) (ks:List Int) (q:List Co × List Int),acc (lns t n) (cs,ks)=some q→prs t n cs ks=fin q.1 q.2:=by
 intro m
 induction m with
 | zero =>
  intro t ht n cs ks q h
  obtain rfl:=List.eq_nil_of_length_eq_zero (Nat.le_zero.1 ht)
  rw [lns_nil] at h
  injection h with h;subst h
  exact prs_nil _ _ _
 | succ m ih =>
  intro t ht n cs ks q h
  by_cases h0:t=[]
  ·subst h0
   rw [lns_nil] at h
   injection h with h;subst h
   exact prs_nil _ _ _
  ·rw [lns_cons h0,acc] at h
   cases hr:rd (ln t) with
   | none=>simp only [hr] at h;cases h
   | some p =>
    simp only [hr] at h
    have hlt:=behind_lt h0
    rw [prs_some h0 (c:=p.1) (y:=p.2) hr]
    exact ih (behind t) (by omega) (n+1) _ _ q h
theorem prs_stop:∀ (m:Nat) (t:List Nat),t.length≤m→∀ (n:Nat) (cs:List Co) (ks:List Int) (p r:List (Nat × List Nat)) (x:Nat × List Nat) (q:List Co × List Int),lns t n=p++x::r→acc p (cs,ks)=some q→rd x.2=none→prs t n cs ks=⟨[],[],x.1,4⟩:=by
 intro m
 induction m with
 | zero =>
  intro t ht n cs ks p r x q h
  obtain rfl:=List.eq_nil_of_length_eq_zero (Nat.le_zero.1 ht)
  rw [lns_nil] at h
  have:=congrArg List.length h
  simp at this
 | succ m ih =>
  intro t ht n cs ks p r x q h ha hx
  by_cases h0:t=[]
  ·subst h0
   rw [lns_nil] at h
   have:=congrArg List.length h
   simp at this
  ·rw [lns_cons h0] at h
   have hlt:=behind_lt h0
   cases p with
   | nil =>
    simp only [List.nil_append,List.cons.injEq] at h
    rw [← h.1] at hx ⊢
    exact prs_none h0 hx _ _ _
   | cons z p =>
    simp only [List.cons_append,List.cons.injEq] at h
    rw [← h.1,acc] at ha
    cases hr:rd (ln t) with
    | none=>simp only [hr] at ha;cases ha
    | some w =>
     simp only [hr] at ha
     rw [prs_some h0 (c:=w.1) (y:=w.2) hr]
     exact ih (behind t) (by omega) (n+1) _ _ p r x q h.2 ha hx
theorem behind_none {t:List Nat} (h:10 ∉ t):behind t=[]:=(ln_none h).2
theorem cut10 (s:ByteArray):bl ⟨(Lib.cut s.data.toList [10]).2.1.toArray⟩=behind (bl s)∧(⟨(Lib.cut s.data.toList [10]).2.1.toArray⟩:ByteArray).size≤s.size:=by
 rcases ix1 s 10 with ⟨h,hn⟩|⟨i,h,hi,ha,e⟩
 ·have:=(Lib.cutB_miss s ⟨#[10]⟩ h).2.1
  rw [this,behind_none hn]
  exact⟨rfl,Nat.zero_le _⟩
 ·have h2:=(Lib.cutB_hit s ⟨#[10]⟩ i h).2.1
  rw [h2]
  have e2:s.extract (i+(⟨#[10]⟩:ByteArray).size) s.size=s.extract (i+1) s.size:=rfl
  rw [e2]
  refine⟨?_,by rw [ByteArray.size_extract];omega⟩
  have:=(ln_of (x:=bl (s.extract (i+1) s.size)) ha).2
  rw [e]
  exact this.symm
theorem ln_cut (s x:ByteArray) (h:bl x=behind (bl s)):bl (s.extract 0 (s.size - x.size))=ln (bl s):=by
 rw [bl_to]
 unfold ln
 have h1:=congrArg List.length h
 have h2:=ll_le (bl s)
 unfold behind at h1
 rw [bl_length,List.length_drop,bl_length] at h1
 rw [bl_length] at h2
 rw [h1]
 congr 1;omega
theorem dn (u:Nat) (h:u < 10):Jr.dnum (u:Int)=[48+u]:=by
 unfold Jr.dnum Jr.sgn
 rw [if_neg (by simp),show ((u:Int)).natAbs=u from rfl,Jr.dcs_small h];rfl
theorem bl_its (u:Nat) (h:u < 10):bl (itS (u:Int))=[48+u]:=by rw [itS_dnum,dn u h]
theorem parse_of {t:List Nat} {a:Ans} (hl:t.length≤1048576) (h:prs t 0 [] []=a):parse t=a:=by
 unfold parse;rw [if_neg (by omega)];exact h
theorem prs_line {c:Co} {y:Bool} {p x:List Nat} (hp:pre c y=p) (hc:Col c) (n:Nat) (cs:List Co) (ks:List Int):prs (p++10::x) n cs ks=prs x (n+1) (cs++[c]) (if y=true then ks++[(n:Int)] else ks):=by
 subst hp
 obtain⟨e1,e2⟩:=ln_of (x:=x) (pre_ten (y:=y) hc)
 rw [prs_some (by simp) (c:=c) (y:=y) (by rw [e1];exact rd_some ⟨hc,(line_pre _ _).symm⟩),e2]
theorem prs_bad {p x:List Nat} (hp:10 ∉ p) (h:∀ c y,¬ Is (p++[10]) c y) (n:Nat) (cs:List Co) (ks:List Int):prs (p++10::x) n cs ks=⟨[],[],n,4⟩:=by
 obtain⟨e1,e2⟩:=ln_of (x:=x) hp
 exact prs_none (by simp) (by rw [e1];exact rd_none h) _ _ _
def c1:Co:=⟨1,⟨#[105,100]⟩,3,false,⟨false,0,⟨#[]⟩⟩⟩
def c3:Co:=⟨3,⟨#[110,97,109,101]⟩,4,true,⟨true,0,⟨#[]⟩⟩⟩
def cA (n:Int) (b:Nat):Co:=⟨n,⟨#[b.toUInt8]⟩,1,false,⟨false,0,⟨#[]⟩⟩⟩
def cI:Co:=⟨1,⟨#[97]⟩,2,true,⟨false,0,⟨#[]⟩⟩⟩
theorem col1:Col c1:=⟨by decide,by decide,by decide,by decide +kernel,by constructor<;>decide⟩
theorem col3:Col c3:=⟨by decide,by decide,by decide,by decide +kernel,by constructor<;>decide⟩
theorem colI:Col cI:=⟨by decide,by decide,by decide,by decide +kernel,by constructor<;>decide⟩
theorem colA1:Col (cA 1 97):=⟨by decide,by decide,by decide,by decide +kernel,by constructor<;>decide⟩
theorem colA2:Col (cA 2 97):=⟨by decide,by decide,by decide,by decide +kernel,by constructor<;>decide⟩
theorem colB1:Col (cA 1 98):=⟨by decide,by decide,by decide,by decide +kernel,by constructor<;>decide⟩
theorem pre1:pre c1 true=[49,32,105,100,32,105,110,116,54,52,42,32,48]:=by
 show Jr.dnum ((1:Nat):Int)++32::([105,100]++32::([105,110,116,54,52,42]++32::bl (itS ((0:Nat):Int))))=_
 rw [dn 1 (by decide),bl_its 0 (by decide)];rfl
theorem pre3:pre c3 false=[51,32,110,97,109,101,32,115,116,114,105,110,103,63,32,110,117,108,108]:=by
 show Jr.dnum ((3:Nat):Int)++32::([110,97,109,101]++32::([115,116,114,105,110,103,63]++32::[110,117,108,108]))=_
 rw [dn 3 (by decide)];rfl
theorem preI:pre cI true=[49,32,97,32,105,110,116,51,50,63,42,32,48]:=by
 show Jr.dnum ((1:Nat):Int)++32::([97]++32::([105,110,116,51,50,63,42]++32::bl (itS ((0:Nat):Int))))=_
 rw [dn 1 (by decide),bl_its 0 (by decide)];rfl
theorem preA (n b:Nat) (hn:n < 10) (hb:b < 256):pre (cA n b) false=[48+n,32,b,32,98,111,111,108,32,102,97,108,115,101]:=by
 show Jr.dnum ((n:Nat):Int)++32::([(b.toUInt8).toNat]++32::([98,111,111,108]++32::[102,97,108,115,101]))=_
 rw [dn n hn,show (b.toUInt8).toNat=b by simp;omega];rfl
abbrev x0:ByteArray:=⟨#[49,32,105,100,32,105,110,116,54,52,42,32,48,10,51,32,110,97,109,101,32,115,116,114,105,110,103,63,32,110,117,108,108,10]⟩
theorem p0:parse (bl x0)=⟨[c1,c3],[0],0,0⟩:=by
 refine parse_of (by decide) ?_
 show prs ([49,32,105,100,32,105,110,116,54,52,42,32,48]++10::([51,32,110,97,109,101,32,115,116,114,105,110,103,63,32,110,117,108,108]++10::[])) 0 [] []=_
 rw [prs_line pre1 col1,prs_line pre3 col3,prs_nil]
 show fin [c1,c3] [0]=_
 unfold fin
 rw [if_pos (by decide +kernel)]
abbrev x1:ByteArray:=⟨#[49,32,105,100,32,105,110,116,54,52,42,32,48]⟩
theorem p1:parse (bl x1)=⟨[],[],0,4⟩:=by
 refine parse_of (by decide) ?_
 have h:(10:Nat) ∉ bl x1:=by decide
 refine prs_none (by decide) ?_ _ _ _
 rw [(ln_none h).1]
 exact rd_none (not_last (fun r e=>h (by rw [e];simp)))
abbrev x2:ByteArray:=⟨#[49,32,32,105,100,32,105,110,116,54,52,42,32,48,10]⟩
theorem p2:parse (bl x2)=⟨[],[],0,4⟩:=by
 refine parse_of (by decide) ?_
 show prs ([49,32,32,105,100,32,105,110,116,54,52,42,32,48]++10::[]) 0 [] []=_
 refine prs_bad (by decide) (fun c y hi=>?_) _ _ _
 have hi:Is ([49]++32::([]++32::([105,100]++32::[105,110,116,54,52,42,32,48]))++[10]) c y:=hi
 obtain⟨h1,_,h2,_⟩:=(is_words (by decide) (by decide) (by decide)).1 hi
 have:=h1.nm
 rw [h2] at this
 revert this;decide
abbrev x3:ByteArray:=⟨#[50,32,97,32,98,111,111,108,32,102,97,108,115,101,10,49,32,98,32,98,111,111,108,32,102,97,108,115,101,10]⟩
theorem p3:parse (bl x3)=⟨[],[],0,2⟩:=by
 refine parse_of (by decide) ?_
 show prs ([48+2,32,97,32,98,111,111,108,32,102,97,108,115,101]++10::([48+1,32,98,32,98,111,111,108,32,102,97,108,115,101]++10::[])) 0 [] []=_
 rw [prs_line (preA 2 97 (by decide) (by decide)) colA2,prs_line (preA 1 98 (by decide) (by decide)) colB1,prs_nil]
 show fin [cA 2 97,cA 1 98] []=_
 unfold fin
 rw [if_neg (by decide +kernel)]
abbrev x4:ByteArray:=⟨#[]⟩
theorem p4:parse (bl x4)=⟨[],[],0,2⟩:=by
 refine parse_of (by decide) ?_
 show prs [] 0 [] []=_
 rw [prs_nil]
 unfold fin
 rw [if_neg (by decide +kernel)]
abbrev x5:ByteArray:=⟨#[49,32,97,32,98,111,111,108,32,102,97,108,115,101,10,50,32,98,32,105,110,116,51,50,32,50,49,52,55,52,56,51,54,52,56,10]⟩
theorem p5:parse (bl x5)=⟨[],[],1,4⟩:=by
 refine parse_of (by decide) ?_
 show prs ([48+1,32,97,32,98,111,111,108,32,102,97,108,115,101]++10::([50,32,98,32,105,110,116,51,50,32,50,49,52,55,52,56,51,54,52,56]++10::[])) 0 [] []=_
 rw [prs_line (preA 1 97 (by decide) (by decide)) colA1]
 refine prs_bad (by decide) (fun c y hi=>?_) _ _ _
 have hi:Is ([50]++32::([98]++32::([105,110,116,51,50]++32::bl ⟨#[50,49,52,55,52,56,51,54,52,56]⟩))++[10]) c y:=hi
 obtain⟨h1,_,_,h3,h4⟩:=(is_words (by decide) (by decide) (by decide)).1 hi
 obtain⟨u1,u2,u3⟩:=typ_inj h1.may.1 (show may 2=true by decide) (h3.trans (show _=typ false 2 false by decide))
 have hm:=h1.may.2
 rw [u1,u2] at hm
 rw [u2] at h4
 have h5:=bl_inj h4
 rcases of_parts hm with ⟨_,h,_⟩|⟨h6,h7⟩
 ·cases h
 ·have h8:txt 2 c.d=itS c.d.n:=by unfold txt;rw [h6];rfl
  rw [h8] at h5
  have h9:=parse_itS c.d.n h1.n64.1 h1.n64.2
  rw [h5] at h9
  have h10:Lib.parseIntB 64 (⟨#[50,49,52,55,52,56,51,54,52,56]⟩:ByteArray).data.toList=.ok 2147483648:=by decide +kernel
  rw [h10] at h9
  injection h9 with h9
  unfold isK at h7
  simp [h6] at h7
  omega
abbrev x6:ByteArray:=⟨#[49,32,97,32,105,110,116,51,50,63,42,32,48,10]⟩
theorem p6:parse (bl x6)=⟨[],[],0,2⟩:=by
 refine parse_of (by decide) ?_
 show prs ([49,32,97,32,105,110,116,51,50,63,42,32,48]++10::[]) 0 [] []=_
 rw [prs_line preI colI,prs_nil]
 show fin [cI] [0]=_
 unfold fin
 rw [if_neg (by decide +kernel)]
abbrev x7:ByteArray:=⟨#[48,49,32,97,32,98,111,111,108,32,102,97,108,115,101,10]⟩
theorem p7:parse (bl x7)=⟨[],[],0,4⟩:=by
 refine parse_of (by decide) ?_
 show prs ([48,49,32,97,32,98,111,111,108,32,102,97,108,115,101]++10::[]) 0 [] []=_
 refine prs_bad (by decide) (fun c y hi=>?_) _ _ _
 have hi:Is ([48,49]++32::([97]++32::([98,111,111,108]++32::[102,97,108,115,101]))++[10]) c y:=hi
 obtain⟨h1,h2,_⟩:=(is_words (by decide) (by decide) (by decide)).1 hi
 have h3:itS c.id=⟨#[48,49]⟩:=bl_inj (by rw [itS_dnum,h2];rfl)
 have i0:=h1.id0
 have i1:=h1.id1
 have h4:=parse_itS c.id (by omega) (by omega)
 rw [h3] at h4
 have h5:Lib.parseIntB 64 (⟨#[48,49]⟩:ByteArray).data.toList=.ok 1:=by decide +kernel
 rw [h5] at h4
 injection h4 with h4
 rw [← h4] at h2
 have h6:=dn 1 (by decide)
 rw [show ((1:Nat):Int)=1 from rfl,h2] at h6
 cases h6
end Go.Proofs.YtenfjmdajlhfoabGreatDoor.Sc
namespace Go.Proofs.YtenfjmdajlhfoabGreatDoor
open Go.RowKit Go.Sort
set_option linter.unusedVariables false
set_option linter.unusedSimpArgs false
set_option maxRecDepth 100000
def kov (c:Co):Value:=.agg #[.int .i64 c.id,.string c.nm,.int .i64 c.k,.bool c.u,.bool c.d.u,.int .i64 c.d.n,.string c.d.s]
structure KOk (c:Co):Prop where
 id:Cl.I64 c.id
 k:Cl.I64 c.k
 nm:c.nm.size≤1000000
 n:Cl.I64 c.d.n
 s:c.d.s.size≤1000000
theorem rdK_cells {W w:World} {B n c:Nat} {ad:Option Addr} {l:List Co} (h:RdK W B (.slice ad n c) l) (hb:Below B W w) {i:Nat} {x:Co} (hi:l[i]?=some x) :
 ∃ b off,ad=some ⟨b,off,none⟩∧w.cell? ⟨b,off+i * 7,none⟩=some (.int .i64 x.id)∧w.cell? ⟨b,off+i * 7+1,none⟩=some (.string x.nm)∧w.cell? ⟨b,off+i * 7+2,none⟩=some (.int .i64 x.k)∧w.cell? ⟨b,off+i * 7+3,none⟩=some (.bool x.u)∧w.cell? ⟨b,off+i * 7+4,none⟩=some (.bool x.d.u)∧w.cell? ⟨b,off+i * 7+5,none⟩=some (.int .i64 x.d.n)∧w.cell? ⟨b,off+i * 7+6,none⟩=some (.string x.d.s):=by
 obtain⟨hl,e⟩:=List.getElem?_eq_some_iff.1 hi
 obtain⟨b,off,rfl,_,hc⟩:=Gn.Rd.at h hb hl
 rw [e] at hc
 exact⟨b,off,rfl,hc 0 _ rfl,hc 1 _ rfl,hc 2 _ rfl,hc 3 _ rfl,hc 4 _ rfl,hc 5 _ rfl,hc 6 _ rfl⟩
theorem cIsLetter (n:Nat) (w:World) (b:Bool) (hb:Sc.isl n=b):Calls Tryz.prog 111 #[.int .u8 (n:Nat)] w fun e w'=>e=.returned (.bool b)∧w=w':=by
 unfold Sc.isl at hb
 by_cases h1:97≤n
 ·have g1:(97:Int)≤n:=by omega
  by_cases h2:n≤122
  ·have g2:(n:Int)≤122:=by omega
   obtain rfl:b=true:=by rw [← hb];simp;omega
   clear hb
   go_enter Tryz.func111,Tryz.ntmps111
   go_wp2
   go_ret
   exact⟨rfl,rfl⟩
  ·have g2:¬ (n:Int)≤122:=by omega
   obtain rfl:b=false:=by rw [← hb];simp;omega
   clear hb
   go_enter Tryz.func111,Tryz.ntmps111
   go_wp2
   go_ret
   exact⟨rfl,rfl⟩
 ·have g1:¬ (97:Int)≤n:=by omega
  obtain rfl:b=false:=by rw [← hb];simp;omega
  clear hb
  go_enter Tryz.func111,Tryz.ntmps111
  go_wp2
  go_ret
  exact⟨rfl,rfl⟩
theorem cIsDigit (n:Nat) (w:World) (b:Bool) (hb:decide (48≤n∧n≤57)=b):Calls Tryz.prog 112 #[.int .u8 (n:Nat)] w fun e w'=>e=.returned (.bool b)∧w=w':=by
 by_cases h1:48≤n
 ·have g1:(48:Int)≤n:=by omega
  by_cases h2:n≤57
  ·have g2:(n:Int)≤57:=by omega
   obtain rfl:b=true:=by rw [← hb];simp;omega
   clear hb
   go_enter Tryz.func112,Tryz.ntmps112
   go_wp2
   go_ret
   exact⟨rfl,rfl⟩
  ·have g2:¬ (n:Int)≤57:=by omega
   obtain rfl:b=false:=by rw [← hb];simp;omega
   clear hb
   go_enter Tryz.func112,Tryz.ntmps112
   go_wp2
   go_ret
   exact⟨rfl,rfl⟩
 ·have g1:¬ (48:Int)≤n:=by omega
  obtain rfl:b=false:=by rw [← hb];simp;omega
  clear hb
  go_enter Tryz.func112,Tryz.ntmps112
  go_wp2
  go_ret
  exact⟨rfl,rfl⟩
theorem Sc.name_iff {l:List Nat}:Sc.name l=true↔(1≤l.length∧l.length≤32)∧Sc.isl (l.getD 0 0)=true∧∀ j,j < l.length→Sc.isn (l.getD j 0)=true:=by
 unfold Sc.name
 simp only [Bool.and_eq_true,decide_eq_true_eq,List.all_eq_true,and_assoc]
 constructor
 ·rintro ⟨h1,h2,h3,h4⟩
  refine⟨h1,h2,h3,fun j hj=>h4 _ ?_⟩
  rw [List.getD_eq_getElem?_getD,List.getElem?_eq_getElem hj];simp
 ·rintro ⟨h1,h2,h3,h4⟩
  refine⟨h1,h2,h3,fun x hx=>?_⟩
  obtain⟨j,hj,rfl⟩:=List.getElem_of_mem hx
  have:=h4 j hj
  rwa [List.getD_eq_getElem?_getD,List.getElem?_eq_getElem hj] at this
theorem falseIf {b:Bool} {p:Prop} (h:b=true↔p) (n:¬ p):b=false:=by
 cases b with
 | false=>rfl
 | true=>exact absurd (h.1 rfl) n
theorem cIsName (s:ByteArray) (w:World) (hm:s.size≤1000000) (b:Bool) (hb:Sc.name (bl s)=b):Calls Tryz.prog 78 #[.string s] w fun e w'=>e=.returned (.bool b)∧w=w':=by
 have HI:=hZ (@Sc.name_iff (bl s))
 rw [hb,bl_length] at HI
 clear hb
 by_cases h0:s.size < 1
 ·have g0:(s.size:Int) < 1:=by omega
  obtain rfl:b=false:=falseIf HI.out (fun h=>by omega)
  go_enter Tryz.func78,Tryz.ntmps78
  go_wp2_with fail
  go_ret
  exact⟨rfl,rfl⟩
 ·have g0:¬ (s.size:Int) < 1:=by omega
  by_cases h1:s.size > 32
  ·have g1:(s.size:Int) > 32:=by omega
   obtain rfl:b=false:=falseIf HI.out (fun h=>by omega)
   go_enter Tryz.func78,Tryz.ntmps78
   go_wp2_with fail
   go_ret
   exact⟨rfl,rfl⟩
  ·have g1:¬ (s.size:Int) > 32:=by omega
   have hpos:0 < s.size:=by omega
   have h4:=bl_at s 0 hpos
   cases hl:Sc.isl ((bl s).getD 0 0) with
   | false =>
    obtain rfl:b=false:=falseIf HI.out (fun h=>by rw [hl] at h;cases h.2.1)
    generalize (bl s).getD 0 0=y at *
    have HC:=hZ (fun w=>cIsLetter y w false hl)
    clear hl HI
    go_enter Tryz.func78,Tryz.ntmps78
    go_wp2_with fail
    ((with_reducible refine (HC.out _).mono ?_);rintro e w1 ⟨rfl,rfl⟩)
    go_wp2_with fail
    go_ret
    exact⟨rfl,rfl⟩
   | true =>
    have HL:=hZ hl
    obtain⟨y,hy⟩:∃ y,(bl s).getD 0 0=y:=⟨_,rfl⟩
    rw [hy] at h4 hl
    have HC:=hZ (fun w=>cIsLetter y w true hl)
    clear hl hy
    go_enter Tryz.func78,Tryz.ntmps78
    go_wp2_with fail
    ((with_reducible refine (HC.out _).mono ?_);rintro e w1 ⟨rfl,rfl⟩)
    clear HC h4
    go_wp2_with fail
    go_loopw [20] (fun i wr=>∃ k:Nat,k≤s.size∧i=.int .i64 (k:Nat)∧Hid (∀ j,j < k→Sc.isn ((bl s).getD j 0)=true)∧w=wr) (fun i _=>s.size - (intOf i).toNat)
    case atStart=>exact⟨0,by omega,by rfl,hZ (fun j hj=>by omega),rfl⟩
    case round =>
     obtain⟨k,hk,rfl,HE,rfl⟩:=hrel
     by_cases hlt:k < s.size
     ·have hlt1:(k:Int) < s.size:=by omega
      have h4:=bl_at s k hlt
      have HE2:Hid (Sc.isn ((bl s).getD k 0)=true→∀ j,j < k+1→Sc.isn ((bl s).getD j 0)=true):=hZ (fun h j hj=>by
       rcases Nat.lt_succ_iff_lt_or_eq.1 hj with h2|rfl
       ·exact HE.out j h2
       ·exact h)
      have HF:Hid (Sc.isn ((bl s).getD k 0)=false→b=false):=hZ (fun h=>falseIf HI.out (fun h2=>by have:=h2.2.2 k hlt;rw [h] at this;cases this))
      have hyb:=bl_byte s ((bl s).getD k 0) (by rw [List.getD_eq_getElem?_getD,List.getElem?_eq_getElem (by rw [bl_length];omega)];simp)
      generalize (bl s).getD k 0=y at *
      cases hl:Sc.isl y with
      | true =>
       have HC:=hZ (fun w=>cIsLetter y w true hl)
       have HE3:=hZ (HE2.out (by unfold Sc.isn;rw [hl];rfl))
       clear hl HE HE2 HF
       go_wp2_with fail
       ((with_reducible refine (HC.out _).mono ?_);rintro e w1 ⟨rfl,rfl⟩)
       go_wp2_with fail
       go_roundw
       case rel=>exact⟨k+1,by omega,by go_num,HE3,trivial⟩
       case measure=>simp [intOf];omega
      | false =>
       have HC:=hZ (fun w=>cIsLetter y w false hl)
       cases hd:decide (48≤y∧y≤57) with
       | true =>
        have HD:=hZ (fun w=>cIsDigit y w true hd)
        have HE3:=hZ (HE2.out (by unfold Sc.isn;rw [hl,hd];rfl))
        clear hl hd HE HE2 HF
        go_wp2_with fail
        ((with_reducible refine (HC.out _).mono ?_);rintro e w1 ⟨rfl,rfl⟩)
        go_wp2_with fail
        ((with_reducible refine (HD.out _).mono ?_);rintro e w1 ⟨rfl,rfl⟩)
        go_wp2_with fail
        go_roundw
        case rel=>exact⟨k+1,by omega,by go_num,HE3,trivial⟩
        case measure=>simp [intOf];omega
       | false =>
        have HD:=hZ (fun w=>cIsDigit y w false hd)
        by_cases h9:y=95
        ·have HE3:=hZ (HE2.out (by unfold Sc.isn;rw [h9];rfl))
         have g9:((y:Int) != 95)=false:=by simp;omega
         clear hl hd HE HE2 HF h9
         go_wp2_with fail
         ((with_reducible refine (HC.out _).mono ?_);rintro e w1 ⟨rfl,rfl⟩)
         go_wp2_with fail
         ((with_reducible refine (HD.out _).mono ?_);rintro e w1 ⟨rfl,rfl⟩)
         go_wp2_with fail
         go_roundw
         case rel=>exact⟨k+1,by omega,by go_num,HE3,trivial⟩
         case measure=>simp [intOf];omega
        ·have g9:((y:Int) != 95)=true:=by simp;omega
         obtain rfl:=HF.out (by unfold Sc.isn;rw [hl,hd];simp [h9])
         clear hl hd HE HE2 HF h9
         go_wp2_with fail
         ((with_reducible refine (HC.out _).mono ?_);rintro e w1 ⟨rfl,rfl⟩)
         go_wp2_with fail
         ((with_reducible refine (HD.out _).mono ?_);rintro e w1 ⟨rfl,rfl⟩)
         go_wp2_with fail
         go_ret
         exact⟨rfl,rfl⟩
     ·have hlt1:¬ (k:Int) < s.size:=by omega
      obtain rfl:b=true:=HI.out.2 ⟨by omega,HL.out,fun j hj=>HE.out j (by omega)⟩
      go_wp2_with fail
      go_ret
      exact⟨rfl,rfl⟩
theorem placeOf_Place (v:Value) (l:List Co) (b:Nat) (p:Co→Bool) (w:World) (h:RdK w w.heap.size v l) (hl:l.length≤1000000)
 (hc:∀ (c:Co) (w1:World),Below w.heap.size w w1→Calls Tryz.prog 58 #[kov c,.pointer (some ⟨b,0,none⟩)] w1 fun e w2=>e=.returned (.bool (p c))∧Below w1.heap.size w1 w2) (n:Nat) (y:Bool) (hn:Sc.find p l=(n,y)) :
 Calls Tryz.prog 57 #[v,.func (.func 58) #[] #[.pointer (some ⟨b,0,none⟩)]] w fun e w'=>e=.returned (.tuple #[.int .i64 (n:Nat),.bool y])∧Below w.heap.size w w':=by
 have HR:=hZ h
 have HC:=hZ hc
 have HN:=hZ hn
 obtain⟨a,c,rfl,_⟩:=Gn.Rd.form h
 clear h hc hn
 go_enter Tryz.func57,Tryz.ntmps57
 go_wp2_with fail
 go_loopw [10] (fun i wr=>∃ k:Nat,k≤l.length∧i=.int .i64 (k:Nat)∧Hid (∀ j d,j < k→l[j]?=some d→p d=false)∧Hid (Below w.heap.size w wr)) (fun i _=>l.length - (intOf i).toNat)
 case atStart=>exact⟨0,by omega,by rfl,hZ (fun j d hj=>by omega),hZ (Below.refl _ _)⟩
 case round =>
  obtain⟨k,hk,rfl,HE,HU⟩:=hrel
  by_cases hlt:k < l.length
  ·have hlt1:(k:Int) < l.length:=by omega
   obtain⟨x,hx⟩:∃ x,l[k]?=some x:=⟨_,List.getElem?_eq_getElem hlt⟩
   obtain⟨b1,o1,rfl,p0,p1,p2,p3,p4,p5,p6⟩:=rdK_cells HR.out HU.out hx
   have HU1:=hZ (HU.out.alloc HU.out.size (.cells #[.int .i64 x.id,.string x.nm,.int .i64 x.k,.bool x.u,.bool x.d.u,.int .i64 x.d.n,.string x.d.s] 63))
   have HK:=hZ (HC.out x _ HU1.out)
   unfold kov at HK
   cases hp:p x with
   | false =>
    rw [hp] at HK
    have HE2:Hid (∀ j d,j < k+1→l[j]?=some d→p d=false):=hZ (fun j d hj hd=>by
     rcases Nat.lt_succ_iff_lt_or_eq.1 hj with h2|rfl
     ·exact HE.out j d h2 hd
     ·rw [hx] at hd;injection hd with hd;rw [← hd];exact hp)
    obtain⟨xi,xm,xk,xu,⟨xa,xb,xc⟩⟩:=x
    simp only at p0 p1 p2 p3 p4 p5 p6 HK HU1
    clear hx hp HE HC
    go_wp2_with fail
    ((with_reducible refine HK.out.mono ?_);rintro e w1 ⟨rfl,b1⟩)
    have HU2:=hZ (HU1.out.trans (b1.mono HU1.out.size))
    clear b1 HU1 HK
    go_wp2_with fail
    go_roundw
    case rel=>exact⟨k+1,by omega,by go_num,HE2,HU2⟩
    case measure=>simp [intOf];omega
   | true =>
    rw [hp] at HK
    have e:=Sc.find_hit hx hp HE.out
    rw [HN.out] at e
    injection e with e1 e2
    subst e1 e2
    obtain⟨xi,xm,xk,xu,⟨xa,xb,xc⟩⟩:=x
    simp only at p0 p1 p2 p3 p4 p5 p6 HK HU1
    clear hx hp HE HC HN
    go_wp2_with fail
    ((with_reducible refine HK.out.mono ?_);rintro e w1 ⟨rfl,b1⟩)
    have HU2:=hZ (HU1.out.trans (b1.mono HU1.out.size))
    clear b1 HU1 HK
    go_wp2_with fail
    go_ret2
    exact⟨rfl,HU2.out⟩
  ·have hlt1:¬ (k:Int) < l.length:=by omega
   have e:=Sc.find_miss (p:=p) (l:=l) (fun j d hd=>HE.out j d (by have:=(List.getElem?_eq_some_iff.1 hd).1;omega) hd)
   rw [HN.out] at e
   injection e with e1 e2
   subst e1 e2
   go_wp2_with fail
   go_ret2
   exact⟨rfl,HU.out⟩
theorem placeOf_Named (v:Value) (l:List Co) (b:Nat) (p:Co→Bool) (w:World) (h:RdK w w.heap.size v l) (hl:l.length≤1000000)
 (hc:∀ (c:Co) (w1:World),Below w.heap.size w w1→Calls Tryz.prog 113 #[kov c,.pointer (some ⟨b,0,none⟩)] w1 fun e w2=>e=.returned (.bool (p c))∧Below w1.heap.size w1 w2) (n:Nat) (y:Bool) (hn:Sc.find p l=(n,y)) :
 Calls Tryz.prog 57 #[v,.func (.func 113) #[] #[.pointer (some ⟨b,0,none⟩)]] w fun e w'=>e=.returned (.tuple #[.int .i64 (n:Nat),.bool y])∧Below w.heap.size w w':=by
 have HR:=hZ h
 have HC:=hZ hc
 have HN:=hZ hn
 obtain⟨a,c,rfl,_⟩:=Gn.Rd.form h
 clear h hc hn
 go_enter Tryz.func57,Tryz.ntmps57
 go_wp2_with fail
 go_loopw [10] (fun i wr=>∃ k:Nat,k≤l.length∧i=.int .i64 (k:Nat)∧Hid (∀ j d,j < k→l[j]?=some d→p d=false)∧Hid (Below w.heap.size w wr)) (fun i _=>l.length - (intOf i).toNat)
 case atStart=>exact⟨0,by omega,by rfl,hZ (fun j d hj=>by omega),hZ (Below.refl _ _)⟩
 case round =>
  obtain⟨k,hk,rfl,HE,HU⟩:=hrel
  by_cases hlt:k < l.length
  ·have hlt1:(k:Int) < l.length:=by omega
   obtain⟨x,hx⟩:∃ x,l[k]?=some x:=⟨_,List.getElem?_eq_getElem hlt⟩
   obtain⟨b1,o1,rfl,p0,p1,p2,p3,p4,p5,p6⟩:=rdK_cells HR.out HU.out hx
   have HU1:=hZ (HU.out.alloc HU.out.size (.cells #[.int .i64 x.id,.string x.nm,.int .i64 x.k,.bool x.u,.bool x.d.u,.int .i64 x.d.n,.string x.d.s] 63))
   have HK:=hZ (HC.out x _ HU1.out)
   unfold kov at HK
   cases hp:p x with
   | false =>
    rw [hp] at HK
    have HE2:Hid (∀ j d,j < k+1→l[j]?=some d→p d=false):=hZ (fun j d hj hd=>by
     rcases Nat.lt_succ_iff_lt_or_eq.1 hj with h2|rfl
     ·exact HE.out j d h2 hd
     ·rw [hx] at hd;injection hd with hd;rw [← hd];exact hp)
    obtain⟨xi,xm,xk,xu,⟨xa,xb,xc⟩⟩:=x
    simp only at p0 p1 p2 p3 p4 p5 p6 HK HU1
    clear hx hp HE HC
    go_wp2_with fail
    ((with_reducible refine HK.out.mono ?_);rintro e w1 ⟨rfl,b1⟩)
    have HU2:=hZ (HU1.out.trans (b1.mono HU1.out.size))
    clear b1 HU1 HK
    go_wp2_with fail
    go_roundw
    case rel=>exact⟨k+1,by omega,by go_num,HE2,HU2⟩
    case measure=>simp [intOf];omega
   | true =>
    rw [hp] at HK
    have e:=Sc.find_hit hx hp HE.out
    rw [HN.out] at e
    injection e with e1 e2
    subst e1 e2
    obtain⟨xi,xm,xk,xu,⟨xa,xb,xc⟩⟩:=x
    simp only at p0 p1 p2 p3 p4 p5 p6 HK HU1
    clear hx hp HE HC HN
    go_wp2_with fail
    ((with_reducible refine HK.out.mono ?_);rintro e w1 ⟨rfl,b1⟩)
    have HU2:=hZ (HU1.out.trans (b1.mono HU1.out.size))
    clear b1 HU1 HK
    go_wp2_with fail
    go_ret2
    exact⟨rfl,HU2.out⟩
  ·have hlt1:¬ (k:Int) < l.length:=by omega
   have e:=Sc.find_miss (p:=p) (l:=l) (fun j d hd=>HE.out j d (by have:=(List.getElem?_eq_some_iff.1 hd).1;omega) hd)
   rw [HN.out] at e
   injection e with e1 e2
   subst e1 e2
   go_wp2_with fail
   go_ret2
   exact⟨rfl,HU.out⟩
theorem cPlace1 (b:Nat) (n:Int) (c:Co) (w:World) (hb:w.cell? ⟨b,0,none⟩=some (.int .i64 n)):Calls Tryz.prog 58 #[kov c,.pointer (some ⟨b,0,none⟩)] w fun e w'=>e=.returned (.bool (Sc.byId n c))∧Below w.heap.size w w':=by
 obtain⟨xi,xm,xk,xu,⟨xa,xb,xc⟩⟩:=c
 unfold kov Sc.byId
 simp only
 have HB:=hZ (box_new w (.cells #[.int .i64 xi,.string xm,.int .i64 xk,.bool xu,.bool xa,.int .i64 xb,.string xc] 63))
 have hb2:=(HB.out.cell (p:=⟨b,0,none⟩) (cell_lt hb)).trans hb
 by_cases h:xi=n
 ·have h1:(xi == n)=true:=by simpa using h
  rw [decide_eq_true h]
  clear h hb
  go_enter Tryz.func58,Tryz.ntmps58
  go_wp2_with fail
  go_ret
  exact⟨rfl,HB.out⟩
 ·have h1:(xi == n)=false:=by simpa using h
  rw [decide_eq_false h]
  clear h hb
  go_enter Tryz.func58,Tryz.ntmps58
  go_wp2_with fail
  go_ret
  exact⟨rfl,HB.out⟩
theorem cNamed1 (b:Nat) (s:ByteArray) (c:Co) (w:World) (hb:w.cell? ⟨b,0,none⟩=some (.string s)):Calls Tryz.prog 113 #[kov c,.pointer (some ⟨b,0,none⟩)] w fun e w'=>e=.returned (.bool (Sc.byName s c))∧Below w.heap.size w w':=by
 obtain⟨xi,xm,xk,xu,⟨xa,xb,xc⟩⟩:=c
 unfold kov Sc.byName
 simp only
 have HB:=hZ (box_new w (.cells #[.int .i64 xi,.string xm,.int .i64 xk,.bool xu,.bool xa,.int .i64 xb,.string xc] 63))
 have hb2:=(HB.out.cell (p:=⟨b,0,none⟩) (cell_lt hb)).trans hb
 have h1:=bl_eq xm s
 generalize decide (bl xm=bl s)=y at *
 clear hb
 cases y
 ·go_enter Tryz.func113,Tryz.ntmps113
  go_wp2_with fail
  go_ret
  exact⟨rfl,HB.out⟩
 ·go_enter Tryz.func113,Tryz.ntmps113
  go_wp2_with fail
  go_ret
  exact⟨rfl,HB.out⟩
theorem cPlace (v kv:Value) (l:List Co) (id:Int) (w:World) (h:RdK w w.heap.size v l) (hl:l.length≤1000000) (n:Nat) (y:Bool) (hn:Sc.find (Sc.byId id) l=(n,y)) :
 Calls Tryz.prog 32 #[.agg #[v,kv],.int .i64 id] w fun e w'=>e=.returned (.tuple #[.int .i64 (n:Nat),.bool y])∧Below w.heap.size w w':=by
 have b1:=box_new w (.cells #[v,kv] 25)
 have b2:=box_new (w.alloc (.cells #[v,kv] 25)) (.cells #[.int .i64 id] 3)
 have HB:=hZ (up b1 b2)
 have hx:=(Blk.new (w.alloc (.cells #[v,kv] 25)) 3 #[.int .i64 id]).cell 0
 rw [show (w.alloc (.cells #[v,kv] 25)).heap.size=w.heap.size+1 by simp] at hx
 have HX:=hZ (show _=some (Value.int .i64 id) from hx)
 have HC:=hZ (placeOf_Place v l (w.heap.size+1) (Sc.byId id) _ (h.later HB.out) hl (fun c w1 hb=>cPlace1 _ id c w1 ((hb.cell (p:=⟨w.heap.size+1,0,none⟩) (cell_lt HX.out)).trans HX.out)) n y hn)
 clear h b1 b2 hx hn HX
 go_enter Tryz.func32,Tryz.ntmps32
 go_wp2_with fail
 ((with_reducible refine HC.out.mono ?_);rintro e w1 ⟨rfl,b1⟩)
 have HB2:=hZ (up HB.out b1)
 clear b1
 go_wp2_with fail
 go_ret2
 exact⟨rfl,HB2.out⟩
theorem cNamed (v kv:Value) (l:List Co) (id:ByteArray) (w:World) (h:RdK w w.heap.size v l) (hl:l.length≤1000000) (n:Nat) (y:Bool) (hn:Sc.find (Sc.byName id) l=(n,y)) :
 Calls Tryz.prog 79 #[.agg #[v,kv],.string id] w fun e w'=>e=.returned (.tuple #[.int .i64 (n:Nat),.bool y])∧Below w.heap.size w w':=by
 have b1:=box_new w (.cells #[v,kv] 25)
 have b2:=box_new (w.alloc (.cells #[v,kv] 25)) (.cells #[.string id] 9)
 have HB:=hZ (up b1 b2)
 have hx:=(Blk.new (w.alloc (.cells #[v,kv] 25)) 9 #[.string id]).cell 0
 rw [show (w.alloc (.cells #[v,kv] 25)).heap.size=w.heap.size+1 by simp] at hx
 have HX:=hZ (show _=some (Value.string id) from hx)
 have HC:=hZ (placeOf_Named v l (w.heap.size+1) (Sc.byName id) _ (h.later HB.out) hl (fun c w1 hb=>cNamed1 _ id c w1 ((hb.cell (p:=⟨w.heap.size+1,0,none⟩) (cell_lt HX.out)).trans HX.out)) n y hn)
 clear h b1 b2 hx hn HX
 go_enter Tryz.func79,Tryz.ntmps79
 go_wp2_with fail
 ((with_reducible refine HC.out.mono ?_);rintro e w1 ⟨rfl,b1⟩)
 have HB2:=hZ (up HB.out b1)
 clear b1
 go_wp2_with fail
 go_ret2
 exact⟨rfl,HB2.out⟩
theorem box_keep {w w1:World} {g:Nat} {t:TypeId} {cs:List Value} (h:Blk w g t cs) (hb:Below w.heap.size w w1) {k:Nat} {x:Value} (hx:cs[k]?=some x):w1.cell? ⟨g,k,none⟩=some x:=by
 rw [(h.later hb).cell k,hx]
theorem cMayCols (v:Value) (l:List Co) (w:World) (T:TA w) (h:RdK w w.heap.size v l) (hk:∀ c∈l,KOk c) (b:Bool) (hb:Sc.okC l=b) :
 Calls Tryz.prog 61 #[v] w fun e w'=>e=.returned (.bool b)∧Below w.heap.size w w':=by
 have HR:=hZ h
 have HK:=hZ hk
 have HT:=hZ T
 have HI:=hZ (@Sc.okC_iff l)
 rw [hb] at HI
 have HN:Hid (∀ (i:Nat) (c:Co),l[i]?=some c→Sc.okAt l i c=false→b=false):=hZ (fun i c h1 h2=>hb.symm.trans (Sc.okC_no h1 h2))
 obtain⟨a,c,rfl,_⟩:=Gn.Rd.form h
 have HL:=hZ (Gn.Rd.len' h)
 clear h hk hb T
 by_cases h0:l.length < 1
 ·have g0:(l.length:Int) < 1:=by omega
  obtain rfl:b=false:=falseIf HI.out (fun h=>by omega)
  go_enter Tryz.func61,Tryz.ntmps61
  go_wp2_with fail
  go_ret
  exact⟨rfl,Below.refl _ _⟩
 ·have g0:¬ (l.length:Int) < 1:=by omega
  by_cases h1:l.length > 32
  ·have g1:(l.length:Int) > 32:=by omega
   obtain rfl:b=false:=falseIf HI.out (fun h=>by omega)
   go_enter Tryz.func61,Tryz.ntmps61
   go_wp2_with fail
   go_ret
   exact⟨rfl,Below.refl _ _⟩
  ·have g1:¬ (l.length:Int) > 32:=by omega
   go_enter Tryz.func61,Tryz.ntmps61
   go_wp2_with fail
   clear g0 g1
   go_loopw [3,18] (fun ls i wr=>∃ (k:Nat) (m:Int),k≤l.length∧ls=.int .i64 m∧i=.int .i64 (k:Nat)∧1≤m∧m≤1048577∧Hid (Sc.least l k=m)∧Hid (∀ j d,j < k→l[j]?=some d→Sc.okAt l j d=true)∧Hid (Below w.heap.size w wr)) (fun _ i _=>l.length - (intOf i).toNat)
   case atStart=>exact⟨0,1,by omega,rfl,by rfl,by omega,by omega,hZ rfl,hZ (fun j d hj=>by omega),hZ (Below.refl _ _)⟩
   case round =>
    obtain⟨k,m,hk,rfl,rfl,hm1,hm2,HM,HE,HU⟩:=hrel
    by_cases hlt:k < l.length
    ·have hlt1:(k:Int) < l.length:=by omega
     obtain⟨x,hx⟩:∃ x,l[k]?=some x:=⟨_,List.getElem?_eq_getElem hlt⟩
     obtain⟨b1,o1,rfl,p0,p1,p2,p3,p4,p5,p6⟩:=rdK_cells HR.out HU.out hx
     have hok:=HK.out x (List.mem_of_getElem? hx)
     have HF:=hZ (HN.out k x hx)
     have HP:=hZ (@Sc.okAt_parts l k x)
     rw [HM.out] at HP
     have HFF:=hZ (Sc.fresh_find l k x)
     have HU1:=hZ (HU.out.alloc HU.out.size (.cells #[.int .i64 x.id,.string x.nm,.int .i64 x.k,.bool x.u,.bool x.d.u,.int .i64 x.d.n,.string x.d.s] 63))
     have HV:=hZ (Blk.new wr 63 #[.int .i64 x.id,.string x.nm,.int .i64 x.k,.bool x.u,.bool x.d.u,.int .i64 x.d.n,.string x.d.s])
     have HIN:=hZ (fun w=>cIsName x.nm w hok.nm _ rfl)
     have HC:=hZ (fun w T=>checks x.u x.k x.d w T hok.n hok.s _ rfl)
     have HX:=hZ hx
     have HIQ:=hZ hok.id
     obtain⟨xi,xm,xk,xu,⟨xa,xb,xc⟩⟩:=x
     unfold cv tv at HC
     simp only at p0 p1 p2 p3 p4 p5 p6 HU1 HV HIN HC HP HFF HIQ
     clear hx hok
     by_cases c0:xi < m
     ·obtain rfl:=HF.out (by rw [Bool.eq_false_iff];intro h;have:=(HP.out.1 h).1;omega)
      clear HF HP HFF HIN HC HE HX
      go_wp2_with fail
      go_ret
      exact⟨rfl,HU1.out⟩
     ·by_cases c1:xi > 1048576
      ·obtain rfl:=HF.out (by rw [Bool.eq_false_iff];intro h;have:=(HP.out.1 h).1;omega)
       clear HF HP HFF HIN HC HE HX
       go_wp2_with fail
       go_ret
       exact⟨rfl,HU1.out⟩
      ·cases hn:Sc.name (bl xm) with
       | false =>
        rw [hn] at HIN
        obtain rfl:=HF.out (by rw [Bool.eq_false_iff];intro h;have:=(HP.out.1 h).2.1;rw [hn] at this;cases this)
        clear HF HP HFF HC HE HX hn
        go_wp2_with fail
        ((with_reducible refine (HIN.out _).mono ?_);rintro e w1 ⟨rfl,rfl⟩)
        go_wp2_with fail
        go_ret
        exact⟨rfl,HU1.out⟩
       | true =>
        rw [hn] at HIN
        obtain⟨dz,hdz⟩:∃ dz:Int,((Cl.chk xu xk ⟨xa,xb,xc⟩:Nat):Int)=dz:=⟨_,rfl⟩
        rw [hdz] at HC
        by_cases c2:dz=0
        ·subst c2
         obtain⟨u,hu,hur⟩:=Gn.cut_to coY w w.heap.size _ _ l.length c k HR.out rfl hk
         have hkl:(l.take k).length=k:=by rw [List.length_take];omega
         obtain⟨ua,uc,rfl,_⟩:=Gn.Rd.form hur
         rw [hkl] at hu hur
         have HUR:=hZ hur
         obtain⟨⟨fn,fy⟩,hf⟩:∃ r,Sc.find (Sc.byName xm) (l.take k)=r:=⟨_,rfl⟩
         rw [hf] at HFF
         have HFD:=hZ hf
         have HDZ:=hZ hdz
         have HNM:=hZ hn
         clear hf hdz hn hur hkl
         go_wp2_with fail
         ((with_reducible refine (HIN.out _).mono ?_);rintro e w1 ⟨rfl,rfl⟩)
         go_wp2_with fail
         ((with_reducible refine (HC.out _ (HT.out.later HU1.out)).mono ?_);rintro e w1 ⟨rfl,b1⟩)
         have HU2:=hZ (HU1.out.trans (b1.mono HU1.out.size))
         have HV2:=hZ (HV.out.later b1)
         clear b1 HIN HC HV HU1
         have v1:=HV2.out.cell 1
         have v0:=HV2.out.cell 0
         simp only [zD,zE] at v0 v1
         have q0:=fun d os=>cell_regrown v0 d os
         have q1:=fun d os=>cell_regrown v1 d os
         have Q:=hZ (fun d os=>Calls.regrown_of (cNamed (.slice ua k uc) (.slice none 0 0) (l.take k) xm (grow (redrawn w1 d) os) (Gn.Rd.later HUR.out (HU2.out.trans ((below_regrown w1 d os).mono HU2.out.size))) (by rw [List.length_take];omega) fn fy HFD.out))
         clear v1
         go_wp2_with fail
         refine wp_region_quiet_below (by kernel_rfl) (by kernel_rfl) ?_
         repeat (quiet_step (first|with_reducible exact Q.out _ _))
         refine wpQuiet_nil ?_
         intro _ hw'
         obtain⟨⟨dq,osq⟩,hw''⟩:=hw'
         have HU3:=hZ (up HU2.out (show Below w1.heap.size w1 _ from hw''▸below_regrown w1 dq osq))
         have r0:=q0 dq osq
         subst hw''
         clear q0 q1 Q v0
         cases fy with
         | true =>
          obtain rfl:=HF.out (by rw [Bool.eq_false_iff];intro h;have:=(HP.out.1 h).2.2.2;rw [HFF.out] at this;cases this)
          go_wp2_with fail
          go_ret
          exact⟨rfl,HU3.out⟩
         | false =>
          have HE2:Hid (∀ j d,j < k+1→l[j]?=some d→Sc.okAt l j d=true):=hZ (fun j d hj hd=>by
           rcases Nat.lt_succ_iff_lt_or_eq.1 hj with h2|rfl
           ·exact HE.out j d h2 hd
           ·rw [HX.out] at hd;injection hd with hd;rw [← hd]
            exact HP.out.2 ⟨by omega,HNM.out,by have:=HDZ.out;omega,by rw [HFF.out];rfl⟩)
          have HLS:Hid (Sc.least l (k+1)=xi+1):=hZ (by unfold Sc.least;rw [if_neg (by omega),Nat.add_sub_cancel,Sc.getD_of HX.out])
          clear HF HP HFF HX HE HFD
          go_wp2_with fail
          go_roundw
          case rel=>exact⟨k+1,xi+1,by omega,by go_num,by go_num,by omega,by omega,HLS,HE2,HU3⟩
          case measure=>simp [intOf];omega
        ·have c3:(dz != 0)=true:=by simpa using c2
         obtain rfl:=HF.out (by rw [Bool.eq_false_iff];intro h;have:=(HP.out.1 h).2.2.1;rw [this] at hdz;exact c2 hdz.symm)
         clear HF HP HFF HE HX hn hdz
         go_wp2_with fail
         ((with_reducible refine (HIN.out _).mono ?_);rintro e w1 ⟨rfl,rfl⟩)
         go_wp2_with fail
         ((with_reducible refine (HC.out _ (HT.out.later HU1.out)).mono ?_);rintro e w1 ⟨rfl,b1⟩)
         have HU2:=hZ (HU1.out.trans (b1.mono HU1.out.size))
         clear b1
         go_wp2_with fail
         go_ret
         exact⟨rfl,HU2.out⟩
    ·have hlt1:¬ (k:Int) < l.length:=by omega
     obtain rfl:b=true:=HI.out.2 ⟨by omega,fun i c hc=>HE.out i c (by have:=(List.getElem?_eq_some_iff.1 hc).1;omega) hc⟩
     go_wp2_with fail
     go_ret
     exact⟨rfl,HU.out⟩
theorem cMayKeys (kv v:Value) (ks:List Int) (l:List Co) (w:World) (hk0:RdI w w.heap.size kv ks) (h:RdK w w.heap.size v l) (hi:∀ k∈ks,Cl.I64 k) (b:Bool) (hb:Sc.okK l ks=b) :
 Calls Tryz.prog 62 #[kv,v] w fun e w'=>e=.returned (.bool b)∧Below w.heap.size w w':=by
 have HR:=hZ h
 have HK:=hZ hk0
 have HG:=hZ hi
 have HI:=hZ (@Sc.okK_iff l ks)
 rw [hb] at HI
 have HN:Hid (∀ (i:Nat) (c:Int),ks[i]?=some c→Sc.okKAt l ks i c=false→b=false):=hZ (fun i c h1 h2=>hb.symm.trans (Sc.okK_no h1 h2))
 obtain⟨a,c,rfl,_⟩:=Gn.Rd.form h
 obtain⟨ka,kc,rfl,_⟩:=Gn.Rd.form hk0
 have HL:=hZ (Gn.Rd.len' h)
 clear h hk0 hb hi
 by_cases h1:ks.length > 8
 ·have g1:(ks.length:Int) > 8:=by omega
  obtain rfl:b=false:=falseIf HI.out (fun h=>by omega)
  go_enter Tryz.func62,Tryz.ntmps62
  go_wp2_with fail
  go_ret
  exact⟨rfl,Below.refl _ _⟩
 ·have g1:¬ (ks.length:Int) > 8:=by omega
  go_enter Tryz.func62,Tryz.ntmps62
  go_wp2_with fail
  clear g1
  go_loopw [5,13] (fun ls i wr=>∃ (k:Nat) (m:Int),k≤ks.length∧ls=.int .i64 m∧i=.int .i64 (k:Nat)∧0≤m∧Hid (Sc.leastK ks k=m)∧Hid (∀ j d,j < k→ks[j]?=some d→Sc.okKAt l ks j d=true)∧Hid (Below w.heap.size w wr)) (fun _ i _=>ks.length - (intOf i).toNat)
  case atStart=>exact⟨0,0,by omega,rfl,by rfl,by omega,hZ rfl,hZ (fun j d hj=>by omega),hZ (Below.refl _ _)⟩
  case round =>
   obtain⟨k,m,hk,rfl,rfl,hm1,HM,HE,HU⟩:=hrel
   by_cases hlt:k < ks.length
   ·have hlt1:(k:Int) < ks.length:=by omega
    obtain⟨x,hx⟩:∃ x,ks[k]?=some x:=⟨_,List.getElem?_eq_getElem hlt⟩
    obtain⟨b1,o1,rfl,p0⟩:=rdI_cell HK.out HU.out hx
    have HF:=hZ (HN.out k x hx)
    have HX:=hZ hx
    have hml:=HL.out
    clear hx
    by_cases c0:x < m
    ·obtain rfl:=HF.out (by unfold Sc.okKAt;rw [HM.out,decide_eq_false (by omega)];rfl)
     go_wp2_with fail
     go_ret
     exact⟨rfl,HU.out⟩
    ·by_cases c1:x ≥ (l.length:Int)
     ·obtain rfl:=HF.out (by unfold Sc.okKAt;rw [HM.out,decide_eq_false (by omega)];rfl)
      go_wp2_with fail
      go_ret
      exact⟨rfl,HU.out⟩
     ·obtain⟨n,rfl⟩:∃ n:Nat,x=n:=⟨x.toNat,by omega⟩
      have hn1:(n:Int) < l.length:=by omega
      obtain⟨y,hy⟩:∃ y,l[n]?=some y:=⟨_,List.getElem?_eq_getElem (by omega)⟩
      obtain⟨b2,o2,rfl,_,s1⟩:=rdK_type HR.out HU.out hy
      have HY:Hid (Sc.okKAt l ks k (n:Int)=!y.u):=hZ (by unfold Sc.okKAt;rw [HM.out,decide_eq_true (by omega),Int.toNat_natCast,Sc.getD_of hy];rfl)
      clear hy
      cases hyu:y.u with
      | true =>
       rw [hyu] at HY s1
       obtain rfl:=HF.out HY.out
       clear HF HY HE HX
       go_wp2_with fail
       go_ret
       exact⟨rfl,HU.out⟩
      | false =>
       rw [hyu] at HY s1
       have HE2:Hid (∀ j d,j < k+1→ks[j]?=some d→Sc.okKAt l ks j d=true):=hZ (fun j d hj hd=>by
        rcases Nat.lt_succ_iff_lt_or_eq.1 hj with h2|rfl
        ·exact HE.out j d h2 hd
        ·rw [HX.out] at hd;injection hd with hd;rw [← hd];exact HY.out)
       have HLS:Hid (Sc.leastK ks (k+1)=(n:Int)+1):=hZ (by unfold Sc.leastK;rw [if_neg (by omega),Nat.add_sub_cancel,Sc.getD_of HX.out])
       clear HF HY HX HE
       go_wp2_with fail
       go_roundw
       case rel=>exact⟨k+1,(n:Int)+1,by omega,by go_num,by go_num,by omega,HLS,HE2,HU⟩
       case measure=>simp [intOf];omega
   ·have hlt1:¬ (k:Int) < ks.length:=by omega
    obtain rfl:b=true:=HI.out.2 ⟨by omega,fun i c hc=>HE.out i c (by have:=(List.getElem?_eq_some_iff.1 hc).1;omega) hc⟩
    go_wp2_with fail
    go_ret
    exact⟨rfl,HU.out⟩
theorem cCheckS (v kv:Value) (l:List Co) (ks:List Int) (w:World) (T:TA w) (h:RdK w w.heap.size v l) (hk0:RdI w w.heap.size kv ks) (hk:∀ c∈l,KOk c) (hi:∀ k∈ks,Cl.I64 k) (d:Int) (hd:Sc.ck l ks=d) :
 Calls Tryz.prog 34 #[.agg #[v,kv]] w fun e w'=>e=.returned (.int .i64 d)∧Below w.heap.size w w':=by
 have HB:=hZ (box_new w (.cells #[v,kv] 25))
 have HX:=hZ (Blk.new w 25 #[v,kv])
 have HA:=hZ (cMayCols v l _ (T.later HB.out) (h.later HB.out) hk _ rfl)
 have HC:=hZ (fun w1 (hb:Below w.heap.size w w1)=>cMayKeys kv v ks l w1 (hk0.later hb) (h.later hb) hi _ rfl)
 cases h1:Sc.okC l with
 | false =>
  rw [h1] at HA
  obtain rfl:(2:Int)=d:=by rw [← hd];exact (Sc.ck_no (.inl h1)).symm
  clear h hk0 hk hi hd h1 T
  go_enter Tryz.func34,Tryz.ntmps34
  go_wp2_with fail
  ((with_reducible refine HA.out.mono ?_);rintro e w1 ⟨rfl,b1⟩)
  have HB2:=hZ (up HB.out b1)
  clear b1
  go_wp2_with fail
  go_ret
  exact⟨rfl,HB2.out⟩
 | true =>
  rw [h1] at HA
  cases h2:Sc.okK l ks with
  | false =>
   rw [h2] at HC
   obtain rfl:(2:Int)=d:=by rw [← hd];exact (Sc.ck_no (.inr h2)).symm
   clear h hk0 hk hi hd h1 h2 T
   go_enter Tryz.func34,Tryz.ntmps34
   go_wp2_with fail
   ((with_reducible refine HA.out.mono ?_);rintro e w1 ⟨rfl,b1⟩)
   have HB2:=hZ (up HB.out b1)
   have v0:=box_keep HX.out b1 (k:=0) rfl
   have v1:=box_keep HX.out b1 (k:=1) rfl
   clear b1
   go_wp2_with fail
   ((with_reducible refine (HC.out _ HB2.out).mono ?_);rintro e w2 ⟨rfl,b1⟩)
   have HB3:=hZ (up HB2.out b1)
   clear b1
   go_wp2_with fail
   go_ret
   exact⟨rfl,HB3.out⟩
  | true =>
   rw [h2] at HC
   obtain rfl:(0:Int)=d:=by rw [← hd];exact (Sc.ck_ok h1 h2).symm
   clear h hk0 hk hi hd h1 h2 T
   go_enter Tryz.func34,Tryz.ntmps34
   go_wp2_with fail
   ((with_reducible refine HA.out.mono ?_);rintro e w1 ⟨rfl,b1⟩)
   have HB2:=hZ (up HB.out b1)
   have v0:=box_keep HX.out b1 (k:=0) rfl
   have v1:=box_keep HX.out b1 (k:=1) rfl
   clear b1
   go_wp2_with fail
   ((with_reducible refine (HC.out _ HB2.out).mono ?_);rintro e w2 ⟨rfl,b1⟩)
   have HB3:=hZ (up HB2.out b1)
   clear b1
   go_wp2_with fail
   go_ret
   exact⟨rfl,HB3.out⟩
def WordsAt (w:World) (g:Nat):Prop:=∀ j,j < 6→w.cell? ⟨g,0+j,none⟩=some (.string (Sc.W.getD j ByteArray.empty))
theorem cKinds (w:World):Calls Tryz.prog 145 #[] w fun e w'=>e=.returned (.slice (some ⟨w.heap.size,0,none⟩) 6 6)∧WordsAt w' w.heap.size∧w.heap.size < w'.heap.size∧Below w.heap.size w w':=by
 have HB:=hZ (box_new w (.cells #[.string ⟨#[]⟩,.string ⟨#[98,111,111,108]⟩,.string ⟨#[105,110,116,51,50]⟩,.string ⟨#[105,110,116,54,52]⟩,.string ⟨#[115,116,114,105,110,103]⟩,.string ⟨#[98,121,116,101,115]⟩] 9))
 have HV:=hZ (Blk.new w 9 #[.string ⟨#[]⟩,.string ⟨#[98,111,111,108]⟩,.string ⟨#[105,110,116,51,50]⟩,.string ⟨#[105,110,116,54,52]⟩,.string ⟨#[115,116,114,105,110,103]⟩,.string ⟨#[98,121,116,101,115]⟩])
 go_enter Tryz.func145,Tryz.ntmps145
 go_wp2_with fail
 go_ret
 refine⟨rfl,fun j hj=>?_,by simp,HB.out⟩
 have:=HV.out.cell j
 rw [Nat.zero_add]
 refine this.trans ?_
 rcases (show j=0 ∨ j=1 ∨ j=2 ∨ j=3 ∨ j=4 ∨ j=5 by omega) with rfl|rfl|rfl|rfl|rfl|rfl<;>rfl
theorem cSuffix (s:ByteArray) (c:UInt8) (hm:s.size≤1000000) (w:World):Calls Tryz.prog 116 #[.string s,.string ⟨#[c]⟩] w fun e w'=>∃ t y,e=.returned (.tuple #[.string t,.bool y])∧((y=true∧bl s=bl t++[c.toNat]) ∨ (y=false∧(∀ r,bl s≠r++[c.toNat])∧t=s))∧w=w' :=
 (Tryz.strings_CutSuffix s ⟨#[c]⟩ w (by omega)).mono fun e w' ⟨h1,h2⟩=>⟨_,_,h1,by
  rcases Sc.sfx1 s c with ⟨h3,h4⟩|⟨h3,h4,h5⟩
  ·exact .inl ⟨h3,h4⟩
  ·exact .inr ⟨h3,h4,h5⟩,h2.symm⟩
theorem type_info:(Tryz.prog.info? 59).map (·.size)=some 2:=by kernel_rfl
theorem retT {fn:Func} {p a:Tmp} (h:fn.results=#[.cell p 59,.tmp a]) (tmps:Array Value) (w:World) (g:Nat) (u:Bool) (k:Int) (hp:tmps.getD p undef=.pointer (some ⟨g,0,none⟩)) (hg:w.heap[g]?=some (.cells #[.int .i64 k,.bool u] 59 (0,0))) :
 (results fn tmps).run Tryz.prog w=.ok (.tuple #[tv u k,tmps.getD a undef]) w:=by
 have hp':tmps[p]?.getD undef=.pointer (some ⟨g,0,none⟩):=by simpa using hp
 simp [results,h,hp',asAddr,run_loadVar_row w g 59 59 #[.int .i64 k,.bool u] (0,0) _ hg Tryz.underlying59 rfl type_info]
 rfl
theorem cReadType (s:ByteArray) (hm:s.size≤1000000) (w:World):Calls Tryz.prog 119 #[.string s] w fun e w'=>∃ u k y,e=.returned (.tuple #[tv u k,.bool y])∧Sc.Ty (bl s) u k y∧Below w.heap.size w w':=by
 have HB:=hZ (box_new w (.cells #[.int .i64 0,.bool false] 59))
 have HV:=hZ (Blk.new w 59 #[.int .i64 0,.bool false])
 go_enter Tryz.func119,Tryz.ntmps119
 go_wp2_with fail
 ((with_reducible refine (cSuffix s 42 hm _).mono ?_);rintro e w1 ⟨t1,y,rfl,h1,rfl⟩)
 have hm1:t1.size≤1000000:=by
  rcases h1 with ⟨_,h⟩|⟨_,_,h⟩
  ·have:=congrArg List.length h
   rw [List.length_append,bl_length,bl_length] at this;simp at this;omega
  ·rw [h];exact hm
 have H1:=hZ h1
 clear h1
 go_wp2_with fail
 ((with_reducible refine (cSuffix t1 63 hm1 _).mono ?_);rintro e w1 ⟨t2,u,rfl,h2,rfl⟩)
 have H2:=hZ h2
 clear h2
 go_wp2_with fail
 ((with_reducible refine (cKinds _).mono ?_);rintro e w2 ⟨rfl,hw,hlt,b2⟩)
 have hw2:∀ j,j < Sc.W.length→w2.cell? ⟨(w.alloc (.cells #[.int .i64 0,.bool false] 59)).heap.size,0+j,none⟩=some (.string (Sc.W.getD j ByteArray.empty)):=fun j hj=>hw j hj
 have HV2:=hZ (HV.out.later b2)
 have HB2:=hZ (up HB.out b2)
 generalize hg:(w.alloc (.cells #[.int .i64 0,.bool false] 59)).heap.size=g at *
 clear b2 HV HB
 go_wp2_with fail
 ((with_reducible refine (Tryz.slices_Index_string g 0 6 6 Sc.W t2 _ (by decide) (by decide) hw2).mono ?_);rintro e w3 ⟨rfl,h3⟩)
 have h3:=h3.symm
 subst h3
 obtain⟨k,hk⟩:∃ k,Lib.idxOfS (Sc.W.take 6) t2=k:=⟨_,rfl⟩
 have HW:=hZ (Sc.idxW t2)
 rw [hk] at HW ⊢
 have f0:=HV2.out.frozen 0
 have f1:=HV2.out.frozen 1
 have v0:=HV2.out.cell 0
 have v1:=HV2.out.cell 1
 simp only [zD,zE] at v0 v1
 have HP:=hZ (Blk.put (Blk.put HV2.out 0 (.int .i64 k)) 1 (.bool u))
 have HB3:=hZ ((HB2.out.setCell (Nat.le_refl _) (.int .i64 k) (p:=⟨w.heap.size,0,none⟩)).setCell (Nat.le_refl _) (.bool u) (p:=⟨w.heap.size,1,none⟩))
 clear hk hw hw2 hlt hg hm hm1
 go_wp2_with fail
 exact bodyPost_ret (retT rfl _ _ w.heap.size u k rfl HP.out) rfl ⟨u,k,y,rfl,Sc.Ty.of (t1:=bl t1) (H1.out.imp id (fun ⟨a,b,c⟩=>⟨a,b,by rw [c]⟩)) (H2.out.imp id (fun ⟨a,b,c⟩=>⟨a,b,by rw [c]⟩)) HW.out,HB3.out⟩
theorem cAtoi (X:ByteArray) (hX:X.size≤1048576) (w:World) (T:TabE w):Calls Tryz.prog 142 #[.string X] w fun e w'=>∃ z x,e=.returned (.tuple #[.int .i64 z,x])∧(-9223372036854775808≤z∧z≤9223372036854775807)∧((x=.nilIface∧Lib.atoiAll X.data.toList=.ok z) ∨ ((∃ a b,x=.iface a b)∧∀ v,Lib.atoiAll X.data.toList≠.ok v))∧Below w.heap.size w w':=by
 obtain⟨⟨e1,h1,k1⟩,⟨e2,h2,k2⟩⟩:=T
 cases he:Lib.atoiAll X.data.toList with
 | ok v =>
  have hb:=Lib.atoiAll_bounds he
  exact (Tryz.strconv_Atoi_ok X (by omega) v he w).mono fun e w' ⟨h3,h4⟩=>⟨_,_,h3,hb,.inl ⟨rfl,rfl⟩,by
   rcases h4 with rfl|⟨t,rfl⟩
   ·exact Below.refl _ _
   ·exact Lib.bytesWorld_below _ _ _⟩
 | «range»=>exact (Tryz.strconv_Atoi_range X (by omega) he e2 w h2 k2).mono fun e w' ⟨N,h3,_,_,h4⟩=>⟨_,_,h3,Lib.atoiSat_bounds _,.inr ⟨⟨_,_,rfl⟩,fun v e=>by cases e⟩,h4⟩
 | _=>exact (Any.strconv_Atoi_syntax Tryz.laysC172 X (by omega) he e1 w h1 k1).mono fun e w' ⟨N,h3,_,_,h4⟩=>⟨_,_,h3,⟨by omega,by omega⟩,.inr ⟨⟨_,_,rfl⟩,fun v e=>by cases e⟩,h4⟩
theorem cItoa (n:Int) (h0 : -9223372036854775808≤n) (h1:n≤9223372036854775807) (w:World) (T:TabP w):Calls Tryz.prog 143 #[.int .i64 n] w fun e w'=>e=.returned (.string (itS n))∧Below w.heap.size w w' :=
 (Tryz.strconv_Itoa n h0 h1 w T).mono fun e w' ⟨h2,k,os,h3⟩=>⟨h2,by rw [h3];exact Lib.below_grow _ _ (Nat.le_refl _) _ _⟩
theorem atoi_its {X:ByteArray} {m:Int} (h0:0≤m) (h1:m≤1048576) (h:Jr.dnum m=bl X):Lib.atoiAll X.data.toList=.ok m:=by
 have e:itS m=X:=bl_inj (by rw [itS_dnum,h])
 rw [← Lib.parseIntB_64,← e]
 exact parse_itS m (by omega) (by omega)
theorem cReadId (s:ByteArray) (hm:s.size≤1000000) (w:World) (T:TA w):Calls Tryz.prog 118 #[.string s] w fun e w'=>∃ n ok,e=.returned (.tuple #[.int .i64 n,.bool ok])∧Sc.Idw (bl s) n ok∧Below w.heap.size w w':=by
 have HT:=hZ T
 clear T
 go_enter Tryz.func118,Tryz.ntmps118
 go_wp2_with fail
 ((with_reducible refine (cAtoi s (by omega) _ HT.out.err).mono ?_);rintro e w1 ⟨z,x,rfl,hz,hx,b1⟩)
 have HB:=hZ b1
 clear b1
 rcases hx with ⟨rfl,ho⟩|⟨⟨xa,xb,rfl⟩,hno⟩
 ·by_cases c0:z < 0
  ·have HN:Hid (∀ m:Int,0≤m→m≤1048576→Jr.dnum m≠bl s):=hZ (fun m m0 m1 e=>by
    have:=atoi_its m0 m1 e
    rw [ho] at this;injection this with this;omega)
   clear ho hz
   go_wp2_with fail
   go_ret2
   exact⟨_,_,rfl,.inr ⟨rfl,HN.out⟩,HB.out⟩
  ·by_cases c1:z > 1048576
   ·have HN:Hid (∀ m:Int,0≤m→m≤1048576→Jr.dnum m≠bl s):=hZ (fun m m0 m1 e=>by
     have:=atoi_its m0 m1 e
     rw [ho] at this;injection this with this;omega)
    clear ho hz
    go_wp2_with fail
    go_ret2
    exact⟨_,_,rfl,.inr ⟨rfl,HN.out⟩,HB.out⟩
   ·have HI:=hZ (cItoa z (by omega) (by omega) w1 (HT.out.later HB.out).pow)
    have HO:=hZ ho
    clear ho
    by_cases hs:itS z=s
    ·have q:(itS z).toList == s.toList:=by rw [hs];simp
     have q2:((itS z).toList != s.toList)=false:=by simp [bne,q]
     have HD:Hid (Jr.dnum z=bl s):=hZ (by rw [← hs,itS_dnum])
     generalize itS z=v at *
     clear hs
     go_wp2_with fail
     ((with_reducible refine HI.out.mono ?_);rintro e w2 ⟨rfl,b2⟩)
     have HB2:=hZ (up HB.out b2)
     clear b2 HI
     go_wp2_with fail
     go_ret2
     exact⟨_,_,rfl,.inl ⟨rfl,by omega,by omega,HD.out⟩,HB2.out⟩
    ·have q:((itS z).toList == s.toList)=false:=by
      rw [bl_eq,decide_eq_false];intro e;exact hs (bl_inj e)
     have q2:((itS z).toList != s.toList)=true:=by simp [bne,q]
     have HN:Hid (∀ m:Int,0≤m→m≤1048576→Jr.dnum m≠bl s):=hZ (fun m m0 m1 e=>by
      have h1:=atoi_its m0 m1 e
      rw [HO.out] at h1;injection h1 with h1
      exact hs (bl_inj (by rw [itS_dnum,h1,e])))
     generalize itS z=v at *
     clear hs
     go_wp2_with fail
     ((with_reducible refine HI.out.mono ?_);rintro e w2 ⟨rfl,b2⟩)
     have HB2:=hZ (up HB.out b2)
     clear b2 HI
     go_wp2_with fail
     go_ret2
     exact⟨_,_,rfl,.inr ⟨rfl,HN.out⟩,HB2.out⟩
 ·have HN:Hid (∀ m:Int,0≤m→m≤1048576→Jr.dnum m≠bl s):=hZ (fun m m0 m1 e=>hno _ (atoi_its m0 m1 e))
  clear hno hz
  go_wp2_with fail
  go_ret2
  exact⟨_,_,rfl,.inr ⟨rfl,HN.out⟩,HB.out⟩
def Four (w:World) (g:Nat) (a b d t:ByteArray):Prop:=w.cell? ⟨g,0,none⟩=some (.string a)∧w.cell? ⟨g,1,none⟩=some (.string b)∧w.cell? ⟨g,2,none⟩=some (.string d)∧w.cell? ⟨g,3,none⟩=some (.string t)
theorem Four.later {w w':World} {g:Nat} {a b d t:ByteArray} (h:Four w g a b d t) (hb:Below w.heap.size w w'):Four w' g a b d t:=by
 obtain⟨h0,h1,h2,h3⟩:=h
 have hl:g < w.heap.size:=cell_lt h0
 exact⟨(hb.cell (p:=⟨g,0,none⟩) hl).trans h0,(hb.cell (p:=⟨g,1,none⟩) hl).trans h1,(hb.cell (p:=⟨g,2,none⟩) hl).trans h2,(hb.cell (p:=⟨g,3,none⟩) hl).trans h3⟩
theorem cSplit (s:ByteArray) (hm:s.size≤1000000) (w:World) (T:TabM w):Calls Tryz.prog 117 #[.string s,.string ⟨#[32]⟩,.int .i64 4] w fun e w'=>∃ n c:Nat,e=.returned (.slice (some ⟨w.heap.size,0,none⟩) n c)∧n≤4 ∧
 ((n < 4∧(bl s).count 32 < 3) ∨ (n=4∧∃ a b d t:ByteArray,Four w' w.heap.size a b d t∧32 ∉ bl a∧32 ∉ bl b∧32 ∉ bl d∧bl s=bl a++32::(bl b++32::(bl d++32::bl t))∧a.size≤s.size∧b.size≤s.size∧d.size≤s.size∧t.size≤s.size))∧w.heap.size < w'.heap.size∧Below w.heap.size w w':=by
 obtain⟨m,hmm⟩:=T
 refine (Tryz.strings_SplitN s ⟨#[32]⟩ 4 m w (by omega) hmm (by decide) (by decide) (by decide)).mono fun e w' ⟨h1,h2⟩=>?_
 subst h2
 refine⟨_,_,h1,?_,?_,by simp,box_new _ _⟩
 ·have:=Lib.splitB_length_le ⟨#[32]⟩ 0 (min 4 (s.size+1) - 1) s;omega
 ·rcases Sc.split4 s _ rfl with ⟨h3,h4⟩|⟨a,b,d,t,h3,h4⟩
  ·exact .inl ⟨h3,h4⟩
  ·rw [h3]
   refine .inr ⟨rfl,a,b,d,t,?_,h4⟩
   have hv:=Blk.new w 9 (Lib.cellsOf [a,b,d,t] (min 4 (s.size+1)))
   exact⟨(hv.cell 0).trans rfl,(hv.cell 1).trans rfl,(hv.cell 2).trans rfl,(hv.cell 3).trans rfl⟩
open Go.RowKit
def eqk (x y:Co):Bool:=decide (x.id=y.id) && (decide (bl x.nm=bl y.nm) && ((decide (x.k=y.k) && decide (x.u=y.u)) && (decide (x.d.u=y.d.u) && (decide (x.d.n=y.d.n) && decide (bl x.d.s=bl y.d.s)))))
theorem eqk_iff (x y:Co):eqk x y=true↔x=y:=by
 unfold eqk
 simp only [Bool.and_eq_true,decide_eq_true_eq]
 constructor
 ·rintro ⟨h1,h2,⟨h3,h4⟩,h5,h6,h7⟩
  obtain⟨a1,a2,a3,a4,a5⟩:=x
  obtain⟨b1,b2,b3,b4,b5⟩:=y
  have h8:a5=b5:=Cl.C.ext' h5 h6 h7
  have h9:a2=b2:=bl_inj h2
  simp_all
 ·rintro rfl;simp
theorem run_eqk (x y:Co) (w:World):(Op.equalIn 10000 63 (kov x) (kov y)).run Tryz.prog w=.ok (eqk x y) w:=by
 have hS:Tryz.prog.underlying 63=some (.struct (Tryz.prog.fieldsOf 63)):=by kernel_rfl
 have hp:Tryz.prog.stoodInHeld 63=false:=by kernel_rfl
 have hS1:Tryz.prog.underlying 59=some (.struct (Tryz.prog.fieldsOf 59)):=by kernel_rfl
 have hp1:Tryz.prog.stoodInHeld 59=false:=by kernel_rfl
 have hS2:Tryz.prog.underlying 61=some (.struct (Tryz.prog.fieldsOf 61)):=by kernel_rfl
 have hp2:Tryz.prog.stoodInHeld 61=false:=by kernel_rfl
 have u1:=Tryz.underlying4
 have u2:=Tryz.underlying9
 have u3:=Tryz.underlying2
 have u4:=Tryz.underlying3
 have z1:=Tryz.sizeOf4
 have z2:=Tryz.sizeOf9
 have z3:=Tryz.sizeOf2
 have z4:=Tryz.sizeOf3
 have z5:=Tryz.sizeOf59
 have z6:=Tryz.sizeOf61
 have a1:=Tryz.isAgg4
 have a2:=Tryz.isAgg9
 have a3:=Tryz.isAgg2
 have a4:=Tryz.isAgg3
 have a5:=Tryz.isAgg59
 have a6:=Tryz.isAgg61
 have q1:∀ w,(Op.equalIn 9999 59 (.agg #[.int .i64 x.k,.bool x.u]) (.agg #[.int .i64 y.k,.bool y.u])).run Tryz.prog w=.ok (decide (x.k=y.k) && decide (x.u=y.u)) w:=fun w=>by
  rw [show (9999:Nat)=9998+1 from rfl,run_equalIn_agg w 9998 59 _ _ hS1 hp1]
  simp only [Program.fieldsOf,Tryz.underlying59]
  go_simp
  by_cases h1:x.k=y.k<;>by_cases h3:x.u=y.u<;>simp [h1,h3]
 have q2:∀ w,(Op.equalIn 9999 61 (.agg #[.bool x.d.u,.int .i64 x.d.n,.string x.d.s]) (.agg #[.bool y.d.u,.int .i64 y.d.n,.string y.d.s])).run Tryz.prog w=.ok (decide (x.d.u=y.d.u) && (decide (x.d.n=y.d.n) && decide (bl x.d.s=bl y.d.s))) w:=fun w=>by
  simp only [← bl_eq]
  rw [show (9999:Nat)=9998+1 from rfl,run_equalIn_agg w 9998 61 _ _ hS2 hp2]
  simp only [Program.fieldsOf,Tryz.underlying61]
  go_simp
  by_cases h1:x.d.u=y.d.u<;>by_cases h3:x.d.n=y.d.n<;>by_cases h4:x.d.s.toList=y.d.s.toList<;>simp [h1,h3,h4]
 obtain⟨r1,h1⟩:∃ r,(decide (x.k=y.k) && decide (x.u=y.u))=r:=⟨_,rfl⟩
 obtain⟨r2,h2⟩:∃ r,(decide (x.d.u=y.d.u) && (decide (x.d.n=y.d.n) && decide (bl x.d.s=bl y.d.s)))=r:=⟨_,rfl⟩
 simp only [h1] at q1
 simp only [h2] at q2
 have e:eqk x y=(decide (x.id=y.id) && (decide (bl x.nm=bl y.nm) && (r1 && r2))):=by unfold eqk;rw [h1,h2]
 rw [e,← bl_eq]
 clear h1 h2 e
 unfold kov
 rw [show (10000:Nat)=9999+1 from rfl,run_equalIn_agg w 9999 63 _ _ hS hp]
 simp only [Program.fieldsOf,Tryz.underlying63]
 go_simp
 by_cases h1:x.id=y.id<;>cases r1<;>cases r2<;>by_cases h4:x.nm.toList=y.nm.toList<;>simp [h1,h4,q1,q2]
theorem rdI_at {W w:World} {B n c:Nat} {ad:Option Addr} {l:List Int} (h:RdI W B (.slice ad n c) l) (hb:Below B W w) {i:Nat} {x:Int} (hi:l[i]?=some x) :
 ∃ b off,ad=some ⟨b,off,none⟩∧w.cell? ⟨b,off+i,none⟩=some (.int .i64 x):=rdI_cell h hb hi
theorem rEqCols (v1 v2:Value) (l1 l2:List Co) (w:World) (h1:RdK w w.heap.size v1 l1) (h2:RdK w w.heap.size v2 l2) (b:Bool) (hb:b=true↔l1=l2) :
 Calls Tryz.prog 43 #[v1,v2] w fun e w'=>e=.returned (.bool b)∧Below w.heap.size w w':=by
 have HR1:=hZ h1
 have HR2:=hZ h2
 have HB:=hZ hb
 have HL:=hZ (Gn.Rd.len' h1)
 obtain⟨a1,c1,rfl,_⟩:=Gn.Rd.form h1
 obtain⟨a2,c2,rfl,_⟩:=Gn.Rd.form h2
 clear h1 h2 hb
 by_cases hn:l1.length=l2.length
 ·have hn':((l1.length:Int) != (l2.length:Nat))=false:=by simp;omega
  go_enter Tryz.func43,Tryz.ntmps43
  go_wp2_with fail
  go_loopw [5] (fun i wr=>∃ k:Nat,k≤l1.length∧i=.int .i64 (k:Nat)∧Hid (∀ (j:Nat),j < k→l1[j]?=l2[j]?)∧Hid (Below w.heap.size w wr)) (fun i _=>l1.length - (intOf i).toNat)
  case atStart=>exact⟨0,by omega,by rfl,hZ (fun j hj=>by omega),hZ (Below.refl _ _)⟩
  case round =>
   obtain⟨k,hk,rfl,HE,HU⟩:=hrel
   have hml:=HL.out
   by_cases hlt:k < l1.length
   ·have hlt1:(k:Int) < l1.length:=by omega
    have hlt2:(k:Int) < l2.length:=by omega
    obtain⟨x,hx⟩:∃ x,l1[k]?=some x:=⟨_,List.getElem?_eq_getElem hlt⟩
    obtain⟨y,hy⟩:∃ y,l2[k]?=some y:=⟨_,List.getElem?_eq_getElem (by omega)⟩
    obtain⟨b1,o1,rfl,p0,p1,p2,p3,p4,p5,p6⟩:=rdK_cells HR1.out HU.out.drew hx
    obtain⟨b2,o2,rfl,q0,q1,q2,q3,q4,q5,q6⟩:=rdK_cells HR2.out HU.out.drew hy
    have heq:=fun w=>run_eqk x y w
    unfold kov at heq
    have HU2:=hZ HU.out.drew
    by_cases hxy:x=y
    ·have e1:eqk x y=true:=(eqk_iff x y).2 hxy
     rw [e1] at heq
     have HE2:=hZ (show ∀ (j:Nat),j < k+1→l1[j]?=l2[j]? from fun j hj=>by
      rcases Nat.lt_succ_iff_lt_or_eq.1 hj with h|rfl
      ·exact HE.out j h
      ·rw [hx,hy,hxy])
     clear hx hy hxy e1 hn
     go_wp2_with fail
     go_region
     all_goals
      go_wp2_with fail
      go_roundw
      case rel=>exact⟨k+1,by omega,by go_num,HE2,HU2⟩
      case measure=>simp [intOf];omega
    ·have e1:eqk x y=false:=by
      cases he:eqk x y with
      | false=>rfl
      | true=>exact absurd ((eqk_iff x y).1 he) hxy
     rw [e1] at heq
     obtain rfl:b=false:=falseOf HB.out (fun e=>hxy (by rw [e,hy] at hx;injection hx with e;exact e.symm))
     clear hx hy hxy e1 hn
     go_wp2_with fail
     go_region
     all_goals
      go_wp2_with fail
      go_ret
      exact⟨rfl,HU2.out⟩
   ·have hlt1:¬ (k:Int) < l1.length:=by omega
    have hlt2:¬ (k:Int) < l2.length:=by omega
    have hbt:b=true:=HB.out.2 (List.ext_getElem? fun j=>by
     rcases Nat.lt_or_ge j k with h|h
     ·exact HE.out j h
     ·rw [List.getElem?_eq_none (by omega),List.getElem?_eq_none (by omega)])
    subst hbt
    clear hn
    go_wp2_with fail
    go_ret
    exact⟨rfl,HU.out⟩
 ·have hn':((l1.length:Int) != (l2.length:Nat))=true:=by simp;omega
  obtain rfl:b=false:=falseOf HB.out (fun e=>hn (by rw [e]))
  clear hn
  go_enter Tryz.func43,Tryz.ntmps43
  go_wp2_with fail
  go_ret
  exact⟨rfl,Below.refl _ _⟩
theorem rEqInts (v1 v2:Value) (l1 l2:List Int) (w:World) (h1:RdI w w.heap.size v1 l1) (h2:RdI w w.heap.size v2 l2) (b:Bool) (hb:b=true↔l1=l2) :
 Calls Tryz.prog 44 #[v1,v2] w fun e w'=>e=.returned (.bool b)∧Below w.heap.size w w':=by
 have HR1:=hZ h1
 have HR2:=hZ h2
 have HB:=hZ hb
 have HL:=hZ (Gn.Rd.len' h1)
 obtain⟨a1,c1,rfl,_⟩:=Gn.Rd.form h1
 obtain⟨a2,c2,rfl,_⟩:=Gn.Rd.form h2
 clear h1 h2 hb
 by_cases hn:l1.length=l2.length
 ·have hn':((l1.length:Int) != (l2.length:Nat))=false:=by simp;omega
  go_enter Tryz.func44,Tryz.ntmps44
  go_wp2_with fail
  go_loopw [5] (fun i wr=>∃ k:Nat,k≤l1.length∧i=.int .i64 (k:Nat)∧Hid (∀ (j:Nat),j < k→l1[j]?=l2[j]?)∧Hid (Below w.heap.size w wr)) (fun i _=>l1.length - (intOf i).toNat)
  case atStart=>exact⟨0,by omega,by rfl,hZ (fun j hj=>by omega),hZ (Below.refl _ _)⟩
  case round =>
   obtain⟨k,hk,rfl,HE,HU⟩:=hrel
   have hml:=HL.out
   by_cases hlt:k < l1.length
   ·have hlt1:(k:Int) < l1.length:=by omega
    have hlt2:(k:Int) < l2.length:=by omega
    obtain⟨x,hx⟩:∃ x,l1[k]?=some x:=⟨_,List.getElem?_eq_getElem hlt⟩
    obtain⟨y,hy⟩:∃ y,l2[k]?=some y:=⟨_,List.getElem?_eq_getElem (by omega)⟩
    obtain⟨b1,o1,rfl,p0⟩:=rdI_at HR1.out HU.out.drew hx
    obtain⟨b2,o2,rfl,q0⟩:=rdI_at HR2.out HU.out.drew hy
    have HU2:=hZ HU.out.drew
    by_cases hxy:x=y
    ·have e1:(x != y)=false:=by simpa using hxy
     have HE2:=hZ (show ∀ (j:Nat),j < k+1→l1[j]?=l2[j]? from fun j hj=>by
      rcases Nat.lt_succ_iff_lt_or_eq.1 hj with h|rfl
      ·exact HE.out j h
      ·rw [hx,hy,hxy])
     clear hx hy hxy hn
     go_wp2_with fail
     go_region
     all_goals
      go_wp2_with fail
      go_roundw
      case rel=>exact⟨k+1,by omega,by go_num,HE2,HU2⟩
      case measure=>simp [intOf];omega
    ·have e1:(x != y)=true:=by simpa using hxy
     obtain rfl:b=false:=falseOf HB.out (fun e=>hxy (by rw [e,hy] at hx;injection hx with e;exact e.symm))
     clear hx hy hxy hn
     go_wp2_with fail
     go_region
     all_goals
      go_wp2_with fail
      go_ret
      exact⟨rfl,HU2.out⟩
   ·have hlt1:¬ (k:Int) < l1.length:=by omega
    have hlt2:¬ (k:Int) < l2.length:=by omega
    have hbt:b=true:=HB.out.2 (List.ext_getElem? fun j=>by
     rcases Nat.lt_or_ge j k with h|h
     ·exact HE.out j h
     ·rw [List.getElem?_eq_none (by omega),List.getElem?_eq_none (by omega)])
    subst hbt
    clear hn
    go_wp2_with fail
    go_ret
    exact⟨rfl,HU.out⟩
 ·have hn':((l1.length:Int) != (l2.length:Nat))=true:=by simp;omega
  obtain rfl:b=false:=falseOf HB.out (fun e=>hn (by rw [e]))
  clear hn
  go_enter Tryz.func44,Tryz.ntmps44
  go_wp2_with fail
  go_ret
  exact⟨rfl,Below.refl _ _⟩
theorem cEqInts (v1 v2:Value) (l1 l2:List Int) (w:World) (h1:RdI w w.heap.size v1 l1) (h2:RdI w w.heap.size v2 l2) (b:Bool) (hb:b=true↔l1=l2) :
 Calls Tryz.prog 88 #[v1,v2] w fun e w'=>e=.returned (.bool b)∧Below w.heap.size w w':=by
 have HR1:=hZ h1
 have HR2:=hZ h2
 have HB:=hZ hb
 have HL:=hZ (Gn.Rd.len' h1)
 obtain⟨a1,c1,rfl,_⟩:=Gn.Rd.form h1
 obtain⟨a2,c2,rfl,_⟩:=Gn.Rd.form h2
 clear h1 h2 hb
 by_cases hn:l1.length=l2.length
 ·have hn':((l1.length:Int) != (l2.length:Nat))=false:=by simp;omega
  go_enter Tryz.func88,Tryz.ntmps88
  go_wp2_with fail
  go_loopw [13] (fun i wr=>∃ k:Nat,k≤l1.length∧i=.int .i64 (k:Nat)∧Hid (∀ (j:Nat),j < k→l1[j]?=l2[j]?)∧Hid (Below w.heap.size w wr)) (fun i _=>l1.length - (intOf i).toNat)
  case atStart=>exact⟨0,by omega,by rfl,hZ (fun j hj=>by omega),hZ (Below.refl _ _)⟩
  case round =>
   obtain⟨k,hk,rfl,HE,HU⟩:=hrel
   have hml:=HL.out
   by_cases hlt:k < l1.length
   ·have hlt1:(k:Int) < l1.length:=by omega
    have hlt2:(k:Int) < l2.length:=by omega
    obtain⟨x,hx⟩:∃ x,l1[k]?=some x:=⟨_,List.getElem?_eq_getElem hlt⟩
    obtain⟨y,hy⟩:∃ y,l2[k]?=some y:=⟨_,List.getElem?_eq_getElem (by omega)⟩
    obtain⟨b1,o1,rfl,p0⟩:=rdI_at HR1.out HU.out.drew hx
    obtain⟨b2,o2,rfl,q0⟩:=rdI_at HR2.out HU.out.drew hy
    have HU2:=hZ HU.out.drew
    by_cases hxy:x=y
    ·have e1:(x != y)=false:=by simpa using hxy
     have HE2:=hZ (show ∀ (j:Nat),j < k+1→l1[j]?=l2[j]? from fun j hj=>by
      rcases Nat.lt_succ_iff_lt_or_eq.1 hj with h|rfl
      ·exact HE.out j h
      ·rw [hx,hy,hxy])
     clear hx hy hxy hn
     go_wp2_with fail
     go_region
     all_goals
      go_wp2_with fail
      go_roundw
      case rel=>exact⟨k+1,by omega,by go_num,HE2,HU2⟩
      case measure=>simp [intOf];omega
    ·have e1:(x != y)=true:=by simpa using hxy
     obtain rfl:b=false:=falseOf HB.out (fun e=>hxy (by rw [e,hy] at hx;injection hx with e;exact e.symm))
     clear hx hy hxy hn
     go_wp2_with fail
     go_region
     all_goals
      go_wp2_with fail
      go_ret
      exact⟨rfl,HU2.out⟩
   ·have hlt1:¬ (k:Int) < l1.length:=by omega
    have hlt2:¬ (k:Int) < l2.length:=by omega
    have hbt:b=true:=HB.out.2 (List.ext_getElem? fun j=>by
     rcases Nat.lt_or_ge j k with h|h
     ·exact HE.out j h
     ·rw [List.getElem?_eq_none (by omega),List.getElem?_eq_none (by omega)])
    subst hbt
    clear hn
    go_wp2_with fail
    go_ret
    exact⟨rfl,HU.out⟩
 ·have hn':((l1.length:Int) != (l2.length:Nat))=true:=by simp;omega
  obtain rfl:b=false:=falseOf HB.out (fun e=>hn (by rw [e]))
  clear hn
  go_enter Tryz.func88,Tryz.ntmps88
  go_wp2_with fail
  go_ret
  exact⟨rfl,Below.refl _ _⟩
theorem both (a1 a2:List Co) (b1 b2:List Int) (b x y:Bool) (hx:x=true↔a1=a2) (hy:y=true↔b1=b2) (hb:b=true↔(a1=a2∧b1=b2)):b=(x && y):=by
 rw [Bool.eq_iff_iff,hb,Bool.and_eq_true,hx,hy]
theorem rSame (v1 v2 u1 u2:Value) (l1 l2:List Co) (k1 k2:List Int) (w:World) (h1:RdK w w.heap.size v1 l1) (h2:RdK w w.heap.size v2 l2) (g1:RdI w w.heap.size u1 k1) (g2:RdI w w.heap.size u2 k2) (b:Bool) (hb:b=true↔(l1=l2∧k1=k2)) :
 Calls Tryz.prog 21 #[.agg #[v1,u1],.agg #[v2,u2]] w fun e w'=>e=.returned (.bool b)∧Below w.heap.size w w':=by
 have b1:=box_new w (.cells #[v1,u1] 25)
 have b2:=box_new (w.alloc (.cells #[v1,u1] 25)) (.cells #[v2,u2] 25)
 have HB:=hZ (up b1 b2)
 have HX:=hZ (Blk.later (Blk.new w 25 #[v1,u1]) b2)
 have hy:=Blk.new (w.alloc (.cells #[v1,u1] 25)) 25 #[v2,u2]
 rw [show (w.alloc (.cells #[v1,u1] 25)).heap.size=w.heap.size+1 by simp] at hy
 have HY:=hZ hy
 obtain⟨x,hx⟩:∃ x:Bool,x=true↔l1=l2:=by
  by_cases h:l1=l2
  ·exact⟨true,by simp [h]⟩
  ·exact⟨false,by simp [h]⟩
 obtain⟨y,hy2⟩:∃ y:Bool,y=true↔k1=k2:=by
  by_cases h:k1=k2
  ·exact⟨true,by simp [h]⟩
  ·exact⟨false,by simp [h]⟩
 obtain rfl:=both l1 l2 k1 k2 b x y hx hy2 hb
 have HC:=hZ (rEqCols v1 v2 l1 l2 _ (h1.later HB.out) (h2.later HB.out) x hx)
 have HI:=hZ (fun w1 (h:Below w.heap.size w w1)=>rEqInts u1 u2 k1 k2 w1 (g1.later h) (g2.later h) y hy2)
 have x0:=HX.out.cell 0
 have y0:=HY.out.cell 0
 simp only [zD,zE] at x0 y0
 clear h1 h2 g1 g2 hb hx hy2 hy b1 b2
 cases x with
 | false =>
  clear HI
  go_enter Tryz.func21,Tryz.ntmps21
  go_wp2_with fail
  ((with_reducible refine HC.out.mono ?_);rintro e w1 ⟨rfl,c1⟩)
  have HB2:=hZ (up HB.out c1)
  clear c1
  go_wp2_with fail
  go_ret
  exact⟨rfl,HB2.out⟩
 | true =>
  go_enter Tryz.func21,Tryz.ntmps21
  go_wp2_with fail
  ((with_reducible refine HC.out.mono ?_);rintro e w1 ⟨rfl,c1⟩)
  have HB2:=hZ (up HB.out c1)
  have x1:=(HX.out.later c1).cell 1
  have y1:=(HY.out.later c1).cell 1
  simp only [zD,zE] at x1 y1
  clear c1 x0 y0 HC
  go_wp2_with fail
  ((with_reducible refine (HI.out _ HB2.out).mono ?_);rintro e w2 ⟨rfl,c2⟩)
  have HB3:=hZ (up HB2.out c2)
  clear c2
  go_wp2_with fail
  go_ret
  exact⟨by simp,HB3.out⟩
end Go.Proofs.YtenfjmdajlhfoabGreatDoor
