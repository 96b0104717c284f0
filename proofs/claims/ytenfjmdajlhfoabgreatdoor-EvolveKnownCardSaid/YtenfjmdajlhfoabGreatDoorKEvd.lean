/- Texts. -/
import Derived.Lib.SliceRun
import Derived.Test.YtenfjmdajlhfoabGreatDoorKEve
set_option maxHeartbeats 8000000
namespace Go.Proofs.YtenfjmdajlhfoabGreatDoor
open Go.RowKit Go.Sort
set_option linter.unusedVariables false
set_option linter.unusedSimpArgs false
set_option maxRecDepth 100000
theorem bring_eqE (x n:Int) (hn:0 < n) (hn':n≤10000000000):(x.tmod n < 0→wrap64 (x.tmod n+n)=x % n)∧(0≤x.tmod n→x.tmod n=x % n):=by
 unfold wrap64
 have h:=Int.tmod_eq_emod (a:=x) (b:=n)
 have h2:=Int.emod_nonneg x (b:=n) (by omega)
 have h3:=Int.emod_lt_of_pos x hn
 split at h<;>constructor<;>intro h5<;>omega
theorem bringE (x n:Int) (w:World) (h:Cl.I64 x) (hn:0 < n) (hn':n≤10000000000) :
 Calls Tryz.prog 28 #[.int .i64 x,.int .i64 n] w fun e w'=>e=.returned (.int .i64 (x % n))∧w=w':=by
 have h0 : -9223372036854775808≤x:=h.1
 have h1:x≤9223372036854775807:=h.2
 have he:=hZ (bring_eqE x n hn hn')
 clear h
 go_enter Tryz.func28,Tryz.ntmps28
 go_wp2
 ·go_ret
  exact⟨congrArg Ending.returned (congrArg (Value.int IntKind.i64) (he.out.1 (by assumption))),rfl⟩
 ·go_ret
  exact⟨congrArg Ending.returned (congrArg (Value.int IntKind.i64) (he.out.2 (by assumption))),rfl⟩
theorem retCE {fn:Func} {p:Tmp} (h:fn.results=#[.cell p 61]) (tmps:Array Value) (w:World) (g:Nat) (c:Cl.C) (hp:tmps.getD p undef=.pointer (some ⟨g,0,none⟩)) (hg:CV w g c) :
 (results fn tmps).run Tryz.prog w=.ok (cv c) w:=ret1 h tmps w g c hp hg.heap
theorem rem_at (n m:Int) (h:m=3):(n.tmod m=0↔n % 3=0):=by
 subst h
 have h:=Int.tmod_eq_emod (a:=n) (b:=3)
 split at h<;>omega
theorem lCellOf (c:Co) (n:Int) (hc:Cl.may c.k=true) (hn:Cl.I64 n) (w:World) :
 Calls Tryz.prog 49 #[kov c,.int .i64 n] w fun e w'=>e=.returned (cv (Ev.cellP c n))∧Below w.heap.size w w':=by
 obtain⟨ci,cm,ck,cu,⟨du,dn,ds⟩⟩:=c
 unfold kov
 have hk:=Cl.may_le hc
 simp only at hk ⊢
 obtain⟨x,hx⟩:∃ x,Ev.cellP ⟨ci,cm,ck,cu,⟨du,dn,ds⟩⟩ n=x:=⟨_,rfl⟩
 rw [hx]
 unfold Ev.cellP at hx
 simp only at hx
 have HB:=hZ (up_box (box_new w (.cells #[.int .i64 ci,.string cm,.int .i64 ck,.bool cu,.bool du,.int .i64 dn,.string ds] 63)) (.cells #[.bool x.u,.int .i64 x.n,.string x.s] 61))
 have HC:=hZ (CV.new (w.alloc (.cells #[.int .i64 ci,.string cm,.int .i64 ck,.bool cu,.bool du,.int .i64 dn,.string ds] 63)) x.u x.n x.s)
 simp only [World.size_alloc] at HC
 have h3:=rem_at n 3 rfl
 have r3:n % 3=0 ∨ n % 3≠0:=by omega
 rcases (show cu=true∧n % 3=0 ∨ ¬ (cu=true∧n % 3=0) by by_cases h:cu=true∧n % 3=0<;>simp [h]) with ⟨rfl,h0⟩|h0
 ·rw [decide_eq_true h0] at hx
  simp only [Bool.and_self,if_true] at hx
  subst hx
  have g1:(n.tmod 3 == 0)=true:=by simpa using h3.2 h0
  have g2:n % 3=0:=h0
  clear h3 r3 h0
  simp only at HB HC
  go_enter Tryz.func49,Tryz.ntmps49
  go_wp2_with fail
  exact bodyPost_ret (retCE rfl _ _ (w.heap.size+1) _ rfl HC.out) rfl ⟨rfl,HB.out⟩
 ·have hb:(cu && decide (n % 3=0))=false:=by
   cases cu with
   | false=>rfl
   | true=>simp at h0;simp [h0]
  rw [hb] at hx
  simp only [Bool.false_eq_true,if_false] at hx
  have W:∀ (g:Bool),(cu=true→(n.tmod 3 == 0)=false):=fun _ hcu=>by
   have:¬ n % 3=0:=fun h=>h0 ⟨hcu,h⟩
   simpa using fun h=>this (h3.1 h)
  have CB2:=hZ (fun w=>bringE n 2 w hn (by omega) (by omega))
  have CB32:=hZ (fun w=>bringE n 4294967296 w hn (by omega) (by omega))
  have CB9:=hZ (fun w=>bringE n 9 w hn (by omega) (by omega))
  have hW:=W true
  clear h3 r3 h0 hb W
  have HSL:=hZ (fun (w:World)=>show (Instr.slice 9 (.string ⟨#[97,98,99,100,101,102,103,104]⟩) none (some (.int .i64 (n % 9))) none).run Tryz.prog w=.ok (.string (Ev.eight.extract 0 (n % 9).toNat)) w from by
   rw [run_slice_string_to_if w 9 _ .i64 _ Tryz.underlying9,if_pos (by have:(⟨#[97,98,99,100,101,102,103,104]⟩:ByteArray).size=8:=rfl;omega)]
   rfl)
  rcases (show ck=1 ∨ ck=2 ∨ ck=3 ∨ ck=4 ∨ ck=5 by omega) with rfl|rfl|rfl|rfl|rfl<;>cases cu
  all_goals (try have g1:=hW rfl)
  all_goals clear hW
  all_goals simp only [Int.reduceEq,if_false,if_true] at hx
  all_goals subst hx
  all_goals simp only at HB HC
  case inr.inl.false|inr.inl.true =>
   all_goals
    clear HSL CB32 CB9
    generalize n % 2=y at *
    go_enter Tryz.func49,Tryz.ntmps49
    go_wp2_with fail
    ((with_reducible refine (CB2.out _).mono ?_);rintro e w1 ⟨rfl,rfl⟩)
    go_wp2_with fail
    exact bodyPost_ret (retCE rfl _ _ (w.heap.size+1) _ rfl HC.out) rfl ⟨rfl,HB.out⟩
  case inr.inr.inl.false|inr.inr.inl.true =>
   all_goals
    clear HSL CB2 CB9
    have hy:0≤n % 4294967296∧n % 4294967296 < 4294967296:=by omega
    generalize n % 4294967296=y at *
    go_enter Tryz.func49,Tryz.ntmps49
    go_wp2_with fail
    ((with_reducible refine (CB32.out _).mono ?_);rintro e w1 ⟨rfl,rfl⟩)
    go_wp2_with fail
    exact bodyPost_ret (retCE rfl _ _ (w.heap.size+1) _ rfl HC.out) rfl ⟨rfl,HB.out⟩
  case inr.inr.inr.inl.false|inr.inr.inr.inl.true =>
   all_goals
    clear HSL CB2 CB9 CB32
    go_enter Tryz.func49,Tryz.ntmps49
    go_wp2_with fail
    exact bodyPost_ret (retCE rfl _ _ (w.heap.size+1) _ rfl HC.out) rfl ⟨rfl,HB.out⟩
  all_goals
   have hsl:=HSL.out
   clear HSL CB2 CB32
   generalize n % 9=y at *
   generalize Ev.eight.extract 0 y.toNat=z at *
   go_enter Tryz.func49,Tryz.ntmps49
   go_wp2_with fail
   ((with_reducible refine (CB9.out _).mono ?_);rintro e w1 ⟨rfl,rfl⟩)
   go_wp2_with fail
   exact bodyPost_ret (retCE rfl _ _ (w.heap.size+1) _ rfl HC.out) rfl ⟨rfl,HB.out⟩
theorem lRowOf (kv nv:Value) (l:List Co) (n:List Int) (w:World) (hk:RdK w w.heap.size kv l) (hn:RdI w w.heap.size nv n) (hl:l.length≤1000) (hc:∀ c∈l,Cl.may c.k=true) (hi:∀ x∈n,Cl.I64 x) :
 Calls Tryz.prog 29 #[kv,nv] w fun e w'=>∃ u,e=.returned u∧OwnC w' w.heap.size u (Ev.rowF n 0 l)∧Below w.heap.size w w':=by
 have HK:=hZ hk
 have HN:=hZ hn
 have HC:=hZ hc
 have HI:=hZ hi
 have hml:=Gn.Rd.len' hn
 obtain⟨a,c,rfl,_⟩:=Gn.Rd.form hk
 obtain⟨b,d,rfl,_⟩:=Gn.Rd.form hn
 have HO:Hid (OwnC w w.heap.size (.slice none 0 0) []):=hZ (Gn.Own.nil _ _)
 clear hk hn hc hi
 go_enter Tryz.func29,Tryz.ntmps29
 go_wp2_with fail
 go_loopw [5,6] (fun v i wr=>∃ k:Nat,k≤l.length∧i=.int .i64 (k:Nat)∧Hid (OwnC wr w.heap.size v (Ev.rowF n 0 (l.take k)))∧Hid (Below w.heap.size w wr)) (fun _ i _=>l.length - (intOf i).toNat)
 case atStart=>exact⟨0,by omega,by rfl,HO,hZ (Below.refl _ _)⟩
 case round =>
  obtain⟨k,hkl,rfl,HOk,HU⟩:=hrel
  clear HO
  by_cases hlt:k < l.length
  ·have hlt1:(k:Int) < l.length:=by omega
   obtain⟨x,hx⟩:∃ x,l[k]?=some x:=⟨_,List.getElem?_eq_getElem hlt⟩
   obtain⟨b1,o1,rfl,p0,p1,p2,p3,p4,p5,p6⟩:=rdK_cells HK.out HU.out hx
   obtain⟨z,hz⟩:∃ z,Ev.numAt n k=z:=⟨_,rfl⟩
   have hz64:=Ev.numAt_i64 n k (by omega) HI.out
   rw [hz] at hz64
   have HCC:=hZ (fun w1=>lCellOf x z (HC.out x (List.mem_of_getElem? hx)) hz64 w1)
   have HE:Hid (Ev.rowF n 0 (l.take k)++[Ev.cellP x z]=Ev.rowF n 0 (l.take (k+1))):=hZ (by
    rw [List.take_add_one,hx]
    show _=Ev.rowF n 0 (l.take k++[x])
    rw [Ev.rowF_snoc,Nat.zero_add,List.length_take,Nat.min_eq_left (by omega),hz])
   have HLN:Hid ((Ev.rowF n 0 (l.take k)).length+([Ev.cellP x z]:List Cl.C).length≤100000000):=hZ (by rw [Ev.rowF_len,List.length_take];simp only [List.length_cons,List.length_nil];omega)
   generalize Ev.cellP x z=y at *
   obtain⟨xi,xm,xk,xu,⟨xa,xb,xc⟩⟩:=x
   unfold kov at HCC
   simp only at p0 p1 p2 p3 p4 p5 p6 HCC
   clear hx hz64
   have TAIL:∀ (Q:Prop),Q→Q:=fun _ h=>h
   by_cases hp:n.length=0
   ·have hp1:¬ (n.length:Int) > 0:=by omega
    obtain rfl:z=(k:Int):=by rw [← hz];unfold Ev.numAt;rw [if_pos hp]
    clear hz hp
    go_wp2_with fail
    ((with_reducible refine (HCC.out _).mono ?_);rintro e w1 ⟨rfl,b2⟩)
    have HU1:=hZ (HU.out.trans (b2.mono HU.out.size))
    have HO1:=hZ (Gn.Own.later (Gn.Own.later HOk.out b2) (box_new w1 (.cells #[.bool y.u,.int .i64 y.n,.string y.s] 61)))
    have HU2:=hZ (HU1.out.trans ((box_new w1 (.cells #[.bool y.u,.int .i64 y.n,.string y.s] 61)).mono HU1.out.size))
    have HR1:=hZ (rd_one 61 clL w1 y #[.bool y.u,.int .i64 y.n,.string y.s] rfl)
    clear b2 HU1 HOk HCC p0 p1 p2 p3 p4 p5 p6
    unfold cv
    go_wp2_with (at_builtin
                 refine Gn.wpList_app clL clY rfl (.tmp 25) (.tmp 32) rfl w.heap.size _ _ rfl HO1.out _ [y] rfl HR1.out HLN.out HU2.out.size ?_
                 intro v1 w2 ho1 hg1 hl1 hn1)
    go_roundw
    case rel=>first|exact⟨k+1,by omega,by go_num,hZ (HE.out▸ho1),hZ (HU2.out.trans (Gn.below_of_own HO1.out hg1 HU2.out.size))⟩|((repeat apply Exists.intro);exact⟨⟨k+1,by omega,by go_num,hZ (HE.out▸ho1),hZ (HU2.out.trans (Gn.below_of_own HO1.out hg1 HU2.out.size))⟩,rfl⟩)
    case measure=>simp [intOf];omega
   ·have hp1:(n.length:Int) > 0:=by omega
    have hr:((k:Int).tmod (n.length:Nat))=((k % n.length:Nat):Int):=rfl
    have hr2:((k:Int) % (n.length:Nat))=((k % n.length:Nat):Int):=rfl
    have hmlt:k % n.length < n.length:=Nat.mod_lt _ (by omega)
    obtain⟨m,hm⟩:∃ m,k % n.length=m:=⟨_,rfl⟩
    rw [hm] at hr hr2 hmlt
    have hm1:(m:Int) < n.length:=by omega
    have hzz:n[m]?=some z:=by
     rw [← hz,← hm]
     unfold Ev.numAt
     rw [if_neg hp,List.getD_eq_getElem?_getD,List.getElem?_eq_getElem (by rw [hm];exact hmlt)];rfl
    obtain⟨b2,o2,rfl,p7⟩:=rdI_cell HN.out HU.out hzz
    clear hz hzz hp hm
    go_wp2_with fail
    ((with_reducible refine (HCC.out _).mono ?_);rintro e w1 ⟨rfl,b3⟩)
    have HU1:=hZ (HU.out.trans (b3.mono HU.out.size))
    have HO1:=hZ (Gn.Own.later (Gn.Own.later HOk.out b3) (box_new w1 (.cells #[.bool y.u,.int .i64 y.n,.string y.s] 61)))
    have HU2:=hZ (HU1.out.trans ((box_new w1 (.cells #[.bool y.u,.int .i64 y.n,.string y.s] 61)).mono HU1.out.size))
    have HR1:=hZ (rd_one 61 clL w1 y #[.bool y.u,.int .i64 y.n,.string y.s] rfl)
    clear b3 HU1 HOk HCC p0 p1 p2 p3 p4 p5 p6 p7 hr hr2
    unfold cv
    go_wp2_with (at_builtin
                 refine Gn.wpList_app clL clY rfl (.tmp 25) (.tmp 32) rfl w.heap.size _ _ rfl HO1.out _ [y] rfl HR1.out HLN.out HU2.out.size ?_
                 intro v1 w2 ho1 hg1 hl1 hn1)
    go_roundw
    case rel=>first|exact⟨k+1,by omega,by go_num,hZ (HE.out▸ho1),hZ (HU2.out.trans (Gn.below_of_own HO1.out hg1 HU2.out.size))⟩|((repeat apply Exists.intro);exact⟨⟨k+1,by omega,by go_num,hZ (HE.out▸ho1),hZ (HU2.out.trans (Gn.below_of_own HO1.out hg1 HU2.out.size))⟩,rfl⟩)
    case measure=>simp [intOf];omega
  ·have hlt1:¬ (k:Int) < l.length:=by omega
   have HE:Hid (l.take k=l):=hZ (List.take_of_length_le (by omega))
   go_wp2_with fail
   go_ret
   exact⟨_,rfl,by have h:=HOk.out;rw [HE.out] at h;exact h,HU.out⟩
namespace Ev
open Cl Sc
def eA1:Co:=⟨1,⟨#[105,100]⟩,2,false,⟨false,0,⟨#[]⟩⟩⟩
def eA2:Co:=⟨2,⟨#[115]⟩,4,false,⟨false,0,⟨#[100]⟩⟩⟩
def eB1:Co:=⟨1,⟨#[105,100]⟩,3,false,⟨false,0,⟨#[]⟩⟩⟩
def eB2:Co:=⟨4,⟨#[110]⟩,3,true,⟨true,0,⟨#[]⟩⟩⟩
def eT2:Co:=⟨2,⟨#[116]⟩,4,false,⟨false,0,⟨#[100]⟩⟩⟩
def eT3:Co:=⟨2,⟨#[115]⟩,4,true,⟨false,0,⟨#[100]⟩⟩⟩
def eT4:Co:=⟨2,⟨#[115]⟩,4,false,⟨false,0,⟨#[101]⟩⟩⟩
def eT5:Co:=⟨2,⟨#[115]⟩,4,false,⟨false,0,⟨#[]⟩⟩⟩
def eT6:Co:=⟨1,⟨#[97]⟩,1,false,⟨false,0,⟨#[]⟩⟩⟩
theorem colA1:Col eA1:=⟨by decide,by decide,by decide,by decide +kernel,by constructor<;>decide⟩
theorem colA2:Col eA2:=⟨by decide,by decide,by decide,by decide +kernel,by constructor<;>decide⟩
theorem colB1:Col eB1:=⟨by decide,by decide,by decide,by decide +kernel,by constructor<;>decide⟩
theorem colB2:Col eB2:=⟨by decide,by decide,by decide,by decide +kernel,by constructor<;>decide⟩
theorem colT2:Col eT2:=⟨by decide,by decide,by decide,by decide +kernel,by constructor<;>decide⟩
theorem colT3:Col eT3:=⟨by decide,by decide,by decide,by decide +kernel,by constructor<;>decide⟩
theorem colT4:Col eT4:=⟨by decide,by decide,by decide,by decide +kernel,by constructor<;>decide⟩
theorem colT5:Col eT5:=⟨by decide,by decide,by decide,by decide +kernel,by constructor<;>decide⟩
theorem colT6:Col eT6:=⟨by decide,by decide,by decide,by decide +kernel,by constructor<;>decide⟩
theorem preA1:pre eA1 true=[49,32,105,100,32,105,110,116,51,50,42,32,48]:=by
 show Jr.dnum ((1:Nat):Int)++32::([105,100]++32::([105,110,116,51,50,42]++32::bl (itS ((0:Nat):Int))))=_
 rw [dn 1 (by decide),bl_its 0 (by decide)];rfl
theorem preB1:pre eB1 true=[49,32,105,100,32,105,110,116,54,52,42,32,48]:=by
 show Jr.dnum ((1:Nat):Int)++32::([105,100]++32::([105,110,116,54,52,42]++32::bl (itS ((0:Nat):Int))))=_
 rw [dn 1 (by decide),bl_its 0 (by decide)];rfl
theorem preB2:pre eB2 false=[52,32,110,32,105,110,116,54,52,63,32,110,117,108,108]:=by
 show Jr.dnum ((4:Nat):Int)++32::([110]++32::([105,110,116,54,52,63]++32::[110,117,108,108]))=_
 rw [dn 4 (by decide)];rfl
theorem preS (c:Co) (y:Bool) (x:List Nat) (h:c.id=2) (hx:bl c.nm++32::(typ c.u c.k y++32::bl (txt c.k c.d))=x):pre c y=50::32::x:=by
 subst hx
 unfold pre
 rw [h]
 show Jr.dnum ((2:Nat):Int)++32::_=_
 rw [dn 2 (by decide)];rfl
theorem preA2:pre eA2 false=[50,32,115,32,115,116,114,105,110,103,32,34,100,34]:=preS eA2 false _ rfl (by decide +kernel)
theorem preT2:pre eT2 false=[50,32,116,32,115,116,114,105,110,103,32,34,100,34]:=preS eT2 false _ rfl (by decide +kernel)
theorem preT3:pre eT3 false=[50,32,115,32,115,116,114,105,110,103,63,32,34,100,34]:=preS eT3 false _ rfl (by decide +kernel)
theorem preT4:pre eT4 false=[50,32,115,32,115,116,114,105,110,103,32,34,101,34]:=preS eT4 false _ rfl (by decide +kernel)
theorem preT5:pre eT5 true=[50,32,115,32,115,116,114,105,110,103,42,32,34,34]:=preS eT5 true _ rfl (by decide +kernel)
theorem preT6:pre eT6 false=[49,32,97,32,98,111,111,108,32,102,97,108,115,101]:=by
 show Jr.dnum ((1:Nat):Int)++32::([97]++32::([98,111,111,108]++32::[102,97,108,115,101]))=_
 rw [dn 1 (by decide)];rfl
theorem two (t:List Nat) (c d:Co) (y z:Bool) (p q:List Nat) (hp:pre c y=p) (hq:pre d z=q) (hc:Col c) (hd:Col d) (ht:t=p++10::(q++10::[])) (hl:t.length≤1048576)
 (hk:Sc.ck [c,d] ((if y=true then [((0:Nat):Int)] else [])++(if z=true then [((1:Nat):Int)] else []))=0):parse t=⟨[c,d],(if y=true then [((0:Nat):Int)] else [])++(if z=true then [((1:Nat):Int)] else []),0,0⟩:=by
 refine parse_of hl ?_
 rw [ht,prs_line hp hc,prs_line hq hd,prs_nil]
 show Sc.fin [c,d] _=_
 unfold Sc.fin
 cases y<;>cases z<;>simp only [if_true,Bool.false_eq_true,if_false,List.nil_append,List.append_nil,List.cons_append] at hk ⊢<;>rw [if_pos hk]
theorem one (t:List Nat) (c:Co) (y:Bool) (p:List Nat) (hp:pre c y=p) (hc:Col c) (ht:t=p++10::[]) (hl:t.length≤1048576)
 (hk:Sc.ck [c] (if y=true then [((0:Nat):Int)] else [])=0):parse t=⟨[c],(if y=true then [((0:Nat):Int)] else []),0,0⟩:=by
 refine parse_of hl ?_
 rw [ht,prs_line hp hc,prs_nil]
 show Sc.fin [c] _=_
 unfold Sc.fin
 cases y<;>simp only [if_true,Bool.false_eq_true,if_false,List.nil_append,List.append_nil] at hk ⊢<;>rw [if_pos hk]
def tA:List Nat:=[49,32,105,100,32,105,110,116,51,50,42,32,48]++10::([50,32,115,32,115,116,114,105,110,103,32,34,100,34]++10::[])
theorem pA:parse tA=⟨[eA1,eA2],[0],0,0⟩:=two tA eA1 eA2 true false _ _ preA1 preA2 colA1 colA2 rfl (by decide) (by decide +kernel)
def tB:List Nat:=[49,32,105,100,32,105,110,116,54,52,42,32,48]++10::([52,32,110,32,105,110,116,54,52,63,32,110,117,108,108]++10::[])
theorem pB:parse tB=⟨[eB1,eB2],[0],0,0⟩:=two tB eB1 eB2 true false _ _ preB1 preB2 colB1 colB2 rfl (by decide) (by decide +kernel)
def t1:List Nat:=[49,32,105,100,32,105,110,116,51,50,42,32,48]++10::[]
theorem p1:parse t1=⟨[eA1],[0],0,0⟩:=one t1 eA1 true _ preA1 colA1 rfl (by decide) (by decide +kernel)
def tC:List Nat:=[50,32,115,32,115,116,114,105,110,103,32,34,100,34]++10::[]
theorem pC:parse tC=⟨[eA2],[],0,0⟩:=one tC eA2 false _ preA2 colA2 rfl (by decide) (by decide +kernel)
def tD:List Nat:=[49,32,105,100,32,105,110,116,51,50,42,32,48]++10::([50,32,116,32,115,116,114,105,110,103,32,34,100,34]++10::[])
theorem pD:parse tD=⟨[eA1,eT2],[0],0,0⟩:=two tD eA1 eT2 true false _ _ preA1 preT2 colA1 colT2 rfl (by decide) (by decide +kernel)
def tE:List Nat:=[49,32,105,100,32,105,110,116,51,50,42,32,48]++10::([50,32,115,32,115,116,114,105,110,103,63,32,34,100,34]++10::[])
theorem pE:parse tE=⟨[eA1,eT3],[0],0,0⟩:=two tE eA1 eT3 true false _ _ preA1 preT3 colA1 colT3 rfl (by decide) (by decide +kernel)
def tF:List Nat:=[49,32,105,100,32,105,110,116,51,50,42,32,48]++10::([50,32,115,32,115,116,114,105,110,103,32,34,101,34]++10::[])
theorem pF:parse tF=⟨[eA1,eT4],[0],0,0⟩:=two tF eA1 eT4 true false _ _ preA1 preT4 colA1 colT4 rfl (by decide) (by decide +kernel)
def tG:List Nat:=[50,32,115,32,115,116,114,105,110,103,42,32,34,34]++10::[]
theorem pG:parse tG=⟨[eT5],[0],0,0⟩:=one tG eT5 true _ preT5 colT5 rfl (by decide) (by decide +kernel)
def tH:List Nat:=[49,32,97,32,98,111,111,108,32,102,97,108,115,101]++10::([50,32,115,32,115,116,114,105,110,103,42,32,34,34]++10::[])
theorem pH:parse tH=⟨[eT6,eT5],[1],0,0⟩:=two tH eT6 eT5 false true _ _ preT6 preT5 colT6 colT5 rfl (by decide) (by decide +kernel)
end Ev
def SPost (w:World) (s:Ev.Sm) (e:Ending) (w':World):Prop:=∃ x:Sx,x.s=s∧e=.returned (.agg #[x.v,x.kv])∧OwnK w' w.heap.size x.v s.1∧OwnI w' w.heap.size x.kv s.2∧Below w.heap.size w w'
theorem own_slice {α:Type} {enc:α→List Value} {k:Nat} {T:TypeId} {W:World} {B:Nat} {v:Value} {l:List α} (h:Gn.Own enc k T W B v l):∃ (a:Option Addr) (c:Nat),v=.slice a l.length c:=by
 rcases h.2 with ⟨rfl,hn⟩|⟨g,cap,cur,rfl,_⟩
 ·exact⟨none,0,by rw [hn]⟩
 ·exact⟨_,_,rfl⟩
theorem retSE {fn:Func} {p:Tmp} (h:fn.results=#[.cell p 25]) (tmps:Array Value) (w:World) (g:Nat) (cv kv:Value) (hp:tmps.getD p undef=.pointer (some ⟨g,0,none⟩)) (hg:Blk w g 25 [cv,kv]) :
 (results fn tmps).run Tryz.prog w=.ok (.agg #[cv,kv]) w :=
 results_cell_row h tmps w g 25 #[cv,kv] (0,0) _ hp hg Tryz.underlying25 rfl schema_info
theorem repl47 (s t:ByteArray) (h:(s.data.toList.flatMap fun b=>if b=47 then [10] else [b])=t.data.toList):(⟨(Lib.replaceAll s.data.toList [47] [10]).toArray⟩:ByteArray)=t:=by
 unfold Lib.replaceAll Lib.replace
 rw [if_neg (show ¬ (([47]:List UInt8) == [10])=true by decide)]
 unfold Lib.replaceNum
 rw [if_pos (.inl (by decide)),repl,h]
theorem own_other {α:Type} {enc:α→List Value} {k:Nat} {T:TypeId} {W:World} {B:Nat} {v:Value} {l:List α} (h:Gn.Own enc k T W B v l) {p:Addr} (hp:∀ g,v.ownBlock=some g→g≠p.block) (x:Value):Gn.Own enc k T (W.setCell p x) B v l:=by
 obtain⟨h0,h1⟩:=h
 refine⟨h0,?_⟩
 rcases h1 with h1|⟨g,cap,cur,rfl,hg,hh,r⟩
 ·exact .inl h1
 ·exact .inr ⟨g,cap,cur,rfl,hg,(heap_set_far W x (fun e=>hp g rfl e.symm)).trans hh,r⟩
theorem lRead12 (s t:ByteArray) (hs:s.size≤1000) (ht:(s.data.toList.flatMap fun b=>if b=47 then [10] else [b])=t.data.toList) (cs:List Co) (ks:List Int) (hm:t.size≤1000) (hp:Sc.parse (bl t)=⟨cs,ks,0,0⟩) (w:World) (T:TA w) :
 Calls Tryz.prog 35 #[.string s] w fun e w'=>SPost w (cs,ks) e w':=by
 have hYq:∀ w1:World,Below w.heap.size w w1→Calls Tryz.prog 64 #[.string s,.string ⟨#[47]⟩,.string ⟨#[10]⟩] w1 fun e w'=>e=.returned (.string t)∧Below w1.heap.size w1 w':=fun w1 hb=>by
  obtain⟨m,hm2⟩:=(T.later hb).mx
  have hcount:Lib.countB s ⟨#[47]⟩≤s.size:=Lib.countB_le ⟨#[47]⟩ (by decide) s.size s (Nat.le_refl _)
  rw [← repl47 s t ht]
  exact Tryz.strings_ReplaceAll s ⟨#[47]⟩ ⟨#[10]⟩ m w1 (by omega) hm2 (by decide) (by show s.size+_ * 1≤_;omega)
 have HZ:=hZ hYq
 have HP:=hZ (fun w1 (hb:Below w.heap.size w w1)=>cParse t (by omega) w1 (T.later hb) _ hp)
 have HB:=hZ (box_new w (.cells #[.slice none 0 0,.slice none 0 0] 25))
 clear hYq T hp ht hm hs
 go_enter Tryz.func35,Tryz.ntmps35
 go_wp2_with fail
 ((with_reducible refine (HZ.out _ HB.out).mono ?_);rintro e w1 ⟨rfl,b1⟩)
 have HB1:=hZ (up HB.out b1)
 have HR1:=hZ ((Blk.new w 25 #[.slice none 0 0,.slice none 0 0]).later b1)
 clear b1 HB
 go_wp2_with fail
 ((with_reducible refine (HP.out _ HB1.out).mono ?_);rintro e w2 ⟨cv,kv,rfl,oc,ok,b2⟩)
 simp only at oc ok ⊢
 obtain⟨a1,c1,rfl⟩:=own_slice oc
 obtain⟨a2,c2,rfl⟩:=own_slice ok
 have HB2:=hZ (up HB1.out b2)
 have HR2:=hZ (HR1.out.later b2)
 have HOC:=hZ (Gn.Own.lower (Gn.Own.later oc (box_new w2 (.cells #[.slice a1 cs.length c1,.slice a2 ks.length c2] 25))) HB1.out.size)
 have HOK:=hZ (Gn.Own.lower (Gn.Own.later ok (box_new w2 (.cells #[.slice a1 cs.length c1,.slice a2 ks.length c2] 25))) HB1.out.size)
 have HR3:=hZ (HR2.out.later (box_new w2 (.cells #[.slice a1 cs.length c1,.slice a2 ks.length c2] 25)))
 have q0:=HR3.out.cell 0
 have q1:=HR3.out.cell 1
 have q2:=HR3.out.frozen 0
 have q3:=HR3.out.frozen 1
 simp only [zD,zE] at q0 q1
 have HX:=hZ (Blk.put (Blk.put HR3.out 0 (.slice a1 cs.length c1)) 1 (.slice a2 ks.length c2))
 have HB3:=hZ (((up_box HB2.out (.cells #[.slice a1 cs.length c1,.slice a2 ks.length c2] 25)).setCell (p:=⟨w.heap.size,0,none⟩) (Nat.le_refl _) (.slice a1 cs.length c1)).setCell (p:=⟨w.heap.size,1,none⟩) (Nat.le_refl _) (.slice a2 ks.length c2))
 have HN:Hid ((∀ g,(Value.slice a1 cs.length c1).ownBlock=some g→g≠w.heap.size)∧(∀ g,(Value.slice a2 ks.length c2).ownBlock=some g→g≠w.heap.size)):=hZ ⟨fun g hg=>by have:=(oc.lt g hg).1;have:=HB1.out.size;have:=HR1.out.lt;omega,fun g hg=>by have:=(ok.lt g hg).1;have:=HR1.out.lt;omega⟩
 clear oc ok b2 HB1 HR1 HZ HP HR2 HB2
 go_wp2_with fail
 refine bodyPost_ret (retSE rfl _ _ w.heap.size _ _ rfl HX.out) rfl ⟨⟨a1,c1,a2,c2,(cs,ks)⟩,rfl,rfl,?_,?_,HB3.out⟩
 ·exact own_other (own_other HOC.out HN.out.1 _) HN.out.1 _
 ·exact own_other (own_other HOK.out HN.out.2 _) HN.out.2 _
namespace Ev
open Cl Sc
def sA:Sm:=([eA1,eA2],[0])
def sB:Sm:=([eB1,eB2],[0])
def s1:Sm:=([eA1],[0])
def sX:Sm:=([eA1,eA1],[0])
def sC:Sm:=([eA2],[])
def sD:Sm:=([eA1,eT2],[0])
def sE:Sm:=([eA1,eT3],[0])
def sF:Sm:=([eA1,eT4],[0])
def sG:Sm:=([eT5],[0])
def sH:Sm:=([eT6,eT5],[1])
def r0:List Cl.C:=[⟨false,5,⟨#[]⟩⟩,⟨false,0,⟨#[120]⟩⟩]
def y0:List Cl.C:=[⟨false,5,⟨#[]⟩⟩,⟨true,0,⟨#[]⟩⟩]
theorem mAA:carry [sA,sA] 1 2 r0=⟨r0,0⟩:=by rfl
theorem mAB:carry [sA,sB] 1 2 r0=⟨y0,0⟩:=by rfl
theorem mAr:carry [sA,sB] 1 2 (r0.take 1)=⟨[],100⟩:=by rfl
theorem c3:carry [sA,s1,sB] 1 3 r0=⟨y0,0⟩:=by rfl
theorem c3v:carry [sA,s1,sB] 2 1 r0=⟨[],131⟩:=by rfl
theorem stX:chain [sA,sX]=2:=by rfl
theorem stC:chain [sA,sC]=120:=by rfl
theorem stD:chain [sA,sD]=120:=by rfl
theorem stE:chain [sA,sE]=120:=by rfl
theorem stF:chain [sA,sF]=120:=by rfl
theorem stG:chain [sG,sH]=120:=by rfl
theorem stO:chain [s1,sA]=0:=by rfl
theorem chO:chain [sA,s1,sA]=120:=by rfl
theorem ch0:chain []=0:=by rfl
end Ev
def nilC:List Value:=[.slice none 0 0,.slice none 0 0]
structure BI (B N:Nat) (l l2:List Co) (d:Nat→Bool) (ts:Array Value) (u:World):Prop where
 sz:ts.size=N
 bz:B≤u.heap.size
 c:d 2=true→d 5=false→OwnK u B (ts.getD 21 undef) l
 a:d 5=true→OwnK u B (ts.getD 24 undef) l2
 k:d 6=true→OwnI u B (ts.getD 25 undef) [0]
 m5:d 5=true→d 2=true
 m7:d 7=true→d 5=true∧d 6=true∧ts.getD 26 undef=.agg #[ts.getD 24 undef,ts.getD 25 undef]
 p:d 8=true→∃ p,ts.getD 4 undef=.pointer (some ⟨p,0,none⟩)∧B≤p∧(d 9=false→Blk u p 25 nilC)∧(d 9=true→∃ xa xb,Blk u p 25 [xa,xb]∧OwnK u B xa l2∧OwnI u B xb [0])
 m9:d 9=true→d 8=true∧d 7=true
theorem blkS_ne {w:World} {B p:Nat} {v:Value} {α:Type} {enc:α→List Value} {k:Nat} {T:TypeId} {l:List α} {cs:List Value} (ho:Gn.Own enc k T w B v l) (hb:Blk w p 25 cs) (hT:25≠T):∀ q,v.ownBlock=some q→q≠p:=fun q hq e2=>by
 subst e2
 rcases ho.2 with ⟨e3,_⟩|⟨g,cap,cur,e3,_,hh,_⟩
 ·rw [e3] at hq;cases hq
 ·rw [e3] at hq
  injection hq with hq
  subst hq
  unfold Blk at hb
  rw [hb] at hh
  injection hh with hh
  injection hh with _ hh
  exact hT hh
theorem own_oth {α:Type} {enc:α→List Value} {k:Nat} {T:TypeId} {W:World} {B:Nat} {v:Value} {l:List α} (h:Gn.Own enc k T W B v l) {p:Addr} (hp:∀ g,v.ownBlock=some g→g≠p.block) (x:Value):Gn.Own enc k T (W.setCell p x) B v l:=by
 obtain⟨h0,h1⟩:=h
 refine⟨h0,?_⟩
 rcases h1 with h1|⟨g,cap,cur,rfl,hg,hh,r⟩
 ·exact .inl h1
 ·exact .inr ⟨g,cap,cur,rfl,hg,(heap_set_far W x (fun e=>hp g rfl e.symm)).trans hh,r⟩
theorem BI.start {B N:Nat} {l l2:List Co} {ts:Array Value} {u:World} (h:ts.size=N) (hb:B≤u.heap.size):BI B N l l2 (fun _=>false) ts u :=
 ⟨h,hb,fun e=>(by cases e),fun e=>(by cases e),fun e=>(by cases e),fun e=>(by cases e),fun e=>(by cases e),fun e=>(by cases e),fun e=>(by cases e)⟩
theorem BI.put {B N:Nat} {l l2:List Co} {d:Nat→Bool} {ts:Array Value} {u:World} (h:BI B N l l2 d ts u) {s' j:Nat} {v:Value} (h1:s'≠21) (h2:s'≠24) (h3:s'≠25) (h4:s'≠26) (h5:s'≠4) (hj:j=0 ∨ j=1 ∨ j=3 ∨ j=4):BI B N l l2 (upd d j) (ts.setIfInBounds s' v) u:=by
 refine⟨by simp [h.sz],h.bz,?_,?_,?_,?_,?_,?_,?_⟩<;>simp only [upd_no (show 2≠j by omega),upd_no (show 5≠j by omega),upd_no (show 6≠j by omega),upd_no (show 7≠j by omega),upd_no (show 8≠j by omega),upd_no (show 9≠j by omega),getD_put v h1,getD_put v h2,getD_put v h3,getD_put v h4,getD_put v h5]
 ·exact h.c
 ·exact h.a
 ·exact h.k
 ·exact h.m5
 ·exact h.m7
 ·exact h.p
 ·exact h.m9
theorem BI.call {B N:Nat} {l l2:List Co} {d:Nat→Bool} {ts:Array Value} {u u':World} {v:Value} (h:BI B N l l2 d ts u) (hb:Below u.heap.size u u') (ho:OwnK u' B v l) (hN:26 < N) (h2:d 2=false):BI B N l l2 (upd d 2) (ts.setIfInBounds 21 v) u':=by
 have h5:d 5=false:=by
  cases e:d 5 with
  | false=>rfl
  | true=>have:=h.m5 e;rw [h2] at this;cases this
 have h7:d 7=false:=by
  cases e:d 7 with
  | false=>rfl
  | true=>have:=(h.m7 e).1;rw [h5] at this;cases this
 have h9:d 9=false:=by
  cases e:d 9 with
  | false=>rfl
  | true=>have:=(h.m9 e).2;rw [h7] at this;cases this
 refine⟨by simp [h.sz],Nat.le_trans h.bz hb.size,?_,?_,?_,?_,?_,?_,?_⟩<;>simp only [upd_at,upd_no (show 5≠2 by omega),upd_no (show 6≠2 by omega),upd_no (show 7≠2 by omega),upd_no (show 8≠2 by omega),upd_no (show 9≠2 by omega),getD_self _ (show 21 < ts.size by rw [h.sz];omega),getD_put v (show 21≠24 by omega),getD_put v (show 21≠25 by omega),getD_put v (show 21≠26 by omega),getD_put v (show 21≠4 by omega),h5,h7,h9]
 ·intro _ _;exact ho
 ·intro e;cases e
 ·intro e;exact Gn.Own.later (h.k e) hb
 ·intro _;trivial
 ·intro e;cases e
 ·intro e
  obtain⟨p,p1,p2,p3,p4⟩:=h.p e
  exact⟨p,p1,p2,fun _=>(p3 h9).later hb,fun e=>by cases e⟩
 ·intro e;cases e
theorem BI.app {B N:Nat} {l l2:List Co} {d:Nat→Bool} {ts:Array Value} {u u':World} {v:Value} (h:BI B N l l2 d ts u) (hg:u.grownBy u' (ts.getD 21 undef).ownBlock) (ho:OwnK u' B v l2) (hN:26 < N) (h2:d 2=true) (h5:d 5=false):BI B N l l2 (upd d 5) (ts.setIfInBounds 24 v) u':=by
 have h7:d 7=false:=by
  cases e:d 7 with
  | false=>rfl
  | true=>have:=(h.m7 e).1;rw [h5] at this;cases this
 have h9:d 9=false:=by
  cases e:d 9 with
  | false=>rfl
  | true=>have:=(h.m9 e).2;rw [h7] at this;cases this
 have hc:=h.c h2 h5
 refine⟨by simp [h.sz],Nat.le_trans h.bz hg.size,?_,?_,?_,?_,?_,?_,?_⟩<;>simp only [upd_at,upd_no (show 2≠5 by omega),upd_no (show 6≠5 by omega),upd_no (show 7≠5 by omega),upd_no (show 8≠5 by omega),upd_no (show 9≠5 by omega),getD_self _ (show 24 < ts.size by rw [h.sz];omega),getD_put v (show 24≠21 by omega),getD_put v (show 24≠25 by omega),getD_put v (show 24≠26 by omega),getD_put v (show 24≠4 by omega),h2,h7,h9]
 ·intro _ e;cases e
 ·intro _;exact ho
 ·intro e;exact Gn.Own.kept (h.k e) hg (own_apart2 (h.k e) hc (by decide))
 ·intro _;trivial
 ·intro e;cases e
 ·intro e
  obtain⟨p,p1,p2,p3,p4⟩:=h.p e
  exact⟨p,p1,p2,fun _=>(p3 h9).app2 hg hc (by decide),fun e=>by cases e⟩
 ·intro e;cases e
theorem BI.key {B N:Nat} {l l2:List Co} {d:Nat→Bool} {ts:Array Value} {u u':World} {v:Value} (h:BI B N l l2 d ts u) (hb:Below u.heap.size u u') (ho:OwnI u' B v [0]) (hN:26 < N) (h6:d 6=false):BI B N l l2 (upd d 6) (ts.setIfInBounds 25 v) u':=by
 have h7:d 7=false:=by
  cases e:d 7 with
  | false=>rfl
  | true=>have:=(h.m7 e).2.1;rw [h6] at this;cases this
 have h9:d 9=false:=by
  cases e:d 9 with
  | false=>rfl
  | true=>have:=(h.m9 e).2;rw [h7] at this;cases this
 refine⟨by simp [h.sz],Nat.le_trans h.bz hb.size,?_,?_,?_,?_,?_,?_,?_⟩<;>simp only [upd_at,upd_no (show 2≠6 by omega),upd_no (show 5≠6 by omega),upd_no (show 7≠6 by omega),upd_no (show 8≠6 by omega),upd_no (show 9≠6 by omega),getD_self _ (show 25 < ts.size by rw [h.sz];omega),getD_put v (show 25≠21 by omega),getD_put v (show 25≠24 by omega),getD_put v (show 25≠26 by omega),getD_put v (show 25≠4 by omega),h7,h9]
 ·intro e e2;exact Gn.Own.later (h.c e e2) hb
 ·intro e;exact Gn.Own.later (h.a e) hb
 ·intro _;exact ho
 ·exact h.m5
 ·intro e;cases e
 ·intro e
  obtain⟨p,p1,p2,p3,p4⟩:=h.p e
  exact⟨p,p1,p2,fun _=>(p3 h9).later hb,fun e=>by cases e⟩
 ·intro e;cases e
theorem BI.bld {B N:Nat} {l l2:List Co} {d:Nat→Bool} {ts:Array Value} {u:World} (h:BI B N l l2 d ts u) (hN:26 < N) (h5:d 5=true) (h6:d 6=true):BI B N l l2 (upd d 7) (ts.setIfInBounds 26 (.agg #[ts.getD 24 undef,ts.getD 25 undef])) u:=by
 refine⟨by simp [h.sz],h.bz,?_,?_,?_,?_,?_,?_,?_⟩<;>simp only [upd_at,upd_no (show 2≠7 by omega),upd_no (show 5≠7 by omega),upd_no (show 6≠7 by omega),upd_no (show 8≠7 by omega),upd_no (show 9≠7 by omega),getD_self _ (show 26 < ts.size by rw [h.sz];omega),getD_put _ (show 26≠21 by omega),getD_put _ (show 26≠24 by omega),getD_put _ (show 26≠25 by omega),getD_put _ (show 26≠4 by omega)]
 ·exact h.c
 ·exact h.a
 ·exact h.k
 ·exact h.m5
 ·intro _;exact⟨h5,h6,trivial⟩
 ·exact h.p
 ·intro e;exact⟨(h.m9 e).1,trivial⟩
theorem BI.new {B N:Nat} {l l2:List Co} {d:Nat→Bool} {ts:Array Value} {u:World} (h:BI B N l l2 d ts u) (hN:26 < N) (h8:d 8=false):BI B N l l2 (upd d 8) (ts.setIfInBounds 4 (.pointer (some ⟨u.heap.size,0,none⟩))) (u.alloc (.cells #[.slice none 0 0,.slice none 0 0] 25)):=by
 have h9:d 9=false:=by
  cases e:d 9 with
  | false=>rfl
  | true=>have:=(h.m9 e).1;rw [h8] at this;cases this
 have hb:=box_new u (.cells #[.slice none 0 0,.slice none 0 0] 25)
 refine⟨by simp [h.sz],Nat.le_trans h.bz hb.size,?_,?_,?_,?_,?_,?_,?_⟩<;>simp only [upd_at,upd_no (show 2≠8 by omega),upd_no (show 5≠8 by omega),upd_no (show 6≠8 by omega),upd_no (show 7≠8 by omega),upd_no (show 9≠8 by omega),getD_self _ (show 4 < ts.size by rw [h.sz];omega),getD_put _ (show 4≠21 by omega),getD_put _ (show 4≠24 by omega),getD_put _ (show 4≠25 by omega),getD_put _ (show 4≠26 by omega),h9]
 ·intro e e2;exact Gn.Own.later (h.c e e2) hb
 ·intro e;exact Gn.Own.later (h.a e) hb
 ·intro e;exact Gn.Own.later (h.k e) hb
 ·exact h.m5
 ·exact h.m7
 ·intro _;exact⟨_,rfl,h.bz,fun _=>Blk.new u 25 _,fun e=>by cases e⟩
 ·intro e;cases e
theorem BI.store {B N:Nat} {l l2:List Co} {d:Nat→Bool} {ts:Array Value} {u:World} (h:BI B N l l2 d ts u) (h7:d 7=true) (h9:d 9=false) {p:Nat} (hp:ts.getD 4 undef=.pointer (some ⟨p,0,none⟩)) (h8:d 8=true):BI B N l l2 (upd d 9) ts ((u.setCell ⟨p,0,none⟩ (ts.getD 24 undef)).setCell ⟨p,1,none⟩ (ts.getD 25 undef)):=by
 obtain⟨p',p1,p2,p3,p4⟩:=h.p h8
 obtain rfl:p=p':=by rw [hp] at p1;injection p1 with p1;injection p1 with p1;injection p1
 obtain⟨h5,h6,he⟩:=h.m7 h7
 have hb:=p3 h9
 have ha:=h.a h5
 have hk:=h.k h6
 have ha':=own_oth (own_oth ha (p:=⟨p,0,none⟩) (blkS_ne ha hb (by decide)) (ts.getD 24 undef)) (p:=⟨p,1,none⟩) (blkS_ne ha hb (by decide)) (ts.getD 25 undef)
 have hk':=own_oth (own_oth hk (p:=⟨p,0,none⟩) (blkS_ne hk hb (by decide)) (ts.getD 24 undef)) (p:=⟨p,1,none⟩) (blkS_ne hk hb (by decide)) (ts.getD 25 undef)
 refine⟨h.sz,by have:=h.bz;simp;omega,?_,?_,?_,?_,?_,?_,?_⟩<;>simp only [upd_at,upd_no (show 2≠9 by omega),upd_no (show 5≠9 by omega),upd_no (show 6≠9 by omega),upd_no (show 7≠9 by omega),upd_no (show 8≠9 by omega),h5,h7,h8]
 ·intro _ e;cases e
 ·intro _;exact ha'
 ·intro _;exact hk'
 ·intro _;exact h.m5 h5
 ·intro _;exact⟨trivial,h6,he⟩
 ·intro _
  exact⟨p,hp,p2,fun e=>(by cases e),fun _=>⟨_,_,Blk.put (Blk.put hb 0 _) 1 _,ha',hk'⟩⟩
 ·intro _;exact⟨trivial,trivial⟩
end Go.Proofs.YtenfjmdajlhfoabGreatDoor
