/- Texts. -/
import Derived.Test.YtenfjmdajlhfoabGreatDoorKU4
import Derived.BigQuiet
import Derived.Lib.Replace
import Derived.Lib.SplitLaws
import Derived.Deep.RegionHeld3
import Derived.Laws.EntriesVeiled
set_option maxHeartbeats 8000000
namespace Go.Proofs.YtenfjmdajlhfoabGreatDoor
open Go.RowKit
set_option linter.unusedVariables false
set_option maxRecDepth 100000
theorem cBoolText (c:Cl.C) (w:World) (t:ByteArray) (ht:(if c.n=1 then Cl.trueB else Cl.falseB)=t):Calls Tryz.prog 91 #[cv c] w fun e w'=>e=.returned (.string t)∧Below w.heap.size w w':=by
 obtain⟨u,n,s⟩:=c
 unfold cv
 simp only at ht ⊢
 by_cases h:n=1
 ·subst h
  obtain rfl:Cl.trueB=t:=by simpa using ht
  clear ht
  go_enter Tryz.func91,Tryz.ntmps91
  go_wp2_with fail
  ((with_reducible refine (Tryz.strconv_FormatBool _ _).mono ?_);rintro e w1 ⟨rfl,rfl⟩)
  go_wp2_with fail
  go_ret
  exact⟨rfl,box_new _ _⟩
 ·have h2:(n == 1)=false:=by simpa using h
  obtain rfl:Cl.falseB=t:=by simpa [h] using ht
  clear h ht
  go_enter Tryz.func91,Tryz.ntmps91
  go_wp2_with fail
  ((with_reducible refine (Tryz.strconv_FormatBool _ _).mono ?_);rintro e w1 ⟨rfl,rfl⟩)
  go_wp2_with fail
  go_ret
  exact⟨rfl,box_new _ _⟩
theorem te:(⟨#[116,114,117,101]⟩:ByteArray).toList=[116,114,117,101]:=by rw [Lib.toList_data]
theorem cGuessBool (s:ByteArray) (w:World) (n:Int) (hn:(if s=Cl.trueB then 1 else 0)=n):Calls Tryz.prog 92 #[.string s] w fun e w'=>e=.returned (cv ⟨false,n,⟨#[]⟩⟩)∧Below w.heap.size w w':=by
 by_cases h:s=Cl.trueB
 ·have h2:(s.toList == [116,114,117,101])=true:=by
   rw [← te,bl_eq];exact decide_eq_true (by rw [h];rfl)
  obtain rfl:1=n:=by rw [← hn,if_pos h]
  clear h hn
  go_enter Tryz.func92,Tryz.ntmps92
  go_wp2_with fail
  exact bodyPost_ret (ret1 rfl _ _ w.heap.size _ rfl (heap_alloc_new w _)) rfl ⟨rfl,box_new _ _⟩
 ·have h2:(s.toList == [116,114,117,101])=false:=by
   rw [← te,bl_eq];exact decide_eq_false fun e=>h (bl_inj e)
  obtain rfl:0=n:=by rw [← hn,if_neg h]
  clear h hn
  go_enter Tryz.func92,Tryz.ntmps92
  go_wp2_with fail
  exact bodyPost_ret (ret1 rfl _ _ w.heap.size _ rfl (heap_alloc_new w _)) rfl ⟨rfl,box_new _ _⟩
theorem cWholeText (c:Cl.C) (w:World) (T:TabP w) (hi:Cl.I64 c.n):Calls Tryz.prog 96 #[cv c] w fun e w'=>e=.returned (.string (itS c.n))∧Below w.heap.size w w':=by
 obtain⟨u,n,s⟩:=c
 unfold cv
 simp only at hi ⊢
 have HC:=hZ (fun (w1:World) (h:Below w.heap.size w w1)=>jfmt n hi.1 hi.2 w1 (T.later h))
 clear hi T
 go_enter Tryz.func96,Tryz.ntmps96
 go_wp2_with fail
 ((with_reducible refine (HC.out _ (box_new _ _)).mono ?_);rintro e w1 ⟨rfl,b1⟩)
 go_wp2_with fail
 go_ret
 exact⟨rfl,(box_new w _).trans (b1.mono (by simp))⟩
theorem cUtfText (c:Cl.C) (w:World) (T:Tab w) (hm:c.s.size≤1000000) (h:Utf.vld (bl c.s)=true):Calls Tryz.prog 102 #[cv c] w fun e w'=>e=.returned (.string (str (Utf.tidy (bl c.s))))∧Below w.heap.size w w':=by
 obtain⟨u,n,s⟩:=c
 unfold cv
 simp only at hm h ⊢
 have HC:=hZ (fun (w1:World) (h1:Below w.heap.size w w1)=>quote_yes s w1 (T.later h1) hm h)
 clear hm T h
 go_enter Tryz.func102,Tryz.ntmps102
 go_wp2_with fail
 ((with_reducible refine (HC.out _ (box_new _ _)).mono ?_);rintro e w1 ⟨rfl,b1⟩)
 go_wp2_with fail
 go_ret
 exact⟨rfl,(box_new w _).trans (b1.mono (by simp))⟩
theorem cGuessWhole (s:ByteArray) (w:World) (T:TabE w) (hm:s.size≤1000000):Calls Tryz.prog 97 #[.string s] w fun e w'=>∃ z,e=.returned (cv ⟨false,z,⟨#[]⟩⟩)∧Cl.I64 z∧(∀ n,Cl.I64 n→s=itS n→z=n)∧Below w.heap.size w w':=by
 have HC:=hZ (fun (w1:World) (h:Below w.heap.size w w1)=>parse_any s (by omega) w1 (T.later h))
 clear hm T
 go_enter Tryz.func97,Tryz.ntmps97
 go_wp2_with fail
 ((with_reducible refine (HC.out _ (box_new _ _)).mono ?_);rintro e w1 ⟨z,x,rfl,hz,hq,b1⟩)
 have V:=(CV.new w false 0 ⟨#[]⟩).later b1
 have HV:=hZ V
 obtain⟨k0,k1,k2⟩:=V.lie
 obtain⟨f0,f1,f2⟩:=V.free
 have B1:=hZ ((box_new w _).trans (b1.mono (by simp)))
 have HQ:=hZ hq
 have HZ:=hZ hz
 clear b1 V hq hz
 go_wp2_with fail
 exact bodyPost_ret (ret1 rfl _ _ w.heap.size _ rfl (HV.out.put _ _ _).heap) rfl ⟨_,rfl,HZ.out,HQ.out,put_below (Nat.le_refl _) B1.out _ _ _⟩
theorem cGuessUtf (s:ByteArray) (w:World) (T:Tab w) (hm:s.size≤1000000) (t:List Nat) (n0 e0:Nat) (hu:Utf.unq (bl s)=(t,n0,e0)):Calls Tryz.prog 103 #[.string s] w fun e w'=>e=.returned (cv ⟨false,0,str t⟩)∧Below w.heap.size w w':=by
 have HC:=hZ (fun (w1:World) (h:Below w.heap.size w w1)=>unquote s w1 (T.later h) hm t n0 e0 hu)
 clear hm T hu
 go_enter Tryz.func103,Tryz.ntmps103
 go_wp2_with fail
 ((with_reducible refine (HC.out _ (box_new _ _)).mono ?_);rintro e w1 ⟨rfl,b1⟩)
 unfold quad
 have V:=(CV.new w false 0 ⟨#[]⟩).later b1
 have HV:=hZ V
 obtain⟨k0,k1,k2⟩:=V.lie
 obtain⟨f0,f1,f2⟩:=V.free
 have B1:=hZ ((box_new w _).trans (b1.mono (by simp)))
 clear b1 V
 go_wp2_with fail
 exact bodyPost_ret (ret1 rfl _ _ w.heap.size _ rfl (HV.out.put _ _ _).heap) rfl ⟨rfl,put_below (Nat.le_refl _) B1.out _ _ _⟩
theorem cBoolBits (c:Cl.C) (w:World) (t:ByteArray) (ht:(if c.n=1 then (⟨#[1]⟩:ByteArray) else ⟨#[0]⟩)=t):Calls Tryz.prog 93 #[cv c] w fun e w'=>e=.returned (.string t)∧Below w.heap.size w w':=by
 obtain⟨u,n,s⟩:=c
 unfold cv
 simp only at ht ⊢
 by_cases h:n=1
 ·subst h
  obtain rfl:⟨#[1]⟩=t:=by simpa using ht
  clear ht
  go_enter Tryz.func93,Tryz.ntmps93
  go_wp2_with fail
  go_ret
  exact⟨rfl,box_new _ _⟩
 ·have h2:(n == 1)=false:=by simpa using h
  obtain rfl:⟨#[0]⟩=t:=by simpa [h] using ht
  clear ht
  go_enter Tryz.func93,Tryz.ntmps93
  go_wp2_with fail
  go_ret
  exact⟨rfl,box_new _ _⟩
def ty (l:List Nat):Bool × Nat × Nat:=if l=[] then (false,0,3) else if l.getD 0 0=1 then (true,1,0) else if l.getD 0 0=0 then (false,1,0) else (false,0,4)
theorem pre1 (s:ByteArray) (c:UInt8):Lib.hasPrefix s.data.toList [c]=decide (bl s≠[]∧(bl s).getD 0 0=c.toNat):=by
 unfold Lib.hasPrefix bl
 cases s.data.toList with
 | nil=>simp [List.isPrefixOf]
 | cons b t =>
  rw [Bool.eq_iff_iff]
  simp [List.isPrefixOf]
  rw [← UInt8.toNat_inj];exact eq_comm
theorem cTakeYes (s:ByteArray) (w:World) (b:Bool) (n e0:Nat) (hr:ty (bl s)=(b,n,e0)):Calls Tryz.prog 127 #[.string s] w fun e w'=>e=.returned (.tuple #[.bool b,.int .i64 (n:Nat),.int .i64 (e0:Nat)])∧w'=w:=by
 unfold ty at hr
 have p1:=pre1 s 1
 have p0:=pre1 s 0
 by_cases h0:bl s=[]
 ·rw [if_pos h0] at hr
  simp only [Prod.mk.injEq] at hr
  obtain⟨rfl,rfl,rfl⟩:=hr
  have q2:s.toList.isEmpty=true:=by rw [bl_empty];simp [h0]
  have q1:s.toList=[]:=by simpa using q2
  clear p1 p0 h0
  go_enter Tryz.func127,Tryz.ntmps127
  go_wp2_with fail
  go_ret3
  exact⟨rfl,rfl⟩
 ·rw [if_neg h0] at hr
  have q2:s.toList.isEmpty=false:=by rw [bl_empty];simp [h0]
  have q3:¬ s.toList=[]:=by simpa using q2
  by_cases h1:(bl s).getD 0 0=1
  ·rw [if_pos h1] at hr
   simp only [Prod.mk.injEq] at hr
   obtain⟨rfl,rfl,rfl⟩:=hr
   have C1:=hZ (fun w=>Tryz.strings_HasPrefix s ⟨#[1]⟩ w)
   have P1:=hZ (show Lib.hasPrefix s.data.toList [1]=true by rw [p1];exact decide_eq_true ⟨h0,h1⟩)
   clear p1 p0 h0 h1
   go_enter Tryz.func127,Tryz.ntmps127
   go_wp2_with fail
   ((with_reducible refine (C1.out _).mono ?_);rintro e w1 ⟨rfl,rfl⟩)
   rw [P1.out]
   go_wp2_with fail
   go_ret3
   exact⟨rfl,rfl⟩
  ·rw [if_neg h1] at hr
   have C1:=hZ (fun w=>Tryz.strings_HasPrefix s ⟨#[1]⟩ w)
   have C0:=hZ (fun w=>Tryz.strings_HasPrefix s ⟨#[0]⟩ w)
   have P1:=hZ (show Lib.hasPrefix s.data.toList [1]=false by rw [p1];exact decide_eq_false fun h=>h1 h.2)
   by_cases h2:(bl s).getD 0 0=0
   ·rw [if_pos h2] at hr
    simp only [Prod.mk.injEq] at hr
    obtain⟨rfl,rfl,rfl⟩:=hr
    have P0:=hZ (show Lib.hasPrefix s.data.toList [0]=true by rw [p0];exact decide_eq_true ⟨h0,h2⟩)
    clear p1 p0 h0 h1 h2
    go_enter Tryz.func127,Tryz.ntmps127
    go_wp2_with fail
    ((with_reducible refine (C1.out _).mono ?_);rintro e w1 ⟨rfl,rfl⟩)
    rw [P1.out]
    go_wp2_with fail
    ((with_reducible refine (C0.out _).mono ?_);rintro e w1 ⟨rfl,rfl⟩)
    rw [P0.out]
    go_wp2_with fail
    go_ret3
    exact⟨rfl,rfl⟩
   ·rw [if_neg h2] at hr
    simp only [Prod.mk.injEq] at hr
    obtain⟨rfl,rfl,rfl⟩:=hr
    have P0:=hZ (show Lib.hasPrefix s.data.toList [0]=false by rw [p0];exact decide_eq_false fun h=>h2 h.2)
    clear p1 p0 h0 h1 h2
    go_enter Tryz.func127,Tryz.ntmps127
    go_wp2_with fail
    ((with_reducible refine (C1.out _).mono ?_);rintro e w1 ⟨rfl,rfl⟩)
    rw [P1.out]
    go_wp2_with fail
    ((with_reducible refine (C0.out _).mono ?_);rintro e w1 ⟨rfl,rfl⟩)
    rw [P0.out]
    go_wp2_with fail
    go_ret3
    exact⟨rfl,rfl⟩
theorem cTakeBool (s:ByteArray) (w:World) (b:Bool) (n e0:Nat) (hr:ty (bl s)=(b,n,e0)):Calls Tryz.prog 94 #[.string s] w fun e w'=>e=.returned (.tuple #[cv ⟨false,if b=true then 1 else 0,⟨#[]⟩⟩,.int .i64 (n:Nat),.int .i64 (e0:Nat)])∧Below w.heap.size w w':=by
 have C:=hZ (fun w=>cTakeYes s w b n e0 hr)
 clear hr
 cases b with
 | true =>
  go_enter Tryz.func94,Tryz.ntmps94
  go_wp2_with fail
  ((with_reducible refine (C.out _).mono ?_);rintro e w1 ⟨rfl,rfl⟩)
  go_wp2_with fail
  exact bodyPost_ret (ret3 rfl _ _ w.heap.size _ rfl (heap_alloc_new w _)) rfl ⟨rfl,box_new _ _⟩
 | false =>
  go_enter Tryz.func94,Tryz.ntmps94
  go_wp2_with fail
  ((with_reducible refine (C.out _).mono ?_);rintro e w1 ⟨rfl,rfl⟩)
  go_wp2_with fail
  exact bodyPost_ret (ret3 rfl _ _ w.heap.size _ rfl (heap_alloc_new w _)) rfl ⟨rfl,box_new _ _⟩
theorem un_turn (m:Nat) (h:m < 18446744073709551616):wrap64 (IntKind.u64.wrap ((m:Int) - 9223372036854775808))=(m:Int) - 9223372036854775808:=by
 rw [IntKind.wrap_u64]
 simp only [wrap64]
 omega
theorem or_low (a b:Nat) (ha:a < 72057594037927936) (hb:b < 256):bits BinOp.or IntKind.u64 ((a:Int) * 256) ((b:Nat):Int)=((256 * a+b:Nat):Int):=by
 rw [show (a:Int) * 256=((256 * a:Nat):Int) by omega]
 show IntKind.u64.wrap ((BitVec.ofInt 64 ((256 * a:Nat):Int) ||| BitVec.ofInt 64 ((b:Nat):Int)).toNat:Int)=_
 rw [BitVec.toNat_or,BitVec.ofInt_natCast,BitVec.ofInt_natCast,BitVec.toNat_ofNat,BitVec.toNat_ofNat,Nat.mod_eq_of_lt (by omega),Nat.mod_eq_of_lt (by omega)]
 have h:256 * a ||| b=256 * a+b:=by
  rw [show 256 * a=a <<< 8 by rw [Nat.shiftLeft_eq,Nat.mul_comm],Nat.shiftLeft_add_eq_or_of_lt (by omega)]
 rw [h,IntKind.wrap_u64];omega
theorem num8_snoc (l:List Nat) (b:Nat):Cl.num8 (l++[b])=256 * Cl.num8 l+b:=by simp [Cl.num8]
theorem num8_go:∀ (l:List Nat) (a n:Nat),a < 256 ^ n→(∀ x∈l,x < 256)→l.foldl (fun a b=>256 * a+b) a < 256 ^ (n+l.length)
 | [],a,n,h,_=>h
 | b::l,a,n,h,hl=>by
  have h2:=hl b (by simp)
  have:=num8_go l (256 * a+b) (n+1) (by rw [Nat.pow_succ];omega) fun x hx=>hl x (by simp [hx])
  rw [List.foldl_cons,List.length_cons,show n+(l.length+1)=n+1+l.length by omega]
  exact this
theorem num8_lt (n:Nat) (l:List Nat) (hn:l.length=n) (h:∀ x∈l,x < 256):Cl.num8 l < 256 ^ n:=by
 have:=num8_go l 0 0 (by decide) h
 rw [Nat.zero_add,hn] at this
 exact this
theorem take_snoc (l:List Nat) (k:Nat) (h:k < l.length):l.take (k+1)=l.take k++[l.getD k 0]:=by
 rw [List.take_add_one,List.getElem?_eq_getElem h];simp [List.getElem?_eq_getElem h]
theorem cTakeWhole (s:ByteArray) (w:World) (hm:s.size≤1000000) (c:Cl.C) (n e0:Nat)
 (hr:(if s.size < 8 then (Cl.empty,0,3) else ((⟨false,(Cl.num8 ((bl s).take 8):Int) - 9223372036854775808,⟨#[]⟩⟩:Cl.C),8,0))=(c,n,e0)) :
 Calls Tryz.prog 99 #[.string s] w fun e w'=>e=.returned (.tuple #[cv c,.int .i64 (n:Nat),.int .i64 (e0:Nat)])∧Below w.heap.size w w':=by
 by_cases h8:s.size < 8
 ·rw [if_pos h8] at hr
  simp only [Prod.mk.injEq] at hr
  obtain⟨rfl,rfl,rfl⟩:=hr
  have h9:(s.size:Int) < 8:=by omega
  go_enter Tryz.func99,Tryz.ntmps99
  go_wp2_with fail
  exact bodyPost_ret (ret3 rfl _ _ w.heap.size Cl.empty rfl (heap_alloc_new w _)) rfl ⟨rfl,box_new _ _⟩
 ·rw [if_neg h8] at hr
  simp only [Prod.mk.injEq] at hr
  obtain⟨rfl,rfl,rfl⟩:=hr
  have h9:¬ (s.size:Int) < 8:=by omega
  have hk:∀ k,k≤8→Cl.num8 ((bl s).take k) < 256 ^ k:=fun k hk=>by
   exact num8_lt k ((bl s).take k) (by rw [List.length_take,bl_length,Nat.min_eq_left (by omega)]) (fun x hx=>bl_byte s x (List.mem_of_mem_take hx))
  have hs:∀ k,k < 8→Cl.num8 ((bl s).take (k+1))=256 * Cl.num8 ((bl s).take k)+(bl s).getD k 0:=fun k h=>by
   rw [take_snoc _ _ (by rw [bl_length];omega),num8_snoc]
  have HK:=hZ hk
  have HS:=hZ hs
  clear hk hs
  go_enter Tryz.func99,Tryz.ntmps99
  go_wp2_with fail
  go_loopw [5,6,11] (fun a b i wr=>∃ k:Nat,k≤8∧i=.int .i64 k∧a=.int .u64 (Cl.num8 ((bl s).take k):Nat)∧Hid (CV wr w.heap.size ⟨false,0,⟨#[]⟩⟩)∧Hid (Below w.heap.size w wr)) (fun a b i _=>8 - (intOf i).toNat)
  case atStart=>exact⟨0,by omega,rfl,rfl,hZ (CV.new w _ _ _),hZ (box_new _ _)⟩
  case round =>
   obtain⟨k,hk,rfl,rfl,HV,HB⟩:=hrel
   by_cases hlt:k < 8
   ·have hb:=bl_byte s ((bl s).getD k 0) (by rw [List.getD_eq_getElem?_getD,List.getElem?_eq_getElem (by rw [bl_length];omega)];simp)
    have h1:=HK.out k (by omega)
    have h2:=HS.out k hlt
    have h7:Cl.num8 ((bl s).take k) < 72057594037927936:=Nat.lt_of_lt_of_le h1 (by
     have:=Nat.pow_le_pow_right (show 0 < 256 by omega) (show k≤7 by omega)
     omega)
    have h3:=or_low _ _ h7 hb
    have h4:=bl_at s k (by omega)
    generalize Cl.num8 ((bl s).take k)=m at *
    generalize (bl s).getD k 0=b at *
    have H2:=hZ h2
    clear h1 h2
    go_wp2_with fail
    refine⟨⟨k+1,by omega,by go_num,congrArg (Value.int IntKind.u64) ?_,HV,HB⟩,by simp [intOf];omega⟩
    rw [H2.out];omega
   ·have hk9:¬ (k:Int) < 8:=by omega
    have K8:=hZ (show k=8 by omega)
    obtain⟨k0,k1,k2⟩:=HV.out.lie
    obtain⟨f0,f1,f2⟩:=HV.out.free
    clear hlt hk
    go_wp2_with fail
    have hz:=un_turn _ (show Cl.num8 ((bl s).take k) < 18446744073709551616 by rw [K8.out];exact HK.out 8 (by omega))
    rw [hz,K8.out]
    exact bodyPost_ret (ret3 rfl _ _ w.heap.size _ rfl (HV.out.put _ _ _).heap) rfl ⟨rfl,put_below (Nat.le_refl _) HB.out _ _ _⟩
theorem run_row (w:World) (g:Nat) (t:TypeId) (l:List Nat) (n:Nat) (hl:l.length=n) (hb:∀ x∈l,x < 256) (hn:n≤1000) (h:Blk w g t (vals l)):(convert 107 9 (.slice (some ⟨g,0,none⟩) n n)).run Tryz.prog w=.ok (.string (str l)) w:=by
 subst hl
 refine run_str w w.heap.size _ l ⟨_,_,rfl,Nat.le_refl _,by simp only [maxLen];omega,by simp,hb,fun _=>⟨g,0,rfl,h.lt,fun k hk=>?_⟩⟩
 rw [Nat.zero_add,h.cell k]
 simp [vals,List.getElem?_eq_getElem hk]
theorem shl_rest (m k:Nat) (hk:k < 8) (hm:m < 18446744073709551616):(m * 256 ^ k % 18446744073709551616) / 72057594037927936=(Cl.be m).getD k 0∧(m * 256 ^ k % 18446744073709551616) * 256 % 18446744073709551616=m * 256 ^ (k+1) % 18446744073709551616:=by
 rcases (show k=0 ∨ k=1 ∨ k=2 ∨ k=3 ∨ k=4 ∨ k=5 ∨ k=6 ∨ k=7 by omega) with rfl|rfl|rfl|rfl|rfl|rfl|rfl|rfl<;>simp only [Cl.be,List.getD_cons_zero,List.getD_cons_succ]<;>omega
def part8 (m k:Nat):List Nat:=(Cl.be m).take k++List.replicate (8 - k) 0
theorem part8_put (m k:Nat) (hk:k < 8):(vals (part8 m k)).set k (.int .u8 ((Cl.be m).getD k 0:Nat))=vals (part8 m (k+1)):=by
 rcases (show k=0 ∨ k=1 ∨ k=2 ∨ k=3 ∨ k=4 ∨ k=5 ∨ k=6 ∨ k=7 by omega) with rfl|rfl|rfl|rfl|rfl|rfl|rfl|rfl<;>rfl
theorem cWholeBits (c:Cl.C) (w:World) (hi:Cl.I64 c.n) (t:ByteArray) (ht:str (Cl.be (Cl.turn c.n))=t):Calls Tryz.prog 98 #[cv c] w fun e w'=>e=.returned (.string t)∧Below w.heap.size w w':=by
 obtain⟨u,n,s⟩:=c
 unfold cv
 simp only at ht hi ⊢
 obtain⟨m,hm⟩:∃ m,Cl.turn n=m:=⟨_,rfl⟩
 have hm1:m < 18446744073709551616:=by rw [← hm];exact Cl.turn_lt hi
 have hm2:IntKind.u64.wrap (IntKind.u64.wrap n+9223372036854775808)=(m:Int):=by
  unfold Cl.turn at hm
  unfold Cl.I64 at hi
  rw [IntKind.wrap_u64,IntKind.wrap_u64];omega
 rw [hm] at ht
 have HT:=hZ ht
 have HR:=hZ (fun k hk=>shl_rest m k hk hm1)
 clear hm hi ht
 go_enter Tryz.func98,Tryz.ntmps98
 go_wp2_with fail
 have B0:=hZ (((box_new w (.cells #[.bool u,.int .i64 n,.string s] 61)).alloc (by simp) (.cells #[.int .u8 0,.int .u8 0,.int .u8 0,.int .u8 0,.int .u8 0,.int .u8 0,.int .u8 0,.int .u8 0] 152)))
 have K0:=hZ (show Blk _ (w.heap.size+1) 152 (vals (part8 m 0)) from (by
  have:=Blk.new (w.alloc (.cells #[.bool u,.int .i64 n,.string s] 61)) 152 #[.int .u8 0,.int .u8 0,.int .u8 0,.int .u8 0,.int .u8 0,.int .u8 0,.int .u8 0,.int .u8 0]
  rw [show (w.alloc (.cells #[.bool u,.int .i64 n,.string s] 61)).heap.size=w.heap.size+1 by simp] at this
  exact this))
 go_loopw [3,5,10] (fun r a i wr=>∃ k:Nat,k≤8∧i=.int .i64 k∧r=.int .u64 (m * 256 ^ k % 18446744073709551616:Nat)∧Hid (Blk wr (w.heap.size+1) 152 (vals (part8 m k)))∧Hid (Below w.heap.size w wr)) (fun r a i _=>8 - (intOf i).toNat)
 case atStart=>exact⟨0,by omega,rfl,by rw [Nat.pow_zero,Nat.mul_one,Nat.mod_eq_of_lt hm1],K0,B0⟩
 case round =>
  obtain⟨k,hk,rfl,rfl,HK,HB⟩:=hrel
  by_cases hlt:k < 8
  ·obtain⟨h1,h2⟩:=HR.out k hlt
   have P:=part8_put m k hlt
   have hb:=Cl.be_byte m ((Cl.be m).getD k 0) (by rw [List.getD_eq_getElem?_getD,List.getElem?_eq_getElem (by rw [Cl.be_len];omega)];simp)
   generalize m * 256 ^ k % 18446744073709551616=q at *
   generalize (Cl.be m).getD k 0=b at *
   have hq:(q:Int) / 72057594037927936=(b:Int):=by omega
   have hf:=HK.out.frozen k
   have hc:wr.cell? ⟨w.heap.size+1,k,none⟩=some (.int .u8 ((part8 m k).getD k 0:Nat)):=by
    rw [HK.out.cell k]
    have:k < (part8 m k).length:=by unfold part8;rw [List.length_append,List.length_take,Cl.be_len,List.length_replicate];omega
    simp [vals,List.getElem?_eq_getElem this]
   have H2:=hZ h2
   have HP:=hZ P
   clear h1 h2 P
   go_wp2_with fail
   refine⟨⟨k+1,by omega,by go_num,congrArg (Value.int IntKind.u64) ?_,hZ ?_,hZ (HB.out.setCell (by simp) _)⟩,by simp [intOf];omega⟩
   ·rw [← H2.out,IntKind.wrap_u64];omega
   ·have:=HK.out.put k (.int .u8 (b:Nat))
    rw [HP.out] at this
    exact this
  ·have hk9:¬ (k:Int) < 8:=by omega
   have K8:=hZ (show k=8 by omega)
   have HC:=hZ (fun ht=>run_row wr (w.heap.size+1) 152 (Cl.be m) 8 (Cl.be_len m) (Cl.be_byte m) (by omega) ht)
   have hc:=HC.out (by
    have:=HK.out
    rw [K8.out] at this
    exact this)
   clear hlt hk
   go_wp2_with fail
   go_ret
   exact⟨congrArg (fun x=>Ending.returned (Value.string x)) HT.out,HB.out⟩
def BS (w0:World) (B:Nat) (l:List Nat) (w:World):Prop:=Bld B B l w∧Below B w0 w∧l.length≤1000000
theorem BS.size {w0 w:World} {B:Nat} {l:List Nat} (h:BS w0 B l w):B≤w.heap.size:=Nat.le_of_lt h.1.lt
theorem BS.start (w:World) (B:Nat) (hB:w.heap.size=B):BS w B [] (w.alloc (.cells #[.pointer none,.slice none 0 0] 109)):=by
 subst hB
 exact⟨Bld.fresh w,box_new _ _,by simp⟩
theorem BS.drew {w0 w:World} {B:Nat} {l:List Nat} (h:BS w0 B l w):BS w0 B l w.drew:=⟨h.1.kept fun _ _ _ _ e=>e,h.2.1.drew,h.2.2⟩
theorem cl_drewN {B:Nat} {w0 w:World} (h:Below B w0 w) (n:Nat):Below B w0 (w.drewN n) :=
 ⟨h.os,h.tape,h.output,by simpa using h.size,fun k hk=>by simpa using h.block k hk⟩
theorem BS.drewN {w0 w:World} {B:Nat} {l:List Nat} (h:BS w0 B l w) (n:Nat):BS w0 B l (w.drewN n):=⟨h.1.kept fun _ _ _ _ e=>by simpa using e,cl_drewN h.2.1 n,h.2.2⟩
theorem bs_byte {w0 w:World} {B:Nat} {l:List Nat} (h:BS w0 B l w) (c:Nat) (x:Int) (hx:x=(c:Nat)) (hc:c < 256) (hl:l.length < 1000000) :
 Calls Tryz.prog 134 #[.pointer (some ⟨B,0,none⟩),.int .u8 x] w fun e w'=>e=.returned .nilIface∧BS w0 B (l++[c]) w' :=
 hx▸(writeByte B B l c w h.1 hc (by omega) h.size).mono fun _ _ ⟨he,hw⟩=>⟨he,hw.1,h.2.1.trans hw.2.1,by simp;omega⟩
theorem bs_str {w0 w:World} {B:Nat} {l:List Nat} (h:BS w0 B l w) (t:ByteArray) (r:List Nat) (ht:t.size≤100) (hr:bl t=r) (hl:l.length+t.size≤1000000) :
 Calls Tryz.prog 75 #[.pointer (some ⟨B,0,none⟩),.string t] w fun e w'=>(∃ n,e=.returned (.tuple #[.int .i64 n,.nilIface]))∧BS w0 B (l++r) w' :=
 (writeString B B l t w h.1 ht (by omega) h.size).mono fun _ _ ⟨he,hw⟩=>⟨he,by rw [← hr];exact hw.1,h.2.1.trans hw.2.1,by rw [← hr];simp [bl_length];omega⟩
theorem bs_string {w0 w:World} {B:Nat} {l:List Nat} (h:BS w0 B l w) (t:ByteArray) (ht:str l=t) :
 Calls Tryz.prog 76 #[.pointer (some ⟨B,0,none⟩)] w fun e w'=>e=.returned (.string t)∧Below B w0 w' :=
 (bString B B l w h.1 h.size).mono fun _ _ ⟨he,hw⟩=>⟨by rw [← ht];exact he,h.2.1.trans hw⟩
theorem bs_len {w0 w:World} {B:Nat} {l:List Nat} (h:BS w0 B l w) (n:Nat) (hn:l.length=n) :
 Calls Tryz.prog 133 #[.pointer (some ⟨B,0,none⟩)] w fun e w'=>e=.returned (.int .i64 (n:Nat))∧w'=w:=by
 have:=Tryz.Builder_Len B B (vals l) w h.1.1
 rw [vals_length,hn] at this
 exact this
theorem hexs_take (l:List Nat) (k:Nat) (h:k < l.length):Cl.hexs (l.take (k+1))=Cl.hexs (l.take k)++[Utf.hex (l.getD k 0 / 16)]++[Utf.hex (l.getD k 0 % 16)]:=by
 rw [take_snoc l k h,Cl.hexs_append];simp [Cl.hexs]
theorem cBytesText (c:Cl.C) (w:World) (hm:c.s.size≤100000) (t:ByteArray) (ht:str (120::Cl.hexs (bl c.s))=t):Calls Tryz.prog 107 #[cv c] w fun e w'=>e=.returned (.string t)∧Below w.heap.size w w':=by
 obtain⟨u,n,s⟩:=c
 unfold cv
 simp only at hm ht ⊢
 have HT:=hZ ht
 have w1:(w.alloc (.cells #[.bool u,.int .i64 n,.string s] 61)).heap.size=w.heap.size+1:=by simp
 have S0:=BS.start (w.alloc (.cells #[.bool u,.int .i64 n,.string s] 61)) (w.heap.size+1) w1
 have V0:=hZ (CV.new w u n s)
 have B0:=hZ (box_new w (.cells #[.bool u,.int .i64 n,.string s] 61))
 have W1:=hZ w1
 clear ht w1
 go_enter Tryz.func107,Tryz.ntmps107
 go_wp2_with fail
 ((with_reducible refine (bs_str S0 ⟨#[120]⟩ [120] (by decide) rfl (by simp;decide)).mono ?_);rintro e w2 ⟨⟨nn,rfl⟩,h2⟩)
 generalize hX:w.alloc (.cells #[.bool u,.int .i64 n,.string s] 61)=X at *
 have hlie:∀ w3,Below (w.heap.size+1) X w3→CV w3 w.heap.size ⟨u,n,s⟩:=fun w3 hb=>V0.out.later (hb.mono (by rw [W1.out];exact Nat.le_refl _))
 have HL:=hZ hlie
 obtain⟨_,_,l2⟩:=(hlie w2 h2.2.1).lie
 simp only at l2
 clear hlie
 go_wp2_with fail
 have H2:=hZ h2
 clear h2 S0 l2
 go_loopw [4,9] (fun a i wr=>∃ k:Nat,k≤s.size∧i=.int .i64 k∧Hid (BS X (w.heap.size+1) (120::Cl.hexs ((bl s).take k)) wr)) (fun a i _=>s.size - (intOf i).toNat)
 case atStart=>exact⟨0,by omega,rfl,by rw [List.take_zero];exact H2⟩
 case round =>
  obtain⟨k,hk,rfl,HS⟩:=hrel
  obtain⟨_,_,l2⟩:=(HL.out wr HS.out.2.1).lie
  simp only at l2
  by_cases hlt:k < s.size
  ·have hb:(bl s).getD k 0 < 256:=bl_byte s _ (by rw [List.getD_eq_getElem?_getD,List.getElem?_eq_getElem (by rw [bl_length];omega)];simp)
   have h4:=bl_at s k hlt
   have HH:=hZ (hexs_take (bl s) k (by rw [bl_length];omega))
   have hlen:(120::Cl.hexs ((bl s).take k)).length≤2 * s.size:=by
    rw [List.length_cons,Cl.hexs_len,List.length_take,bl_length];omega
   generalize (bl s).getD k 0=x at *
   have hq1:=hex_run (x / 16) (by omega) .u8
   have hq2:=hex_run (x % 16) (by omega) .u8
   rw [show ((x / 16:Nat):Int)=(x:Int) / 16 by omega] at hq1
   rw [show ((x % 16:Nat):Int)=(x:Int) % 16 by omega] at hq2
   have hh1:Utf.hex (x / 16) < 256:=by unfold Utf.hex;split<;>omega
   have hh2:Utf.hex (x % 16) < 256:=by unfold Utf.hex;split<;>omega
   generalize Utf.hex (x / 16)=p at *
   generalize Utf.hex (x % 16)=q at *
   have hw1:IntKind.u8.wrap ((x:Int) / 16)=(x:Int) / 16:=IntWalk.u8_in _ ⟨by omega,by omega⟩
   have hw2:(x:Int).tmod 16=(x:Int) % 16:=Int.tmod_eq_emod_of_nonneg (by omega)
   go_wp2_with fail
   ((with_reducible refine (bs_byte HS.out p p rfl hh1 (by omega)).mono ?_);rintro e w5 ⟨rfl,h5⟩)
   obtain⟨_,_,l5⟩:=(HL.out w5 h5.2.1).lie
   simp only at l5
   go_wp2_with fail
   ((with_reducible refine (bs_byte h5 q q rfl hh2 (by rw [List.length_append,List.length_singleton];omega)).mono ?_);rintro e w6 ⟨rfl,h6⟩)
   have H6:=hZ h6
   clear h5 h6 l5 l2
   go_wp2_with fail
   go_roundw
   case rel=>exact⟨k+1,by omega,by go_num,by rw [HH.out];simpa [List.append_assoc] using H6⟩
   case measure=>simp [intOf];omega
  ·have HF:=hZ (show 120::Cl.hexs ((bl s).take k)=120::Cl.hexs (bl s) by rw [List.take_of_length_le (by rw [bl_length];omega)])
   go_wp2_with fail
   ((with_reducible refine (bs_string HS.out t (by rw [HF.out];exact HT.out)).mono ?_);rintro e w6 ⟨rfl,h6⟩)
   have H6:=hZ h6
   clear h6 l2
   go_wp2_with fail
   go_ret
   exact⟨rfl,B0.out.trans (H6.out.mono (by omega))⟩
theorem cTakeRun (s:ByteArray) (w:World) (hm:s.size≤100000) (x:List Nat) (n e0:Nat) (hr:Cl.run (bl s) [] 0=(x,n,e0)) :
 Calls Tryz.prog 105 #[.string s] w fun e w'=>e=.returned (.tuple #[cv ⟨false,0,str x⟩,.int .i64 (n:Nat),.int .i64 (e0:Nat)])∧Below w.heap.size w w':=by
 have w1:(w.alloc (.cells #[.bool false,.int .i64 0,.string ⟨#[]⟩] 61)).heap.size=w.heap.size+1:=by simp
 have S0:=BS.start (w.alloc (.cells #[.bool false,.int .i64 0,.string ⟨#[]⟩] 61)) (w.heap.size+1) w1
 have V0:=hZ (CV.new w false 0 ⟨#[]⟩)
 have B0:=hZ (box_new w (.cells #[.bool false,.int .i64 0,.string ⟨#[]⟩] 61))
 have W1:=hZ w1
 have HR:=hZ hr
 clear w1 hr
 go_enter Tryz.func105,Tryz.ntmps105
 go_wp2_with fail
 generalize hX:w.alloc (.cells #[.bool false,.int .i64 0,.string ⟨#[]⟩] 61)=X at *
 have hlie:∀ w3,Below (w.heap.size+1) X w3→CV w3 w.heap.size ⟨false,0,⟨#[]⟩⟩∧Below w.heap.size w w3:=fun w3 hb=>⟨V0.out.later (hb.mono (by rw [W1.out];exact Nat.le_refl _)),B0.out.trans (hb.mono (by omega))⟩
 have HL:=hZ hlie
 have H2:=hZ S0
 clear S0 hlie
 go_loopw [6,7] (fun i a wr=>∃ (k:Nat) (o:List Nat),k≤s.size∧i=.int .i64 k∧o.length≤k∧Hid (BS X (w.heap.size+1) o wr)∧Hid (Cl.run ((bl s).drop k) o k=(x,n,e0))) (fun i a _=>s.size - (intOf i).toNat)
 case atStart=>exact⟨0,[],by omega,rfl,by simp,H2,HR⟩
 case round =>
  obtain⟨k,o,hk,rfl,ho,HS,HQ⟩:=hrel
  by_cases hlt:k < s.size
  ·have hq:=HQ.out
   rw [drop_at (bl s) k (by rw [bl_length];omega)] at hq
   have h4:=bl_at s k hlt
   obtain⟨V,B⟩:=HL.out wr HS.out.2.1
   have HV:=hZ V
   have HB:=hZ B
   obtain⟨k0,k1,k2⟩:=V.lie
   obtain⟨f0,f1,f2⟩:=V.free
   clear V B
   have z0:((⟨#[0]⟩:ByteArray)[0]'(by decide)).toNat=0:=rfl
   have z1:((⟨#[255]⟩:ByteArray)[0]'(by decide)).toNat=255:=rfl
   have hb:=bl_byte s ((bl s).getD k 0) (by rw [List.getD_eq_getElem?_getD,List.getElem?_eq_getElem (by rw [bl_length];omega)];simp)
   by_cases hz:(bl s).getD k 0=0
   ·rw [hz] at hq h4
    rw [Cl.run_zero] at hq
    clear hz hb
    by_cases h1:k+1=s.size
    ·rw [List.drop_eq_nil_of_le (by rw [bl_length];omega)] at hq
     simp only [Prod.mk.injEq] at hq
     obtain⟨rfl,rfl,rfl⟩:=hq
     have h5:((k:Int)+1 == (s.size:Int))=true:=by simp;omega
     go_wp2_with fail
     exact bodyPost_ret (ret3 rfl _ _ w.heap.size _ rfl (HV.out.put _ _ _).heap) rfl ⟨rfl,put_below (Nat.le_refl _) HB.out _ _ _⟩
    ·have hlt2:k+1 < s.size:=by omega
     rw [drop_at (bl s) (k+1) (by rw [bl_length];omega)] at hq
     simp only [] at hq
     have h5:((k:Int)+1 == (s.size:Int))=false:=by simp;omega
     have h6:=bl_at s (k+1) hlt2
     have hc:=bl_byte s ((bl s).getD (k+1) 0) (by rw [List.getD_eq_getElem?_getD,List.getElem?_eq_getElem (by rw [bl_length];omega)];simp)
     by_cases c0:(bl s).getD (k+1) 0=0
     ·rw [if_pos c0] at hq
      simp only [Prod.mk.injEq] at hq
      obtain⟨rfl,rfl,rfl⟩:=hq
      rw [c0] at h6
      go_wp2_with fail
      go_region
      go_wp2_with fail
      ((with_reducible refine (bs_string HS.out.drew (str o) rfl).mono ?_);rintro e w6 ⟨rfl,h6b⟩)
      obtain⟨V,B⟩:=HL.out _ h6b
      clear k0 k1 k2 f0 f1 f2 HV HB
      have HV:=hZ V
      have HB:=hZ B
      obtain⟨k0,k1,k2⟩:=V.lie
      obtain⟨f0,f1,f2⟩:=V.free
      clear V B h6b
      go_wp2_with fail
      exact bodyPost_ret (ret3 rfl _ _ w.heap.size _ rfl (HV.out.put _ _ _).heap) rfl ⟨by rw [show ((k+2:Nat):Int)=(k:Int)+1+1 by omega];rfl,put_below (Nat.le_refl _) HB.out _ _ _⟩
     ·rw [if_neg c0] at hq
      by_cases c1:(bl s).getD (k+1) 0=255
      ·rw [if_neg (by omega)] at hq
       rw [c1] at h6
       have HC:=hZ c1
       clear c1 c0 hc
       by_cases hf:o.length=1024
       ·rw [if_pos hf] at hq
        simp only [Prod.mk.injEq] at hq
        obtain⟨rfl,rfl,rfl⟩:=hq
        have LN:=hZ (fun wq (h:BS X (w.heap.size+1) o wq)=>bs_len h 1024 hf)
        clear hf
        go_wp2_with fail
        go_region
        go_wp2_with fail
        go_region
        go_wp2_with fail
        ((with_reducible refine (LN.out _ HS.out.drew.drew).mono ?_);rintro e w6 ⟨rfl,rfl⟩)
        go_wp2_with fail
        exact bodyPost_ret (ret3 rfl _ _ w.heap.size _ rfl (CV.put HV.out _ _ _).heap) rfl ⟨rfl,(put_below (Nat.le_refl _) HB.out _ _ _).drew.drew⟩
       ·rw [if_neg hf] at hq
        have hf2:((o.length:Int) == 1024)=false:=by simp;omega
        have hl:=HS.out.2.2
        have HF:=hZ hf
        have HQ2:=hZ hq
        clear hf hq
        go_wp2_with fail
        go_region
        go_wp2_with fail
        go_region
        go_wp2_with fail
        ((with_reducible refine (bs_len HS.out.drew.drew _ rfl).mono ?_);rintro e w6 ⟨rfl,rfl⟩)
        go_wp2_with fail
        ((with_reducible refine (bs_byte HS.out.drew.drew 0 0 rfl (by decide) (by omega)).mono ?_);rintro e w6 ⟨rfl,h6b⟩)
        have H6:=hZ h6b
        clear h6b
        go_wp2_with fail
        go_roundw
        case rel=>exact⟨k+2,o++[0],by omega,by go_num,by simp;omega,H6,HQ2⟩
        case measure=>simp [intOf];omega
      ·rw [if_pos c1] at hq
       simp only [Prod.mk.injEq] at hq
       obtain⟨rfl,rfl,rfl⟩:=hq
       generalize (bl s).getD (k+1) 0=c at *
       have g0:((c:Int) == 0)=false:=by simp;omega
       have g1:((c:Int) == 255)=false:=by simp;omega
       have g2:((c:Int) != 255)=true:=by simp;omega
       have HC:=hZ (And.intro c0 c1)
       clear c0 c1
       go_wp2_with fail
       go_region
       go_wp2_with fail
       go_region
       go_wp2_with fail
       exact bodyPost_ret (ret3 rfl _ _ w.heap.size _ rfl (CV.put HV.out _ _ _).heap) rfl ⟨rfl,(put_below (Nat.le_refl _) HB.out _ _ _).drew.drew⟩
   ·rw [Cl.run_some _ _ _ _ hz] at hq
    generalize (bl s).getD k 0=b at *
    have g0:((b:Int) == 0)=false:=by simp;omega
    have HZ:=hZ hz
    clear hz
    by_cases hf:o.length=1024
    ·rw [if_pos hf] at hq
     simp only [Prod.mk.injEq] at hq
     obtain⟨rfl,rfl,rfl⟩:=hq
     have LN:=hZ (fun wq (h:BS X (w.heap.size+1) o wq)=>bs_len h 1024 hf)
     clear hf
     go_wp2_with fail
     ((with_reducible refine (LN.out _ HS.out).mono ?_);rintro e w6 ⟨rfl,rfl⟩)
     go_wp2_with fail
     exact bodyPost_ret (ret3 rfl _ _ w.heap.size _ rfl (HV.out.put _ _ _).heap) rfl ⟨rfl,put_below (Nat.le_refl _) HB.out _ _ _⟩
    ·rw [if_neg hf] at hq
     have hf2:((o.length:Int) == 1024)=false:=by simp;omega
     have hl:=HS.out.2.2
     have HF:=hZ hf
     have HQ2:=hZ hq
     clear hf hq
     go_wp2_with fail
     ((with_reducible refine (bs_len HS.out _ rfl).mono ?_);rintro e w6 ⟨rfl,rfl⟩)
     go_wp2_with fail
     ((with_reducible refine (bs_byte HS.out b b rfl hb (by omega)).mono ?_);rintro e w6 ⟨rfl,h6b⟩)
     have H6:=hZ h6b
     clear h6b
     go_wp2_with fail
     go_roundw
     case rel=>exact⟨k+1,o++[b],by omega,by go_num,by simp;omega,H6,HQ2⟩
     case measure=>simp [intOf];omega
  ·have h0:(bl s).drop k=[]:=List.drop_eq_nil_of_le (by rw [bl_length];omega)
   have hq:=HQ.out
   rw [h0,Cl.run_nil] at hq
   simp only [Prod.mk.injEq] at hq
   obtain⟨rfl,rfl,rfl⟩:=hq
   obtain⟨V,B⟩:=HL.out wr HS.out.2.1
   have HV:=hZ V
   have HB:=hZ B
   obtain⟨k0,k1,k2⟩:=V.lie
   obtain⟨f0,f1,f2⟩:=V.free
   clear V B h0
   go_wp2_with fail
   exact bodyPost_ret (ret3 rfl _ _ w.heap.size _ rfl (HV.out.put _ _ _).heap) rfl ⟨rfl,put_below (Nat.le_refl _) HB.out _ _ _⟩
def ix (c:Nat):Int:=Lib.indexByte [48,49,50,51,52,53,54,55,56,57,97,98,99,100,101,102] ((c:Int).toNat.toUInt8)
theorem ix_all:∀ c:Fin 256,-1≤ix c.val∧ix c.val≤15∧(Cl.idx c.val < 16→ix c.val=Cl.idx c.val):=by decide +kernel
def fb (a b:Nat):Nat:=((ix a * 16+ix b) % 256).toNat
theorem fb_lt (a b:Nat):fb a b < 256:=by unfold fb;omega
def gx:List Nat→List Nat
 | a::b::t=>fb a b::gx t
 | _=>[]
theorem gx_hexs:∀ l:List Nat,(∀ x∈l,x < 256)→gx (Cl.hexs l)=l
 | [],_=>rfl
 | b::l,h=>by
  have hb:=h b (by simp)
  rw [Cl.hexs_cons]
  simp only [gx]
  rw [gx_hexs l (fun x hx=>h x (List.mem_cons_of_mem _ hx))]
  have e1:=Cl.idx_hex (b / 16) (by omega)
  have e2:=Cl.idx_hex (b % 16) (by omega)
  have h1:=(ix_all ⟨Utf.hex (b / 16),Cl.hex_lt _ (by omega)⟩).2.2
  have h2:=(ix_all ⟨Utf.hex (b % 16),Cl.hex_lt _ (by omega)⟩).2.2
  simp only [e1,e2] at h1 h2
  unfold fb
  rw [h1 (by omega),h2 (by omega)]
  congr 1;omega
theorem gx_len:∀ (n:Nat) (l:List Nat),l.length≤n→(gx l).length≤l.length
 | n,[],_=>by simp [gx]
 | n,[a],_=>by simp [gx]
 | 0,a::b::t,h=>by simp at h
 | n+1,a::b::t,h=>by
  have:=gx_len n t (by simp at h;omega)
  simp only [gx,List.length_cons];omega
theorem gx_two (l:List Nat) (h:2≤l.length):gx l=fb (l.getD 0 0) (l.getD 1 0)::gx (l.drop 2):=by
 match l,h with
 | a::b::t,_=>rfl
theorem gx_few (l:List Nat) (h:l.length < 2):gx l=[]:=by
 match l,h with
 | [],_=>rfl
 | [a],_=>rfl
def trimX (s:ByteArray):ByteArray:=⟨(Lib.trimPrefix s.data.toList [120]).toArray⟩
theorem trimX_bl (s:ByteArray):bl (trimX s)=if bl s≠[]∧(bl s).getD 0 0=120 then (bl s).drop 1 else bl s:=by
 have hp:=pre1 s 120
 unfold trimX Lib.trimPrefix
 rw [hp]
 have e:(120:UInt8).toNat=120:=rfl
 rw [e]
 by_cases h:bl s≠[]∧(bl s).getD 0 0=120
 ·rw [if_pos (decide_eq_true h),if_pos h]
  unfold bl;simp
 ·rw [if_neg (by simpa using h),if_neg h]
theorem trimX_size (s:ByteArray):(trimX s).size≤s.size:=by
 rw [← bl_length,trimX_bl,← bl_length s]
 split
 ·rw [List.length_drop];omega
 ·exact Nat.le_refl _
theorem cGuessBytes (s:ByteArray) (w:World) (hm:s.size≤100000):Calls Tryz.prog 108 #[.string s] w fun e w'=>e=.returned (cv ⟨false,0,str (gx (bl (trimX s)))⟩)∧Below w.heap.size w w':=by
 have w1:(w.alloc (.cells #[.bool false,.int .i64 0,.string ⟨#[]⟩] 61)).heap.size=w.heap.size+1:=by simp
 have S0:=BS.start (w.alloc (.cells #[.bool false,.int .i64 0,.string ⟨#[]⟩] 61)) (w.heap.size+1) w1
 have V0:=hZ (CV.new w false 0 ⟨#[]⟩)
 have B0:=hZ (box_new w (.cells #[.bool false,.int .i64 0,.string ⟨#[]⟩] 61))
 have W1:=hZ w1
 have CT:=hZ (fun w=>(Tryz.strings_TrimPrefix s ⟨#[120]⟩ w).mono (fun _ _ h=>(⟨h.1,h.2⟩:_=Ending.returned (.string (trimX s))∧_=w)))
 have ht:=trimX_size s
 generalize trimX s=t0 at *
 clear w1
 go_enter Tryz.func108,Tryz.ntmps108
 go_wp2_with fail
 ((with_reducible refine (CT.out _).mono ?_);rintro e w2 ⟨rfl,rfl⟩)
 go_wp2_with fail
 generalize hX:w.alloc (.cells #[.bool false,.int .i64 0,.string ⟨#[]⟩] 61)=X at *
 have hlie:∀ w3,Below (w.heap.size+1) X w3→CV w3 w.heap.size ⟨false,0,⟨#[]⟩⟩∧Below w.heap.size w w3:=fun w3 hb=>⟨V0.out.later (hb.mono (by rw [W1.out];exact Nat.le_refl _)),B0.out.trans (hb.mono (by omega))⟩
 have HL:=hZ hlie
 have H2:=hZ S0
 clear S0 hlie
 go_loopw [3,5,6] (fun v a b wr=>∃ (t:ByteArray) (o:List Nat),v=.string t∧o.length+t.size≤s.size∧Hid (BS X (w.heap.size+1) o wr)∧Hid (o++gx (bl t)=gx (bl t0))) (fun v a b _=>sz v)
 case atStart=>exact⟨t0,[],rfl,by simp;omega,H2,hZ (by simp)⟩
 case round =>
  obtain⟨t,o,rfl,hlen,HS,HQ⟩:=hrel
  by_cases h2:2≤t.size
  ·have hg:=gx_two (bl t) (by rw [bl_length];exact h2)
   have h20:(2:Int)≤(t.size:Int):=by omega
   have i0:=bl_at t 0 (by omega)
   have i1:=bl_at t 1 (by omega)
   have q0:=bl_byte t ((bl t).getD 0 0) (by rw [List.getD_eq_getElem?_getD,List.getElem?_eq_getElem (by rw [bl_length];omega)];simp)
   have q1:=bl_byte t ((bl t).getD 1 0) (by rw [List.getD_eq_getElem?_getD,List.getElem?_eq_getElem (by rw [bl_length];omega)];simp)
   have e1:=ix_all ⟨_,q0⟩
   have e2:=ix_all ⟨_,q1⟩
   simp only at e1 e2
   have hfb:((fb ((bl t).getD 0 0) ((bl t).getD 1 0):Nat):Int)=(ix ((bl t).getD 0 0) * 16+ix ((bl t).getD 1 0)) % 256:=by unfold fb;omega
   have hbl:bl (t.extract 2 t.size)=(bl t).drop 2:=bl_from t 2
   have CA:=hZ (fun w=>(Tryz.strings_IndexByte ⟨#[48,49,50,51,52,53,54,55,56,57,97,98,99,100,101,102]⟩ (((bl t).getD 0 0:Nat):Int) w).mono (fun _ _ h=>(⟨h.1,h.2⟩:_=Ending.returned (.int .i64 (ix ((bl t).getD 0 0)))∧_=w)))
   have CB:=hZ (fun w=>(Tryz.strings_IndexByte ⟨#[48,49,50,51,52,53,54,55,56,57,97,98,99,100,101,102]⟩ (((bl t).getD 1 0:Nat):Int) w).mono (fun _ _ h=>(⟨h.1,h.2⟩:_=Ending.returned (.int .i64 (ix ((bl t).getD 1 0)))∧_=w)))
   generalize (bl t).getD 0 0=a at *
   generalize (bl t).getD 1 0=b at *
   have hfl:=fb_lt a b
   generalize fb a b=q at *
   generalize ix a=x at *
   generalize ix b=y at *
   have hl:=HS.out.2.2
   have HG:=hZ hg
   have HE:=hZ hbl
   have HF:=hZ hfb
   clear hg hbl hfb
   go_wp2_with fail
   go_quiet ((go_at_call 136;first|exact Calls.quiet_of_same (CA.out _)|exact Calls.quiet_of_same (CB.out _)))
   go_wp2_with fail
   ((with_reducible refine (bs_byte (HS.out.drewN _) q _ HF.out.symm hfl (by omega)).mono ?_);rintro e w6 ⟨rfl,h6b⟩)
   have H6:=hZ h6b
   clear h6b
   go_wp2_with fail
   go_roundw
   case rel=>exact⟨_,o++[q],rfl,by rw [List.length_append,List.length_singleton,ByteArray.size_extract];omega,H6,hZ (by rw [← HQ.out,HG.out,HE.out,List.append_assoc];rfl)⟩
   case measure=>simp [sz];omega
  ·have hg:=gx_few (bl t) (by rw [bl_length];omega)
   have hq:=HQ.out
   rw [hg,List.append_nil] at hq
   have h20:¬ (2:Int)≤(t.size:Int):=by omega
   go_wp2_with fail
   ((with_reducible refine (bs_string HS.out (str o) rfl).mono ?_);rintro e w6 ⟨rfl,h6b⟩)
   obtain⟨V,B⟩:=HL.out _ h6b
   have HV:=hZ V
   have HB:=hZ B
   obtain⟨k0,k1,k2⟩:=V.lie
   obtain⟨f0,f1,f2⟩:=V.free
   clear V B h6b
   go_wp2_with fail
   exact bodyPost_ret (ret1 rfl _ _ w.heap.size _ rfl (HV.out.put _ _ _).heap) rfl ⟨by first|rfl|rw [hq],put_below (Nat.le_refl _) HB.out _ _ _⟩
theorem repl (new:List UInt8) (c:UInt8):∀ l:List UInt8,Lib.replaceK [c] new (Lib.count l [c]) l=l.flatMap fun b=>if b=c then new else [b]
 | []=>by rw [Lib.count_one];rfl
 | b::l=>by
  have ih:=repl new c l
  by_cases h:b=c
  ·subst h
   rw [Lib.count_cons_eq,Nat.add_comm,Lib.replaceK_hit [b] new _ _ 0 (by rw [Lib.index_one];simp [Lib.indexByte])]
   simp [ih]
  ·rw [Lib.count_cons_ne b c l h]
   cases hk:Lib.count l [c] with
   | zero =>
    rw [hk] at ih
    simp only [Lib.replaceK] at ih ⊢
    simp [h,← ih]
   | succ k =>
    rw [hk] at ih
    obtain⟨i,hi⟩:=Lib.index_of_count (s:=l) (old:=[c]) (by omega)
    rw [Lib.replaceK_hit [c] new k l i hi] at ih
    rw [Lib.replaceK_hit [c] new k (b::l) (i+1) (by
     rw [Lib.index_one] at hi ⊢
     unfold Lib.indexByte
     rw [if_neg (by simpa using h),hi]
     rw [if_neg (by simp)];omega)]
    simp [h,← ih]
theorem repl_bl (s:ByteArray):(⟨(Lib.replaceAll s.data.toList [0] [0,255]).toArray⟩:ByteArray)=str (Cl.esc0 (bl s)):=by
 apply bl_inj
 rw [bl_str _ (Cl.esc0_byte (bl_byte s)),bl_arr]
 unfold Lib.replaceAll Lib.replace
 rw [if_neg (show ¬ (([0]:List UInt8) == [0,255])=true by decide)]
 unfold Lib.replaceNum
 rw [if_pos (.inl (by decide)),repl]
 unfold bl Cl.esc0
 generalize s.data.toList=l
 induction l with
 | nil=>rfl
 | cons b l ih =>
  simp only [List.flatMap_cons,List.map_append,List.map_cons,ih]
  congr 1
  by_cases h:b=0
  ·subst h;rfl
  ·have:¬ b.toNat=0:=fun e=>h (UInt8.toNat_inj.1 e)
   rw [if_neg h,if_neg this];rfl
theorem repl_count (s:ByteArray):Lib.countB s ⟨#[0]⟩≤s.size:=Lib.countB_le ⟨#[0]⟩ (by decide) s.size s (Nat.le_refl _)
def TabM (w:World):Prop:=∃ m,w.cell? ⟨0,0,none⟩=some (.int .i64 m)
theorem TabM.later {w w':World} (h:TabM w) (hb:Below w.heap.size w w'):TabM w':=by
 obtain⟨m,h⟩:=h
 exact⟨m,(hb.cell (p:=⟨0,0,none⟩) (cell_lt h)).trans h⟩
structure TA (w:World):Prop where
 tab:Tab w
 err:TabE w
 pow:TabP w
 mx:TabM w
theorem TA.later {w w':World} (h:TA w) (hb:Below w.heap.size w w'):TA w':=⟨h.tab.later hb,h.err.later hb,h.pow.later hb,h.mx.later hb⟩
theorem cRunBits (c:Cl.C) (w:World) (T:TabM w) (hm:c.s.size≤1000000) (t:ByteArray) (ht:str (Cl.esc0 (bl c.s)++[0,0])=t):Calls Tryz.prog 104 #[cv c] w fun e w'=>e=.returned (.string t)∧Below w.heap.size w w':=by
 obtain⟨u,n,s⟩:=c
 unfold cv
 simp only at hm ht ⊢
 have hl:=(Cl.esc0_len (bl s)).2
 rw [bl_length] at hl
 have hcount:=repl_count s
 have hC:∀ w1:World,Below w.heap.size w w1→Calls Tryz.prog 64 #[.string s,.string ⟨#[0]⟩,.string ⟨#[0,255]⟩] w1 fun e w'=>e=.returned (.string (str (Cl.esc0 (bl s))))∧Below w1.heap.size w1 w':=fun w1 hb=>by
  obtain⟨m,hm2⟩:=T.later hb
  rw [← repl_bl]
  exact Tryz.strings_ReplaceAll s ⟨#[0]⟩ ⟨#[0,255]⟩ m w1 (by omega) hm2 (by decide) (by show s.size+_ * 2≤_;omega)
 have HC:=hZ hC
 have e:t=str (Cl.esc0 (bl s))++⟨#[0]⟩++⟨#[0]⟩:=by
  rw [← ht,show [0,0]=[0]++[0] from rfl,← List.append_assoc,str_append,str_append];rfl
 have hz:(str (Cl.esc0 (bl s))).size≤2000000:=by rw [str_size];omega
 generalize str (Cl.esc0 (bl s))=x at *
 have z1:x.size+(⟨#[0]⟩:ByteArray).size≤9223372036854775807:=by show _+1≤_;omega
 have z2:(x++(⟨#[0]⟩:ByteArray)).size+(⟨#[0]⟩:ByteArray).size≤9223372036854775807:=by rw [ByteArray.size_append];show _+1+1≤_;omega
 have n1:¬ 9223372036854775807 < x.size+(⟨#[0]⟩:ByteArray).size:=by omega
 have n2:¬ 9223372036854775807 < (x++(⟨#[0]⟩:ByteArray)).size+(⟨#[0]⟩:ByteArray).size:=by omega
 have HE:=hZ e
 clear hC hcount hl ht T hm hz e
 go_enter Tryz.func104,Tryz.ntmps104
 go_wp2_with fail
 ((with_reducible refine (HC.out _ (box_new _ _)).mono ?_);rintro e w1 ⟨rfl,b1⟩)
 have B1:=hZ ((box_new w _).trans (b1.mono (by simp)))
 clear b1
 go_wp2_with fail
 go_ret
 exact⟨by rw [HE.out];rfl,B1.out⟩
def kinds:Value:=.agg #[.nilFunc,.nilFunc,.nilFunc,.nilFunc,.nilFunc,.func (Fn.func 90) #[] #[],.func (Fn.func 91) #[] #[],.func (Fn.func 92) #[] #[],.func (Fn.func 93) #[] #[],.func (Fn.func 94) #[] #[],.func (Fn.func 95) #[] #[],.func (Fn.func 96) #[] #[],.func (Fn.func 97) #[] #[],.func (Fn.func 98) #[] #[],.func (Fn.func 99) #[] #[],.func (Fn.func 100) #[] #[],.func (Fn.func 96) #[] #[],.func (Fn.func 97) #[] #[],.func (Fn.func 98) #[] #[],.func (Fn.func 99) #[] #[],.func (Fn.func 101) #[] #[],.func (Fn.func 102) #[] #[],.func (Fn.func 103) #[] #[],.func (Fn.func 104) #[] #[],.func (Fn.func 105) #[] #[],.func (Fn.func 106) #[] #[],.func (Fn.func 107) #[] #[],.func (Fn.func 108) #[] #[],.func (Fn.func 104) #[] #[],.func (Fn.func 105) #[] #[]]
def kv1:Value:=.agg #[.func (Fn.func 90) #[] #[],.func (Fn.func 91) #[] #[],.func (Fn.func 92) #[] #[],.func (Fn.func 93) #[] #[],.func (Fn.func 94) #[] #[]]
def kv2:Value:=.agg #[.func (Fn.func 95) #[] #[],.func (Fn.func 96) #[] #[],.func (Fn.func 97) #[] #[],.func (Fn.func 98) #[] #[],.func (Fn.func 99) #[] #[]]
def kv3:Value:=.agg #[.func (Fn.func 100) #[] #[],.func (Fn.func 96) #[] #[],.func (Fn.func 97) #[] #[],.func (Fn.func 98) #[] #[],.func (Fn.func 99) #[] #[]]
def kv4:Value:=.agg #[.func (Fn.func 101) #[] #[],.func (Fn.func 102) #[] #[],.func (Fn.func 103) #[] #[],.func (Fn.func 104) #[] #[],.func (Fn.func 105) #[] #[]]
def kv5:Value:=.agg #[.func (Fn.func 106) #[] #[],.func (Fn.func 107) #[] #[],.func (Fn.func 108) #[] #[],.func (Fn.func 104) #[] #[],.func (Fn.func 105) #[] #[]]
def TV (w:World) (g:Nat) (u:Bool) (k:Int):Prop:=Blk w g 59 [.int .i64 k,.bool u]
theorem TV.new (w:World) (u:Bool) (k:Int):TV (w.alloc (.cells #[.int .i64 k,.bool u] 59)) w.heap.size u k:=Blk.new w _ _
theorem TV.lie {w:World} {g:Nat} {u:Bool} {k:Int} (h:TV w g u k):w.cell? ⟨g,0,none⟩=some (.int .i64 k)∧w.cell? ⟨g,1,none⟩=some (.bool u) :=
 ⟨by have:=h.cell 0;simpa using this,by have:=h.cell 1;simpa using this⟩
theorem TV.later {w w':World} {g:Nat} {u:Bool} {k:Int} (h:TV w g u k) (hb:Below w.heap.size w w'):TV w' g u k:=Blk.later h hb
structure BX (w0:World) (u:Bool) (k:Int) (c:Cl.C) (w:World):Prop where
 t:TV w w0.heap.size u k
 c:CV w (w0.heap.size+1) c
 b:Below w0.heap.size w0 w
theorem BX.later {w0 w w':World} {u:Bool} {k:Int} {c:Cl.C} (h:BX w0 u k c w) (hb:Below w.heap.size w w'):BX w0 u k c w':=⟨h.t.later hb,h.c.later hb,up h.b hb⟩
theorem BX.start (w:World) (u:Bool) (k:Int) (c:Cl.C):BX w u k c ((w.alloc (.cells #[.int .i64 k,.bool u] 59)).alloc (.cells #[.bool c.u,.int .i64 c.n,.string c.s] 61)):=by
 have h:=CV.new (w.alloc (.cells #[.int .i64 k,.bool u] 59)) c.u c.n c.s
 rw [show (w.alloc (.cells #[.int .i64 k,.bool u] 59)).heap.size=w.heap.size+1 by simp] at h
 exact⟨(TV.new w u k).later (box_new _ _),h,(box_new w _).alloc (by simp) _⟩
theorem kindOf1 (u:Bool) (w:World):Calls Tryz.prog 73 #[tv u 1] w fun e w'=>e=.returned kv1∧Below w.heap.size w w':=by
 have i0:∀ w,(Instr.index 127 kinds (.int .i64 1)).run Tryz.prog w=.ok kv1 w:=fun _=>by kernel_rfl
 unfold tv
 unfold kinds at i0
 unfold kv1 at i0 ⊢
 go_enter Tryz.func73,Tryz.ntmps73
 go_wp2_with fail
 have:=heap_alloc_new (w.alloc (.cells #[.int .i64 1,.bool u] 59)) (.cells #[.func (Fn.func 90) #[] #[],.func (Fn.func 91) #[] #[],.func (Fn.func 92) #[] #[],.func (Fn.func 93) #[] #[],.func (Fn.func 94) #[] #[]] 104)
 rw [show (w.alloc (.cells #[.int .i64 1,.bool u] 59)).heap.size=w.heap.size+1 by simp] at this
 refine bodyPost_ret (v:=.agg #[.func (Fn.func 90) #[] #[],.func (Fn.func 91) #[] #[],.func (Fn.func 92) #[] #[],.func (Fn.func 93) #[] #[],.func (Fn.func 94) #[] #[]]) ?_ rfl ⟨rfl,(box_new w _).alloc (by simp) _⟩
 exact results_cell_row rfl _ _ (w.heap.size+1) 104 _ _ _ rfl this Tryz.underlying104 rfl (by kernel_rfl)
theorem kindOf2 (u:Bool) (w:World):Calls Tryz.prog 73 #[tv u 2] w fun e w'=>e=.returned kv2∧Below w.heap.size w w':=by
 have i0:∀ w,(Instr.index 127 kinds (.int .i64 2)).run Tryz.prog w=.ok kv2 w:=fun _=>by kernel_rfl
 unfold tv
 unfold kinds at i0
 unfold kv2 at i0 ⊢
 go_enter Tryz.func73,Tryz.ntmps73
 go_wp2_with fail
 have:=heap_alloc_new (w.alloc (.cells #[.int .i64 2,.bool u] 59)) (.cells #[.func (Fn.func 95) #[] #[],.func (Fn.func 96) #[] #[],.func (Fn.func 97) #[] #[],.func (Fn.func 98) #[] #[],.func (Fn.func 99) #[] #[]] 104)
 rw [show (w.alloc (.cells #[.int .i64 2,.bool u] 59)).heap.size=w.heap.size+1 by simp] at this
 refine bodyPost_ret (v:=.agg #[.func (Fn.func 95) #[] #[],.func (Fn.func 96) #[] #[],.func (Fn.func 97) #[] #[],.func (Fn.func 98) #[] #[],.func (Fn.func 99) #[] #[]]) ?_ rfl ⟨rfl,(box_new w _).alloc (by simp) _⟩
 exact results_cell_row rfl _ _ (w.heap.size+1) 104 _ _ _ rfl this Tryz.underlying104 rfl (by kernel_rfl)
theorem kindOf3 (u:Bool) (w:World):Calls Tryz.prog 73 #[tv u 3] w fun e w'=>e=.returned kv3∧Below w.heap.size w w':=by
 have i0:∀ w,(Instr.index 127 kinds (.int .i64 3)).run Tryz.prog w=.ok kv3 w:=fun _=>by kernel_rfl
 unfold tv
 unfold kinds at i0
 unfold kv3 at i0 ⊢
 go_enter Tryz.func73,Tryz.ntmps73
 go_wp2_with fail
 have:=heap_alloc_new (w.alloc (.cells #[.int .i64 3,.bool u] 59)) (.cells #[.func (Fn.func 100) #[] #[],.func (Fn.func 96) #[] #[],.func (Fn.func 97) #[] #[],.func (Fn.func 98) #[] #[],.func (Fn.func 99) #[] #[]] 104)
 rw [show (w.alloc (.cells #[.int .i64 3,.bool u] 59)).heap.size=w.heap.size+1 by simp] at this
 refine bodyPost_ret (v:=.agg #[.func (Fn.func 100) #[] #[],.func (Fn.func 96) #[] #[],.func (Fn.func 97) #[] #[],.func (Fn.func 98) #[] #[],.func (Fn.func 99) #[] #[]]) ?_ rfl ⟨rfl,(box_new w _).alloc (by simp) _⟩
 exact results_cell_row rfl _ _ (w.heap.size+1) 104 _ _ _ rfl this Tryz.underlying104 rfl (by kernel_rfl)
theorem kindOf4 (u:Bool) (w:World):Calls Tryz.prog 73 #[tv u 4] w fun e w'=>e=.returned kv4∧Below w.heap.size w w':=by
 have i0:∀ w,(Instr.index 127 kinds (.int .i64 4)).run Tryz.prog w=.ok kv4 w:=fun _=>by kernel_rfl
 unfold tv
 unfold kinds at i0
 unfold kv4 at i0 ⊢
 go_enter Tryz.func73,Tryz.ntmps73
 go_wp2_with fail
 have:=heap_alloc_new (w.alloc (.cells #[.int .i64 4,.bool u] 59)) (.cells #[.func (Fn.func 101) #[] #[],.func (Fn.func 102) #[] #[],.func (Fn.func 103) #[] #[],.func (Fn.func 104) #[] #[],.func (Fn.func 105) #[] #[]] 104)
 rw [show (w.alloc (.cells #[.int .i64 4,.bool u] 59)).heap.size=w.heap.size+1 by simp] at this
 refine bodyPost_ret (v:=.agg #[.func (Fn.func 101) #[] #[],.func (Fn.func 102) #[] #[],.func (Fn.func 103) #[] #[],.func (Fn.func 104) #[] #[],.func (Fn.func 105) #[] #[]]) ?_ rfl ⟨rfl,(box_new w _).alloc (by simp) _⟩
 exact results_cell_row rfl _ _ (w.heap.size+1) 104 _ _ _ rfl this Tryz.underlying104 rfl (by kernel_rfl)
theorem kindOf5 (u:Bool) (w:World):Calls Tryz.prog 73 #[tv u 5] w fun e w'=>e=.returned kv5∧Below w.heap.size w w':=by
 have i0:∀ w,(Instr.index 127 kinds (.int .i64 5)).run Tryz.prog w=.ok kv5 w:=fun _=>by kernel_rfl
 unfold tv
 unfold kinds at i0
 unfold kv5 at i0 ⊢
 go_enter Tryz.func73,Tryz.ntmps73
 go_wp2_with fail
 have:=heap_alloc_new (w.alloc (.cells #[.int .i64 5,.bool u] 59)) (.cells #[.func (Fn.func 106) #[] #[],.func (Fn.func 107) #[] #[],.func (Fn.func 108) #[] #[],.func (Fn.func 104) #[] #[],.func (Fn.func 105) #[] #[]] 104)
 rw [show (w.alloc (.cells #[.int .i64 5,.bool u] 59)).heap.size=w.heap.size+1 by simp] at this
 refine bodyPost_ret (v:=.agg #[.func (Fn.func 106) #[] #[],.func (Fn.func 107) #[] #[],.func (Fn.func 108) #[] #[],.func (Fn.func 104) #[] #[],.func (Fn.func 105) #[] #[]]) ?_ rfl ⟨rfl,(box_new w _).alloc (by simp) _⟩
 exact results_cell_row rfl _ _ (w.heap.size+1) 104 _ _ _ rfl this Tryz.underlying104 rfl (by kernel_rfl)
theorem cunq_err (l:List Nat) (t:List Nat) (n e:Nat) (h:Utf.unq l=(t,n,e)) (he:e≠0):t=[]∧n=0:=by
 unfold Utf.unq at h
 repeat' split at h
 all_goals simp only [Prod.mk.injEq] at h
 ·exact⟨h.1.symm,h.2.1.symm⟩
 ·exact⟨h.1.symm,h.2.1.symm⟩
 ·exact⟨h.1.symm,h.2.1.symm⟩
 ·omega
theorem cunq_good (l:List Nat) (hl:∀ x∈l,x < 256) (t:List Nat) (n:Nat) (h:Utf.unq l=(t,n,0)) :
 (∃ rs,(∀ r∈rs,Utf.isr r)∧t=Utf.encs rs)∧(Utf.tidy t).length≤n∧2≤n∧n≤l.length:=by
 unfold Utf.unq at h
 by_cases h0:l=[]
 ·rw [if_pos h0] at h;simp at h
 ·rw [if_neg h0] at h
  by_cases h1:l.getD 0 0≠34
  ·rw [if_pos h1] at h;simp at h
  ·rw [if_neg h1] at h
   by_cases h2:(Utf.ub (l.drop 1)).2.2≠0
   ·rw [if_pos h2] at h
    simp only [Prod.mk.injEq] at h
    exact absurd h.2.2 h2
   ·rw [if_neg h2] at h
    simp only [Prod.mk.injEq] at h
    obtain⟨e1,e2,_⟩:=h
    obtain⟨i1,i2,i3⟩:=Utf.ub_good (l.drop 1).length (l.drop 1) (Nat.le_refl _) (Utf.drop_byte hl 1) (by omega)
    rw [List.length_drop] at i3
    rw [e1] at i1 i2
    have hp:0 < l.length:=by cases l with|nil=>exact absurd rfl h0|cons=>simp
    refine⟨i1,?_,by omega,by omega⟩
    unfold Utf.tidy
    simp;omega
def Gs (k:Int) (s:ByteArray) (c:Cl.C):Prop:=Cl.I64 c.n∧c.s.size≤100000∧∀ d,Cl.isK k d=true→Cl.I64 d.n→s=Cl.txt k d→c=d
def Tk (k:Int) (l:List Nat) (c:Cl.C) (n e:Nat):Prop:=Cl.I64 c.n∧c.s.size≤100000∧n≤l.length∧Cl.bare k l=if e≠0 then (Cl.empty,0,e) else if Cl.isK k c=true then (c,n,0) else (Cl.empty,0,4)
structure KF (k:Int) (a b g d t:FuncId):Prop where
 is:∀ (c:Cl.C) (w:World) (r:Bool),TA w→Cl.I64 c.n→c.s.size≤1000000→Cl.isK k c=r→Calls Tryz.prog a #[cv c] w fun e w'=>e=.returned (.bool r)∧Below w.heap.size w w'
 text:∀ (c:Cl.C) (w:World) (x:ByteArray),TA w→Cl.I64 c.n→Cl.isK k c=true→Cl.txt k c=x→Calls Tryz.prog b #[cv c] w fun e w'=>e=.returned (.string x)∧Below w.heap.size w w'
 guess:∀ (s:ByteArray) (w:World),TA w→s.size≤100000→Calls Tryz.prog g #[.string s] w fun e w'=>∃ c,e=.returned (cv c)∧Gs k s c∧Below w.heap.size w w'
 bits:∀ (c:Cl.C) (w:World) (x:ByteArray),TA w→Cl.I64 c.n→Cl.isK k c=true→str (Cl.body k c)=x→Calls Tryz.prog d #[cv c] w fun e w'=>e=.returned (.string x)∧Below w.heap.size w w'
 take:∀ (s:ByteArray) (w:World),TA w→s.size≤100000→Calls Tryz.prog t #[.string s] w fun e w'=>∃ c n e0,e=.returned (.tuple #[cv c,.int .i64 (n:Nat),.int .i64 (e0:Nat)])∧Tk k (bl s) c n e0∧Below w.heap.size w w'
theorem isK_at {k:Int} {c:Cl.C} (h:Cl.isK k c=true):c.u=false∧(k=1→bl c.s=[]∧(c.n=0 ∨ c.n=1))∧(k=2 ∨ k=3→bl c.s=[])∧(k=4→c.n=0∧c.s.size≤1024∧Utf.vld (bl c.s)=true)∧(k=5→c.n=0∧c.s.size≤1024):=by
 have hu:=Cl.isK_u h
 unfold Cl.isK at h
 refine⟨hu,?_,?_,?_,?_⟩
 ·rintro rfl;simp [hu] at h;exact h
 ·rintro (rfl|rfl)<;>simp [hu] at h
  ·exact h.1
  ·exact h
 ·rintro rfl;simp [hu] at h;exact⟨h.1.1,h.1.2,h.2⟩
 ·rintro rfl;simp [hu] at h;exact h
theorem txt_at {k:Int} {c:Cl.C} (hu:c.u=false):Cl.txt k c=if k=1 then (if c.n=1 then Cl.trueB else Cl.falseB) else if k=2 ∨ k=3 then itS c.n else if k=4 then str (Utf.tidy (bl c.s)) else str (120::Cl.hexs (bl c.s)):=by
 unfold Cl.txt;rw [hu];rfl
theorem escs_many:∀ l:List Nat,l.length≤(Utf.escs l).length
 | []=>Nat.le_refl _
 | c::l=>by
  have:=(Utf.escB_len c).1
  have:=escs_many l
  rw [Utf.escs_cons,List.length_append,List.length_cons];omega
theorem unq_small (l:List Nat) (hl:∀ x∈l,x < 256) (t:List Nat) (n:Nat) (h:Utf.unq l=(t,n,0)):t.length≤l.length:=by
 obtain⟨_,h2,h3⟩:=cunq_good l hl t n h
 have:=escs_many t
 have e:(Utf.tidy t).length=(Utf.escs t).length+2:=by simp [Utf.tidy]
 omega
theorem empty_size:(⟨#[]⟩:ByteArray).size≤100000:=by decide
theorem str_small (l:List Nat) (n:Nat) (h:l.length≤n) (hn:n≤100000):(str l).size≤100000:=by rw [str_size];omega
theorem kf1:KF 1 90 91 92 93 94 where
 is c w r T hi hm hr:=cIsBool c w r hr
 text c w x T hi hk hx:=cBoolText c w x (by rw [← hx,txt_at (isK_at hk).1];rfl)
 guess s w T hm:=(cGuessBool s w _ rfl).mono fun e w' ⟨h1,h2⟩=>⟨_,h1,⟨by simp only [Cl.I64];split<;>omega,empty_size,fun d hd hi hx=>by
  have hq:=isK_at hd
  have h3:=hq.2.1 rfl
  refine Cl.C.ext' hq.1.symm ?_ h3.1.symm
  rw [txt_at hq.1] at hx
  rcases h3.2 with h0|h0<;>rw [h0] at hx ⊢
  ·have hx:s=Cl.falseB:=hx
   have:s≠Cl.trueB:=fun e=>absurd (congrArg bl (e.symm.trans hx)) (by decide)
   exact if_neg this
  ·exact if_pos hx⟩,h2⟩
 bits c w x T hi hk hx:=cBoolBits c w x (by
  rw [← hx]
  rcases (isK_at hk).2.1 rfl with ⟨_,h0|h0⟩<;>simp only [Cl.body,h0]<;>rfl)
 take s w T hm:=by
  obtain⟨b,n,e0,hr⟩:∃ b n e0,ty (bl s)=(b,n,e0):=⟨_,_,_,rfl⟩
  refine (cTakeBool s w b n e0 hr).mono fun e w' ⟨h1,h2⟩=>⟨_,_,_,h1,⟨by simp only [Cl.I64];split<;>omega,empty_size,?_,?_⟩,h2⟩
  ·unfold ty at hr
   have:bl s≠[]→1≤(bl s).length:=fun h=>by cases hq:bl s with|nil=>exact absurd hq h|cons=>simp
   repeat' split at hr
   all_goals simp only [Prod.mk.injEq] at hr;obtain⟨_,rfl,_⟩:=hr;first|omega|(exact this (by assumption))|exact Nat.zero_le _
  ·unfold ty at hr
   unfold Cl.bare
   rw [if_pos rfl]
   by_cases h0:bl s=[]
   ·rw [if_pos h0] at hr ⊢
    simp only [Prod.mk.injEq] at hr;obtain⟨rfl,rfl,rfl⟩:=hr;rfl
   ·rw [if_neg h0] at hr ⊢
    by_cases g1:(bl s).getD 0 0=1
    ·rw [if_pos g1] at hr
     simp only [Prod.mk.injEq] at hr;obtain⟨rfl,rfl,rfl⟩:=hr
     rw [if_pos (by omega),g1];rfl
    ·rw [if_neg g1] at hr
     by_cases g2:(bl s).getD 0 0=0
     ·rw [if_pos g2] at hr
      simp only [Prod.mk.injEq] at hr;obtain⟨rfl,rfl,rfl⟩:=hr
      rw [if_pos (by omega),g2];rfl
     ·rw [if_neg g2] at hr
      simp only [Prod.mk.injEq] at hr;obtain⟨rfl,rfl,rfl⟩:=hr
      rw [if_neg (by omega)];rfl
theorem kf2:KF 2 95 96 97 98 99 where
 is c w r T hi hm hr:=cIs32 c w r hi hr
 text c w x T hi hk hx:=(cWholeText c w T.pow hi).mono fun e w' ⟨h1,h2⟩=>⟨by rw [h1,← hx,txt_at (isK_at hk).1];rfl,h2⟩
 guess s w T hm:=(cGuessWhole s w T.err (by omega)).mono fun e w' ⟨z,h1,h2,h3,h4⟩=>⟨_,h1,⟨h2,empty_size,fun d hd hi hx=>by
  have hq:=isK_at hd
  refine Cl.C.ext' hq.1.symm (h3 d.n hi ?_) (hq.2.2.1 (by decide)).symm
  rw [hx,txt_at hq.1];rfl⟩,h4⟩
 bits c w x T hi hk hx:=cWholeBits c w hi x (by rw [← hx];rfl)
 take s w T hm:=by
  by_cases h8:s.size < 8
  ·exact (cTakeWhole s w (by omega) _ _ _ (if_pos h8)).mono fun e w' ⟨h1,h2⟩=>⟨_,_,_,h1,⟨by simp [Cl.I64,Cl.empty],empty_size,by omega,by unfold Cl.bare;rw [if_neg (by decide),if_pos (by decide),if_pos (by rw [bl_length];exact h8)];rfl⟩,h2⟩
  ·have hn:=(num8_lt 8 ((bl s).take 8) (by rw [List.length_take,bl_length];omega) fun x hx=>bl_byte s x (List.mem_of_mem_take hx))
   exact (cTakeWhole s w (by omega) _ _ _ (if_neg h8)).mono fun e w' ⟨h1,h2⟩=>⟨_,_,_,h1,⟨by simp only [Cl.I64];omega,empty_size,by rw [bl_length];omega,by unfold Cl.bare;rw [if_neg (by decide),if_pos (by decide),if_neg (by rw [bl_length];exact h8)];rfl⟩,h2⟩
theorem kf3:KF 3 100 96 97 98 99 where
 is c w r T hi hm hr:=cIs64 c w r hr
 text c w x T hi hk hx:=(cWholeText c w T.pow hi).mono fun e w' ⟨h1,h2⟩=>⟨by rw [h1,← hx,txt_at (isK_at hk).1];rfl,h2⟩
 guess s w T hm:=(cGuessWhole s w T.err (by omega)).mono fun e w' ⟨z,h1,h2,h3,h4⟩=>⟨_,h1,⟨h2,empty_size,fun d hd hi hx=>by
  have hq:=isK_at hd
  refine Cl.C.ext' hq.1.symm (h3 d.n hi ?_) (hq.2.2.1 (by decide)).symm
  rw [hx,txt_at hq.1];rfl⟩,h4⟩
 bits c w x T hi hk hx:=cWholeBits c w hi x (by rw [← hx];rfl)
 take s w T hm:=by
  by_cases h8:s.size < 8
  ·exact (cTakeWhole s w (by omega) _ _ _ (if_pos h8)).mono fun e w' ⟨h1,h2⟩=>⟨_,_,_,h1,⟨by simp [Cl.I64,Cl.empty],empty_size,by omega,by unfold Cl.bare;rw [if_neg (by decide),if_pos (by decide),if_pos (by rw [bl_length];exact h8)];rfl⟩,h2⟩
  ·have hn:=(num8_lt 8 ((bl s).take 8) (by rw [List.length_take,bl_length];omega) fun x hx=>bl_byte s x (List.mem_of_mem_take hx))
   exact (cTakeWhole s w (by omega) _ _ _ (if_neg h8)).mono fun e w' ⟨h1,h2⟩=>⟨_,_,_,h1,⟨by simp only [Cl.I64];omega,empty_size,by rw [bl_length];omega,by unfold Cl.bare;rw [if_neg (by decide),if_pos (by decide),if_neg (by rw [bl_length];exact h8)];rfl⟩,h2⟩
theorem kf4:KF 4 101 102 103 104 105 where
 is c w r T hi hm hr:=cIsString c w T.tab hm r hr
 text c w x T hi hk hx:=by
  have hq:=(isK_at hk).2.2.2.1 rfl
  exact (cUtfText c w T.tab (by omega) hq.2.2).mono fun e w' ⟨h1,h2⟩=>⟨by rw [h1,← hx,txt_at (isK_at hk).1];rfl,h2⟩
 guess s w T hm:=by
  obtain⟨t,n0,e0,hu⟩:∃ t n0 e0,Utf.unq (bl s)=(t,n0,e0):=⟨_,_,_,rfl⟩
  refine (cGuessUtf s w T.tab (by omega) t n0 e0 hu).mono fun e w' ⟨h1,h2⟩=>⟨_,h1,⟨by simp [Cl.I64],?_,fun d hd hi hx=>?_⟩,h2⟩
  ·by_cases he:e0=0
   ·subst he
    have:=unq_small (bl s) (bl_byte s) t n0 hu
    rw [bl_length] at this
    exact str_small _ _ this (by omega)
   ·rw [(cunq_err (bl s) t n0 e0 hu he).1];exact empty_size
  ·have hq:=isK_at hd
   have h4:=hq.2.2.2.1 rfl
   rw [txt_at hq.1] at hx
   have h5:=Cl.tidy_unq d.s h4.2.2
   have hx:s=str (Utf.tidy (bl d.s)):=hx
   rw [← hx,hu] at h5
   simp only [Prod.mk.injEq] at h5
   refine Cl.C.ext' hq.1.symm h4.1.symm ?_
   show bl (str t)=_
   rw [h5.1,str_bl]
 bits c w x T hi hk hx:=cRunBits c w T.mx (by have:=(isK_at hk).2.2.2;simp at this;omega) x (by rw [← hx];rfl)
 take s w T hm:=by
  obtain⟨x,n,e0,hr⟩:∃ x n e0,Cl.run (bl s) [] 0=(x,n,e0):=⟨_,_,_,rfl⟩
  refine (cTakeRun s w hm x n e0 hr).mono fun e w' ⟨h1,h2⟩=>⟨_,_,_,h1,⟨by simp [Cl.I64],?_,?_,?_⟩,h2⟩
  ·by_cases he:e0=0
   ·subst he
    obtain⟨_,_,_,_,_,q⟩:=Cl.run_good _ (bl s) [] 0 x n (Nat.le_refl _) (by simp) hr
    exact str_small x _ q (by decide)
   ·rw [(Cl.run_err _ (bl s) [] 0 x n e0 (Nat.le_refl _) hr he).1];exact empty_size
  ·by_cases he:e0=0
   ·subst he
    obtain⟨s',t',_,q2,q3,_⟩:=Cl.run_good _ (bl s) [] 0 x n (Nat.le_refl _) (by simp) hr
    rw [q3,q2];simp
   ·rw [(Cl.run_err _ (bl s) [] 0 x n e0 (Nat.le_refl _) hr he).2.1];exact Nat.zero_le _
  ·unfold Cl.bare
   rw [if_neg (by decide),if_neg (by decide),hr]
theorem kf5:KF 5 106 107 108 104 105 where
 is c w r T hi hm hr:=cIsBytes c w r hr
 text c w x T hi hk hx:=by
  have hq:=(isK_at hk).2.2.2.2 rfl
  exact cBytesText c w (by omega) x (by rw [← hx,txt_at (isK_at hk).1];rfl)
 guess s w T hm:=by
  refine (cGuessBytes s w hm).mono fun e w' ⟨h1,h2⟩=>⟨_,h1,⟨by simp [Cl.I64],?_,fun d hd hi hx=>?_⟩,h2⟩
  ·have h3:=gx_len _ (bl (trimX s)) (Nat.le_refl _)
   have h4:=trimX_size s
   rw [bl_length] at h3
   exact str_small _ _ h3 (by omega)
  ·have hq:=isK_at hd
   rw [txt_at hq.1] at hx
   have hx:s=str (120::Cl.hexs (bl d.s)):=hx
   have hb:bl s=120::Cl.hexs (bl d.s):=by
    rw [hx,bl_str]
    intro y hy
    simp only [List.mem_cons] at hy
    rcases hy with rfl|hy
    ·omega
    ·exact Cl.hexs_byte (bl_byte d.s) y hy
   refine Cl.C.ext' hq.1.symm (hq.2.2.2.2 rfl).1.symm ?_
   show bl (str (gx (bl (trimX s))))=_
   rw [trimX_bl,if_pos (by rw [hb];simp),hb]
   simp only [List.drop_succ_cons,List.drop_zero]
   rw [gx_hexs _ (bl_byte d.s),str_bl]
 bits c w x T hi hk hx:=cRunBits c w T.mx (by have:=(isK_at hk).2.2.2;simp at this;omega) x (by rw [← hx];rfl)
 take s w T hm:=by
  obtain⟨x,n,e0,hr⟩:∃ x n e0,Cl.run (bl s) [] 0=(x,n,e0):=⟨_,_,_,rfl⟩
  refine (cTakeRun s w hm x n e0 hr).mono fun e w' ⟨h1,h2⟩=>⟨_,_,_,h1,⟨by simp [Cl.I64],?_,?_,?_⟩,h2⟩
  ·by_cases he:e0=0
   ·subst he
    obtain⟨_,_,_,_,_,q⟩:=Cl.run_good _ (bl s) [] 0 x n (Nat.le_refl _) (by simp) hr
    exact str_small x _ q (by decide)
   ·rw [(Cl.run_err _ (bl s) [] 0 x n e0 (Nat.le_refl _) hr he).1];exact empty_size
  ·by_cases he:e0=0
   ·subst he
    obtain⟨s',t',_,q2,q3,_⟩:=Cl.run_good _ (bl s) [] 0 x n (Nat.le_refl _) (by simp) hr
    rw [q3,q2];simp
   ·rw [(Cl.run_err _ (bl s) [] 0 x n e0 (Nat.le_refl _) hr he).2.1];exact Nat.zero_le _
  ·unfold Cl.bare
   rw [if_neg (by decide),if_neg (by decide),hr]
end Go.Proofs.YtenfjmdajlhfoabGreatDoor
