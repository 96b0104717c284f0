/- Texts. -/
import Derived.Lib.DecodeN
import Derived.Test.YtenfjmdajlhfoabGreatDoorChecked
import Derived.WalkKit
import Derived.WalkSpells
import Derived.WalkLawsBesides
import Derived.Lib.Hide
import Derived.Maps.AppendAt
import Derived.Deep.AppendLies
import Derived.Laws.AppendOwnNone
import Derived.Laws.BytesArg
import Derived.Deep.RegionLawGrows
set_option maxHeartbeats 4000000
namespace Go.Proofs.YtenfjmdajlhfoabGreatDoor.Utf
open Go.Lib
set_option linter.unusedVariables false
def isr (r:Nat):Prop:=r < 55296 ∨ (57344≤r∧r≤1114111)
instance (r:Nat):Decidable (isr r):=by unfold isr;infer_instance
def enc (r:Nat):List Nat :=
 if r < 128 then [r]
 else if r < 2048 then [192+r / 64,128+r % 64]
 else if r < 65536 then [224+r / 4096,128+r / 64 % 64,128+r % 64]
 else [240+r / 262144,128+r / 4096 % 64,128+r / 64 % 64,128+r % 64]
theorem enc_len (r:Nat):1≤(enc r).length∧(enc r).length≤4:=by
 unfold enc;repeat' split
 all_goals simp
theorem enc_byte (r:Nat) (h:isr r):∀ x∈enc r,x < 256:=by
 unfold isr at h
 intro x hx;unfold enc at hx;repeat' split at hx
 all_goals simp at hx
 all_goals omega
def encs (rs:List Nat):List Nat:=rs.flatMap enc
theorem encs_cons (r:Nat) (rs:List Nat):encs (r::rs)=enc r++encs rs:=by simp [encs]
def dec (l:List Nat):Nat × Nat:=decodeN l.length (l.getD 0 0) (l.getD 1 0) (l.getD 2 0) (l.getD 3 0)
def nw (l:List Nat):Nat:=if l=[] ∨ ((dec l).1=65533∧(dec l).2≤1) then 0 else (dec l).2
def nr (l:List Nat):Nat:=if nw l=0 then 0 else (dec l).1
set_option maxRecDepth 100000 in
theorem dec_enc (r:Nat) (t:List Nat) (h:isr r):dec (enc r++t)=(r,(enc r).length):=by
 unfold isr at h
 unfold enc dec decodeN
 by_cases h1:r < 128
 ·simp [h1]
 ·by_cases h2:r < 2048
  ·simp only [h1,h2,if_true,if_false,List.cons_append,List.nil_append,List.length_cons,List.getD_cons_zero,List.getD_cons_succ]
   rw [if_neg (by omega),if_pos (by omega),if_pos (by omega)]
   simp;omega
  ·by_cases h3:r < 65536
   ·simp only [h1,h2,h3,if_true,if_false,List.cons_append,List.nil_append,List.length_cons,List.getD_cons_zero,List.getD_cons_succ]
    rw [if_neg (by omega),if_neg (by omega),if_pos (by omega),if_pos (by omega)]
    simp;omega
   ·simp only [h1,h2,h3,if_false,List.cons_append,List.nil_append,List.length_cons,List.getD_cons_zero,List.getD_cons_succ]
    rw [if_neg (by omega),if_neg (by omega),if_neg (by omega),if_pos (by omega),if_pos (by omega)]
    simp;omega
theorem enc_ne (r:Nat) (t:List Nat):enc r++t≠[]:=by
 intro h
 have:=enc_len r
 have h2:=congrArg List.length h
 rw [List.length_append] at h2
 simp only [List.length_nil] at h2
 omega
theorem bad_len (r:Nat) (h:r=65533):(enc r).length=3:=by subst h;decide
theorem nw_enc (r:Nat) (t:List Nat) (h:isr r):nw (enc r++t)=(enc r).length:=by
 unfold nw
 rw [dec_enc r t h,if_neg]
 rintro (h1|⟨h1,h2⟩)
 ·exact enc_ne r t h1
 ·have:=bad_len r h1
  simp at h2
  omega
theorem nr_enc (r:Nat) (t:List Nat) (h:isr r):nr (enc r++t)=r:=by
 unfold nr
 have:=enc_len r
 rw [nw_enc r t h,if_neg (by omega),dec_enc r t h]
set_option maxRecDepth 100000 in
theorem dec_some (n a b c d:Nat) (ha:a < 256) (hb:b < 256) (hc:c < 256) (hd:d < 256) (hn:0 < n)
 (h:¬ ((decodeN n a b c d).1=65533∧(decodeN n a b c d).2≤1)) :
 isr (decodeN n a b c d).1∧(decodeN n a b c d).2≤n ∧
  ((decodeN n a b c d).2=1∧enc (decodeN n a b c d).1=[a] ∨ (decodeN n a b c d).2=2∧enc (decodeN n a b c d).1=[a,b] ∨
   (decodeN n a b c d).2=3∧enc (decodeN n a b c d).1=[a,b,c] ∨ (decodeN n a b c d).2=4∧enc (decodeN n a b c d).1=[a,b,c,d]):=by
 unfold decodeN at h ⊢
 by_cases h1:a < 128
 ·simp only [h1,if_true] at h ⊢
  refine⟨.inl (by omega),by omega,.inl ⟨by simp,?_⟩⟩
  simp [enc,h1]
 ·simp only [h1,if_false] at h ⊢
  by_cases h2:a / 32=6∧(1 < n∧b / 64=2)
  ·rw [if_pos h2] at h ⊢
   by_cases h3:a % 32 * 64+b % 64 ≥ 128
   ·rw [if_pos h3] at h ⊢
    refine⟨.inl (by simp only;omega),by simp only;omega,.inr (.inl ⟨rfl,?_⟩)⟩
    simp only [enc]
    rw [if_neg (by omega),if_pos (by omega)]
    simp;omega
   ·rw [if_neg h3] at h;exact absurd (by simp) h
  ·rw [if_neg h2] at h ⊢
   by_cases h4:a / 16=14∧(1 < n∧b / 64=2)∧(2 < n∧c / 64=2)
   ·rw [if_pos h4] at h ⊢
    by_cases h3:a % 16 * 4096+b % 64 * 64+c % 64 ≥ 2048∧(a % 16 * 4096+b % 64 * 64+c % 64 < 55296 ∨ (57344≤a % 16 * 4096+b % 64 * 64+c % 64∧a % 16 * 4096+b % 64 * 64+c % 64≤1114111))
    ·rw [if_pos h3] at h ⊢
     refine⟨by unfold isr;simp only;omega,by simp only;omega,.inr (.inr (.inl ⟨rfl,?_⟩))⟩
     simp only [enc]
     rw [if_neg (by omega),if_neg (by omega),if_pos (by omega)]
     simp;omega
    ·rw [if_neg h3] at h;exact absurd (by simp) h
   ·rw [if_neg h4] at h ⊢
    by_cases h5:a / 8=30∧(1 < n∧b / 64=2)∧(2 < n∧c / 64=2)∧(3 < n∧d / 64=2)
    ·rw [if_pos h5] at h ⊢
     by_cases h3:a % 8 * 262144+b % 64 * 4096+c % 64 * 64+d % 64 ≥ 65536∧(a % 8 * 262144+b % 64 * 4096+c % 64 * 64+d % 64 < 55296 ∨ (57344≤a % 8 * 262144+b % 64 * 4096+c % 64 * 64+d % 64∧a % 8 * 262144+b % 64 * 4096+c % 64 * 64+d % 64≤1114111))
     ·rw [if_pos h3] at h ⊢
      refine⟨by unfold isr;simp only;omega,by simp only;omega,.inr (.inr (.inr ⟨rfl,?_⟩))⟩
      simp only [enc]
      rw [if_neg (by omega),if_neg (by omega),if_neg (by omega)]
      simp;omega
     ·rw [if_neg h3] at h;exact absurd (by simp) h
    ·rw [if_neg h5] at h;exact absurd (by simp) h
theorem getD_byte {l:List Nat} (h:∀ x∈l,x < 256) (k:Nat):l.getD k 0 < 256:=by
 rcases Nat.lt_or_ge k l.length with hk|hk
 ·rw [List.getD_eq_getElem?_getD,List.getElem?_eq_getElem hk];exact h _ (List.getElem_mem _)
 ·rw [List.getD_eq_getElem?_getD,List.getElem?_eq_none hk];simp
theorem drop_byte {l:List Nat} (h:∀ x∈l,x < 256) (k:Nat):∀ x∈l.drop k,x < 256:=fun x hx=>h x (List.mem_of_mem_drop hx)
theorem take_byte {l:List Nat} (h:∀ x∈l,x < 256) (k:Nat):∀ x∈l.take k,x < 256:=fun x hx=>h x (List.mem_of_mem_take hx)
theorem nx_some (l:List Nat) (hl:∀ x∈l,x < 256) (h:nw l≠0):isr (nr l)∧l=enc (nr l)++l.drop (nw l)∧(enc (nr l)).length=nw l∧nw l≤l.length:=by
 have hnr:nr l=(dec l).1:=by unfold nr;rw [if_neg h]
 have h':¬ (l=[] ∨ ((dec l).1=65533∧(dec l).2≤1)):=by
  intro hc;unfold nw at h;rw [if_pos hc] at h;exact h rfl
 have hnw:nw l=(dec l).2:=by unfold nw;rw [if_neg h']
 rw [hnr,hnw]
 have hne:l≠[]:=fun e=>h' (.inl e)
 have hpos:0 < l.length:=by cases l with|nil=>exact absurd rfl hne|cons=>simp
 obtain⟨i1,i2,i3⟩:=dec_some l.length _ _ _ _ (getD_byte hl 0) (getD_byte hl 1) (getD_byte hl 2) (getD_byte hl 3) hpos (fun e=>h' (.inr e))
 change isr (dec l).1 at i1
 change (dec l).2≤l.length at i2
 change (dec l).2=1∧enc (dec l).1=_ ∨ (dec l).2=2∧enc (dec l).1=_ ∨ (dec l).2=3∧enc (dec l).1=_ ∨ (dec l).2=4∧enc (dec l).1=_ at i3
 refine⟨i1,?_,?_,i2⟩
 ·rcases i3 with ⟨e1,e2⟩|⟨e1,e2⟩|⟨e1,e2⟩|⟨e1,e2⟩
  all_goals
   rw [e1,e2]
   rw [e1] at i2
  ·match l,i2 with|a::t,_=>simp
  ·match l,i2 with|a::b::t,_=>simp
  ·match l,i2 with|a::b::c::t,_=>simp
  ·match l,i2 with|a::b::c::d::t,_=>simp
 ·rcases i3 with ⟨e1,e2⟩|⟨e1,e2⟩|⟨e1,e2⟩|⟨e1,e2⟩<;>rw [e1,e2]<;>rfl
theorem nx_none (l:List Nat) (h:nw l=0):nr l=0:=by unfold nr;rw [if_pos h]
def num (l:List Nat):Nat :=
 match l with
 | [a]=>a
 | [a,b]=>a % 32 * 64+b % 64
 | [a,b,c]=>a % 16 * 4096+b % 64 * 64+c % 64
 | [a,b,c,d]=>a % 8 * 262144+b % 64 * 4096+c % 64 * 64+d % 64
 | _=>0
theorem num_enc (r:Nat) (h:isr r):num (enc r)=r:=by
 unfold isr at h
 unfold enc;repeat' split
 all_goals simp [num]
 all_goals omega
theorem num_lt (l:List Nat) (hl:∀ x∈l,x < 256):num l < 2097152:=by
 unfold num
 split
 ·have:=hl _ (List.mem_cons_self ..);omega
 all_goals omega
theorem ref_test (l:List Nat) (hl:∀ x∈l,x < 256) (n:Nat) (h0:0 < n) (hn:n≤l.length):(isr (num (l.take n))∧enc (num (l.take n))=l.take n)↔nw l=n:=by
 constructor
 ·rintro ⟨h1,h2⟩
  have e:l=enc (num (l.take n))++l.drop n:=by rw [h2];exact (List.take_append_drop n l).symm
  have h3:=nw_enc _ (l.drop n) h1
  rw [← e,h2] at h3
  rw [h3];simp;omega
 ·intro h
  obtain⟨i1,i2,i3,i4⟩:=nx_some l hl (by omega)
  have e:l.take n=enc (nr l):=by
   conv=>lhs;rw [i2]
   rw [← h,← i3];simp
  rw [e,num_enc _ i1]
  exact⟨i1,rfl⟩
theorem ref_rune (l:List Nat) (hl:∀ x∈l,x < 256) (n:Nat) (h0:0 < n) (h:nw l=n):num (l.take n)=nr l:=by
 obtain⟨i1,i2,i3,i4⟩:=nx_some l hl (by omega)
 have e:l.take n=enc (nr l):=by
  conv=>lhs;rw [i2]
  rw [← h,← i3];simp
 rw [e,num_enc _ i1]
theorem nw_le4 (l:List Nat) (hl:∀ x∈l,x < 256):nw l≤4:=by
 rcases Nat.eq_zero_or_pos (nw l) with h|h
 ·omega
 ·obtain⟨i1,i2,i3,i4⟩:=nx_some l hl (by omega)
  have:=enc_len (nr l)
  omega
theorem nw_le (l:List Nat) (hl:∀ x∈l,x < 256):nw l≤l.length:=by
 rcases Nat.eq_zero_or_pos (nw l) with h|h
 ·omega
 ·exact (nx_some l hl (by omega)).2.2.2
def vldF:Nat→List Nat→Bool
 | 0,l=>l.isEmpty
 | f+1,l=>if l=[] then true else if nw l=0 then false else vldF f (l.drop (nw l))
def vld (l:List Nat):Bool:=vldF l.length l
theorem vldF_more:∀ (f g:Nat) (l:List Nat),l.length≤f→l.length≤g→vldF f l=vldF g l
 | 0,0,l,_,_=>rfl
 | 0,g+1,l,hf,_=>by
  obtain rfl:l=[]:=List.eq_nil_of_length_eq_zero (by omega)
  simp [vldF]
 | f+1,0,l,_,hg=>by
  obtain rfl:l=[]:=List.eq_nil_of_length_eq_zero (by omega)
  simp [vldF]
 | f+1,g+1,l,hf,hg=>by
  unfold vldF
  by_cases h0:l=[]
  ·simp [h0]
  ·by_cases h1:nw l=0
   ·simp [h0,h1]
   ·simp only [h0,h1,if_false]
    have:0 < l.length:=by cases l with|nil=>exact absurd rfl h0|cons=>simp
    exact vldF_more f g _ (by simp;omega) (by simp;omega)
theorem vld_nil:vld []=true:=rfl
theorem vld_step (l:List Nat) (h:l≠[]):vld l=if nw l=0 then false else vld (l.drop (nw l)):=by
 have hp:0 < l.length:=by cases l with|nil=>exact absurd rfl h|cons=>simp
 unfold vld
 rw [vldF_more l.length (l.length - 1+1) l (Nat.le_refl _) (by omega)]
 conv=>lhs;unfold vldF
 rw [if_neg h]
 by_cases h1:nw l=0
 ·simp [h1]
 ·simp only [h1,if_false]
  exact vldF_more _ _ _ (by simp;omega) (Nat.le_refl _)
theorem vld_runes:∀ (n:Nat) (l:List Nat),l.length≤n→(∀ x∈l,x < 256)→vld l=true→∃ rs,(∀ r∈rs,isr r)∧l=encs rs
 | 0,l,hn,_,_=>⟨[],by simp,by obtain rfl:l=[]:=List.eq_nil_of_length_eq_zero (by omega);rfl⟩
 | n+1,l,hn,hl,h=>by
  by_cases h0:l=[]
  ·exact⟨[],by simp,by rw [h0];rfl⟩
  ·rw [vld_step l h0] at h
   by_cases h1:nw l=0
   ·simp [h1] at h
   ·rw [if_neg h1] at h
    obtain⟨i1,i2,i3,i4⟩:=nx_some l hl h1
    obtain⟨rs,j1,j2⟩:=vld_runes n (l.drop (nw l)) (by simp;omega) (drop_byte hl _) h
    refine⟨nr l::rs,?_,?_⟩
    ·intro r hr
     rcases List.mem_cons.1 hr with rfl|hr
     ·exact i1
     ·exact j1 r hr
    ·rw [encs_cons,← j2];exact i2
end Go.Proofs.YtenfjmdajlhfoabGreatDoor.Utf
namespace Go.Proofs.YtenfjmdajlhfoabGreatDoor
theorem hZ {p:Prop} (h:p):RowKit.Hid p:=h
theorem zA {α β:Type _} {f:α→β} {l:List α}:l.toArray.map f = (l.map f).toArray:=List.map_toArray
theorem zB {α β:Type _} {f:α→β} {a:α} {l:List α}:List.map f (a::l) = f a::List.map f l:=rfl
theorem zC {α β:Type _} {f:α→β}:List.map f [] = []:=rfl
theorem zD {α:Type _} {a:α} {l:List α} {i:Nat}:(a::l)[i+1]? = l[i]?:=rfl
theorem zE {α:Type _} {a:α} {l:List α}:(a::l)[0]? = some a:=rfl
open Go.RowKit
set_option linter.unusedVariables false
set_option maxRecDepth 100000
theorem add_plain (b off k:Nat):(⟨b,off,none⟩:Addr).add k=⟨b,off+k,none⟩:=by unfold Addr.add;split<;>simp_all
def vals (l:List Nat):List Value:=l.map fun (x:Nat)=>Value.int .u8 (x:Int)
theorem vals_length (l:List Nat):(vals l).length=l.length:=by simp [vals]
theorem vals_append (l r:List Nat):vals (l++r)=vals l++vals r:=by simp [vals]
theorem vals_get {l:List Nat} {j:Nat} {u:Value} (h:(vals l)[j]?=some u):j < l.length∧u=.int .u8 (l.getD j 0:Nat):=by
 have hj:j < l.length:=by
  rcases Nat.lt_or_ge j l.length with h' | h'
  ·exact h'
  ·rw [List.getElem?_eq_none (by rw [vals_length];exact h')] at h;cases h
 refine⟨hj,?_⟩
 simp [vals,List.getElem?_eq_getElem hj] at h
 simp [List.getElem?_eq_getElem hj,h]
theorem vals_one (l:List Nat):∀ u∈vals l,u.oneCell'=true:=by
 intro u hu
 obtain⟨x,_,rfl⟩:=List.mem_map.1 hu
 rfl
def Rd (w:World) (B:Nat) (v:Value) (l:List Nat):Prop :=
 ∃ a c,v=.slice a l.length c∧l.length≤c∧c≤maxLen∧(a=none→c=0)∧(∀ x∈l,x < 256) ∧
  (0 < l.length→∃ b off,a=some ⟨b,off,none⟩∧b < B∧∀ k,k < l.length→w.cell? ⟨b,off+k,none⟩=some (.int .u8 (l.getD k 0:Nat)))
def Own (w:World) (base:Nat) (v:Value) (l:List Nat):Prop:=w.ownsRow base 5 1 v l.length (vals l)∧∀ x∈l,x < 256
theorem Rd.bytes {w:World} {B:Nat} {v:Value} {l:List Nat} (h:Rd w B v l):∀ x∈l,x < 256:=by
 obtain⟨_,_,_,_,_,_,hb,_⟩:=h;exact hb
theorem Rd.len {w:World} {B:Nat} {v:Value} {l:List Nat} (h:Rd w B v l):l.length≤maxLen:=by
 obtain⟨_,c,_,h1,h2,_⟩:=h;omega
theorem Rd.below {w w':World} {B B':Nat} {v:Value} {l:List Nat} (h:Rd w B v l) (hb:Below B' w w') (hB:B≤B'):Rd w' B v l:=by
 obtain⟨a,c,rfl,h1,h2,h3,h4,h5⟩:=h
 refine⟨a,c,rfl,h1,h2,h3,h4,fun hp=>?_⟩
 obtain⟨b,off,rfl,hlt,hc⟩:=h5 hp
 exact⟨b,off,rfl,hlt,fun k hk=>(hb.cell (p:=⟨b,off+k,none⟩) (by simp;omega)).trans (hc k hk)⟩
theorem Rd.more {w:World} {B B':Nat} {v:Value} {l:List Nat} (h:Rd w B v l) (hB:B≤B'):Rd w B' v l:=by
 obtain⟨a,c,rfl,h1,h2,h3,h4,h5⟩:=h
 refine⟨a,c,rfl,h1,h2,h3,h4,fun hp=>?_⟩
 obtain⟨b,off,rfl,hlt,hc⟩:=h5 hp
 exact⟨b,off,rfl,by omega,hc⟩
theorem Rd.nil (w:World) (B:Nat):Rd w B (.slice none 0 0) []:=⟨none,0,rfl,by simp,by simp,fun _=>rfl,by simp,by simp⟩
theorem Rd.later {w w':World} {B:Nat} {v:Value} {l:List Nat} (h:Rd w B v l) (hB:B≤w.heap.size) (hb:Below w.heap.size w w'):Rd w' w'.heap.size v l :=
 (h.below hb hB).more (Nat.le_trans hB hb.size)
theorem Own.rd {w:World} {base:Nat} {v:Value} {l:List Nat} (h:Own w base v l):Rd w w.heap.size v l:=by
 obtain⟨⟨h0,h1⟩,hb⟩:=h
 rcases h1 with ⟨rfl,hn⟩|⟨g,cap,cur,rfl,hg,hh,h2,h3,h4,h5⟩
 ·obtain rfl:l=[]:=List.eq_nil_of_length_eq_zero hn
  exact Rd.nil _ _
 ·refine⟨_,cap,rfl,h2,h3,by simp,hb,fun hp=>⟨g,0,rfl,?_,fun k hk=>?_⟩⟩
  ·rcases Nat.lt_or_ge g w.heap.size with hlt|hge
   ·exact hlt
   ·rw [Array.getElem?_eq_none hge] at hh;cases hh
  ·have hc:=World.ownsRow.cells (w:=w) (base:=base) (e:=5) (size:=1) (v:=.slice (some ⟨g,0,none⟩) l.length cap) (n:=l.length) (xs:=vals l)
    ⟨h0,.inr ⟨g,cap,cur,rfl,hg,hh,h2,h3,h4,h5⟩⟩ (g:=g) rfl k (.int .u8 (l.getD k 0:Nat)) (by simp [vals,List.getElem?_eq_getElem hk])
   rw [add_plain] at hc
   exact hc
theorem Own.later {w w':World} {base:Nat} {v:Value} {l:List Nat} (h:Own w base v l) (hb:Below w.heap.size w w'):Own w' base v l:=by
 obtain⟨⟨h0,h1⟩,hbt⟩:=h
 refine⟨⟨h0,?_⟩,hbt⟩
 rcases h1 with h1|⟨g,cap,cur,rfl,hg,hh,r⟩
 ·exact .inl h1
 ·have hlt:g < w.heap.size:=by
   rcases Nat.lt_or_ge g w.heap.size with hlt|hge
   ·exact hlt
   ·rw [Array.getElem?_eq_none hge] at hh;cases hh
  exact .inr ⟨g,cap,cur,rfl,hg,(hb.block g hlt).trans hh,r⟩
theorem Own.nil (w:World) (base:Nat):Own w base (.slice none 0 0) []:=⟨World.ownsRow_nil w base _ 1,by simp⟩
theorem Own.lower {w:World} {base base':Nat} {v:Value} {l:List Nat} (h:Own w base v l) (hB:base'≤base):Own w base' v l:=by
 obtain⟨⟨h0,h1⟩,hbt⟩:=h
 refine⟨⟨h0,?_⟩,hbt⟩
 rcases h1 with h1|⟨g,cap,cur,rfl,hg,r⟩
 ·exact .inl h1
 ·exact .inr ⟨g,cap,cur,rfl,by omega,r⟩
theorem byte_info:(Tryz.prog.info? 5).map (fun i=>(i.zero,i.size,i.bytes))=some (some (.int .u8 0),1,1):=by kernel_rfl
theorem byte_parts:∃ i,Tryz.prog.info? 5=some i∧i.zero=some (.int .u8 0)∧i.size=1∧i.bytes=1:=by
 have h:=byte_info
 cases hi:Tryz.prog.info? 5 with
 | none=>rw [hi] at h;cases h
 | some i =>
  rw [hi] at h
  simp at h
  exact⟨i,rfl,h.1,h.2.1,h.2.2⟩
theorem run_app (w:World) (ty:TypeId) (base:Nat) (v:Value) (l:List Nat) (hown:Own w base v l) (u:Value) (r:List Nat) (hr:Rd w w.heap.size u r)
 (hlen:l.length+r.length≤1000000000) (hbase:base≤w.heap.size) :
 ∃ v' w',(Builtin.append_ #[107,107] ty #[v,u]).run Tryz.prog w=.ok v' w'∧Own w' base v' (l++r)∧Below base w w':=by
 obtain⟨i,hi,hz,hs,hby⟩:=byte_parts
 have hbt:∀ x∈l++r,x < 256:=fun x hx=>(List.mem_append.1 hx).elim (hown.2 x) (hr.bytes x)
 obtain⟨a,c,rfl,hlc,hc,hnil,_,hcell⟩:=hr
 cases a with
 | none =>
  have hc0:=hnil rfl
  subst hc0
  have hr0:r=[]:=List.eq_nil_of_length_eq_zero (by omega)
  subst hr0
  refine⟨v,w,run_append_owned_none w base 107 ty 5 i 1 Tryz.underlying107 hi v l.length (vals l) hown.1,?_,Below.refl _ _⟩
  rw [List.append_nil];exact hown
 | some ad =>
  have hnews:∀ j q,(vals r)[j]?=some q→w.cell? (ad.add j)=some q:=by
   intro j q hq
   obtain⟨hj,rfl⟩:=vals_get hq
   obtain⟨b,off,e,_,hcc⟩:=hcell (by omega)
   injection e with e
   subst e
   rw [add_plain]
   exact hcc j hj
  obtain⟨v',w',hrun,h2,h3,_,h5⟩:=run_append_own_at (P:=Tryz.prog) w base 107 ty 5 i _ 1 1 Tryz.underlying107 hi hz hs hby rfl (by omega) v l.length (vals l) hown.1 ad r.length c (vals r)
   (by rw [vals_length];omega) hnews (vals_one r) (by simp only [maxLen];omega) (by omega) hbase
  refine⟨v',w',hrun,⟨?_,hbt⟩,?_⟩
  ·rw [List.length_append,vals_append];exact h2
  ·exact (Below.refl _ _).grown h3 hbase (fun k hk=>(hown.1.lt k hk).1)
theorem wpList_app {w:World} {ops:Array Oper} {rest:List Oper} {o:Oper} {a:Act} {Q:Exit→Act→World→Prop} (hgd:o.guard=none) (s x:Operand)
 (ho:o.op=.call { callee:=.builtin .append,args:=#[s,x],argTypes:=#[107,107] })
 (base:Nat) (v:Value) (l:List Nat) (hs:a.eval s=v) (hown:Own w base v l) (u:Value) (r:List Nat) (hx:a.eval x=u) (hr:Rd w w.heap.size u r)
 (hlen:l.length+r.length≤1000000000) (hbase:base≤w.heap.size)
 (h:∀ v' w',Own w' base v' (l++r)→Below base w w'→wpList Tryz.prog ops Q rest (a.put o.dst v') w'):wpList Tryz.prog ops Q (o::rest) a w:=by
 refine wpList_plain hgd fun K hK=>?_
 obtain⟨v',w',hrun,h2,h3⟩:=run_app w o.type base v l hown u r hr hlen hbase
 unfold Oper.wp execOp
 simp only [ho,resolve,invoke,builtin,Sem.run_bind,Sem.run_pure,Result.andThen_ok,zA,zB,zC,hs,hx,hrun]
 exact hK _ _ (h v' w' h2 h3)
def str (l:List Nat):ByteArray:=strOfNums (l.map fun (x:Nat)=>(x:Int))
theorem run_str (w:World) (B:Nat) (v:Value) (l:List Nat) (h:Rd w B v l):(convert 107 9 v).run Tryz.prog w=.ok (.string (str l)) w:=by
 obtain⟨a,c,rfl,_,_,hnil,_,hcell⟩:=h
 have h0e:str []=ByteArray.empty:=by decide +kernel
 rcases Nat.eq_zero_or_pos l.length with h0|h0
 ·obtain rfl:l=[]:=List.eq_nil_of_length_eq_zero h0
  rw [h0e]
  cases a with
  | none=>exact run_convert_bytes_nil w 107 5 Tryz.underlying107 Tryz.underlying5 0 c 9 Tryz.underlying9
  | some ad =>
   rw [run_convert_bytes_string w 107 9 5 _ _ _ Tryz.underlying107 Tryz.underlying5 Tryz.underlying9]
   refine (run_bytesToString w ad 0 c [] ?_).trans rfl
   exact run_loadCells_list w ad [] (by simp)
 ·obtain⟨b,off,rfl,_,hc⟩:=hcell h0
  refine run_convert_bytes_arg w 107 5 Tryz.underlying107 Tryz.underlying5 b off l.length c (l.map fun (x:Nat)=>(x:Int)) (by simp) (fun i hi=>?_) 9 Tryz.underlying9
  rw [hc i hi]
  simp [List.getElem?_eq_getElem hi]
end Go.Proofs.YtenfjmdajlhfoabGreatDoor
namespace Go.Proofs.YtenfjmdajlhfoabGreatDoor.Utf
set_option linter.unusedVariables false
def hex (d:Nat):Nat:=if d < 10 then 48+d else 87+d
def hexC (d:Nat):Nat:=if d < 10 then 48+d else 55+d
def escB (c:Nat):List Nat :=
 if c=34 then [92,34] else if c=92 then [92,92] else if c=8 then [92,98] else if c=12 then [92,102] else if c=10 then [92,110] else if c=13 then [92,114] else if c=9 then [92,116]
 else if c < 32 then [92,117,48,48,hex (c / 16),hex (c % 16)] else [c]
def escs (l:List Nat):List Nat:=l.flatMap escB
def tidy (l:List Nat):List Nat:=34::(escs l++[34])
theorem escs_append (a b:List Nat):escs (a++b)=escs a++escs b:=by simp [escs]
theorem escs_cons (a:Nat) (b:List Nat):escs (a::b)=escB a++escs b:=by simp [escs]
theorem escB_high (c:Nat) (h:128≤c):escB c=[c]:=by
 unfold escB
 rw [if_neg (by omega),if_neg (by omega),if_neg (by omega),if_neg (by omega),if_neg (by omega),if_neg (by omega),if_neg (by omega),if_neg (by omega)]
theorem enc_low (r:Nat) (h:r < 128):enc r=[r]:=by simp [enc,h]
theorem enc_high (r:Nat) (h:128≤r):∀ x∈enc r,128≤x:=by
 intro x hx;unfold enc at hx
 rw [if_neg (by omega)] at hx
 repeat' split at hx
 all_goals simp at hx
 all_goals omega
theorem escs_high:∀ (l:List Nat),(∀ x∈l,128≤x)→escs l=l
 | [],_=>rfl
 | a::l,h=>by
  rw [escs_cons,escB_high a (h a (List.mem_cons_self ..)),escs_high l fun x hx=>h x (List.mem_cons_of_mem _ hx)]
  rfl
def escR (r:Nat):List Nat:=if r < 128 then escB r else enc r
theorem escs_enc (r:Nat):escs (enc r)=escR r:=by
 unfold escR
 by_cases h:r < 128
 ·rw [if_pos h,enc_low r h];simp [escs]
 ·rw [if_neg h,escs_high _ (enc_high r (by omega))]
theorem escB_byte (c:Nat) (h:c < 256):∀ x∈escB c,x < 256:=by
 intro x hx;unfold escB hex at hx
 repeat' split at hx
 all_goals simp at hx
 all_goals omega
theorem escs_byte (l:List Nat) (h:∀ x∈l,x < 256):∀ x∈escs l,x < 256:=by
 intro x hx
 obtain⟨c,hc,hx⟩:=List.mem_flatMap.1 hx
 exact escB_byte c (h c hc) x hx
theorem tidy_byte (l:List Nat) (h:∀ x∈l,x < 256):∀ x∈tidy l,x < 256:=by
 intro x hx
 rcases List.mem_cons.1 hx with rfl|hx
 ·omega
 ·rcases List.mem_append.1 hx with hx|hx
  ·exact escs_byte l h x hx
  ·simp at hx;omega
def said (c:Nat):Nat:=if c=34 then 34 else if c=92 then 92 else if c=47 then 47 else if c=98 then 8 else if c=102 then 12 else if c=110 then 10 else if c=114 then 13 else if c=116 then 9 else 0
def dig (c:Nat):Nat:=if 48≤c∧c≤57 then c - 48 else if 97≤c∧c≤102 then c - 87 else if 65≤c∧c≤70 then c - 55 else 16
def bad (second:Bool) (k n:Nat):Bool:=(k == 0 && second && n != 13) || (k == 1 && second != (decide (220≤n) && decide (n≤223)))
def hxF (second:Bool):Nat→Nat→Nat→List Nat→Nat × Nat
 | 0,_,n,_=>(n,0)
 | m+1,k,n,l=>match l with
  | []=>(0,3)
  | c::t=>if dig c=16 then (0,41) else if bad second k (16 * n+dig c) then (0,41) else hxF second m (k+1) (16 * n+dig c) t
def hx (second:Bool) (l:List Nat):Nat × Nat:=hxF second 4 0 0 l
def pre (l:List Nat):Nat:=if l.length=0 then 3 else if l.getD 0 0≠92 then 41 else if l.length=1 then 3 else if l.getD 1 0≠117 then 41 else 0
def esc (l:List Nat):Nat × Nat × Nat :=
 if l.length < 2 then (0,0,3)
 else if l.getD 1 0=117 then
  (if (hx false (l.drop 2)).2≠0 then (0,0,(hx false (l.drop 2)).2)
   else if (hx false (l.drop 2)).1 < 55296 ∨ 56319 < (hx false (l.drop 2)).1 then ((hx false (l.drop 2)).1,6,0)
   else if pre (l.drop 6)≠0 then (0,0,pre (l.drop 6))
   else if (hx true (l.drop 8)).2≠0 then (0,0,(hx true (l.drop 8)).2)
   else (65536+1024 * ((hx false (l.drop 2)).1 - 55296)+((hx true (l.drop 8)).1 - 56320),12,0))
 else if said (l.getD 1 0)=0 then (0,0,41) else (said (l.getD 1 0),2,0)
def full (l:List Nat):Bool :=
 let b0:=l.getD 0 0
 let x:=Go.Lib.firstT b0
 if l.length=0 then false
 else if x % 8≤l.length then true
 else if 1 < l.length∧(l.getD 1 0 < Go.Lib.accLo (x / 16) ∨ Go.Lib.accHi (x / 16) < l.getD 1 0) then true
 else if 2 < l.length∧(l.getD 2 0 < 128 ∨ 191 < l.getD 2 0) then true
 else false
def part (l:List Nat):Nat × Nat × Nat :=
 if l.getD 0 0=92 then esc l
 else if nw l≠0 then (if nr l < 32 then (0,0,41) else (nr l,nw l,0))
 else if full l then (0,0,40) else (0,0,3)
def ubF:Nat→List Nat→List Nat × Nat × Nat
 | 0,_=>([],0,3)
 | f+1,l =>
  if l=[] then ([],0,3)
  else if l.getD 0 0=34 then ([],1,0)
  else if (part l).2.2≠0 then ([],0,(part l).2.2)
  else if (ubF f (l.drop (part l).2.1)).2.2≠0 then ([],0,(ubF f (l.drop (part l).2.1)).2.2)
  else (enc (part l).1++(ubF f (l.drop (part l).2.1)).1,(part l).2.1+(ubF f (l.drop (part l).2.1)).2.1,0)
def ub (l:List Nat):List Nat × Nat × Nat:=ubF l.length l
def unq (l:List Nat):List Nat × Nat × Nat :=
 if l=[] then ([],0,3)
 else if l.getD 0 0≠34 then ([],0,41)
 else if (ub (l.drop 1)).2.2≠0 then ([],0,(ub (l.drop 1)).2.2)
 else ((ub (l.drop 1)).1,(ub (l.drop 1)).2.1+1,0)
theorem dig_lt (c:Nat) (h:dig c≠16):dig c < 16:=by
 unfold dig at h ⊢
 by_cases h1:48≤c∧c≤57
 ·rw [if_pos h1];omega
 ·by_cases h2:97≤c∧c≤102
  ·rw [if_neg h1,if_pos h2];omega
  ·by_cases h3:65≤c∧c≤70
   ·rw [if_neg h1,if_neg h2,if_pos h3];omega
   ·rw [if_neg h1,if_neg h2,if_neg h3] at h;exact absurd rfl h
theorem hxF_good (second:Bool):∀ (m k n:Nat) (l:List Nat),(hxF second m k n l).2=0→m≤l.length∧n * 16 ^ m≤(hxF second m k n l).1∧(hxF second m k n l).1 < (n+1) * 16 ^ m
 | 0,k,n,l,_=>by simp [hxF]
 | m+1,k,n,[],h=>by simp [hxF] at h
 | m+1,k,n,c::t,h=>by
  unfold hxF at h ⊢
  by_cases h1:dig c=16
  ·simp [h1] at h
  ·by_cases h2:bad second k (16 * n+dig c)=true
   ·simp [h1,h2] at h
   ·simp only [h1,h2,if_false] at h ⊢
    obtain⟨i1,i2,i3⟩:=hxF_good second m (k+1) (16 * n+dig c) t h
    have hd:=dig_lt c h1
    refine⟨by simp;omega,?_,?_⟩
    ·refine Nat.le_trans ?_ i2
     rw [Nat.pow_succ,← Nat.mul_assoc,Nat.mul_right_comm]
     exact Nat.mul_le_mul_right _ (by omega)
    ·refine Nat.lt_of_lt_of_le i3 ?_
     rw [Nat.pow_succ,← Nat.mul_assoc,Nat.mul_right_comm]
     exact Nat.mul_le_mul_right _ (by omega)
theorem hx_len (second:Bool) (l:List Nat) (h:(hx second l).2=0):4≤l.length∧(hx second l).1 < 65536:=by
 obtain⟨h1,_,h3⟩:=hxF_good second 4 0 0 l h
 exact⟨h1,by unfold hx;omega⟩
theorem hx_two (second:Bool) (l:List Nat) (h:(hx second l).2=0):∃ n,bad second 1 n=false∧n * 256≤(hx second l).1∧(hx second l).1 < (n+1) * 256:=by
 obtain⟨h1,_⟩:=hx_len second l h
 match l,h1 with
 | a::b::t,_ =>
  unfold hx at h ⊢
  rw [hxF] at h ⊢
  by_cases c1:dig a=16
  ·rw [if_pos c1] at h;simp at h
  ·by_cases c2:bad second 0 (16 * 0+dig a)=true
   ·rw [if_neg c1,if_pos c2] at h;simp at h
   ·simp only [c1,c2,if_false] at h ⊢
    rw [hxF] at h ⊢
    by_cases c3:dig b=16
    ·simp [c3] at h
    ·by_cases c4:bad second (0+1) (16 * (16 * 0+dig a)+dig b)=true
     ·rw [if_neg (by simp),if_neg c3,if_pos c4] at h;simp at h
     ·simp only [c3,c4,if_false] at h ⊢
      obtain⟨_,i2,i3⟩:=hxF_good second 2 _ _ t h
      exact⟨_,by simpa using c4,by simpa using i2,by simpa using i3⟩
theorem hx_first (l:List Nat) (h:(hx false l).2=0):¬ (56320≤(hx false l).1∧(hx false l).1≤57343):=by
 obtain⟨n,h1,h2,h3⟩:=hx_two false l h
 simp [bad] at h1
 omega
theorem hx_second (l:List Nat) (h:(hx true l).2=0):56320≤(hx true l).1∧(hx true l).1≤57343:=by
 obtain⟨n,h1,h2,h3⟩:=hx_two true l h
 simp [bad] at h1
 omega
theorem pre_good (l:List Nat) (h:pre l=0):2≤l.length:=by
 unfold pre at h
 repeat' split at h
 all_goals omega
theorem escB_len (c:Nat):1≤(escB c).length∧(escB c).length≤6:=by
 unfold escB;repeat' split
 all_goals simp
theorem escR_len (r:Nat):1≤(escR r).length∧(escR r).length≤6:=by
 unfold escR
 have:=escB_len r
 have:=enc_len r
 split<;>omega
theorem said_rune (c:Nat) (h:said c≠0):said c < 128∧(escB (said c)).length≤2:=by
 unfold said at h ⊢
 repeat' split
 all_goals first|(exact⟨by omega,by decide⟩)|skip
 simp_all
theorem part_good (l:List Nat) (hl:∀ x∈l,x < 256) (h0:l.getD 0 0≠34) (h:(part l).2.2=0) :
 isr (part l).1∧0 < (part l).2.1∧(part l).2.1≤l.length∧(escR (part l).1).length≤(part l).2.1:=by
 unfold part at h ⊢
 by_cases h1:l.getD 0 0=92
 ·rw [if_pos h1] at h ⊢
  unfold esc at h ⊢
  by_cases c1:l.length < 2
  ·simp [c1] at h
  ·rw [if_neg c1] at h ⊢
   by_cases c2:l.getD 1 0=117
   ·rw [if_pos c2] at h ⊢
    by_cases c3:(hx false (l.drop 2)).2≠0
    ·rw [if_pos c3] at h;exact absurd h c3
    ·rw [if_neg c3] at h ⊢
     have k1:=hx_len false _ (by omega:(hx false (l.drop 2)).2=0)
     have k2:=hx_first _ (by omega:(hx false (l.drop 2)).2=0)
     rw [List.length_drop] at k1
     by_cases c4:(hx false (l.drop 2)).1 < 55296 ∨ 56319 < (hx false (l.drop 2)).1
     ·rw [if_pos c4]
      exact⟨by unfold isr;simp only;omega,by simp,by simp only;omega,(escR_len _).2⟩
     ·rw [if_neg c4] at h ⊢
      by_cases c5:pre (l.drop 6)≠0
      ·rw [if_pos c5] at h;exact absurd h c5
      ·rw [if_neg c5] at h ⊢
       by_cases c6:(hx true (l.drop 8)).2≠0
       ·rw [if_pos c6] at h;exact absurd h c6
       ·rw [if_neg c6]
        have k3:=hx_len true _ (by omega:(hx true (l.drop 8)).2=0)
        have k4:=hx_second _ (by omega:(hx true (l.drop 8)).2=0)
        rw [List.length_drop] at k3
        refine⟨by unfold isr;simp only;omega,by simp,by simp only;omega,?_⟩
        have:=(escR_len (65536+1024 * ((hx false (l.drop 2)).1 - 55296)+((hx true (l.drop 8)).1 - 56320))).2
        simp only;omega
   ·rw [if_neg c2] at h ⊢
    by_cases c3:said (l.getD 1 0)=0
    ·rw [if_pos c3] at h;simp at h
    ·rw [if_neg c3]
     obtain⟨k1,k2⟩:=said_rune _ c3
     refine⟨.inl (by simp only;omega),by simp,by simp only;omega,?_⟩
     simp only [escR]
     rw [if_pos k1];exact k2
 ·rw [if_neg h1] at h ⊢
  by_cases c1:nw l≠0
  ·rw [if_pos c1] at h ⊢
   obtain⟨i1,i2,i3,i4⟩:=nx_some l hl c1
   by_cases c2:nr l < 32
   ·simp [c2] at h
   ·rw [if_neg c2]
    refine⟨i1,by simp only;omega,i4,?_⟩
    simp only [escR]
    by_cases c3:nr l < 128
    ·rw [enc_low _ c3] at i2
     have e:l.getD 0 0=nr l:=by
      conv=>lhs;rw [i2]
      rfl
     rw [if_pos c3]
     have:escB (nr l)=[nr l]:=by
      unfold escB
      rw [if_neg (by omega),if_neg (by omega),if_neg (by omega),if_neg (by omega),if_neg (by omega),if_neg (by omega),if_neg (by omega),if_neg (by omega)]
     rw [this];simp;omega
    ·rw [if_neg c3,i3];exact Nat.le_refl _
  ·rw [if_neg c1] at h
   by_cases c2:full l=true
   ·simp [c2] at h
   ·simp [c2] at h
theorem ubF_more:∀ (f g:Nat) (l:List Nat),(∀ x∈l,x < 256)→l.length≤f→l.length≤g→ubF f l=ubF g l
 | 0,0,l,_,_,_=>rfl
 | 0,g+1,l,_,hf,_=>by
  obtain rfl:l=[]:=List.eq_nil_of_length_eq_zero (by omega)
  simp [ubF]
 | f+1,0,l,_,_,hg=>by
  obtain rfl:l=[]:=List.eq_nil_of_length_eq_zero (by omega)
  simp [ubF]
 | f+1,g+1,l,hl,hf,hg=>by
  unfold ubF
  by_cases h0:l=[]
  ·simp [h0]
  ·by_cases h1:l.getD 0 0=34
   ·rw [if_neg h0,if_neg h0,if_pos h1,if_pos h1]
   ·by_cases h2:(part l).2.2≠0
    ·rw [if_neg h0,if_neg h0,if_neg h1,if_neg h1,if_pos h2,if_pos h2]
    ·obtain⟨_,p1,p2,_⟩:=part_good l hl h1 (by omega)
     simp only [h0,h1,h2,if_false]
     rw [ubF_more f g (l.drop (part l).2.1) (drop_byte hl _) (by simp;omega) (by simp;omega)]
theorem ub_nil:ub []=([],0,3):=rfl
theorem ub_step (l:List Nat) (hl:∀ x∈l,x < 256) (h:l≠[]):ub l =
 if l.getD 0 0=34 then ([],1,0)
 else if (part l).2.2≠0 then ([],0,(part l).2.2)
 else if (ub (l.drop (part l).2.1)).2.2≠0 then ([],0,(ub (l.drop (part l).2.1)).2.2)
 else (enc (part l).1++(ub (l.drop (part l).2.1)).1,(part l).2.1+(ub (l.drop (part l).2.1)).2.1,0):=by
 have hp:0 < l.length:=by cases l with|nil=>exact absurd rfl h|cons=>simp
 unfold ub
 rw [ubF_more l.length (l.length - 1+1) l hl (Nat.le_refl _) (by omega)]
 conv=>lhs;unfold ubF
 rw [if_neg h]
 by_cases h1:l.getD 0 0=34
 ·rw [if_pos h1,if_pos h1]
 ·rw [if_neg h1,if_neg h1]
  by_cases h2:(part l).2.2≠0
  ·rw [if_pos h2,if_pos h2]
  ·rw [if_neg h2,if_neg h2]
   obtain⟨_,p1,p2,_⟩:=part_good l hl h1 (by omega)
   rw [ubF_more (l.length - 1) (l.drop (part l).2.1).length (l.drop (part l).2.1) (drop_byte hl _) (by simp;omega) (Nat.le_refl _)]
theorem ub_good:∀ (n:Nat) (l:List Nat),l.length≤n→(∀ x∈l,x < 256)→(ub l).2.2=0 →
 (∃ rs,(∀ r∈rs,isr r)∧(ub l).1=encs rs)∧(escs (ub l).1).length+1≤(ub l).2.1∧(ub l).2.1≤l.length
 | 0,l,hn,_,h=>by
  obtain rfl:l=[]:=List.eq_nil_of_length_eq_zero (by omega)
  simp [ub_nil] at h
 | n+1,l,hn,hl,h=>by
  by_cases h0:l=[]
  ·subst h0;simp [ub_nil] at h
  ·have hp:0 < l.length:=by cases l with|nil=>exact absurd rfl h0|cons=>simp
   rw [ub_step l hl h0] at h ⊢
   by_cases h1:l.getD 0 0=34
   ·rw [if_pos h1]
    exact⟨⟨[],by simp,rfl⟩,by simp [escs],by simp only;omega⟩
   ·rw [if_neg h1] at h ⊢
    by_cases h2:(part l).2.2≠0
    ·rw [if_pos h2] at h;exact absurd h h2
    ·rw [if_neg h2] at h ⊢
     obtain⟨p0,p1,p2,p3⟩:=part_good l hl h1 (by omega)
     by_cases h3:(ub (l.drop (part l).2.1)).2.2≠0
     ·rw [if_pos h3] at h;exact absurd h h3
     ·rw [if_neg h3]
      obtain⟨⟨rs,i1,i2⟩,i3,i4⟩:=ub_good n (l.drop (part l).2.1) (by simp;omega) (drop_byte hl _) (by omega)
      refine⟨⟨(part l).1::rs,?_,?_⟩,?_,?_⟩
      ·intro r hr
       rcases List.mem_cons.1 hr with rfl|hr
       ·exact p0
       ·exact i1 r hr
      ·simp only;rw [encs_cons,i2]
      ·simp only;rw [escs_append,escs_enc,List.length_append];omega
      ·rw [List.length_drop] at i4;simp only;omega
open Go.Lib
theorem first2 (a:Nat) (h:194≤a∧a < 224):firstT a=2:=by
 unfold firstT;rw [if_neg (by omega),if_neg (by omega),if_pos (by omega)]
theorem first3 (a:Nat) (h:224≤a∧a < 240):firstT a=if a=224 then 19 else if a=237 then 35 else 3:=by
 unfold firstT
 rw [if_neg (by omega),if_neg (by omega),if_neg (by omega)]
 by_cases h1:a=224
 ·simp [h1]
 ·by_cases h2:a=237
  ·simp [h2]
  ·simp only [h1,h2,if_false]
   by_cases h3:a < 237
   ·simp [h3]
   ·simp [h3];omega
theorem first4 (a:Nat) (h:240≤a∧a < 245):firstT a=if a=240 then 52 else if a=244 then 68 else 4:=by
 unfold firstT
 rw [if_neg (by omega),if_neg (by omega),if_neg (by omega),if_neg (by omega),if_neg (by omega),if_neg (by omega),if_neg (by omega)]
 by_cases h1:a=240
 ·simp [h1]
 ·by_cases h2:a=244
  ·simp [h2]
  ·simp only [h1,h2,if_false]
   rw [if_pos (by omega)]
theorem full_by (l:List Nat) (x:Nat) (hx:firstT (l.getD 0 0)=x) (h:l≠[]):full l =
 (if x % 8≤l.length then true else if 1 < l.length∧(l.getD 1 0 < accLo (x / 16) ∨ accHi (x / 16) < l.getD 1 0) then true else if 2 < l.length∧(l.getD 2 0 < 128 ∨ 191 < l.getD 2 0) then true else false):=by
 have hp:l.length≠0:=fun e=>h (List.eq_nil_of_length_eq_zero e)
 unfold full
 simp only [hx]
 rw [if_neg hp]
def pad (l:List Nat) (n c:Nat):List Nat:=l++List.replicate (n - l.length) c
theorem full_prefix (r j:Nat) (h:isr r) (h0:0 < j) (hj:j < (enc r).length):full ((enc r).take j)=false:=by
 unfold isr at h
 unfold enc at hj ⊢
 by_cases h1:r < 128
 ·rw [if_pos h1] at hj;simp at hj;omega
 ·rw [if_neg h1] at hj ⊢
  by_cases h2:r < 2048
  ·rw [if_pos h2] at hj ⊢
   obtain rfl:j=1:=by simp at hj;omega
   show full [192+r / 64]=false
   rw [full_by [192+r / 64] 2 (first2 _ (by simp;omega)) (by simp)]
   simp
  ·rw [if_neg h2] at hj ⊢
   by_cases h3:r < 65536
   ·rw [if_pos h3] at hj ⊢
    have hx:=first3 (224+r / 4096) (by omega)
    generalize ha:224+r / 4096=a at *
    generalize hb:128+r / 64 % 64=b at *
    simp at hj
    by_cases a1:a=224
    ·rw [if_pos a1] at hx
     rcases (show j=1 ∨ j=2 by omega) with rfl|rfl
     ·show full [a]=false;rw [full_by [a] 19 hx (by simp)];simp
     ·show full [a,b]=false;rw [full_by [a,b] 19 hx (by simp)];simp [accLo,accHi];omega
    ·rw [if_neg a1] at hx
     by_cases a2:a=237
     ·rw [if_pos a2] at hx
      rcases (show j=1 ∨ j=2 by omega) with rfl|rfl
      ·show full [a]=false;rw [full_by [a] 35 hx (by simp)];simp
      ·show full [a,b]=false;rw [full_by [a,b] 35 hx (by simp)];simp [accLo,accHi];omega
     ·rw [if_neg a2] at hx
      rcases (show j=1 ∨ j=2 by omega) with rfl|rfl
      ·show full [a]=false;rw [full_by [a] 3 hx (by simp)];simp
      ·show full [a,b]=false;rw [full_by [a,b] 3 hx (by simp)];simp [accLo,accHi];omega
   ·rw [if_neg h3] at hj ⊢
    have hx:=first4 (240+r / 262144) (by omega)
    generalize ha:240+r / 262144=a at *
    generalize hb:128+r / 4096 % 64=b at *
    generalize hc:128+r / 64 % 64=c at *
    simp at hj
    by_cases a1:a=240
    ·rw [if_pos a1] at hx
     rcases (show j=1 ∨ j=2 ∨ j=3 by omega) with rfl|rfl|rfl
     ·show full [a]=false;rw [full_by [a] 52 hx (by simp)];simp
     ·show full [a,b]=false;rw [full_by [a,b] 52 hx (by simp)];simp [accLo,accHi];omega
     ·show full [a,b,c]=false;rw [full_by [a,b,c] 52 hx (by simp)];simp [accLo,accHi];omega
    ·rw [if_neg a1] at hx
     by_cases a2:a=244
     ·rw [if_pos a2] at hx
      rcases (show j=1 ∨ j=2 ∨ j=3 by omega) with rfl|rfl|rfl
      ·show full [a]=false;rw [full_by [a] 68 hx (by simp)];simp
      ·show full [a,b]=false;rw [full_by [a,b] 68 hx (by simp)];simp [accLo,accHi];omega
      ·show full [a,b,c]=false;rw [full_by [a,b,c] 68 hx (by simp)];simp [accLo,accHi];omega
     ·rw [if_neg a2] at hx
      rcases (show j=1 ∨ j=2 ∨ j=3 by omega) with rfl|rfl|rfl
      ·show full [a]=false;rw [full_by [a] 4 hx (by simp)];simp
      ·show full [a,b]=false;rw [full_by [a,b] 4 hx (by simp)];simp [accLo,accHi];omega
      ·show full [a,b,c]=false;rw [full_by [a,b,c] 4 hx (by simp)];simp [accLo,accHi];omega
theorem nw_prefix (r j:Nat) (h:isr r) (hj:j < (enc r).length):nw ((enc r).take j)=0:=by
 rcases Nat.eq_zero_or_pos (nw ((enc r).take j)) with h0|h0
 ·exact h0
 ·exfalso
  have hb:∀ x∈(enc r).take j,x < 256:=take_byte (enc_byte r h) j
  obtain⟨i1,i2,i3,i4⟩:=nx_some _ hb (by omega)
  have e:enc r=enc (nr ((enc r).take j))++(((enc r).take j).drop (nw ((enc r).take j))++(enc r).drop j):=by
   rw [← List.append_assoc,← i2,List.take_append_drop]
  have h1:=nw_enc r [] h
  rw [List.append_nil,e,nw_enc _ _ i1,← e,i3] at h1
  rw [List.length_take] at i4
  omega
theorem dig_hexS (d:Nat) (h:d < 16):dig (hex d)=d:=by
 unfold dig hex
 by_cases h1:d < 10
 ·rw [if_pos h1,if_pos (by omega)];omega
 ·rw [if_neg h1,if_neg (by omega),if_pos (by omega)];omega
theorem hxF_ok (second:Bool) (m k n c:Nat) (t:List Nat) (d:Nat) (hd:dig c=d) (hd2:d < 16) (hb:bad second k (16 * n+d)=false):hxF second (m+1) k n (c::t)=hxF second m (k+1) (16 * n+d) t:=by
 rw [hxF,hd,if_neg (by omega),hb]
 simp
theorem hx_four (second:Bool) (a b c d:Nat) (t:List Nat) (da db dc dd:Nat) (ha:dig a=da) (hb:dig b=db) (hc:dig c=dc) (hd:dig d=dd) (a1:da < 16) (b1:db < 16) (c1:dc < 16) (d1:dd < 16)
 (h0:second=true→da=13) (h1:second=(decide (220≤16 * da+db) && decide (16 * da+db≤223))):hx second (a::b::c::d::t)=(((da * 16+db) * 16+dc) * 16+dd,0):=by
 unfold hx
 rw [hxF_ok second 3 0 0 a _ da ha a1 (by cases second<;>simp [bad];exact h0 rfl)]
 rw [hxF_ok second 2 1 _ b _ db hb b1 (by simp only [bad];rw [Nat.mul_zero,Nat.zero_add,← h1];simp)]
 rw [hxF_ok second 1 2 _ c _ dc hc c1 (by simp [bad])]
 rw [hxF_ok second 0 3 _ d _ dd hd d1 (by simp [bad]),hxF]
 simp;omega
theorem hxF_cut (second:Bool) (m k n:Nat):hxF second (m+1) k n []=(0,3):=by rw [hxF]
theorem hx_cut (second:Bool) (a b c d:Nat) (j:Nat) (hj:j < 4) (da db dc dd:Nat) (ha:dig a=da) (hb:dig b=db) (hc:dig c=dc) (hd:dig d=dd) (a1:da < 16) (b1:db < 16) (c1:dc < 16) (d1:dd < 16)
 (h0:second=true→da=13) (h1:second=(decide (220≤16 * da+db) && decide (16 * da+db≤223))):hx second ([a,b,c,d].take j)=(0,3):=by
 unfold hx
 rcases (show j=0 ∨ j=1 ∨ j=2 ∨ j=3 by omega) with rfl|rfl|rfl|rfl
 ·exact hxF_cut _ _ _ _
 ·show hxF second 4 0 0 [a]=_
  rw [hxF_ok second 3 0 0 a _ da ha a1 (by cases second<;>simp [bad];exact h0 rfl)]
  exact hxF_cut _ _ _ _
 ·show hxF second 4 0 0 [a,b]=_
  rw [hxF_ok second 3 0 0 a _ da ha a1 (by cases second<;>simp [bad];exact h0 rfl)]
  rw [hxF_ok second 2 1 _ b _ db hb b1 (by simp only [bad];rw [Nat.mul_zero,Nat.zero_add,← h1];simp)]
  exact hxF_cut _ _ _ _
 ·show hxF second 4 0 0 [a,b,c]=_
  rw [hxF_ok second 3 0 0 a _ da ha a1 (by cases second<;>simp [bad];exact h0 rfl)]
  rw [hxF_ok second 2 1 _ b _ db hb b1 (by simp only [bad];rw [Nat.mul_zero,Nat.zero_add,← h1];simp)]
  rw [hxF_ok second 1 2 _ c _ dc hc c1 (by simp [bad])]
  exact hxF_cut _ _ _ _
structure Spell (r:Nat) (p:List Nat):Prop where
 rune:isr r
 pos:0 < p.length
 byte:∀ x∈p,x < 256
 reads:∀ t,part (p++t)=(r,p.length,0)
 start:∀ t,(p++t).getD 0 0≠34
 cut:∀ j,0 < j→j < p.length→part (p.take j)=(0,0,3)
theorem spell_self (r:Nat) (h:isr r) (h1:32≤r) (h2:r≠34) (h3:r≠92):Spell r (enc r):=by
 have hl:=enc_len r
 have hst:∀ t,(enc r++t).getD 0 0=r∧r < 128 ∨ 128≤(enc r++t).getD 0 0:=by
  intro t
  by_cases h:r < 128
  ·left;rw [enc_low r h];exact⟨rfl,h⟩
  ·right
   have:=enc_high r (by omega)
   match hh:enc r,hl with
   | a::u,_ =>
    rw [hh] at this
    exact this a (List.mem_cons_self ..)
 refine⟨h,by omega,enc_byte r h,fun t=>?_,fun t=>by rcases hst t with ⟨e,_⟩|e<;>omega,fun j h0 hj=>?_⟩
 ·unfold part
  rw [if_neg (by rcases hst t with ⟨e,_⟩|e<;>omega),nw_enc r t h,if_pos (by omega),nr_enc r t h,if_neg (by omega)]
 ·have hn:=nw_prefix r j h hj
  have hf:=full_prefix r j h h0 hj
  unfold part
  rw [hn,hf]
  have e:((enc r).take j).getD 0 0=(enc r++[]).getD 0 0:=by
   rw [List.append_nil]
   simp [List.getD_eq_getElem?_getD,h0]
  rw [if_neg (by rw [e];rcases hst [] with ⟨e,_⟩|e<;>omega)]
  simp
theorem spell_short (r c:Nat) (hc:c < 256) (h:said c=r) (hr:r≠0) (h117:c≠117):Spell r [92,c]:=by
 have hs:=said_rune c (by omega)
 refine⟨.inl (by omega),by simp,by simp;omega,fun t=>?_,fun t=>by simp,fun j h0 hj=>?_⟩
 ·unfold part esc
  simp [h117,h,hr]
 ·obtain rfl:j=1:=by simp at hj;omega
  simp [part,esc]
def four (dg:Nat→Nat) (n:Nat):List Nat:=[92,117,dg (n / 4096),dg (n / 256 % 16),dg (n / 16 % 16),dg (n % 16)]
def Digs (dg:Nat→Nat):Prop:=(∀ d,d < 16→dig (dg d)=d)∧∀ d,d < 16→dg d < 256
theorem digs_small:Digs hex:=⟨dig_hexS,fun d h=>by unfold hex;split<;>omega⟩
theorem four_hx (dg:Nat→Nat) (hg:Digs dg) (second:Bool) (n:Nat) (hn:n < 65536) (t:List Nat) (h:second=(decide (56320≤n) && decide (n≤57343))) :
 hx second ((four dg n).drop 2++t)=(n,0)∧∀ j,j < 4→hx second (((four dg n).drop 2).take j)=(0,3):=by
 have e0:second=true→n / 4096=13:=fun e=>by rw [e] at h;simp at h;omega
 have e1:second=(decide (220≤16 * (n / 4096)+n / 256 % 16) && decide (16 * (n / 4096)+n / 256 % 16≤223)):=by
  rw [h,Bool.eq_iff_iff];simp;omega
 constructor
 ·have:=hx_four second (dg (n / 4096)) (dg (n / 256 % 16)) (dg (n / 16 % 16)) (dg (n % 16)) t _ _ _ _ (hg.1 _ (by omega)) (hg.1 _ (by omega)) (hg.1 _ (by omega)) (hg.1 _ (by omega)) (by omega) (by omega) (by omega) (by omega) e0 e1
  show hx second (dg (n / 4096)::dg (n / 256 % 16)::dg (n / 16 % 16)::dg (n % 16)::t)=_
  rw [this]
  simp;omega
 ·intro j hj
  exact hx_cut second (dg (n / 4096)) (dg (n / 256 % 16)) (dg (n / 16 % 16)) (dg (n % 16)) j hj _ _ _ _ (hg.1 _ (by omega)) (hg.1 _ (by omega)) (hg.1 _ (by omega)) (hg.1 _ (by omega)) (by omega) (by omega) (by omega) (by omega) e0 e1
theorem four_byte (dg:Nat→Nat) (hg:Digs dg) (n:Nat) (hn:n < 65536):∀ x∈four dg n,x < 256:=by
 intro x hx
 simp [four] at hx
 have h1:=hg.2 (n / 4096) (by omega)
 have h2:=hg.2 (n / 256 % 16) (by omega)
 have h3:=hg.2 (n / 16 % 16) (by omega)
 have h4:=hg.2 (n % 16) (by omega)
 rcases hx with rfl|rfl|rfl|rfl|rfl|rfl<;>omega
theorem spell_four (dg:Nat→Nat) (hg:Digs dg) (r:Nat) (h:isr r) (hr:r < 65536):Spell r (four dg r):=by
 unfold isr at h
 obtain⟨k1,k2⟩:=four_hx dg hg false r hr [] (by simp;omega)
 have k3:∀ t,hx false ((four dg r).drop 2++t)=(r,0):=fun t=>(four_hx dg hg false r hr t (by simp;omega)).1
 refine⟨h,by simp [four],four_byte dg hg r hr,fun t=>?_,fun t=>by simp [four],fun j h0 hj=>?_⟩
 ·have e:(four dg r++t).drop 2=(four dg r).drop 2++t:=rfl
  unfold part esc
  rw [if_pos (by simp [four]),if_neg (by simp [four]),if_pos (by simp [four]),e,k3 t]
  simp only
  rw [if_neg (by omega),if_pos (by omega)]
  rfl
 ·have hj6:j < 6:=by simpa [four] using hj
  rcases (show j=1 ∨ 2≤j by omega) with rfl|h2
  ·simp [part,esc,four]
  ·have e:((four dg r).take j).drop 2=((four dg r).drop 2).take (j - 2):=by rw [List.drop_take]
   have hl:((four dg r).take j).length=j:=by rw [List.length_take];simp [four];omega
   have g0:((four dg r).take j).getD 0 0=92:=by simp [four,List.getD_eq_getElem?_getD,show 0 < j by omega]
   have g1:((four dg r).take j).getD 1 0=117:=by simp [four,List.getD_eq_getElem?_getD,show 1 < j by omega]
   unfold part esc
   rw [if_pos g0,if_neg (by omega),if_pos g1,e,k2 (j - 2) (by omega)]
   simp
theorem spell_tidy (r:Nat) (h:isr r):Spell r (escR r):=by
 unfold escR
 by_cases h1:r < 128
 ·rw [if_pos h1]
  unfold escB
  repeat' split
  ·subst_vars;exact spell_short 34 34 (by omega) rfl (by omega) (by omega)
  ·subst_vars;exact spell_short 92 92 (by omega) rfl (by omega) (by omega)
  ·subst_vars;exact spell_short 8 98 (by omega) rfl (by omega) (by omega)
  ·subst_vars;exact spell_short 12 102 (by omega) rfl (by omega) (by omega)
  ·subst_vars;exact spell_short 10 110 (by omega) rfl (by omega) (by omega)
  ·subst_vars;exact spell_short 13 114 (by omega) rfl (by omega) (by omega)
  ·subst_vars;exact spell_short 9 116 (by omega) rfl (by omega) (by omega)
  ·have:=spell_four hex digs_small r h (by omega)
   unfold four at this
   rw [show r / 4096=0 by omega,show r / 256 % 16=0 by omega,show r / 16 % 16=r / 16 by omega] at this
   exact this
  ·have:=spell_self r h (by omega) (by omega) (by omega)
   rwa [enc_low r h1] at this
 ·rw [if_neg h1]
  exact spell_self r h (by omega) (by omega) (by omega)
theorem ub_spelt:∀ (ps:List (Nat × List Nat)) (more:List Nat),(∀ x∈more,x < 256)→(∀ p∈ps,Spell p.1 p.2) →
 ub (ps.flatMap Prod.snd++34::more)=(encs (ps.map Prod.fst),(ps.flatMap Prod.snd).length+1,0)∧(∀ x∈ps.flatMap Prod.snd++34::more,x < 256)
 | [],more,hm,_=>by
  have hb:∀ x∈34::more,x < 256:=fun x hx=>by
   rcases List.mem_cons.1 hx with rfl|hx
   ·omega
   ·exact hm x hx
  refine⟨?_,hb⟩
  show ub (34::more)=_
  rw [ub_step _ hb (by simp),if_pos (by simp)]
  rfl
 | p::ps,more,hm,h=>by
  have hp:=h p (List.mem_cons_self ..)
  obtain⟨i1,i2⟩:=ub_spelt ps more hm fun q hq=>h q (List.mem_cons_of_mem _ hq)
  have e:(p::ps).flatMap Prod.snd++34::more=p.2++(ps.flatMap Prod.snd++34::more):=by simp
  have hb:∀ x∈p.2++(ps.flatMap Prod.snd++34::more),x < 256:=fun x hx=>by
   rcases List.mem_append.1 hx with hx|hx
   ·exact hp.byte x hx
   ·exact i2 x hx
  have hne:p.2++(ps.flatMap Prod.snd++34::more)≠[]:=fun e=>by
   have:=congrArg List.length e
   rw [List.length_append] at this
   have:=hp.pos
   simp at *
  rw [e]
  refine⟨?_,hb⟩
  rw [ub_step _ hb hne,if_neg (hp.start _),hp.reads,if_neg (by simp)]
  simp only [List.drop_left]
  rw [i1]
  simp [encs_cons]
  omega
theorem unq_spelt (ps:List (Nat × List Nat)) (more:List Nat) (hm:∀ x∈more,x < 256) (h:∀ p∈ps,Spell p.1 p.2) :
 unq (34::(ps.flatMap Prod.snd++34::more))=(encs (ps.map Prod.fst),(ps.flatMap Prod.snd).length+2,0):=by
 unfold unq
 rw [if_neg (by simp),if_neg (by simp)]
 simp only [List.drop_succ_cons,List.drop_zero]
 rw [(ub_spelt ps more hm h).1]
 simp
theorem tidy_parts (rs:List Nat):escs (encs rs)=(rs.map fun r=>(r,escR r)).flatMap Prod.snd:=by
 induction rs with
 | nil=>rfl
 | cons r rs ih=>rw [encs_cons,escs_append,escs_enc,ih];simp
theorem unq_tidy (rs more:List Nat) (h:∀ r∈rs,isr r) (hm:∀ x∈more,x < 256):unq (tidy (encs rs)++more)=(encs rs,(tidy (encs rs)).length,0):=by
 have:=unq_spelt (rs.map fun r=>(r,escR r)) more hm fun p hp=>by
  obtain⟨r,hr,rfl⟩:=List.mem_map.1 hp
  exact spell_tidy r (h r hr)
 rw [← tidy_parts] at this
 unfold tidy
 rw [show (34::(escs (encs rs)++[34]))++more=34::(escs (encs rs)++34::more) by simp,this]
 simp [Function.comp_def]
end Go.Proofs.YtenfjmdajlhfoabGreatDoor.Utf
namespace Go.Proofs.YtenfjmdajlhfoabGreatDoor.Gn
open Go.RowKit
set_option linter.unusedVariables false
set_option maxRecDepth 100000
variable {α:Type}
theorem plain (b off k:Nat):(⟨b,off,none⟩:Addr).add k=⟨b,off+k,none⟩:=by unfold Addr.add;split<;>simp_all
structure Lay (enc:α→List Value) (k:Nat):Prop where
 len:∀ x,(enc x).length=k
 one:∀ x,∀ v∈enc x,v.oneCell'=true
 pos:0 < k
def cells (enc:α→List Value) (l:List α):List Value:=l.flatMap enc
theorem cells_cons (enc:α→List Value) (x:α) (l:List α):cells enc (x::l)=enc x++cells enc l:=rfl
theorem cells_append (enc:α→List Value) (l r:List α):cells enc (l++r)=cells enc l++cells enc r:=by simp [cells]
theorem cells_len {enc:α→List Value} {k:Nat} (L:Lay enc k):∀ l:List α,(cells enc l).length=l.length * k
 | []=>by simp [cells]
 | x::l=>by rw [cells_cons,List.length_append,L.len,cells_len L l,List.length_cons,Nat.add_mul];omega
theorem cells_one {enc:α→List Value} {k:Nat} (L:Lay enc k) (l:List α):∀ u∈cells enc l,u.oneCell'=true:=by
 intro u hu
 obtain⟨x,_,hx⟩:=List.mem_flatMap.1 hu
 exact L.one x u hx
theorem cells_get {enc:α→List Value} {k:Nat} (L:Lay enc k):∀ (l:List α) (i:Nat) (x:α) (j:Nat),l[i]?=some x→j < k→(cells enc l)[i * k+j]?=(enc x)[j]?
 | [],i,x,j,h,_=>by simp at h
 | y::l,0,x,j,h,hj=>by
  simp at h;subst h
  rw [cells_cons,Nat.zero_mul,Nat.zero_add,List.getElem?_append_left (by rw [L.len];exact hj)]
 | y::l,i+1,x,j,h,hj=>by
  have:=cells_get L l i x j (by simpa using h) hj
  rw [cells_cons,List.getElem?_append_right (by rw [L.len,Nat.add_mul];omega),L.len,Nat.add_mul,show i * k+1 * k+j - k=i * k+j by omega]
  exact this
theorem cells_at {enc:α→List Value} {k:Nat} (L:Lay enc k) (l:List α) (j:Nat) (u:Value) (h:(cells enc l)[j]?=some u):∃ i x m,l[i]?=some x∧m < k∧j=i * k+m∧(enc x)[m]?=some u:=by
 have hj:j < (cells enc l).length:=(List.getElem?_eq_some_iff.1 h).1
 rw [cells_len L] at hj
 have hk:=L.pos
 have hi:j / k < l.length:=by
  rw [Nat.div_lt_iff_lt_mul hk];exact hj
 have hm:j % k < k:=Nat.mod_lt _ hk
 have e:j=j / k * k+j % k:=by rw [Nat.mul_comm];exact (Nat.div_add_mod j k).symm
 refine⟨j / k,l[j / k],j % k,List.getElem?_eq_getElem hi,hm,e,?_⟩
 rw [← cells_get L l (j / k) _ (j % k) (List.getElem?_eq_getElem hi) hm,← e]
 exact h
def Rd (enc:α→List Value) (k:Nat) (w:World) (B:Nat) (v:Value) (l:List α):Prop :=
 ∃ a c,v=.slice a l.length c∧l.length≤c∧c≤maxLen∧(a=none→c=0) ∧
  (0 < l.length→∃ b off,a=some ⟨b,off,none⟩∧b < B∧∀ i x j u,l[i]?=some x→(enc x)[j]?=some u→w.cell? ⟨b,off+i * k+j,none⟩=some u)
def Own (enc:α→List Value) (k:Nat) (T:TypeId) (w:World) (base:Nat) (v:Value) (l:List α):Prop:=w.ownsRow base T k v l.length (cells enc l)
section
variable {enc:α→List Value} {k:Nat} {T:TypeId} {w w' W:World} {B B' base:Nat} {v:Value} {l r:List α}
theorem Rd.len (h:Rd enc k w B v l):l.length≤maxLen:=by obtain⟨_,c,_,h1,h2,_⟩:=h;omega
theorem Rd.len' (h:Rd enc k w B v l):l.length≤9223372036854775807:=by have:=h.len;unfold maxLen at this;omega
theorem Rd.form (h:Rd enc k w B v l):∃ a c,v=.slice a l.length c∧l.length≤c∧c≤maxLen∧(a=none→c=0):=by
 obtain⟨a,c,h1,h2,h3,h4,_⟩:=h;exact⟨a,c,h1,h2,h3,h4⟩
theorem Rd.below (h:Rd enc k w B v l) (hb:Below B' w w') (hB:B≤B'):Rd enc k w' B v l:=by
 obtain⟨a,c,rfl,h1,h2,h3,h5⟩:=h
 refine⟨a,c,rfl,h1,h2,h3,fun hp=>?_⟩
 obtain⟨b,off,rfl,hlt,hc⟩:=h5 hp
 exact⟨b,off,rfl,hlt,fun i x j u hi hj=>(hb.cell (p:=⟨b,off+i * k+j,none⟩) (by simp;omega)).trans (hc i x j u hi hj)⟩
theorem Rd.more (h:Rd enc k w B v l) (hB:B≤B'):Rd enc k w B' v l:=by
 obtain⟨a,c,rfl,h1,h2,h3,h5⟩:=h
 refine⟨a,c,rfl,h1,h2,h3,fun hp=>?_⟩
 obtain⟨b,off,rfl,hlt,hc⟩:=h5 hp
 exact⟨b,off,rfl,by omega,hc⟩
theorem Rd.nil (w:World) (B:Nat):Rd enc k w B (.slice none 0 0) ([]:List α):=⟨none,0,rfl,by simp,by simp,fun _=>rfl,by simp⟩
theorem Rd.later (h:Rd enc k w w.heap.size v l) (hb:Below w.heap.size w w'):Rd enc k w' w'.heap.size v l:=(h.below hb (Nat.le_refl _)).more hb.size
theorem Rd.at {a:Option Addr} {n c:Nat} (h:Rd enc k W B (.slice a n c) l) (hb:Below B W w) {i:Nat} (hi:i < l.length) :
 ∃ b off,a=some ⟨b,off,none⟩∧b < B∧∀ j u,(enc l[i])[j]?=some u→w.cell? ⟨b,off+i * k+j,none⟩=some u:=by
 obtain⟨a',c',e,_,_,_,hc⟩:=h
 injection e with e1 e2 e3
 subst e1
 obtain⟨b,off,rfl,hlt,hcell⟩:=hc (by omega)
 exact⟨b,off,rfl,hlt,fun j u hj=>(hb.cell (p:=⟨b,_,none⟩) hlt).trans (hcell i _ j u (List.getElem?_eq_getElem hi) hj)⟩
theorem Own.rd (L:Lay enc k) (h:Own enc k T w base v l):Rd enc k w w.heap.size v l:=by
 obtain⟨h0,h1⟩:=h
 rcases h1 with ⟨rfl,hn⟩|⟨g,cap,cur,rfl,hg,hh,h2,h3,h4,h5⟩
 ·obtain rfl:l=[]:=List.eq_nil_of_length_eq_zero hn
  exact Rd.nil _ _
 ·refine⟨_,cap,rfl,h2,h3,by simp,fun hp=>⟨g,0,rfl,?_,fun i x j u hi hj=>?_⟩⟩
  ·rcases Nat.lt_or_ge g w.heap.size with hlt|hge
   ·exact hlt
   ·rw [Array.getElem?_eq_none hge] at hh;cases hh
  ·have hjk:j < k:=by have:=(List.getElem?_eq_some_iff.1 hj).1;rwa [L.len] at this
   have e:=World.ownsRow.cells (w:=w) (base:=base) (e:=T) (size:=k) (v:=.slice (some ⟨g,0,none⟩) l.length cap) (n:=l.length) (xs:=cells enc l) ⟨h0,.inr ⟨g,cap,cur,rfl,hg,hh,h2,h3,h4,h5⟩⟩ (g:=g) rfl
    (i * k+j) u (by rw [cells_get L l i x j hi hjk];exact hj)
   rw [plain,← Nat.add_assoc] at e
   exact e
theorem Own.later (h:Own enc k T w base v l) (hb:Below w.heap.size w w'):Own enc k T w' base v l:=by
 obtain⟨h0,h1⟩:=h
 refine⟨h0,?_⟩
 rcases h1 with h1|⟨g,cap,cur,rfl,hg,hh,r⟩
 ·exact .inl h1
 ·have hlt:g < w.heap.size:=by
   rcases Nat.lt_or_ge g w.heap.size with hlt|hge
   ·exact hlt
   ·rw [Array.getElem?_eq_none hge] at hh;cases hh
  exact .inr ⟨g,cap,cur,rfl,hg,(hb.block g hlt).trans hh,r⟩
theorem Own.kept (h:Own enc k T w base v l) {row:Option Nat} (hg:w.grownBy w' row) (hne:v.ownBlock=none ∨ v.ownBlock≠row):Own enc k T w' base v l:=World.ownsRow.kept h hg hne
theorem Own.nil (w:World) (base:Nat):Own enc k T w base (.slice none 0 0) ([]:List α):=World.ownsRow_nil w base T k
theorem Own.lower (h:Own enc k T w base v l) (hB:B≤base):Own enc k T w B v l:=by
 obtain⟨h0,h1⟩:=h
 refine⟨h0,?_⟩
 rcases h1 with h1|⟨g,cap,cur,rfl,hg,r⟩
 ·exact .inl h1
 ·exact .inr ⟨g,cap,cur,rfl,by omega,r⟩
theorem Own.lt (h:Own enc k T w base v l):∀ g,v.ownBlock=some g→base≤g∧g < w.heap.size:=World.ownsRow.lt h
theorem Own.lit (L:Lay enc k) (w:World) (base:Nat) (l:List α) (cs:Array Value) (n c:Nat) (hcs:cs=(cells enc l).toArray) (hn:n=l.length) (hc:c=n) (hm:l.length≤maxLen) (hb:base≤w.heap.size) :
 Own enc k T (w.alloc (.cells cs T)) base (.slice (some ⟨w.heap.size,0,none⟩) n c) l:=by
 subst hcs;subst hc;subst hn
 refine⟨cells_len L l,.inr ⟨w.heap.size,l.length,_,rfl,hb,heap_alloc_new w _,Nat.le_refl _,hm,by simp [cells_len L],?_⟩⟩
 show List.take _ (cells enc l)=_
 rw [List.take_of_length_le (by rw [cells_len L];exact Nat.le_refl _)]
end
structure Ty (S T:TypeId) (z:Value) (k nb:Nat):Prop where
 sl:Tryz.prog.underlying S=some (.slice T)
 el:Tryz.prog.elem S=T
 info:(Tryz.prog.info? T).map (fun i=>(i.zero,i.size,i.bytes))=some (some z,k,nb)
 zs:z.cells.size=k
 nb:nb≤1000
theorem Ty.parts {S T:TypeId} {z:Value} {k nb:Nat} (h:Ty S T z k nb):∃ i,Tryz.prog.info? T=some i∧i.zero=some z∧i.size=k∧i.bytes=nb:=by
 have h:=h.info
 cases hi:Tryz.prog.info? T with
 | none=>rw [hi] at h;cases h
 | some i =>
  rw [hi] at h
  simp at h
  exact⟨i,rfl,h.1,h.2.1,h.2.2⟩
theorem run_app {enc:α→List Value} {k:Nat} {S T:TypeId} {z:Value} {nb:Nat} (L:Lay enc k) (Y:Ty S T z k nb) (w:World) (ty:TypeId) (base:Nat) (v:Value) (l:List α) (hown:Own enc k T w base v l) (u:Value) (r:List α) (hr:Rd enc k w w.heap.size u r)
 (hlen:l.length+r.length≤100000000) (hbase:base≤w.heap.size) :
 ∃ v' w',(Builtin.append_ #[S,S] ty #[v,u]).run Tryz.prog w=.ok v' w'∧Own enc k T w' base v' (l++r)∧w.grownBy w' v.ownBlock∧(v'.ownBlock=v.ownBlock ∨ v'.ownBlock=some w.heap.size)∧(v'=.slice none 0 0↔v=.slice none 0 0∧r=[]):=by
 obtain⟨i,hi,hz,hs,hby⟩:=Y.parts
 have hnb:=Y.nb
 obtain⟨a,c,rfl,hlc,hc,hnil,hcell⟩:=hr
 cases a with
 | none =>
  have hc0:=hnil rfl
  subst hc0
  have hr0:r=[]:=List.eq_nil_of_length_eq_zero (by omega)
  subst hr0
  refine⟨v,w,run_append_owned_none w base S ty T i k Y.sl hi v l.length (cells enc l) hown,?_,World.grownBy.refl _ _,.inl rfl,by simp⟩
  rw [List.append_nil];exact hown
 | some ad =>
  have hnews:∀ j q,(cells enc r)[j]?=some q→w.cell? (ad.add j)=some q:=by
   intro j q hq
   obtain⟨i,x,m,hx,hm,rfl,hq'⟩:=cells_at L r j q hq
   have hkl:=(List.getElem?_eq_some_iff.1 hx).1
   obtain⟨b,off,e,_,hcc⟩:=hcell (by omega)
   injection e with e
   subst e
   rw [plain,← Nat.add_assoc]
   exact hcc i x m q hx hq'
  have hmul:(l.length+r.length) * nb≤100000000 * 1000:=Nat.mul_le_mul hlen hnb
  obtain⟨v',w',hrun,h2,h3,h4,h5⟩:=run_append_own_at (P:=Tryz.prog) w base S ty T i _ k nb Y.sl hi hz hs hby Y.zs L.pos v l.length (cells enc l) hown ad r.length c (cells enc r)
   (by rw [cells_len L]) hnews (cells_one L r) (by simp only [maxLen];omega) (by omega) hbase
  refine⟨v',w',hrun,?_,h3,h5,?_⟩
  ·unfold Own;rw [List.length_append,cells_append];exact h2
  ·rw [h4];exact⟨fun ⟨h,e⟩=>⟨h,List.eq_nil_of_length_eq_zero e⟩,fun ⟨h,e⟩=>⟨h,by rw [e];rfl⟩⟩
theorem below_of_own {enc:α→List Value} {k:Nat} {T:TypeId} {w w':World} {base:Nat} {v:Value} {l:List α} (hown:Own enc k T w base v l) (h3:w.grownBy w' v.ownBlock) (hbase:base≤w.heap.size):Below base w w' :=
 (Below.refl _ _).grown h3 hbase (fun g hg=>(hown.lt g hg).1)
theorem wpList_app {enc:α→List Value} {k:Nat} {S T:TypeId} {z:Value} {nb:Nat} (L:Lay enc k) (Y:Ty S T z k nb) {w:World} {ops:Array Oper} {rest:List Oper} {o:Oper} {a:Act} {Q:Exit→Act→World→Prop} (hgd:o.guard=none) (s x:Operand)
 (ho:o.op=.call { callee:=.builtin .append,args:=#[s,x],argTypes:=#[S,S] })
 (base:Nat) (v:Value) (l:List α) (hs:a.eval s=v) (hown:Own enc k T w base v l) (u:Value) (r:List α) (hx:a.eval x=u) (hr:Rd enc k w w.heap.size u r)
 (hlen:l.length+r.length≤100000000) (hbase:base≤w.heap.size)
 (h:∀ v' w',Own enc k T w' base v' (l++r)→w.grownBy w' v.ownBlock→(v'.ownBlock=v.ownBlock ∨ v'.ownBlock=some w.heap.size)→(v'=.slice none 0 0↔v=.slice none 0 0∧r=[])→wpList Tryz.prog ops Q rest (a.put o.dst v') w'):wpList Tryz.prog ops Q (o::rest) a w:=by
 refine wpList_plain hgd fun K hK=>?_
 obtain⟨v',w',hrun,h2,h3,h4,h5⟩:=run_app L Y w o.type base v l hown u r hr hlen hbase
 unfold Oper.wp execOp
 simp only [ho,resolve,invoke,builtin,Sem.run_bind,Sem.run_pure,Result.andThen_ok,zA,zB,zC,hs,hx,hrun]
 exact hK _ _ (h v' w' h2 h3 h4 h5)
theorem rd_sliced {enc:α→List Value} {k:Nat} (w:World) (B:Nat) (a:Option Addr) (l:List α) (n c p m:Nat) (h:Rd enc k w B (.slice a n c) l) (hn:l.length=n) (hk:p≤m) (hm:m≤l.length) :
 Rd enc k w B (.slice (if c=p then a else a.map (·.add (p * k))) (m - p) (c - p)) ((l.take m).drop p):=by
 subst hn
 obtain⟨a',c',e,h1,h2,h3,h5⟩:=h
 injection e with e1 e2 e3
 subst e1 e3
 have hlen:((l.take m).drop p).length=m - p:=by rw [List.length_drop,List.length_take];omega
 refine⟨_,_,by rw [hlen],by rw [hlen];omega,by omega,fun hn=>?_,fun hp'=>?_⟩
 ·by_cases e:c=p
  ·omega
  ·rw [if_neg e] at hn
   have:=h3 (by simpa using hn)
   omega
 ·rw [hlen] at hp'
  obtain⟨b,off,rfl,hb,hc⟩:=h5 (by omega)
  refine⟨b,off+p * k,by rw [if_neg (by omega)];simp [plain],hb,fun i x j u hi hj=>?_⟩
  have hj':l[p+i]?=some x:=by
   rw [List.getElem?_drop,List.getElem?_take] at hi
   split at hi
   ·exact hi
   ·cases hi
  have:=hc (p+i) x j u hj' hj
  rw [Nat.add_mul,← Nat.add_assoc] at this
  exact this
theorem sz_of {S T:TypeId} {z:Value} {k nb:Nat} (Y:Ty S T z k nb) (w:World):(sizeOf T).run Tryz.prog w=.ok k w:=by
 obtain⟨i,hi,_,hs,_⟩:=Y.parts
 simp [sizeOf,typeInfo,hi,hs]
theorem cut_to {enc:α→List Value} {k:Nat} {S T:TypeId} {z:Value} {nb:Nat} (Y:Ty S T z k nb) (w:World) (B:Nat) (a:Option Addr) (l:List α) (n c p:Nat) (h:Rd enc k w B (.slice a n c) l) (hn:l.length=n) (hp:p≤l.length) :
 ∃ u,(∀ w',(Instr.slice S (.slice a n c) none (some (.int .i64 (p:Int))) none).run Tryz.prog w'=.ok u w')∧Rd enc k w B u (l.take p):=by
 obtain⟨_,_,e,hlc,_⟩:=id h
 injection e with _ e2 e3
 subst e3
 refine⟨_,fun w'=>?_,by have:=rd_sliced w B a l n c 0 p h hn (Nat.zero_le _) hp;rw [List.drop_zero] at this;exact this⟩
 rw [run_slice_h w' _ _ _ _ (Y.el.symm▸Y.sl) _ _ (by omega) (by omega),Y.el,sz_of Y]
 simp [sliced]
theorem cut_mid {enc:α→List Value} {k:Nat} {S T:TypeId} {z:Value} {nb:Nat} (Y:Ty S T z k nb) (w:World) (B:Nat) (a:Option Addr) (l:List α) (n c p m:Nat) (h:Rd enc k w B (.slice a n c) l) (hn:l.length=n) (hp:p≤m) (hm:m≤l.length) :
 ∃ u,(∀ w',(Instr.slice S (.slice a n c) (some (.int .i64 (p:Int))) (some (.int .i64 (m:Int))) none).run Tryz.prog w'=.ok u w')∧Rd enc k w B u ((l.take m).drop p):=by
 obtain⟨_,_,e,hlc,_⟩:=id h
 injection e with _ e2 e3
 subst e3
 refine⟨_,fun w'=>?_,rd_sliced w B a l n c p m h hn hp hm⟩
 rw [run_slice_lh w' _ _ _ _ (Y.el.symm▸Y.sl) _ _ _ _ (by omega) (by omega) (by omega),Y.el,sz_of Y]
 simp [sliced]
end Go.Proofs.YtenfjmdajlhfoabGreatDoor.Gn
