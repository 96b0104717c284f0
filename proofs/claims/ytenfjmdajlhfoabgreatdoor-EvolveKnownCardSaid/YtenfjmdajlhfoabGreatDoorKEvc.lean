/- Texts. -/
import Derived.Test.YtenfjmdajlhfoabGreatDoorKClDoB
import Derived.Test.YtenfjmdajlhfoabGreatDoorKClUn
import Derived.Test.YtenfjmdajlhfoabGreatDoorKClCz
import Derived.Lib.QuietBelow
import Derived.Lib.SliceRun
import Derived.Test.YtenfjmdajlhfoabGreatDoorKEva
import Derived.Deep.DeepCutAuto
import Derived.Deep.CutBlock
set_option maxHeartbeats 16000000
namespace Go.Proofs.YtenfjmdajlhfoabGreatDoor
open Go.RowKit
set_option linter.unusedVariables false
set_option maxRecDepth 100000
theorem firstE (v:Value) (l:List Cl.C) (b:Nat) (ds:List Int) (w:World) (h:RdC w w.heap.size v l) (hd:ds.length=l.length) (hl:l.length≤1000000)
 (hc:∀ (i:Nat) (c:Cl.C) (d:Int) (w1:World),l[i]?=some c→ds[i]?=some d→Below w.heap.size w w1→Calls Tryz.prog 55 #[.int .i64 (i:Nat),cv c,.pointer (some ⟨b,0,none⟩)] w1 fun e w2=>e=.returned (.int .i64 d)∧Below w1.heap.size w1 w2) :
 Calls Tryz.prog 54 #[v,.func (.func 55) #[] #[.pointer (some ⟨b,0,none⟩)]] w fun e w'=>e=.returned (.int .i64 (Rw.fnz ds))∧Below w.heap.size w w':=by
 have HR:=hZ h
 have HC:=hZ hc
 have HD:=hZ hd
 obtain⟨a,c,rfl,_⟩:=Gn.Rd.form h
 clear h hc hd
 go_enter Tryz.func54,Tryz.ntmps54
 go_wp2_with fail
 go_loopw [10] (fun i wr=>∃ k:Nat,k≤l.length∧i=.int .i64 (k:Nat)∧Hid (Rw.fnz (ds.drop k)=Rw.fnz ds)∧Hid (Below w.heap.size w wr)) (fun i _=>l.length - (intOf i).toNat)
 case atStart=>exact⟨0,by omega,by rfl,hZ rfl,hZ (Below.refl _ _)⟩
 case round =>
  obtain⟨k,hk,rfl,HE,HU⟩:=hrel
  by_cases hlt:k < l.length
  ·have hlt1:(k:Int) < l.length:=by omega
   obtain⟨x,hx⟩:∃ x,l[k]?=some x:=⟨_,List.getElem?_eq_getElem hlt⟩
   obtain⟨d,hdd⟩:∃ d,ds[k]?=some d:=⟨_,List.getElem?_eq_getElem (by rw [HD.out];exact hlt)⟩
   obtain⟨b1,o1,rfl,p0,p1,p2⟩:=rdC_cells HR.out HU.out hx
   have HK:=hZ (fun w1 hb=>HC.out k x d w1 hx hdd hb)
   have HE2:=hZ ((Rw.fnz_drop hdd).symm.trans HE.out)
   unfold cv at HK
   obtain⟨xu,xn,xs⟩:=x
   simp only at p0 p1 p2 HK
   clear hx hdd HE HC
   have HU1:=hZ (HU.out.alloc HU.out.size (.cells #[.bool xu,.int .i64 xn,.string xs] 61))
   by_cases hz:d=0
   ·subst hz
    rw [if_neg (by omega)] at HE2
    go_wp2_with fail
    ((with_reducible refine (HK.out _ HU1.out).mono ?_);rintro e w1 ⟨rfl,b1⟩)
    have HU2:=hZ (HU1.out.trans (b1.mono HU1.out.size))
    clear b1 HU1 HK
    go_wp2_with fail
    go_roundw
    case rel=>exact⟨k+1,by omega,by go_num,HE2,HU2⟩
    case measure=>simp [intOf];omega
   ·rw [if_pos hz] at HE2
    have hz1:(d != 0)=true:=by simpa using hz
    go_wp2_with fail
    ((with_reducible refine (HK.out _ HU1.out).mono ?_);rintro e w1 ⟨rfl,b1⟩)
    have HU2:=hZ (HU1.out.trans (b1.mono HU1.out.size))
    clear b1 HU1 HK
    go_wp2_with fail
    go_ret
    exact⟨congrArg (fun z=>Ending.returned (.int .i64 z)) HE2.out,HU2.out⟩
  ·have hlt1:¬ (k:Int) < l.length:=by omega
   have e:Rw.fnz ds=0:=HE.out.symm.trans (Rw.fnz_end (by rw [HD.out];omega))
   go_wp2_with fail
   go_ret
   exact⟨rfl,HU.out⟩
def outs {α:Type} (z:α) (out:Nat→α) (s k:Nat):List α:=(List.range k).map out++List.replicate (s - k) z
theorem made_cells (z:Value) (n:Nat) (hz:0 < z.cells.size):(madeCells z.cells (n * z.cells.size)).toList=(List.replicate n z.cells.toList).flatten:=by
 induction n with
 | zero=>simp [madeCells]
 | succ n ih =>
  rw [List.replicate_succ',List.flatten_append,← ih]
  apply List.ext_getElem?
  intro j
  have hl:∀ m,(madeCells z.cells m).size=m:=fun m=>by simp [madeCells]
  by_cases hj:j < n * z.cells.size
  ·rw [List.getElem?_append_left (by rw [Array.length_toList,hl];exact hj),Array.getElem?_toList,Array.getElem?_toList,Array.getElem?_eq_getElem (by rw [hl,Nat.succ_mul];omega),Array.getElem?_eq_getElem (by rw [hl];exact hj)]
   simp [madeCells]
  ·rw [List.getElem?_append_right (by rw [Array.length_toList,hl];omega),Array.length_toList,hl]
   by_cases hj2:j < (n+1) * z.cells.size
   ·have hlt:j - n * z.cells.size < z.cells.size:=by rw [Nat.succ_mul] at hj2;omega
    have hm:j % z.cells.size=j - n * z.cells.size:=by
     have e:j=(j - n * z.cells.size)+z.cells.size * n:=by rw [Nat.mul_comm z.cells.size n];omega
     calc j % z.cells.size=((j - n * z.cells.size)+z.cells.size * n) % z.cells.size:=congrArg (· % z.cells.size) e
      _=(j - n * z.cells.size) % z.cells.size:=Nat.add_mul_mod_self_left ..
      _=j - n * z.cells.size:=Nat.mod_eq_of_lt hlt
    rw [Array.getElem?_toList,Array.getElem?_eq_getElem (by rw [hl];exact hj2)]
    simp [madeCells,hm,hlt]
   ·rw [Array.getElem?_toList,Array.getElem?_eq_none (by rw [hl];omega),List.getElem?_eq_none]
    simp
    rw [Nat.succ_mul] at hj2
    omega
theorem made_is {α:Type} {enc:α→List Value} {k:Nat} (L:Gn.Lay enc k) (z:Value) (x:α) (n:Nat) (hz:z.cells.size=k) (hx:z.cells.toList=enc x):madeCells z.cells (n * k)=(Gn.cells enc (List.replicate n x)).toArray:=by
 subst hz
 have h:=made_cells z n L.pos
 rw [hx] at h
 rw [← Array.toArray_toList (xs:=madeCells z.cells (n * z.cells.size)),h]
 congr 1
 simp [Gn.cells,List.flatMap_def]
theorem make_run {S T:TypeId} {z:Value} {k nb:Nat} (Y:Gn.Ty S T z k nb) (s:Nat) (hk:k≤100) (hs:s≤100000) (w:World) :
 (Instr.makeSlice S (.int .i64 (s:Nat)) (.int .i64 (s:Nat))).run Tryz.prog w=.ok (.slice (some ⟨w.heap.size,0,none⟩) s s) (w.alloc (.cells (madeCells z.cells (s * k)) T)):=by
 obtain⟨i,hi,hz,hsz,hby⟩:=Y.parts
 have hnb:=Y.nb
 have h1:s * k≤100000 * 100:=Nat.mul_le_mul hs hk
 have h2:s * nb≤100000 * 1000:=Nat.mul_le_mul hs hnb
 have h3:nb * s≤100000 * 1000:=by rw [Nat.mul_comm];exact h2
 have h:=run_makeSlice w S T i z Y.sl hi hz .i64 .i64 (s:Nat) (s:Nat) (by omega) (by omega) (by rw [hsz];simp;omega) (by rw [hby];omega) (by omega)
 simpa [hsz] using h
open Go.RowKit Go.Sort
theorem clCheck (b:Nat) (kv:Value) (ks:List Co) (w:World) (T:TA w) (hk:RdK w w.heap.size kv ks) (hb:Blk w b 22 [kv]) (i:Nat) (x:Co) (hx:ks[i]?=some x) (c:Cl.C) (hi:Cl.I64 c.n) (hm:c.s.size≤1000000) (d0:Int) (hd:((Cl.chk x.u x.k c:Nat):Int)=d0) :
 Calls Tryz.prog 55 #[.int .i64 (i:Nat),cv c,.pointer (some ⟨b,0,none⟩)] w fun e w'=>e=.returned (.int .i64 d0)∧Below w.heap.size w w':=by
 obtain⟨a,cc,rfl,_⟩:=Gn.Rd.form hk
 have hlt:i < ks.length:=(List.getElem?_eq_some_iff.1 hx).1
 have hlt1:(i:Int) < ks.length:=by omega
 have K:=hZ (fun w T=>checks x.u x.k c w T hi hm _ rfl)
 have HB:=hZ (box_new w (.cells (cvc c) 61))
 obtain⟨kb,ko,rfl,p0,p1⟩:=rdK_type hk HB.out hx
 have hb0:=(Blk.later hb HB.out).cell 0
 have hc:=(CV.new w c.u c.n c.s).lie
 have HT:=hZ (T.later HB.out)
 rw [← hd]
 clear hx hk hb hi hm T hd
 obtain⟨cu,cn,cs⟩:=c
 unfold cv cvc at *
 unfold tv at K
 simp only at *
 go_enter Tryz.func55,Tryz.ntmps55
 go_wp2_with fail
 generalize w.alloc (.cells #[.bool cu,.int .i64 cn,.string cs] 61)=wb at *
 obtain⟨c0,c1,c2⟩:=hc
 have q0:=fun d os=>cell_regrown (show wb.cell? ⟨b,0,none⟩=some (.slice (some ⟨kb,ko,none⟩) ks.length cc) from hb0) d os
 have q1:=fun d os=>cell_regrown p0 d os
 have q2:=fun d os=>cell_regrown p1 d os
 have q3:=fun d os=>cell_regrown c0 d os
 have q4:=fun d os=>cell_regrown c1 d os
 have q5:=fun d os=>cell_regrown c2 d os
 have Q:=hZ (fun d os=>Calls.regrown_of (K.out _ (HT.out.later (below_regrown wb d os))))
 clear hb0 p0 p1 c0 c1 c2 K HT
 refine wp_region_quiet_below (by kernel_rfl) (by kernel_rfl) ?_
 iterate 8 (quiet_step (first|with_reducible exact Q.out _ _))
 refine wpQuiet_nil ?_
 intro _ hw'
 obtain⟨⟨dq,osq⟩,hw''⟩:=hw'
 subst hw''
 go_wp2_with fail
 go_ret
 exact⟨rfl,up HB.out (below_regrown wb dq osq)⟩
theorem run_clone (v:Value) (l:List Cl.C) (w:World) (h:RdC w w.heap.size v l) (hl:l.length≤1000000) :
 Calls Tryz.prog 70 #[v] w fun e w'=>∃ v',e=.returned v'∧OwnC w' w.heap.size v' l∧Below w.heap.size w w':=by
 obtain⟨a,cc,rfl,_,_,hn⟩:=Gn.Rd.form h
 have HR:=hZ (Gn.Rd.later h (box_new w (.cells #[] 61)))
 have HO:Hid (OwnC (w.alloc (.cells #[] 61)) w.heap.size (.slice (some ⟨w.heap.size,0,none⟩) 0 0) []):=hZ (Gn.Own.lit clL w w.heap.size [] #[] 0 0 rfl rfl rfl (by simp [maxLen]) (Nat.le_refl _))
 have HU:=hZ (box_new w (.cells #[] 61))
 cases a with
 | none =>
  have hc0:=hn rfl
  subst hc0
  have hl0:l=[]:=by
   obtain⟨_,_,e,h1,_⟩:=h
   injection e with _ _ e
   exact List.eq_nil_of_length_eq_zero (by omega)
  subst hl0
  have qT:∀ w,(binOp .eql 26 (.slice none 0 0) (.slice none 0 0)).run Tryz.prog w=.ok (.bool true) w:=fun w=>Lib.run_eql_slice_nil w 26 61 none 0 0 0 0 Tryz.underlying26
  clear h HR HO HU
  rw [List.length_nil]
  go_enter Tryz.func70,Tryz.ntmps70
  go_wp2_with fail
  go_ret
  exact⟨_,rfl,Gn.Own.nil _ _,Below.refl _ _⟩
 | some ad =>
  have qT:∀ w,(binOp .eql 26 (.slice (some ad) l.length cc) (.slice none 0 0)).run Tryz.prog w=.ok (.bool false) w:=fun w=>Lib.run_eql_slice_nil w 26 61 (some ad) _ cc 0 0 Tryz.underlying26
  clear h
  go_enter Tryz.func70,Tryz.ntmps70
  go_wp2_with (at_builtin
               refine Gn.wpList_app clL clY rfl (.tmp 5) (.tmp 6) rfl w.heap.size _ [] rfl HO.out _ l rfl HR.out (by simp;omega) HU.out.size ?_
               intro v1 w1 ho1 hg1 hl1 hn1)
  go_ret
  exact⟨_,rfl,ho1,HU.out.trans ((Gn.below_of_own HO.out hg1 HU.out.size))⟩
theorem rowCopy (v:Value) (l:List Cl.C) (w:World) (h:RdC w w.heap.size v l) (hl:l.length≤1000000) :
 Calls Tryz.prog 45 #[v] w fun e w'=>∃ v',e=.returned v'∧OwnC w' w.heap.size v' l∧Below w.heap.size w w':=by
 have HR:=hZ h
 clear h
 go_enter Tryz.func45,Tryz.ntmps45
 go_wp2_with fail
 ((with_reducible refine (run_clone v l _ HR.out hl).mono ?_);rintro e w1 ⟨v1,rfl,ho,hb⟩)
 have HO:=hZ ho
 have HB:=hZ hb
 clear ho hb
 go_wp2_with fail
 go_ret
 exact⟨_,rfl,HO.out,HB.out⟩
theorem chkL_at {ks:List Co} {r:List Cl.C} {i:Nat} {c:Cl.C} {d:Int} (hc:r[i]?=some c) (hd:(Rw.chkL (tys ks) r)[i]?=some d):∃ x,ks[i]?=some x∧((Cl.chk x.u x.k c:Nat):Int)=d:=by
 unfold Rw.chkL at hd
 rw [List.getElem?_zipWith,hc] at hd
 cases hk:ks[i]? with
 | none =>
  have:(tys ks)[i]?=none:=by unfold tys;rw [List.getElem?_map,hk];rfl
  rw [this] at hd;cases hd
 | some x =>
  rw [tys_at hk] at hd
  injection hd with hd
  exact⟨x,rfl,hd⟩
theorem rowCheck (kv rv:Value) (ks:List Co) (r:List Cl.C) (w:World) (T:TA w) (hk:RdK w w.heap.size kv ks) (hr:RdC w w.heap.size rv r) (hl:r.length≤1000000) (hi:∀ c∈r,Cl.I64 c.n) (hm:∀ c∈r,c.s.size≤1000000) (d:Int) (hd:Rw.chkR (tys ks) r=d) :
 Calls Tryz.prog 31 #[kv,rv] w fun e w'=>e=.returned (.int .i64 d)∧Below w.heap.size w w':=by
 have HB:=hZ (box_new w (.cells #[kv] 22))
 have HX:=hZ (Blk.new w 22 #[kv])
 have HT:=hZ (T.later HB.out)
 have HK:=hZ (hk.later HB.out)
 have HR:=hZ (hr.later HB.out)
 have HI:=hZ hi
 have HM:=hZ hm
 obtain⟨a,cc,rfl,_⟩:=Gn.Rd.form hk
 obtain⟨a',cc',rfl,_⟩:=Gn.Rd.form hr
 have h0:(w.alloc (.cells #[.slice a ks.length cc] 22)).cell? ⟨w.heap.size,0,none⟩=some (.slice a ks.length cc):=HX.out.cell 0
 have hlk:=Gn.Rd.len' hk
 clear hk hr T hi hm
 by_cases hn:r.length=ks.length
 ·have hn1:((r.length:Int) != (ks.length:Nat))=false:=by simp;omega
  have e:Rw.fnz (Rw.chkL (tys ks) r)=d:=by
   unfold Rw.chkR at hd
   rw [tys_len,if_neg (by omega)] at hd
   exact hd
  have HE:=hZ e
  have HL:=hZ (show (Rw.chkL (tys ks) r).length=r.length by unfold Rw.chkL;rw [List.length_zipWith,tys_len];omega)
  clear hd e hn
  go_enter Tryz.func31,Tryz.ntmps31
  go_wp2_with fail
  generalize w.alloc (.cells #[.slice a ks.length cc] 22)=wb at *
  ((with_reducible refine (firstE _ r w.heap.size (Rw.chkL (tys ks) r) _ HR.out HL.out hl (fun i c d w1 hc hdd hb1=>?_)).mono ?_))
  ·obtain⟨x,hx,he⟩:=chkL_at hc hdd
   exact clCheck w.heap.size _ ks w1 (HT.out.later hb1) (HK.out.later hb1) (Blk.later HX.out hb1) i x hx c (HI.out c (List.mem_of_getElem? hc)) (HM.out c (List.mem_of_getElem? hc)) d he
  rintro e w1 ⟨rfl,b1⟩
  have HB2:=hZ (up HB.out b1)
  clear b1
  go_wp2_with fail
  go_ret
  exact⟨congrArg (fun z=>Ending.returned (.int .i64 z)) HE.out,HB2.out⟩
 ·have hn1:((r.length:Int) != (ks.length:Nat))=true:=by simp;omega
  have e:d=100:=by
   unfold Rw.chkR at hd
   rw [tys_len,if_pos hn] at hd
   exact hd.symm
  subst e
  clear hd
  go_enter Tryz.func31,Tryz.ntmps31
  go_wp2_with fail
  go_ret
  exact⟨rfl,HB.out⟩
open Go.RowKit Go.Shelf
set_option linter.unusedSimpArgs false
attribute [local go_sem] Oper.semAt_some
theorem clc_setAt:∀ (l:List Cl.C) (i:Nat) (x:Cl.C),i < l.length→(((Gn.cells clc l).set (i * 3) (.bool x.u)).set (i * 3+1) (.int .i64 x.n)).set (i * 3+2) (.string x.s)=Gn.cells clc (l.set i x)
 | [],i,x,h=>by simp at h
 | y::t,0,x,_=>rfl
 | y::t,i+1,x,h=>by
  have ih:=clc_setAt t i x (by simpa using h)
  rw [List.set_cons_succ,Gn.cells_cons,Gn.cells_cons,← ih]
  rw [show (i+1) * 3=i * 3+3 by omega,show i * 3+3+1=i * 3+1+3 by omega,show i * 3+3+2=i * 3+2+3 by omega]
  rfl
def put3W (w:World) (g o:Nat) (x:Cl.C):World:=((w.setCell ⟨g,o,none⟩ (.bool x.u)).setCell ⟨g,o+1,none⟩ (.int .i64 x.n)).setCell ⟨g,o+2,none⟩ (.string x.s)
theorem own_put3 {w:World} {base g n cap i:Nat} {l:List Cl.C} (h:OwnC w base (.slice (some ⟨g,0,none⟩) n cap) l) (hn:l.length=n) (hi:i < n) (x:Cl.C) :
 OwnC (put3W w g (i * 3) x) base (.slice (some ⟨g,0,none⟩) n cap) (l.set i x):=by
 unfold OwnC Gn.Own at h ⊢
 rw [List.length_set]
 rw [hn] at h ⊢
 have h3:=(((h.stored (i * 3) (.bool x.u)).1.stored (i * 3+1) (.int .i64 x.n)).1.stored (i * 3+2) (.string x.s)).1
 rw [clc_setAt l i x (by omega)] at h3
 exact h3
theorem own_there3 {w:World} {base g n cap i:Nat} {l:List Cl.C} (h:OwnC w base (.slice (some ⟨g,0,none⟩) n cap) l) (hn:l.length=n) (hi:i < n) :
 (∃ a b c,w.cell? ⟨g,i * 3,none⟩=some a∧w.cell? ⟨g,i * 3+1,none⟩=some b∧w.cell? ⟨g,i * 3+2,none⟩=some c)∧w.frozen? ⟨g,i * 3,none⟩=false∧w.frozen? ⟨g,i * 3+1,none⟩=false∧w.frozen? ⟨g,i * 3+2,none⟩=false:=by
 unfold OwnC Gn.Own at h
 rw [hn] at h
 have hc:=Gn.cells_len clL l
 have g:∀ k,i * 3+k < (Gn.cells clc l).length→∃ v,w.cell? ⟨g,i * 3+k,none⟩=some v:=fun k hk=>⟨_,(h.cellAt (i * 3+k) (by omega)).trans (List.getElem?_eq_getElem hk)⟩
 obtain⟨a,ha⟩:=g 0 (by omega)
 obtain⟨b,hb⟩:=g 1 (by omega)
 obtain⟨c,hcc⟩:=g 2 (by omega)
 exact⟨⟨a,b,c,ha,hb,hcc⟩,h.frozenAt _,h.frozenAt _,h.frozenAt _⟩
def mst (a:List Co) (r:List Cl.C) {b:List Co} (xs:List (IA b)):List Cl.C:=xs.foldl (fun s x=>s.set x.1.1 (Ev.mv1 a r x.1.2)) (List.replicate b.length Cl.empty)
theorem mst_snoc (a:List Co) (r:List Cl.C) {b:List Co} (xs:List (IA b)) (x:IA b):mst a r (xs++[x])=(mst a r xs).set x.1.1 (Ev.mv1 a r x.1.2):=by unfold mst;rw [List.foldl_append];rfl
theorem mst_len (a:List Co) (r:List Cl.C) {b:List Co} (xs:List (IA b)):(mst a r xs).length=b.length:=by
 unfold mst
 have:∀ (s:List Cl.C),(xs.foldl (fun s x=>s.set x.1.1 (Ev.mv1 a r x.1.2)) s).length=s.length:=by
  induction xs with
  | nil=>intro s;rfl
  | cons x xs ih=>intro s;rw [List.foldl_cons,ih,List.length_set]
 rw [this,List.length_replicate]
theorem mst_at (a:List Co) (r:List Cl.C) {b:List Co}:∀ (n:Nat) (xs:List (IA b)),xs.length=n→pl xs=List.range n→∀ i c,i < n→b[i]?=some c→(mst a r xs)[i]?=some (Ev.mv1 a r c)
 | 0,_,_,_,i,c,hi,_=>by omega
 | n+1,xs,hl,hp,i,c,hi,hc=>by
  obtain⟨ys,x,rfl⟩:∃ ys x,xs=ys++[x]:=by
   rcases List.eq_nil_or_concat xs with h|⟨ys,x,h⟩
   ·rw [h] at hl;simp at hl
   ·exact⟨ys,x,by rw [h];simp⟩
  have hyl:ys.length=n:=by simp at hl;exact hl
  unfold pl at hp
  rw [List.map_append,List.range_succ] at hp
  obtain⟨h1,h2⟩:=List.append_inj' hp rfl
  simp at h2
  rw [mst_snoc]
  by_cases he:i=n
  ·subst he
   have:=x.2
   rw [h2,hc] at this
   injection this with this
   rw [h2,List.getElem?_set_self (by rw [mst_len];exact (List.getElem?_eq_some_iff.1 hc).1),this]
  ·rw [h2,List.getElem?_set_ne (by omega)]
   exact mst_at a r n ys hyl h1 i c (by omega) hc
theorem mst_all (a:List Co) (r:List Cl.C) {b:List Co} {xs:List (IA b)} (h:pl xs=List.range b.length):mst a r xs=Ev.mvd a b r:=by
 have hl:xs.length=b.length:=by have:=congrArg List.length h;simpa [pl] using this
 refine List.ext_getElem? fun i=>?_
 rcases Nat.lt_or_ge i b.length with hi|hi
 ·obtain⟨c,hc⟩:∃ c,b[i]?=some c:=⟨_,List.getElem?_eq_getElem hi⟩
  rw [mst_at a r b.length xs hl h i c hi hc,Ev.mvd_at hc]
 ·rw [List.getElem?_eq_none (by rw [mst_len];exact hi),List.getElem?_eq_none (by rw [Ev.mvd_len];exact hi)]
structure VW (w:World) (va ka vb kb rv:Value) (n:Nat) (L:List Cl.C) (W:World):Prop where
 sa:Blk W w.heap.size 25 [va,ka]
 sb:Blk W (w.heap.size+1) 25 [vb,kb]
 sr:Blk W (w.heap.size+2) 26 [rv]
 bx:Blk W (w.heap.size+4) 26 [.slice (some ⟨w.heap.size+3,0,none⟩) n n]
 o:OwnC W w.heap.size (.slice (some ⟨w.heap.size+3,0,none⟩) n n) L
 b:Below w.heap.size w W
 z:w.heap.size+6≤W.heap.size
theorem VW.later {w W W':World} {va ka vb kb rv:Value} {n:Nat} {L:List Cl.C} (h:VW w va ka vb kb rv n L W) (hb:Below W.heap.size W W'):VW w va ka vb kb rv n L W' :=
 ⟨h.sa.later hb,h.sb.later hb,h.sr.later hb,h.bx.later hb,Gn.Own.later h.o hb,up h.b hb,Nat.le_trans h.z hb.size⟩
theorem VW.still {w W W':World} {va ka vb kb rv:Value} {n:Nat} {L:List Cl.C} {row:Option Nat} {B:Nat} (h:VW w va ka vb kb rv n L W) (hg:W.grownBy W' row) (hr:∀ r,row=some r→B≤r∧∃ o:Obj,W.heap[r]?=some o∧o.isCells=false) (hB:w.heap.size≤B):VW w va ka vb kb rv n L W':=by
 have hn:NoCells W row:=fun r e=>(hr r e).2
 exact⟨h.sa.still hg hn,h.sb.still hg hn,h.sr.still hg hn,h.bx.still hg hn,own_still h.o hg hn,h.b.grown hg h.b.size (fun g e=>Nat.le_trans hB (hr g e).1),Nat.le_trans h.z hg.size⟩
theorem VW.put {w W:World} {va ka vb kb rv:Value} {n i:Nat} {L:List Cl.C} (h:VW w va ka vb kb rv n L W) (hl:L.length=n) (hi:i < n) (x:Cl.C):VW w va ka vb kb rv n (L.set i x) (put3W W (w.heap.size+3) (i * 3) x):=by
 have f:∀ {g:Nat} {t:TypeId} {cs:List Value},Blk W g t cs→g≠w.heap.size+3→Blk (put3W W (w.heap.size+3) (i * 3) x) g t cs:=fun hb hn =>
  ((hb.far (by simp only;omega) _).far (by simp only;omega) _).far (by simp only;omega) _
 refine⟨f h.sa (by omega),f h.sb (by omega),f h.sr (by omega),f h.bx (by omega),own_put3 h.o hl hi x,?_,?_⟩
 ·exact ((h.b.setCell (by simp only;omega) _).setCell (by simp only;omega) _).setCell (by simp only;omega) _
 ·have:=h.z;unfold put3W;simp;omega
theorem Go2.touch {H B:Nat} {W0 W W':World} {S:Nat→Prop} (h:Go2 H B W0 W) (ht:Touch S W W') (hS:∀ q,S q→H≤q∧∃ o:Obj,W.heap[q]?=some o∧o.isCells=true) (hH:H≤W.heap.size):Go2 H B W0 W' :=
 ⟨h.kf.trans ⟨ht.size,fun k o _ hk ho=>(ht.block k (Array.getElem?_eq_some_iff.1 hk).1 (fun hs=>by
  obtain⟨_,o',h1,h2⟩:=hS k hs
  rw [h1] at hk;injection hk with hk;subst hk;rw [h2] at ho;cases ho)).trans hk⟩,h.blw.trans (ht.below hH (fun q hq=>(hS q hq).1))⟩
theorem VW.row {w W:World} {va ka vb kb rv:Value} {n:Nat} {L:List Cl.C} (h:VW w va ka vb kb rv n L W):∃ o:Obj,W.heap[w.heap.size+3]?=some o∧o.isCells=true:=by
 rcases h.o.2 with ⟨e,_⟩|⟨g,cap,cur,e,_,hh,_⟩
 ·cases e
 ·injection e with e
  injection e with e
  injection e with e
  subst e
  exact⟨_,hh,rfl⟩
def MI (w:World) (va ka vb kb rv:Value) (n:Nat) (L L':List Cl.C) (b:Bool) (u:World):Prop:=VW w va ka vb kb rv n (match b with|true=>L' | false=>L) u
theorem mvd_one (a:List Co) (r:List Cl.C) (c:Co) (n:Nat) (y:Bool) (h:Ev.fid a c.id=(n,y)):Ev.mv1 a r c=if y=true then r.getD n Cl.empty else c.d:=by unfold Ev.mv1;rw [h]
theorem cMoved (xa xb:Sx) (hN:SmOk xa.s) (hM:SmOk xb.s) (rv:Value) (r:List Cl.C) (w:World) (ha:RdS w w.heap.size xa) (hb:RdS w w.heap.size xb) (hr:RdC w w.heap.size rv r) (hlr:r.length=xa.s.1.length) (hnb:xb.s.1.length≤1000) :
 Calls Tryz.prog 46 #[.agg #[xa.v,xa.kv],.agg #[xb.v,xb.kv],rv] w fun e w'=>∃ u,e=.returned u∧OwnC w' w.heap.size u (Ev.mvd xa.s.1 xb.s.1 r)∧Below w.heap.size w w':=by
 obtain⟨a1,c1,a2,c2,⟨la,ka⟩⟩:=xa
 obtain⟨a3,c3,a4,c4,⟨lb,kb⟩⟩:=xb
 unfold Sx.v Sx.kv at *
 obtain⟨hka,hia⟩:=ha
 obtain⟨hkb,hib⟩:=hb
 unfold Sx.v at hka hkb
 have hna:=hN.n
 simp only at hka hkb hna hlr hnb ⊢
 obtain⟨ar,cr,rfl,_⟩:=Gn.Rd.form hr
 have hmm:=fun (W:World)=>make_run clY lb.length (by omega) (by omega) W
 have hme:=made_is clL clz Cl.empty lb.length rfl rfl
 obtain⟨M,hM0⟩:∃ M,madeCells clz.cells (lb.length * 3)=M:=⟨_,rfl⟩
 rw [hM0] at hme
 simp only [hM0] at hmm
 obtain⟨wa,hwa⟩:∃ wa,wa=((((w.alloc (.cells #[.slice a1 la.length c1,.slice a2 ka.length c2] 25)).alloc (.cells #[.slice a3 lb.length c3,.slice a4 kb.length c4] 25)).alloc (.cells #[.slice ar r.length cr] 26)).alloc (.cells M 61)).alloc (.cells #[.slice (some ⟨w.heap.size+3,0,none⟩) lb.length lb.length] 26):=⟨_,rfl⟩
 obtain⟨wb,hwb⟩:∃ wb,wb=wa.alloc (.cells #[.slice a3 lb.length c3,.slice a4 kb.length c4] 25):=⟨_,rfl⟩
 have hsa:wa.heap.size=w.heap.size+5:=by rw [hwa];simp
 have hsb:wb.heap.size=w.heap.size+6:=by rw [hwb];simp [hsa]
 have B1:Below w.heap.size w wa:=by rw [hwa];exact up_box (up_box (up_box (up_box (box_new _ _) _) _) _) _
 have B2:Below w.heap.size w wb:=by rw [hwb];exact up_box B1 _
 have hab:Below wa.heap.size wa wb:=by rw [hwb];exact box_new _ _
 have R:∀ (W:World) (t:TypeId) (cs:Array Value) (n:Nat),W.heap.size=n→Blk (W.alloc (.cells cs t)) n t cs.toList:=fun W t cs n e=>by subst e;exact Blk.new W t cs
 have HV0:VW w (.slice a1 la.length c1) (.slice a2 ka.length c2) (.slice a3 lb.length c3) (.slice a4 kb.length c4) (.slice ar r.length cr) lb.length (List.replicate lb.length Cl.empty) wb:=by
  refine⟨Blk.later ?_ hab,Blk.later ?_ hab,Blk.later ?_ hab,Blk.later ?_ hab,Gn.Own.later ?_ hab,B2,by omega⟩<;>rw [hwa]
  ·exact ((((R w _ _ _ rfl).later (box_new _ _)).later (box_new _ _)).later (box_new _ _)).later (box_new _ _)
  ·exact (((R _ _ _ _ (by simp)).later (box_new _ _)).later (box_new _ _)).later (box_new _ _)
  ·exact ((R _ _ _ _ (by simp)).later (box_new _ _)).later (box_new _ _)
  ·exact R _ _ _ _ (by simp)
  ·have h5:(((w.alloc (.cells #[.slice a1 la.length c1,.slice a2 ka.length c2] 25)).alloc (.cells #[.slice a3 lb.length c3,.slice a4 kb.length c4] 25)).alloc (.cells #[.slice ar r.length cr] 26)).heap.size=w.heap.size+3:=by simp
   have h6:=Gn.Own.lit (T:=61) clL (((w.alloc (.cells #[.slice a1 la.length c1,.slice a2 ka.length c2] 25)).alloc (.cells #[.slice a3 lb.length c3,.slice a4 kb.length c4] 25)).alloc (.cells #[.slice ar r.length cr] 26)) w.heap.size (List.replicate lb.length Cl.empty) M lb.length lb.length hme (by simp) rfl (by simp [maxLen];omega) (by omega)
   rw [h5] at h6
   exact Gn.Own.later h6 (box_new _ _)
 have hg2:wb.cell? ⟨w.heap.size+5,0,none⟩=some (.slice a3 lb.length c3):=by
  have:=(Blk.new wa 25 #[.slice a3 lb.length c3,.slice a4 kb.length c4]).cell 0
  rw [hsa] at this
  rw [hwb]
  exact this
 have HST:=hZ (ids_stops 7 (w.heap.size+5) w.heap.size (by omega) a3 c3 lb (by omega) wb (by omega) (by omega) hg2 (Gn.Rd.below hkb B2 (Nat.le_refl _)))
 have CP:=hZ (ids_new (.slice a3 lb.length c3) (.slice a4 kb.length c4) wa)
 rw [hsa] at CP
 have HV:=hZ HV0
 have HA:=hZ hka
 have HB:=hZ hkb
 have HR:=hZ hr
 have HSB:=hZ hsb
 have HLR:=hZ hlr
 have HMS:=hZ hM0
 clear hka hkb hia hib hr B1 B2 hab R HV0 hg2 hsa hsb hN hM hme hM0 hlr
 refine (callsIn_wide (n:=8)).1 ?_
 refine callsIn_of_wp_marks Tryz.func46 rfl trivial ?_ rfl
 simp only [Tryz.ntmps46,List.size_toArray,List.length_cons,List.length_nil,Nat.reduceAdd,Nat.reduceSub,Array.replicate_succ,Array.replicate_zero,List.push_toArray,List.append_toArray,List.nil_append,List.cons_append]
 gi_wp2_with fail
 rw [← hwa]
 refine⟨trivial,(callsIn_wide.2 CP.out).mono ?_⟩
 rintro e w2 ⟨rfl,hw2⟩
 rw [← hwb] at hw2
 subst hw2
 clear CP hwb hwa hmm
 gi_wp2_with fail
 refine wpIn_rangeFunc_ownG rfl (by omega) (gf:=85) (lb:=#[.pointer (some ⟨w.heap.size+5,0,none⟩)]) rfl trivial (enters_of Tryz.func85 (by kernel_rfl) rfl)
  HST.out belowK_t (belowK_b (by have:=HSB.out;omega)) (Below.refl _ _) (fun _=>rfl)
  (fun pre W=>VW w (.slice a1 la.length c1) (.slice a2 ka.length c2) (.slice a3 lb.length c3) (.slice a4 kb.length c4) (.slice ar r.length cr) lb.length (mst la r pre) W)
  (fun c pre W=>False) ?own ?ownx ?start ?a1 ?assign ?body ?done ?stop
 case assign =>
  intro l x W K hK
  dsimp only [enci]
  gi_wp2
  exact hK
 case own =>
  rintro pre W W' row h hg hr
  exact h.still hg hr (by have:=HSB.out;omega)
 case ownx=>exact fun c pre W W' row h=>h.elim
 case start=>exact HV.out
 case body =>
  rintro ll pre x W hv hlen
  obtain⟨⟨i,c⟩,hx⟩:=x
  simp only at hx
  have hi:i < lb.length:=(List.getElem?_eq_some_iff.1 hx).1
  have hi1:(i:Int) < lb.length:=by omega
  obtain⟨n,y,hfd⟩:∃ n y,Ev.fid la c.id=(n,y):=⟨_,_,rfl⟩
  have HSN:=hZ (mst_snoc la r pre ⟨(i,c),hx⟩)
  have hm1:=mvd_one la r c n y hfd
  have hlm:=mst_len la r pre
  obtain⟨b1,o1,rfl,p0,p1,p2,p3,p4,p5,p6⟩:=rdK_cells HB.out hv.b hx
  have HB1:Hid (b1 < w.heap.size):=hZ (by obtain⟨b',off',e,hlt,_⟩:=Gn.Rd.at HB.out (Below.refl _ _) hi;injection e with e;injection e with e;omega)
  clear p0 p1 p2 p3
  obtain⟨⟨v0,v1,v2,q0,q1,q2⟩,f0,f1,f2⟩:=own_there3 hv.o hlm hi
  have d0:=hv.sb.cell 0
  have d1:=hv.bx.cell 0
  simp only [zD,zE] at d0 d1
  have HP:=hZ hv
  have HHI:=hZ hi
  have HLM:=hZ hlm
  have HG:=hZ (Go2.refl w.heap.size w2.heap.size W)
  have HXX:=hZ hx
  clear hlen hv f0 f1 f2 q0 q1 q2 hlm
  obtain⟨lm,hlm⟩:∃ lm,mst la r pre=lm:=⟨_,rfl⟩
  rw [hlm] at HP HLM HSN
  clear hlm
  gi_wp2_with fail
  refine region_growR_merge (fun u v=>Touch (fun q=>q=w.heap.size+3) u v) (fun d u=>MI w (.slice a1 la.length c1) (.slice a2 ka.length c2) (.slice (some ⟨b1,o1,none⟩) lb.length c3) (.slice a4 kb.length c4) (.slice ar r.length cr) lb.length (lm) ((lm).set i c.d) (d 9) u) (fun _ _ _=>True) (fun u=>Touch.refl _ _) (fun _ _ _ h k=>h.trans k (fun _ h=>.inl h)) (kjI #[Spc.eq (.slice (some ⟨w.heap.size+3,0,none⟩) lb.length lb.length),Spc.eq (.int .i64 (i:Nat)),Spc.eq (.pointer (some ⟨w.heap.size+1,0,none⟩)),Spc.eq (.slice (some ⟨b1,o1,none⟩) lb.length c3),Spc.eq (.int .i64 (i:Nat)),Spc.eq (.pointer (some ⟨b1,o1+i * 7,none⟩)),Spc.eq (.pointer (some ⟨b1,o1+i * 7+4,none⟩)),Spc.eq (.agg #[.bool c.d.u,.int .i64 c.d.n,.string c.d.s]),Spc.eq (.pointer (some ⟨w.heap.size+3,i * 3,none⟩)),Spc.any]) [20,21,22,23,24,25,26,27,28] (fun ts u=>VW w (.slice a1 la.length c1) (.slice a2 ka.length c2) (.slice (some ⟨b1,o1,none⟩) lb.length c3) (.slice a4 kb.length c4) (.slice ar r.length cr) lb.length ((lm).set i c.d) u∧Touch (fun q=>q=w.heap.size+3) W.drew u) (by kernel_rfl) (by kernel_rfl) (by kernel_rfl) kjI_later (HP.out.later (Below.refl _ _).drew) ?_ ?_ ?_
  ·intro QQ fd jo o a w1 ho hfd hdd hI hb hs hold hdep
   have hjo:jo < 10:=(Array.getElem?_eq_some_iff.1 ho).1
   skip
   have d0':w1.cell? ⟨w.heap.size+1,0,none⟩=some (.slice (some ⟨b1,o1,none⟩) lb.length c3):=(hb.cell (p:=⟨w.heap.size+1,0,none⟩) (cell_lt (w:=W) d0) (by have:=hi;simp only;omega)).trans d0
   have d1':w1.cell? ⟨w.heap.size+4,0,none⟩=some (.slice (some ⟨w.heap.size+3,0,none⟩) lb.length lb.length):=(hb.cell (p:=⟨w.heap.size+4,0,none⟩) (cell_lt (w:=W) d1) (by have:=hi;simp only;omega)).trans d1
   have p4':w1.cell? ⟨b1,o1+i * 7+4,none⟩=some (.bool c.d.u):=(hb.cell (p:=⟨b1,o1+i * 7+4,none⟩) (cell_lt (w:=W) p4) (by have:=HB1.out;simp only;omega)).trans p4
   have p5':w1.cell? ⟨b1,o1+i * 7+5,none⟩=some (.int .i64 c.d.n):=(hb.cell (p:=⟨b1,o1+i * 7+5,none⟩) (cell_lt (w:=W) p5) (by have:=HB1.out;simp only;omega)).trans p5
   have p6':w1.cell? ⟨b1,o1+i * 7+6,none⟩=some (.string c.d.s):=(hb.cell (p:=⟨b1,o1+i * 7+6,none⟩) (cell_lt (w:=W) p6) (by have:=HB1.out;simp only;omega)).trans p6
   clear d0 d1 p4 p5 p6
   have e4:a.eval (.tmp 4)=.pointer (some ⟨w.heap.size+1,0,none⟩):=by
    show a.tmps.getD 4 undef=_
    rw [Array.getD_eq_getD_getElem?,hold 4 (by decide +kernel)];rfl
   have e7:a.eval (.tmp 7)=.pointer (some ⟨w.heap.size+4,0,none⟩):=by
    show a.tmps.getD 7 undef=_
    rw [Array.getD_eq_getD_getElem?,hold 7 (by decide +kernel)];rfl
   have e8:a.eval (.tmp 8)=.int .i64 (i:Nat):=by
    show a.tmps.getD 8 undef=_
    rw [Array.getD_eq_getD_getElem?,hold 8 (by decide +kernel)];rfl
   have ec:∀ v,a.eval (.const v)=v:=fun _=>rfl
   clear hold hs
   rcases (show jo=0 ∨ jo=1 ∨ jo=2 ∨ jo=3 ∨ jo=4 ∨ jo=5 ∨ jo=6 ∨ jo=7 ∨ jo=8 ∨ jo=9 by omega) with rfl|rfl|rfl|rfl|rfl|rfl|rfl|rfl|rfl|rfl
   all_goals (have ho2:=ho;simp only [List.getElem?_toArray,zD,zE,Option.some.injEq] at ho2;subst ho2)
   ·refine growR_val (I:=(fun d u=>MI w (.slice a1 la.length c1) (.slice a2 ka.length c2) (.slice (some ⟨b1,o1,none⟩) lb.length c3) (.slice a4 kb.length c4) (.slice ar r.length cr) lb.length (lm) ((lm).set i c.d) (d 9) u)) (X:=(fun _ _ _=>True)) (d:=fd) (a:=a) (w:=w1) (.slice (some ⟨w.heap.size+3,0,none⟩) lb.length lb.length) w1 ho rfl ?_ ((fun u=>Touch.refl _ _) w1) hI trivial rfl
    unfold execOp;simp only [zA,zB,zC,e7,ec];first|rfl|(go_simp;done)|(go_simp;rfl)|(go_simp;omega)
   ·refine growR_val (I:=(fun d u=>MI w (.slice a1 la.length c1) (.slice a2 ka.length c2) (.slice (some ⟨b1,o1,none⟩) lb.length c3) (.slice a4 kb.length c4) (.slice ar r.length cr) lb.length (lm) ((lm).set i c.d) (d 9) u)) (X:=(fun _ _ _=>True)) (d:=fd) (a:=a) (w:=w1) (.int .i64 (i:Nat)) w1 ho rfl ?_ ((fun u=>Touch.refl _ _) w1) hI trivial rfl
    unfold execOp;simp only [zA,zB,zC,e8,ec];first|rfl|(go_simp;done)|(go_simp;rfl)|(go_simp;omega)
   ·refine growR_val (I:=(fun d u=>MI w (.slice a1 la.length c1) (.slice a2 ka.length c2) (.slice (some ⟨b1,o1,none⟩) lb.length c3) (.slice a4 kb.length c4) (.slice ar r.length cr) lb.length (lm) ((lm).set i c.d) (d 9) u)) (X:=(fun _ _ _=>True)) (d:=fd) (a:=a) (w:=w1) (.pointer (some ⟨w.heap.size+1,0,none⟩)) w1 ho rfl ?_ ((fun u=>Touch.refl _ _) w1) hI trivial rfl
    unfold execOp;simp only [zA,zB,zC,e4,ec];first|rfl|(go_simp;done)|(go_simp;rfl)|(go_simp;omega)
   ·have d0:a.eval (.tmp 22)=.pointer (some ⟨w.heap.size+1,0,none⟩):=hdep ⟨2,.data⟩ (by simp) rfl
    refine growR_val (I:=(fun d u=>MI w (.slice a1 la.length c1) (.slice a2 ka.length c2) (.slice (some ⟨b1,o1,none⟩) lb.length c3) (.slice a4 kb.length c4) (.slice ar r.length cr) lb.length (lm) ((lm).set i c.d) (d 9) u)) (X:=(fun _ _ _=>True)) (d:=fd) (a:=a) (w:=w1) (.slice (some ⟨b1,o1,none⟩) lb.length c3) w1 ho rfl ?_ ((fun u=>Touch.refl _ _) w1) hI trivial rfl
    unfold execOp;simp only [zA,zB,zC,d0,ec];first|rfl|(go_simp;done)|(go_simp;rfl)|(go_simp;omega)
   ·refine growR_val (I:=(fun d u=>MI w (.slice a1 la.length c1) (.slice a2 ka.length c2) (.slice (some ⟨b1,o1,none⟩) lb.length c3) (.slice a4 kb.length c4) (.slice ar r.length cr) lb.length (lm) ((lm).set i c.d) (d 9) u)) (X:=(fun _ _ _=>True)) (d:=fd) (a:=a) (w:=w1) (.int .i64 (i:Nat)) w1 ho rfl ?_ ((fun u=>Touch.refl _ _) w1) hI trivial rfl
    unfold execOp;simp only [zA,zB,zC,e8,ec];first|rfl|(go_simp;done)|(go_simp;rfl)|(go_simp;omega)
   ·have d0:a.eval (.tmp 23)=.slice (some ⟨b1,o1,none⟩) lb.length c3:=hdep ⟨3,.data⟩ (by simp) rfl
    have d1:a.eval (.tmp 24)=.int .i64 (i:Nat):=hdep ⟨4,.data⟩ (by simp) rfl
    refine growR_val (I:=(fun d u=>MI w (.slice a1 la.length c1) (.slice a2 ka.length c2) (.slice (some ⟨b1,o1,none⟩) lb.length c3) (.slice a4 kb.length c4) (.slice ar r.length cr) lb.length (lm) ((lm).set i c.d) (d 9) u)) (X:=(fun _ _ _=>True)) (d:=fd) (a:=a) (w:=w1) (.pointer (some ⟨b1,o1+i * 7,none⟩)) w1 ho rfl ?_ ((fun u=>Touch.refl _ _) w1) hI trivial rfl
    unfold execOp;simp only [zA,zB,zC,d0,d1,ec];first|rfl|(go_simp;done)|(go_simp;rfl)|(go_simp;omega)
   ·have d0:a.eval (.tmp 25)=.pointer (some ⟨b1,o1+i * 7,none⟩):=hdep ⟨5,.data⟩ (by simp) rfl
    refine growR_val (I:=(fun d u=>MI w (.slice a1 la.length c1) (.slice a2 ka.length c2) (.slice (some ⟨b1,o1,none⟩) lb.length c3) (.slice a4 kb.length c4) (.slice ar r.length cr) lb.length (lm) ((lm).set i c.d) (d 9) u)) (X:=(fun _ _ _=>True)) (d:=fd) (a:=a) (w:=w1) (.pointer (some ⟨b1,o1+i * 7+4,none⟩)) w1 ho rfl ?_ ((fun u=>Touch.refl _ _) w1) hI trivial rfl
    unfold execOp;simp only [zA,zB,zC,d0,ec];first|rfl|(go_simp;done)|(go_simp;rfl)|(go_simp;omega)
   ·have d0:a.eval (.tmp 26)=.pointer (some ⟨b1,o1+i * 7+4,none⟩):=hdep ⟨6,.data⟩ (by simp) rfl
    refine growR_val (I:=(fun d u=>MI w (.slice a1 la.length c1) (.slice a2 ka.length c2) (.slice (some ⟨b1,o1,none⟩) lb.length c3) (.slice a4 kb.length c4) (.slice ar r.length cr) lb.length (lm) ((lm).set i c.d) (d 9) u)) (X:=(fun _ _ _=>True)) (d:=fd) (a:=a) (w:=w1) (.agg #[.bool c.d.u,.int .i64 c.d.n,.string c.d.s]) w1 ho rfl ?_ ((fun u=>Touch.refl _ _) w1) hI trivial rfl
    unfold execOp;simp only [zA,zB,zC,d0,ec];first|rfl|(go_simp;done)|(go_simp;rfl)|(go_simp;omega)
   ·have d0:a.eval (.tmp 20)=.slice (some ⟨w.heap.size+3,0,none⟩) lb.length lb.length:=hdep ⟨0,.data⟩ (by simp) rfl
    have d1:a.eval (.tmp 21)=.int .i64 (i:Nat):=hdep ⟨1,.data⟩ (by simp) rfl
    refine growR_val (I:=(fun d u=>MI w (.slice a1 la.length c1) (.slice a2 ka.length c2) (.slice (some ⟨b1,o1,none⟩) lb.length c3) (.slice a4 kb.length c4) (.slice ar r.length cr) lb.length (lm) ((lm).set i c.d) (d 9) u)) (X:=(fun _ _ _=>True)) (d:=fd) (a:=a) (w:=w1) (.pointer (some ⟨w.heap.size+3,i * 3,none⟩)) w1 ho rfl ?_ ((fun u=>Touch.refl _ _) w1) hI trivial rfl
    unfold execOp;simp only [zA,zB,zC,d0,d1,ec];first|(go_simp;done)|(go_simp;rfl)|(go_simp;omega)
   ·have d1:a.eval (.tmp 28)=.pointer (some ⟨w.heap.size+3,i * 3,none⟩):=hdep ⟨8,.data⟩ (by simp) rfl
    have d2:a.eval (.tmp 27)=.agg #[.bool c.d.u,.int .i64 c.d.n,.string c.d.s]:=hdep ⟨7,.data⟩ (by simp) rfl
    have hv:VW w (.slice a1 la.length c1) (.slice a2 ka.length c2) (.slice (some ⟨b1,o1,none⟩) lb.length c3) (.slice a4 kb.length c4) (.slice ar r.length cr) lb.length (lm) w1:=by have h:=hI;unfold MI at h;rw [hfd] at h;exact h
    obtain⟨⟨v0,v1,v2,q0,q1,q2⟩,f0,f1,f2⟩:=own_there3 hv.o HLM.out HHI.out
    refine growR_skip (I:=(fun d u=>MI w (.slice a1 la.length c1) (.slice a2 ka.length c2) (.slice (some ⟨b1,o1,none⟩) lb.length c3) (.slice a4 kb.length c4) (.slice ar r.length cr) lb.length (lm) ((lm).set i c.d) (d 9) u)) (X:=(fun _ _ _=>True)) (d:=fd) (a:=a) (w:=w1) (put3W w1 (w.heap.size+3) (i * 3) c.d) ho rfl rfl ?_ (Touch.setCell (S:=fun q=>q=w.heap.size+3) (p:=⟨w.heap.size+3,i * 3+2,none⟩) (Touch.setCell (S:=fun q=>q=w.heap.size+3) (p:=⟨w.heap.size+3,i * 3+1,none⟩) (Touch.setCell (S:=fun q=>q=w.heap.size+3) (p:=⟨w.heap.size+3,i * 3,none⟩) (Touch.refl _ _) rfl _) rfl _) rfl _) (hv.put HLM.out HHI.out c.d) trivial trivial
    unfold execOp put3W
    simp only [d1,d2,ec]
    go_simp
  ·intro a w1 hI hb hj
   exact⟨hI,hb⟩
  rintro ts W5 ⟨hv5,ht5⟩
  simp only [fill,List.setIfInBounds_toArray,List.set_cons_succ,List.set_cons_zero]
  have HG5:=hZ (HG.out.touch ht5.undrew (fun q hq=>by have e:q=w.heap.size+3:=hq;subst e;exact⟨by omega,HP.out.row⟩) (by have:=HP.out.z;omega))
  have HP5:=hZ hv5
  clear hv5 ht5 p4 p5 p6 d0 d1 HP HG
  have d0:=HP5.out.sa.cell 0
  have d1:=HP5.out.sa.cell 1
  simp only [zD,zE] at d0 d1
  have HPL:=hZ (cPlace (.slice a1 la.length c1) (.slice a2 ka.length c2) la c.id W5 (HA.out.later HP5.out.b) hna n y hfd)
  gi_wp2_with fail
  refine⟨trivial,(CallsIn.inRound ll (callsIn_wide.2 HPL.out)).mono ?_⟩
  rintro e W6 ⟨rfl,hb6⟩
  have HG6:=hZ (HG5.out.below (by have:=HP5.out.z;omega) hb6)
  have HP6:=hZ (HP5.out.later hb6)
  clear HPL d0 d1 hb6 HP5 HG5
  cases y with
  | false =>
   rw [if_neg (by decide)] at hm1
   have HE:Hid (mst la r (pre++[⟨(i,c),HXX.out⟩])=lm.set i c.d):=hZ (by rw [HSN.out];show lm.set i (Ev.mv1 la r c)=_;rw [hm1])
   clear hm1 hfd
   gi_wp2_with fail
   exact⟨HG6.out.kf,HG6.out.blw,by have h:=HP6.out;rw [← HE.out] at h;exact h⟩
  | true =>
   rw [if_pos rfl] at hm1
   obtain⟨d,hd,hde⟩:=Ev.fid_some hfd
   have hnr:n < r.length:=by have:=(List.getElem?_eq_some_iff.1 hd).1;have:=HLR.out;omega
   have hn1:(n:Int) < r.length:=by omega
   obtain⟨z,hz⟩:∃ z,r[n]?=some z:=⟨_,List.getElem?_eq_getElem hnr⟩
   have HE:Hid (mst la r (pre++[⟨(i,c),HXX.out⟩])=(lm.set i c.d).set i z):=hZ (by rw [HSN.out];show lm.set i (Ev.mv1 la r c)=_;rw [hm1,Ev.getD_at hz,List.set_set])
   obtain⟨b2,o2,rfl,p4,p5,p6⟩:=rdC_cells HR.out HP6.out.b hz
   have HB2:Hid (b2 < w.heap.size):=hZ (by obtain⟨b',off',e,hlt,_⟩:=Gn.Rd.at HR.out (Below.refl _ _) hnr;injection e with e;injection e with e;omega)
   have HL2:Hid ((lm.set i c.d).length=lb.length):=hZ (by rw [List.length_set];exact HLM.out)
   have d0:=HP6.out.sr.cell 0
   have d1:=HP6.out.bx.cell 0
   simp only [zD,zE] at d0 d1
   clear hm1 hfd hd hde hz hnr
   gi_wp2_with fail
   refine region_growR_merge (fun u v=>Touch (fun q=>q=w.heap.size+3) u v) (fun d u=>MI w (.slice a1 la.length c1) (.slice a2 ka.length c2) (.slice (some ⟨b1,o1,none⟩) lb.length c3) (.slice a4 kb.length c4) (.slice (some ⟨b2,o2,none⟩) r.length cr) lb.length (lm.set i c.d) ((lm.set i c.d).set i z) (d 7) u) (fun _ _ _=>True) (fun u=>Touch.refl _ _) (fun _ _ _ h k=>h.trans k (fun _ h=>.inl h)) (kjI #[Spc.eq (.slice (some ⟨w.heap.size+3,0,none⟩) lb.length lb.length),Spc.eq (.int .i64 (i:Nat)),Spc.eq (.slice (some ⟨b2,o2,none⟩) r.length cr),Spc.eq (.int .i64 (n:Nat)),Spc.eq (.pointer (some ⟨b2,o2+n * 3,none⟩)),Spc.eq (.agg #[.bool z.u,.int .i64 z.n,.string z.s]),Spc.eq (.pointer (some ⟨w.heap.size+3,i * 3,none⟩)),Spc.any]) [36,37,38,39,40,41,42] (fun ts u=>VW w (.slice a1 la.length c1) (.slice a2 ka.length c2) (.slice (some ⟨b1,o1,none⟩) lb.length c3) (.slice a4 kb.length c4) (.slice (some ⟨b2,o2,none⟩) r.length cr) lb.length ((lm.set i c.d).set i z) u∧Touch (fun q=>q=w.heap.size+3) W6.drew u) (by kernel_rfl) (by kernel_rfl) (by kernel_rfl) kjI_later (HP6.out.later (Below.refl _ _).drew) ?_ ?_ ?_
   ·intro QQ fd jo o a w1 ho hfd hdd hI hb hs hold hdep
    have hjo:jo < 8:=(Array.getElem?_eq_some_iff.1 ho).1
    skip
    have d0':w1.cell? ⟨w.heap.size+2,0,none⟩=some (.slice (some ⟨b2,o2,none⟩) r.length cr):=(hb.cell (p:=⟨w.heap.size+2,0,none⟩) (cell_lt (w:=W6) d0) (by have:=hi;simp only;omega)).trans d0
    have d1':w1.cell? ⟨w.heap.size+4,0,none⟩=some (.slice (some ⟨w.heap.size+3,0,none⟩) lb.length lb.length):=(hb.cell (p:=⟨w.heap.size+4,0,none⟩) (cell_lt (w:=W6) d1) (by have:=hi;simp only;omega)).trans d1
    have p4':w1.cell? ⟨b2,o2+n * 3,none⟩=some (.bool z.u):=(hb.cell (p:=⟨b2,o2+n * 3,none⟩) (cell_lt (w:=W6) p4) (by have:=HB2.out;simp only;omega)).trans p4
    have p5':w1.cell? ⟨b2,o2+n * 3+1,none⟩=some (.int .i64 z.n):=(hb.cell (p:=⟨b2,o2+n * 3+1,none⟩) (cell_lt (w:=W6) p5) (by have:=HB2.out;simp only;omega)).trans p5
    have p6':w1.cell? ⟨b2,o2+n * 3+2,none⟩=some (.string z.s):=(hb.cell (p:=⟨b2,o2+n * 3+2,none⟩) (cell_lt (w:=W6) p6) (by have:=HB2.out;simp only;omega)).trans p6
    clear d0 d1 p4 p5 p6
    have e5:a.eval (.tmp 5)=.pointer (some ⟨w.heap.size+2,0,none⟩):=by
     show a.tmps.getD 5 undef=_
     rw [Array.getD_eq_getD_getElem?,hold 5 (by decide +kernel)];rfl
    have e7:a.eval (.tmp 7)=.pointer (some ⟨w.heap.size+4,0,none⟩):=by
     show a.tmps.getD 7 undef=_
     rw [Array.getD_eq_getD_getElem?,hold 7 (by decide +kernel)];rfl
    have e8:a.eval (.tmp 8)=.int .i64 (i:Nat):=by
     show a.tmps.getD 8 undef=_
     rw [Array.getD_eq_getD_getElem?,hold 8 (by decide +kernel)];rfl
    have e10:a.eval (.tmp 10)=.int .i64 (n:Nat):=by
     show a.tmps.getD 10 undef=_
     rw [Array.getD_eq_getD_getElem?,hold 10 (by decide +kernel)];rfl
    have ec:∀ v,a.eval (.const v)=v:=fun _=>rfl
    clear hold hs
    rcases (show jo=0 ∨ jo=1 ∨ jo=2 ∨ jo=3 ∨ jo=4 ∨ jo=5 ∨ jo=6 ∨ jo=7 by omega) with rfl|rfl|rfl|rfl|rfl|rfl|rfl|rfl
    all_goals (have ho2:=ho;simp only [List.getElem?_toArray,zD,zE,Option.some.injEq] at ho2;subst ho2)
    ·refine growR_val (I:=(fun d u=>MI w (.slice a1 la.length c1) (.slice a2 ka.length c2) (.slice (some ⟨b1,o1,none⟩) lb.length c3) (.slice a4 kb.length c4) (.slice (some ⟨b2,o2,none⟩) r.length cr) lb.length (lm.set i c.d) ((lm.set i c.d).set i z) (d 7) u)) (X:=(fun _ _ _=>True)) (d:=fd) (a:=a) (w:=w1) (.slice (some ⟨w.heap.size+3,0,none⟩) lb.length lb.length) w1 ho rfl ?_ ((fun u=>Touch.refl _ _) w1) hI trivial rfl
     unfold execOp;simp only [zA,zB,zC,e7,ec];first|rfl|(go_simp;done)|(go_simp;rfl)|(go_simp;omega)
    ·refine growR_val (I:=(fun d u=>MI w (.slice a1 la.length c1) (.slice a2 ka.length c2) (.slice (some ⟨b1,o1,none⟩) lb.length c3) (.slice a4 kb.length c4) (.slice (some ⟨b2,o2,none⟩) r.length cr) lb.length (lm.set i c.d) ((lm.set i c.d).set i z) (d 7) u)) (X:=(fun _ _ _=>True)) (d:=fd) (a:=a) (w:=w1) (.int .i64 (i:Nat)) w1 ho rfl ?_ ((fun u=>Touch.refl _ _) w1) hI trivial rfl
     unfold execOp;simp only [zA,zB,zC,e8,ec];first|rfl|(go_simp;done)|(go_simp;rfl)|(go_simp;omega)
    ·refine growR_val (I:=(fun d u=>MI w (.slice a1 la.length c1) (.slice a2 ka.length c2) (.slice (some ⟨b1,o1,none⟩) lb.length c3) (.slice a4 kb.length c4) (.slice (some ⟨b2,o2,none⟩) r.length cr) lb.length (lm.set i c.d) ((lm.set i c.d).set i z) (d 7) u)) (X:=(fun _ _ _=>True)) (d:=fd) (a:=a) (w:=w1) (.slice (some ⟨b2,o2,none⟩) r.length cr) w1 ho rfl ?_ ((fun u=>Touch.refl _ _) w1) hI trivial rfl
     unfold execOp;simp only [zA,zB,zC,e5,ec];first|rfl|(go_simp;done)|(go_simp;rfl)|(go_simp;omega)
    ·refine growR_val (I:=(fun d u=>MI w (.slice a1 la.length c1) (.slice a2 ka.length c2) (.slice (some ⟨b1,o1,none⟩) lb.length c3) (.slice a4 kb.length c4) (.slice (some ⟨b2,o2,none⟩) r.length cr) lb.length (lm.set i c.d) ((lm.set i c.d).set i z) (d 7) u)) (X:=(fun _ _ _=>True)) (d:=fd) (a:=a) (w:=w1) (.int .i64 (n:Nat)) w1 ho rfl ?_ ((fun u=>Touch.refl _ _) w1) hI trivial rfl
     unfold execOp;simp only [zA,zB,zC,e10,ec];first|rfl|(go_simp;done)|(go_simp;rfl)|(go_simp;omega)
    ·have d0:a.eval (.tmp 38)=.slice (some ⟨b2,o2,none⟩) r.length cr:=hdep ⟨2,.data⟩ (by simp) rfl
     have d1:a.eval (.tmp 39)=.int .i64 (n:Nat):=hdep ⟨3,.data⟩ (by simp) rfl
     refine growR_val (I:=(fun d u=>MI w (.slice a1 la.length c1) (.slice a2 ka.length c2) (.slice (some ⟨b1,o1,none⟩) lb.length c3) (.slice a4 kb.length c4) (.slice (some ⟨b2,o2,none⟩) r.length cr) lb.length (lm.set i c.d) ((lm.set i c.d).set i z) (d 7) u)) (X:=(fun _ _ _=>True)) (d:=fd) (a:=a) (w:=w1) (.pointer (some ⟨b2,o2+n * 3,none⟩)) w1 ho rfl ?_ ((fun u=>Touch.refl _ _) w1) hI trivial rfl
     unfold execOp;simp only [zA,zB,zC,d0,d1,ec];first|rfl|(go_simp;done)|(go_simp;rfl)|(go_simp;omega)
    ·have d0:a.eval (.tmp 40)=.pointer (some ⟨b2,o2+n * 3,none⟩):=hdep ⟨4,.data⟩ (by simp) rfl
     refine growR_val (I:=(fun d u=>MI w (.slice a1 la.length c1) (.slice a2 ka.length c2) (.slice (some ⟨b1,o1,none⟩) lb.length c3) (.slice a4 kb.length c4) (.slice (some ⟨b2,o2,none⟩) r.length cr) lb.length (lm.set i c.d) ((lm.set i c.d).set i z) (d 7) u)) (X:=(fun _ _ _=>True)) (d:=fd) (a:=a) (w:=w1) (.agg #[.bool z.u,.int .i64 z.n,.string z.s]) w1 ho rfl ?_ ((fun u=>Touch.refl _ _) w1) hI trivial rfl
     unfold execOp;simp only [zA,zB,zC,d0,ec];first|rfl|(go_simp;done)|(go_simp;rfl)|(go_simp;omega)
    ·have d0:a.eval (.tmp 36)=.slice (some ⟨w.heap.size+3,0,none⟩) lb.length lb.length:=hdep ⟨0,.data⟩ (by simp) rfl
     have d1:a.eval (.tmp 37)=.int .i64 (i:Nat):=hdep ⟨1,.data⟩ (by simp) rfl
     refine growR_val (I:=(fun d u=>MI w (.slice a1 la.length c1) (.slice a2 ka.length c2) (.slice (some ⟨b1,o1,none⟩) lb.length c3) (.slice a4 kb.length c4) (.slice (some ⟨b2,o2,none⟩) r.length cr) lb.length (lm.set i c.d) ((lm.set i c.d).set i z) (d 7) u)) (X:=(fun _ _ _=>True)) (d:=fd) (a:=a) (w:=w1) (.pointer (some ⟨w.heap.size+3,i * 3,none⟩)) w1 ho rfl ?_ ((fun u=>Touch.refl _ _) w1) hI trivial rfl
     unfold execOp;simp only [zA,zB,zC,d0,d1,ec];first|(go_simp;done)|(go_simp;rfl)|(go_simp;omega)
    ·have d1:a.eval (.tmp 42)=.pointer (some ⟨w.heap.size+3,i * 3,none⟩):=hdep ⟨6,.data⟩ (by simp) rfl
     have d2:a.eval (.tmp 41)=.agg #[.bool z.u,.int .i64 z.n,.string z.s]:=hdep ⟨5,.data⟩ (by simp) rfl
     have hv:VW w (.slice a1 la.length c1) (.slice a2 ka.length c2) (.slice (some ⟨b1,o1,none⟩) lb.length c3) (.slice a4 kb.length c4) (.slice (some ⟨b2,o2,none⟩) r.length cr) lb.length (lm.set i c.d) w1:=by have h:=hI;unfold MI at h;rw [hfd] at h;exact h
     obtain⟨⟨v0,v1,v2,q0,q1,q2⟩,f0,f1,f2⟩:=own_there3 hv.o HL2.out HHI.out
     refine growR_skip (I:=(fun d u=>MI w (.slice a1 la.length c1) (.slice a2 ka.length c2) (.slice (some ⟨b1,o1,none⟩) lb.length c3) (.slice a4 kb.length c4) (.slice (some ⟨b2,o2,none⟩) r.length cr) lb.length (lm.set i c.d) ((lm.set i c.d).set i z) (d 7) u)) (X:=(fun _ _ _=>True)) (d:=fd) (a:=a) (w:=w1) (put3W w1 (w.heap.size+3) (i * 3) z) ho rfl rfl ?_ (Touch.setCell (S:=fun q=>q=w.heap.size+3) (p:=⟨w.heap.size+3,i * 3+2,none⟩) (Touch.setCell (S:=fun q=>q=w.heap.size+3) (p:=⟨w.heap.size+3,i * 3+1,none⟩) (Touch.setCell (S:=fun q=>q=w.heap.size+3) (p:=⟨w.heap.size+3,i * 3,none⟩) (Touch.refl _ _) rfl _) rfl _) rfl _) (hv.put HL2.out HHI.out z) trivial trivial
     unfold execOp put3W
     simp only [d1,d2,ec]
     go_simp
   ·intro a w1 hI hb hj
    exact⟨hI,hb⟩
   rintro ts W7 ⟨hv7,ht7⟩
   simp only [fill,List.setIfInBounds_toArray,List.set_cons_succ,List.set_cons_zero]
   have HG7:=hZ (HG6.out.touch ht7.undrew (fun q hq=>by have e:q=w.heap.size+3:=hq;subst e;exact⟨by omega,HP6.out.row⟩) (by have:=HP6.out.z;omega))
   have HP7:=hZ hv7
   clear hv7 ht7 p4 p5 p6 d0 d1
   gi_wp2_with fail
   exact⟨HG7.out.kf,HG7.out.blw,by have h:=HP7.out;rw [← HE.out] at h;exact h⟩
 case done =>
  rintro D xs W hD hx hv hKD
  have hD6:w.heap.size+6≤D:=by have:=HSB.out;omega
  have HAA:Hid (mst la r xs=Ev.mvd la lb r):=hZ (mst_all la r hx)
  have HM:=hZ hv
  have q0:=hv.bx.cell 0
  simp only [zD,zE] at q0
  clear hx hv
  gi_wp2_with fail
  have hg:=grownBy_putObj' W D (.deferred none)
  have hn:NoCells W (some D):=fun r e=>by injection e with e;subst e;exact⟨_,hKD,rfl⟩
  refine⟨by simp,.inl ⟨_,_,rfl,run_takeDeferred hKD,?_⟩⟩
  refine⟨_,results_tmp rfl _ _ _,_,rfl,?_,?_⟩
  ·rw [← HAA.out];exact own_still HM.out.o hg hn
  ·exact HM.out.b.grown hg HM.out.b.size (fun g e=>by injection e with e;omega)
 case stop=>exact fun D c pre W _ _ h=>h.elim
end Go.Proofs.YtenfjmdajlhfoabGreatDoor
