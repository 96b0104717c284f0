/- Texts. -/
import Derived.Test.YtenfjmdajlhfoabGreatDoorTU4
import Derived.Test.YtenfjmdajlhfoabGreatDoorTClFr
namespace Go.Proofs.YtenfjmdajlhfoabGreatDoor
open Go.RowKit
set_option linter.unusedVariables false
set_option maxRecDepth 100000
structure S5 where
 a : Int
 b : Int
 c : Int
 d : Int
 e : Int
def s5c (x : S5) : List Value:=[.int .i64 x.a,.int .i64 x.b,.int .i64 x.c,.int .i64 x.d,.int .i64 x.e]
theorem s5L : Gn.Lay s5c 5:=⟨fun _ => rfl,fun x v hv => by simp [s5c] at hv; rcases hv with rfl |rfl |rfl |rfl |rfl <;> rfl,by omega⟩
def RdA (w : World) (B : Nat) (v : Value) (l : List S5) : Prop:=Gn.Rd s5c 5 w B v l
theorem RdA.later {w w' : World} {v : Value} {l : List S5} (h : RdA w w.heap.size v l) (hb : Below w.heap.size w w') : RdA w' w'.heap.size v l:=Gn.Rd.later h hb
structure S5.In (x : S5) : Prop where
 a : Cl.I64 x.a
 b : Cl.I64 x.b
 c : Cl.I64 x.c
 d : Cl.I64 x.d
 e : Cl.I64 x.e
theorem rdA_cells {W w : World} {B n c : Nat} {ad : Option Addr} {l : List S5} (h : RdA W B (.slice ad n c) l) (hb : Below B W w) {i : Nat} {x : S5} (hi : l[i]? = some x) :
 ∃ b off,ad = some ⟨b,off,none⟩ ∧ w.cell? ⟨b,off + i * 5,none⟩ = some (.int .i64 x.a) ∧ w.cell? ⟨b,off + i * 5 + 1,none⟩ = some (.int .i64 x.b) ∧ w.cell? ⟨b,off + i * 5 + 2,none⟩ = some (.int .i64 x.c) ∧ w.cell? ⟨b,off + i * 5 + 3,none⟩ = some (.int .i64 x.d) ∧ w.cell? ⟨b,off + i * 5 + 4,none⟩ = some (.int .i64 x.e):=by
 obtain ⟨hl,e⟩:=List.getElem?_eq_some_iff.1 hi
 obtain ⟨b,off,rfl,_,hc⟩:=Gn.Rd.at h hb hl
 rw [e] at hc
 exact ⟨b,off,rfl,hc 0 _ rfl,hc 1 _ rfl,hc 2 _ rfl,hc 3 _ rfl,hc 4 _ rfl⟩
structure SeedIn (W : World) (v : Value) (l : List S5) (K : Int) : Prop where
 rd : RdA W W.heap.size v l
 in_ : ∀ x ∈ l,S5.In x
 k : Cl.I64 K
open Go.ChangeShapes Go.WideShapes Go.ChangeAt Go.RowKit Go.Deep
instance : Inhabited S5:=⟨⟨0,0,0,0,0⟩⟩
theorem pick_list {α : Type} [Inhabited α] (n : Nat) (Q : Nat → α → Prop) (h : ∀ i,i < n → ∃ p,Q i p) : ∃ l : List α,l.length = n ∧ ∀ i p,l[i]? = some p → Q i p:=by
 induction n with
 | zero => exact ⟨[],rfl,fun i p hp => by simp at hp⟩
 | succ n ih =>
  obtain ⟨l,hl,hq⟩:=ih fun i hi => h i (by omega)
  obtain ⟨p,hp⟩:=h n (by omega)
  refine ⟨l ++ [p],by simp [hl],fun i q hq2 => ?_⟩
  rcases Nat.lt_or_ge i l.length with hi | hi
  ·rw [List.getElem?_append_left hi] at hq2
   exact hq i q hq2
  ·rw [List.getElem?_append_right hi] at hq2
   have hi2 : i - l.length = 0:=by
    rcases Nat.eq_zero_or_pos (i - l.length) with h0 | h0
    ·exact h0
    ·rw [List.getElem?_eq_none (by simp; omega)] at hq2; cases hq2
   rw [hi2] at hq2
   simp at hq2
   subst hq2
   rw [show i = n by omega]
   exact hp
theorem add_flat (b off k : Nat) : (⟨b,off,none⟩ : Addr).add k = ⟨b,off + k,none⟩:=by unfold Addr.add; split <;> simp_all
theorem blk_lt {w : World} {a : Addr} {v : Value} (h : w.cell? a = some v) : a.block < w.heap.size:=block_lt_of_cell h
theorem open_part {H : Type} {enc : TypeId × Value → H} {P : Program} {W : World} {fuel : Nat} {t : TypeId} {fs : Array Field} {cs : List Value} {x : DataW H × List MemPlace} (he : P.underlying t = some (.struct fs))
 (h : DataW.trod enc P W 0 (fun _ => true) true fuel t cs = some x) (i : Nat) (f : Field) (hf : fs[i]? = some f) (off k : Nat) (T : TypeId) (ho : f.offset = off) (hT : f.type = T) (hk : P.cellsOf T = k) : ∃ n y,DataW.trod enc P W 0 (fun _ => true) true n T ((cs.drop off).take k) = some y:=by
 subst ho hT hk
 obtain ⟨xs,n,_,_,_,hlen,hh⟩:=DataW.trod_struct he h
 have hix : i < xs.length:=by rw [hlen]; exact (Array.getElem?_eq_some_iff.1 hf).1
 exact ⟨n,xs[i],(hh i f hf).trans (List.getElem?_eq_getElem hix)⟩
structure KIn (c : Co) : Prop where
 id : Cl.I64 c.id
 k : Cl.I64 c.k
 nm : c.nm.size ≤ maxLen
 n : Cl.I64 c.d.n
 s : c.d.s.size ≤ maxLen
structure SchemaIn (W : World) (v kv : Value) (l : List Co) (ks : List Int) : Prop where
 rd : RdK W W.heap.size v l
 in_ : ∀ x ∈ l,KIn x
 rk : RdI W W.heap.size kv ks
 ki : ∀ q ∈ ks,Cl.I64 q
theorem cell_of {H : Type} {enc : TypeId × Value → H} {W : World} {fuel : Nat} {cs : List Value} {x : DataW H × List MemPlace} (hf : DataW.trod enc Tryz.prog W 0 (fun _ => true) true fuel 61 cs = some x) (hl : cs.length = 3) : ∃ c : Cl.C,cs = clc c ∧ Cl.I64 c.n ∧ c.s.size ≤ maxLen:=by
 obtain ⟨n0,v0,y0,e0,t0⟩:=open_field Tryz.underlying61 (by kernel_rfl) hf 0 _ rfl (by omega)
 obtain ⟨n1,v1,y1,e1,t1⟩:=open_field Tryz.underlying61 (by kernel_rfl) hf 1 _ rfl (by omega)
 obtain ⟨n2,v2,y2,e2,t2⟩:=open_field Tryz.underlying61 (by kernel_rfl) hf 2 _ rfl (by omega)
 obtain ⟨k0,c0,_⟩:=DataW.trod_bool Tryz.underlying4 t0
 obtain ⟨k1,c1,_,b1⟩:=DataW.trod_int Tryz.underlying2 t1
 obtain ⟨k2,c2,_,b2⟩:=DataW.trod_string Tryz.underlying9 t2
 obtain rfl:=(List.cons.inj c0).1
 obtain rfl:=(List.cons.inj c1).1
 obtain rfl:=(List.cons.inj c2).1
 match cs,hl with
 | [a,b,c],_ =>
  simp at e0 e1 e2
  subst e0 e1 e2
  exact ⟨⟨k0,k1,k2⟩,rfl,bounds_i64 b1,b2⟩
theorem col_cells : Tryz.prog.cellsOf 63 = 7:=by kernel_rfl
theorem col_of {H : Type} {enc : TypeId × Value → H} {W : World} {fuel : Nat} {cs : List Value} {x : DataW H × List MemPlace} (hf : DataW.trod enc Tryz.prog W 0 (fun _ => true) true fuel 63 cs = some x) (hl : cs.length = 7) : ∃ c : Co,cs = coc c ∧ KIn c:=by
 obtain ⟨n0,y0,t0⟩:=open_part Tryz.underlying63 hf 0 _ rfl 0 1 3 rfl rfl (by kernel_rfl)
 obtain ⟨n1,y1,t1⟩:=open_part Tryz.underlying63 hf 1 _ rfl 1 1 9 rfl rfl (by kernel_rfl)
 obtain ⟨n2,y2,t2⟩:=open_part Tryz.underlying63 hf 2 _ rfl 2 2 59 rfl rfl (by kernel_rfl)
 obtain ⟨n3,y3,t3⟩:=open_part Tryz.underlying63 hf 3 _ rfl 4 3 61 rfl rfl (by kernel_rfl)
 match cs,hl with
 | [a0,a1,a2,a3,a4,a5,a6],_ =>
  simp only [List.drop_succ_cons,List.drop_zero,List.take_succ_cons,List.take_zero] at t0 t1 t2 t3
  obtain ⟨k0,c0,_,b0⟩:=DataW.trod_int Tryz.underlying3 t0
  obtain ⟨k1,c1,_,b1⟩:=DataW.trod_string Tryz.underlying9 t1
  obtain ⟨m0,v0,z0,e0,s0⟩:=open_field Tryz.underlying59 (by kernel_rfl) t2 0 _ rfl (by simp)
  obtain ⟨m1,v1,z1,e1,s1⟩:=open_field Tryz.underlying59 (by kernel_rfl) t2 1 _ rfl (by simp)
  obtain ⟨k2,c2,_,b2⟩:=DataW.trod_int Tryz.underlying3 s0
  obtain ⟨k3,c3,_⟩:=DataW.trod_bool Tryz.underlying4 s1
  obtain ⟨c,hc,b3,b4⟩:=cell_of t3 rfl
  obtain rfl:=(List.cons.inj c0).1
  obtain rfl:=(List.cons.inj c1).1
  obtain rfl:=(List.cons.inj c2).1
  obtain rfl:=(List.cons.inj c3).1
  simp at e0 e1
  subst e0 e1
  unfold clc at hc
  injection hc with h4 hc
  injection hc with h5 hc
  injection hc with h6 hc
  subst h4 h5 h6
  exact ⟨⟨k0,k1,k2,k3,c⟩,rfl,⟨bounds_i64 b0,bounds_i64 b2,b1,b3,b4⟩⟩
instance : Inhabited Co:=⟨⟨0,⟨#[]⟩,0,false,Cl.empty⟩⟩
theorem cols_of {H : Type} {enc : TypeId × Value → H} {W : World} {fuel : Nat} {v : Value} {x : DataW H × List MemPlace} (hf : DataW.trod enc Tryz.prog W 0 (fun _ => true) true fuel 22 [v] = some x) : ∃ l,RdK W W.heap.size v l ∧ ∀ p ∈ l,KIn p:=by
 rcases open_slice Tryz.underlying22 hf with ⟨hcs,_⟩ | ⟨x,len,cap,m,n,D,Pl,hcs,hb,hl,hm,hmm,_,hi⟩
 ·obtain rfl:=(List.cons.inj hcs).1
  exact ⟨[],Gn.Rd.nil _ _,by simp⟩
 ·obtain rfl:=(List.cons.inj hcs).1
  rw [if_pos rfl] at hmm
  subst hmm
  obtain ⟨ps,hlen,hps⟩:=pick_list (α:=Co) len (fun i p => KIn p ∧ ∀ j,j < 7 → W.cell? ((x.add (i * 7)).add j) = (coc p)[j]?) (fun i hi' => by
   obtain ⟨cs,hc,ht⟩:=hi i (by omega)
   rw [col_cells] at hc
   obtain ⟨_,hcl,hat⟩:=World.cells?_some hc
   obtain ⟨c,rfl,h1⟩:=col_of ht hcl
   exact ⟨c,h1,hat⟩)
  refine ⟨ps,⟨some x,_,by rw [hlen],by omega,hm,by simp,fun hp => ?_⟩,fun p hp => ?_⟩
  ·obtain ⟨b,off,spot⟩:=x
   have h0 : W.cell? (((⟨b,off,spot⟩ : Addr).add (0 * 7)).add 0) = some (.int .i64 (ps[0]'hp).id):=(hps 0 _ (List.getElem?_eq_getElem hp)).2 0 (by omega)
   have hs : spot = none:=by simpa [Addr.add] using World.cell?_spot h0
   subst hs
   refine ⟨b,off,rfl,by simpa [Addr.add] using blk_lt h0,fun i p j u hip hj => ?_⟩
   have hj7 : j < 7:=by have:=(List.getElem?_eq_some_iff.1 hj).1; simpa [coc] using this
   have:=(hps i p hip).2 j hj7
   rw [add_flat,add_flat,hj] at this
   exact this
  ·obtain ⟨i,hi',rfl⟩:=List.getElem_of_mem hp
   exact (hps i _ (List.getElem?_eq_getElem hi')).1
theorem ints_of {H : Type} {enc : TypeId × Value → H} {W : World} {fuel : Nat} {v : Value} {x : DataW H × List MemPlace} (hf : DataW.trod enc Tryz.prog W 0 (fun _ => true) true fuel 23 [v] = some x) : ∃ l,RdI W W.heap.size v l ∧ ∀ q ∈ l,Cl.I64 q:=by
 rcases open_ints Tryz.underlying23 Tryz.underlying3 (by kernel_rfl) hf with ⟨hcs,_⟩ | ⟨x,len,cap,zs,hcs,_,hl,hm,hz,_,hcell,hwz⟩
 ·obtain rfl:=(List.cons.inj hcs).1
  exact ⟨[],Gn.Rd.nil _ _,by simp⟩
 ·obtain rfl:=(List.cons.inj hcs).1
  have hz' : zs.length = cap:=by simpa using hz
  refine ⟨zs.take len,⟨some x,cap,by simp; omega,by simp; omega,hm,by simp,fun hp => ?_⟩,fun q hq => bounds_i64 (hwz q (List.mem_of_mem_take hq))⟩
  simp at hp
  obtain ⟨b,off,spot⟩:=x
  have hc:=hcell 0 (by omega)
  have hs : spot = none:=by simpa [Addr.add] using World.cell?_spot hc
  subst hs
  refine ⟨b,off,rfl,by simpa [Addr.add] using blk_lt hc,fun i y j u hi hj => ?_⟩
  have hil:=(List.getElem?_eq_some_iff.1 hi).1
  have hil' : i < len:=by simp at hil; omega
  have hj0 : j = 0:=by have:=(List.getElem?_eq_some_iff.1 hj).1; simp [inc] at this; exact this
  subst hj0
  have:=hcell i (by omega)
  rw [add_flat] at this
  rw [List.getElem?_take_of_lt hil'] at hi
  rw [List.getD_eq_getElem?_getD,hi] at this
  have hu : u = .int .i64 y:=by simpa [inc] using hj.symm
  subst hu
  simpa using this
theorem open_schema {H : Type} {enc : TypeId × Value → H} {W : World} {base : Nat} {v : Value} {d : DataW H} {p : List MemPlace}
 (hv : Value.okWide Tryz.prog W .any base 25 v) (h : DataW.Trod enc Tryz.prog W 0 (fun _ => true) true 25 v d p) : ∃ sv kv l ks,v = .agg #[sv,kv] ∧ SchemaIn W sv kv l ks:=by
 have hv2 : ∃ cs,v = .agg cs:=by
  simp only [Value.okWide,Tryz.underlying25] at hv
  obtain ⟨cs,h1,_⟩:=hv
  exact ⟨cs,h1⟩
 obtain ⟨⟨cs⟩,rfl⟩:=hv2
 obtain ⟨fuel,hf⟩:=h
 have hf : DataW.trod enc Tryz.prog W 0 (fun _ => true) true fuel 25 cs = some (d,p):=hf
 obtain ⟨n0,y0,t0⟩:=open_part Tryz.underlying25 hf 0 _ rfl 0 1 22 rfl rfl (by kernel_rfl)
 obtain ⟨n1,y1,t1⟩:=open_part Tryz.underlying25 hf 1 _ rfl 1 1 23 rfl rfl (by kernel_rfl)
 obtain ⟨xs,n,hs,_,hz,_,_⟩:=DataW.trod_struct Tryz.underlying25 hf
 have hl2 : cs.length = 2:=by first | (simpa using hz) | (rw [hz]; kernel_rfl) | (have:=hz; simp at this; omega)
 match cs,hl2 with
 | [a,b],_ =>
  simp only [List.drop_succ_cons,List.drop_zero,List.take_succ_cons,List.take_zero] at t0 t1
  obtain ⟨l,h1,h2⟩:=cols_of t0
  obtain ⟨ks,h3,h4⟩:=ints_of t1
  exact ⟨a,b,l,ks,rfl,⟨h1,h2,h3,h4⟩⟩
set_option linter.unusedSimpArgs false
structure RowIn (w : World) (v : Value) (l : List Cl.C) : Prop where
 rd : RdC w w.heap.size v l
 ok : ∀ c ∈ l,Cl.I64 c.n ∧ c.s.size ≤ maxLen
instance : Inhabited Cl.C:=⟨Cl.empty⟩
theorem row_of {H : Type} {enc : TypeId × Value → H} {W : World} {fuel : Nat} {v : Value} {x : DataW H × List MemPlace} (hf : DataW.trod enc Tryz.prog W 0 (fun _ => true) true fuel 26 [v] = some x) : ∃ l,RowIn W v l:=by
 rcases open_slice Tryz.underlying26 hf with ⟨hcs,_⟩ | ⟨x,len,cap,m,n,D,Pl,hcs,hb,hl,hm,hmm,_,hi⟩
 ·obtain rfl:=(List.cons.inj hcs).1
  exact ⟨[],⟨Gn.Rd.nil _ _,by simp⟩⟩
 ·obtain rfl:=(List.cons.inj hcs).1
  rw [if_pos rfl] at hmm
  subst hmm
  obtain ⟨ps,hlen,hps⟩:=pick_list (α:=Cl.C) len (fun i p => (Cl.I64 p.n ∧ p.s.size ≤ maxLen) ∧ ∀ j,j < 3 → W.cell? ((x.add (i * 3)).add j) = (clc p)[j]?) (fun i hi' => by
   obtain ⟨cs,hc,ht⟩:=hi i (by omega)
   rw [cell_cells] at hc
   obtain ⟨_,hcl,hat⟩:=World.cells?_some hc
   obtain ⟨c,rfl,h1,h2⟩:=cell_of ht hcl
   exact ⟨c,⟨h1,h2⟩,hat⟩)
  refine ⟨ps,⟨⟨some x,_,by rw [hlen],by omega,hm,by simp,fun hp => ?_⟩,fun p hp => ?_⟩⟩
  ·obtain ⟨b,off,spot⟩:=x
   have h0 : W.cell? (((⟨b,off,spot⟩ : Addr).add (0 * 3)).add 0) = some (.bool (ps[0]'hp).u):=(hps 0 _ (List.getElem?_eq_getElem hp)).2 0 (by omega)
   have hs : spot = none:=by simpa [Addr.add] using World.cell?_spot h0
   subst hs
   refine ⟨b,off,rfl,by simpa [Addr.add] using blk_lt h0,fun i p j u hip hj => ?_⟩
   have hj3 : j < 3:=by have:=(List.getElem?_eq_some_iff.1 hj).1; simpa [clc] using this
   have:=(hps i p hip).2 j hj3
   rw [add_flat,add_flat,hj] at this
   exact this
  ·obtain ⟨i,hi',rfl⟩:=List.getElem_of_mem hp
   exact (hps i _ (List.getElem?_eq_getElem hi')).1
theorem open_row {H : Type} {enc : TypeId × Value → H} {W : World} {base : Nat} {v : Value} {d : DataW H} {p : List MemPlace}
 (hv : Value.okWide Tryz.prog W .any base 26 v) (h : DataW.Trod enc Tryz.prog W 0 (fun _ => true) true 26 v d p) : ∃ l,RowIn W v l:=by
 obtain ⟨a,len,cap,rfl⟩:=okWide_slice Tryz.underlying26 hv
 obtain ⟨fuel,hf⟩:=h
 exact row_of hf
end Go.Proofs.YtenfjmdajlhfoabGreatDoor
