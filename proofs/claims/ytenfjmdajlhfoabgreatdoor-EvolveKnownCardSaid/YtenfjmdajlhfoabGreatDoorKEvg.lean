/- Texts. -/
import Derived.Test.YtenfjmdajlhfoabGreatDoorKEvf
namespace Go.Proofs.YtenfjmdajlhfoabGreatDoor
open Go.RowKit Go.Sort
set_option linter.unusedVariables false
set_option linter.unusedSimpArgs false
set_option maxRecDepth 100000
theorem cMoveE (x y:Sx) (hx:SmOk x.s) (hy:SmOk y.s) (w:World) (T:TA w) (rx:RdS w w.heap.size x) (ry:RdS w w.heap.size y) (rv:Value) (r:List Cl.C) (hr:RdC w w.heap.size rv r) (hrl:r.length≤1000000) (hri:∀ c∈r,Cl.I64 c.n) (hrm:∀ c∈r,c.s.size≤1000000) (a:Ev.Ans) (ha:Ev.carry [x.s,y.s] 1 2 r=a) :
 Calls Tryz.prog 15 #[.agg #[x.v,x.kv],.agg #[y.v,y.kv],rv] w (APost w a):=by
 have HB:=hZ (up_box (box_new w (.cells #[x.v,x.kv] 25)) (.cells #[y.v,y.kv] 25))
 have hs:=rdS_two rx ry HB.out #[x.v,x.kv,y.v,y.kv] rfl
 have HB2:=hZ (up_box HB.out (.cells #[x.v,x.kv,y.v,y.kv] 25))
 have hr2:=(hr.below HB2.out (Nat.le_refl _)).more HB2.out.size
 have HC:=hZ (cCarryE _ [x,y] (fun z hz=>by simp at hz;rcases hz with rfl|rfl<;>assumption) _ (T.later (up_box HB.out _)) hs 1 2 rv r hr2 hrl hri hrm a ha)
 obtain⟨ra,rc,rfl,_⟩:=Gn.Rd.form hr
 clear hs hr hr2 T rx ry ha
 obtain⟨a1,c1,a2,c2,s1⟩:=x
 obtain⟨a3,c3,a4,c4,s2⟩:=y
 unfold Sx.v Sx.kv at *
 simp only [World.size_alloc] at HB HC HB2 ⊢
 go_enter Tryz.func15,Tryz.ntmps15
 go_wp2_with fail
 ((with_reducible refine HC.out.mono ?_);rintro e w1 ⟨u,rfl,ho,b1⟩)
 have HU:=hZ (HB2.out.trans (b1.mono (by rw [World.size_alloc,World.size_alloc,World.size_alloc];omega)))
 have HO:=hZ (Gn.Own.lower ho (show w.heap.size≤_ by rw [World.size_alloc,World.size_alloc,World.size_alloc];omega))
 clear b1 ho HC HB HB2
 go_wp2_with fail
 go_ret2
 exact⟨_,rfl,HO.out,HU.out⟩
end Go.Proofs.YtenfjmdajlhfoabGreatDoor
