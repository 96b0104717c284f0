/- Texts. -/
import Derived.Test.YtenfjmdajlhfoabGreatDoorTEvStW
import Derived.Test.YtenfjmdajlhfoabGreatDoorTFrT
namespace Go.Proofs.YtenfjmdajlhfoabGreatDoor
open Go.ChangeShapes Go.WideShapes Go.ChangeAt Go.RowKit Go.Deep
set_option linter.unusedVariables false
set_option linter.unusedSimpArgs false
set_option maxRecDepth 100000
theorem evolveStepsF (va0 vb0 va1 vb1 v2 : Value) (l0 : List Co) (ks0 : List Int) (l1 : List Co) (ks1 : List Int) (l2 : List Cl.C) (w : World) (h0 : SchemaIn w va0 vb0 l0 ks0) (h1 : SchemaIn w va1 vb1 l1 ks1) (h2 : RowIn w v2 l2) (T : TA w) :
 Calls Tryz.prog 3 #[.agg #[va0,vb0],.agg #[va1,vb1],v2] w fun e w' => e = .returned (.bool true) ∧ Below w.heap.size w w':=by
 obtain ⟨a1,c1,e1,_⟩:=Gn.Rd.form h0.rd
 obtain ⟨a2,c2,e2,_⟩:=Gn.Rd.form h0.rk
 obtain ⟨a3,c3,e3,_⟩:=Gn.Rd.form h1.rd
 obtain ⟨a4,c4,e4,_⟩:=Gn.Rd.form h1.rk
 subst e1 e2 e3 e4
 exact evolveSteps ⟨a1,c1,a2,c2,(l0,ks0)⟩ ⟨a3,c3,a4,c4,(l1,ks1)⟩
  ⟨fun c hc => ⟨(h0.in_ c hc).id,(h0.in_ c hc).k,(h0.in_ c hc).n,(h0.in_ c hc).nm,(h0.in_ c hc).s⟩,h0.ki⟩
  ⟨fun c hc => ⟨(h1.in_ c hc).id,(h1.in_ c hc).k,(h1.in_ c hc).n,(h1.in_ c hc).nm,(h1.in_ c hc).s⟩,h1.ki⟩ v2 l2 w ⟨h0.rd,h0.rk⟩ ⟨h1.rd,h1.rk⟩ h2.rd h2.ok T
end Go.Proofs.YtenfjmdajlhfoabGreatDoor
