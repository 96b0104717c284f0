/- The reference's Quote. -/
import Derived.Test.YtanjdjiigfdnmaaGreatDoorBuild
import Derived.BigRegion
import Derived.Deep.RegionLawGrows
namespace Go.Proofs.YtanjdjiigfdnmaaGreatDoor
open Go.RowKit
set_option linter.unusedVariables false

theorem rd_lit (w : World) (l : List Nat) (cs : Array Value) (n : Nat) (hcs : cs.toList = vals l) (hn : n = l.length) (hm : l.length ≤ 1000) (hb : ∀ x ∈ l, x < 256) :
    Rd (w.alloc (.cells cs 5)) (w.alloc (.cells cs 5)).heap.size (.slice (some ⟨w.heap.size, 0, none⟩) n n) l := by
  subst hn
  refine ⟨_, _, rfl, Nat.le_refl _, by simp only [maxLen]; omega, by simp, hb, fun _ => ⟨w.heap.size, 0, rfl, by simp, fun k hk => ?_⟩⟩
  have := (Blk.new w 5 cs).cell (0 + k)
  rw [this, hcs]
  simp [vals, List.getElem?_eq_getElem hk]
/-- A literal that a call makes, appended to what it owns. -/
theorem rd_lit2 (w : World) (l : List Nat) (cs : Array Value) (n : Nat) (hcs : cs.toList = vals l) (hn : n = l.length) (hm : l.length ≤ 1000) (hb : ∀ x ∈ l, x < 256) :
    Rd (w.alloc (.cells cs 5)).drew (w.alloc (.cells cs 5)).drew.heap.size (.slice (some ⟨w.heap.size, 0, none⟩) n n) l := rd_lit w l cs n hcs hn hm hb
def hexS : ByteArray := ⟨#[48, 49, 50, 51, 52, 53, 54, 55, 56, 57, 97, 98, 99, 100, 101, 102]⟩
theorem hex_at : ∀ x : Fin 16, (hexS[x.val]'(x.isLt)).toNat = Utf.hex x.val := by decide
theorem hex_run (x : Nat) (h : x < 16) (k : IntKind) (w : World) : (Instr.index 9 (.string ⟨#[48, 49, 50, 51, 52, 53, 54, 55, 56, 57, 97, 98, 99, 100, 101, 102]⟩) (.int k (x : Int))).run Tryz.prog w = .ok (.int .u8 (Utf.hex x : Nat)) w := by
  refine (run_index_string (P := Tryz.prog) w 9 hexS k _ Tryz.underlying9).trans ?_
  rw [dif_pos ⟨by omega, by show (x : Int) < 16; omega⟩]
  have := hex_at ⟨x, h⟩
  simp only [Int.toNat_natCast]
  exact congrArg (fun y : Nat => Result.ok (Value.int .u8 (y : Int)) w) this
theorem hex_at' (x : Nat) (h : x < 16) : (hexS[x]'h).toNat = Utf.hex x := hex_at ⟨x, h⟩

/-- append onto what is owned, as a step of a region that draws its order. -/
theorem step_app {w : World} {ops : Array Oper} {o : Oper} {a : Act} {K : Act → World → Prop} {Q : Exit → Act → World → Prop} {E : Prop} (hgd : o.guard = none) (s x : Operand)
    (ho : o.op = .call { callee := .builtin .append, args := #[s, x], argTypes := #[118, 118] })
    (base : Nat) (v : Value) (l : List Nat) (hs : a.eval s = v) (hown : Own w base v l) (u : Value) (r : List Nat) (hx : a.eval x = u) (hr : Rd w w.heap.size u r)
    (hlen : l.length + r.length ≤ 1000000000) (hbase : base ≤ w.heap.size)
    (h : ∀ v' w', Own w' base v' (l ++ r) → Below base w w' → K (a.put o.dst v') w') : if Region.wanted o (yielded ops a.tmps) = true then Oper.wp Tryz.prog o a w K Q else E := by
  have hw : Region.wanted o (yielded ops a.tmps) = true := by simp [Region.wanted, hgd]
  rw [if_pos hw]
  obtain ⟨v', w', hrun, h2, h3⟩ := run_app w o.type base v l hown u r hr hlen hbase
  unfold Oper.wp execOp
  simp only [ho, resolve, invoke, builtin, Sem.run_bind, Sem.run_pure, Result.andThen_ok, List.map_toArray, List.map_cons, List.map_nil, hs, hx, hrun]
  exact h v' w' h2 h3
theorem up_new (w : World) (o : Obj) : Below w.heap.size w (w.alloc o) := (Below.refl _ _).alloc (Nat.le_refl _) o
/-- The literal, up to a byte. -/
def upto (l : List Nat) (k : Nat) : List Nat := 34 :: Utf.escs (l.take k)
theorem upto_succ (l : List Nat) (k : Nat) (h : k < l.length) : upto l (k + 1) = upto l k ++ Utf.escB (l.getD k 0) := by
  unfold upto
  rw [List.take_succ_eq_append_getElem h, Utf.escs_append, List.getD_eq_getElem?_getD, List.getElem?_eq_getElem h]
  simp [Utf.escs]
theorem escs_len (l : List Nat) : (Utf.escs l).length ≤ 6 * l.length := by
  induction l with
  | nil => simp [Utf.escs]
  | cons a l ih =>
    rw [Utf.escs_cons, List.length_append, List.length_cons]
    have := Utf.escB_len a
    omega
theorem upto_len (l : List Nat) (k : Nat) : (upto l k).length ≤ 6 * l.length + 1 := by
  unfold upto
  have := escs_len (l.take k)
  have h2 : (l.take k).length ≤ l.length := by rw [List.length_take]; omega
  simp; omega
end Go.Proofs.YtanjdjiigfdnmaaGreatDoor
