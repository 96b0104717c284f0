/- JshowNumbers: the walk. -/
import Derived.Test.YtgmdjofnkbaflaaGreatDoorZs
namespace Go.Proofs.YtgmdjofnkbaflaaGreatDoor
open Go.RowKit
set_option linter.unusedVariables false
set_option maxRecDepth 100000

theorem bring8_eq (x n : Int) (hn : 0 < n) (hn' : n ≤ 1152921504606846976) : (x.tmod n < 0 → wrap64 (x.tmod n + n) = x % n) ∧ (0 ≤ x.tmod n → x.tmod n = x % n) := by
  unfold wrap64
  have h := Int.tmod_eq_emod (a := x) (b := n)
  have h2 := Int.emod_nonneg x (b := n) (by omega)
  have h3 := Int.emod_lt_of_pos x hn
  split at h <;> constructor <;> intro h5 <;> omega
set_option maxHeartbeats 400000 in
theorem bring8 (x n : Int) (w : World) (h0 : -9223372036854775808 ≤ x) (h1 : x ≤ 9223372036854775807) (hn : 0 < n) (hn' : n ≤ 1152921504606846976) :
    Calls Tryz.prog 18 #[.int .i64 x, .int .i64 n] w fun e w' => e = .returned (.int .i64 (x % n)) ∧ w = w' := by
  have he := Lib.hid (bring8_eq x n hn hn')
  go_enter Tryz.func18, Tryz.ntmps18
  go_wp2
  · go_ret
    exact ⟨congrArg Ending.returned (congrArg (Value.int IntKind.i64) (he.out.1 (by assumption))), rfl⟩
  · go_ret
    exact ⟨congrArg Ending.returned (congrArg (Value.int IntKind.i64) (he.out.2 (by assumption))), rfl⟩
def ten : ByteArray := ⟨#[48, 49, 50, 51, 52, 53, 54, 55, 56, 57]⟩
theorem ten_cut : ∀ r, r < 10 → ten.extract r (r + 1) = str [48 + r] := by decide +kernel
theorem ten_run (r : Nat) (h : r < 10) (w : World) : (Instr.slice 9 (.string ten) (some (.int .i64 (r : Nat))) (some (.int .i64 ((r : Int) + 1))) none).run Tryz.prog w = .ok (.string (str [48 + r])) w := by
  have hs : ten.size = 10 := rfl
  rw [run_slice_string_if w 9 ten .i64 .i64 _ _ Tryz.underlying9, if_pos (by rw [hs]; omega), if_pos (by omega), ← ten_cut r h]
  congr 3
theorem num_sh (n : Int) (h : -9223372036854775808 ≤ n ∧ n ≤ 9223372036854775807) : ShIs [nd1 4 n ⟨#[]⟩] (Jr.dnum n) 0 :=
  sh_ok (F := .node 4 ⟨#[]⟩ n ⟨#[]⟩ .nil .nil) (leaf_may 4 _ _ (.inr (.inl ⟨rfl, rfl⟩))) (by show (Jr.dnum n).length ≤ _; have := Jr.dnum_fit h; omega)
theorem one_run (z : ByteArray) (c : Nat) (l : List Nat) (hz : z = str (c :: l)) (hb : ∀ x ∈ c :: l, x < 256) (w : World) : (Instr.slice 9 (.string z) (some (.int .i64 1)) none none).run Tryz.prog w = .ok (.string (str l)) w := by
  subst hz
  have hs : (str (c :: l)).size = l.length + 1 := by rw [str_size]; rfl
  rw [run_slice_string_from_if w 9 _ .i64 _ Tryz.underlying9, if_pos (by rw [hs]; omega)]
  have e : (str (c :: l)).extract (1 : Int).toNat (str (c :: l)).size = str l := by
    refine bl_inj ?_
    show bl ((str (c :: l)).extract 1 (str (c :: l)).size) = _
    rw [bl_from, bl_str (c :: l) hb, bl_str l (fun x hx => hb x (List.mem_cons_of_mem _ hx))]
    rfl
  rw [e]
end Go.Proofs.YtgmdjofnkbaflaaGreatDoor
