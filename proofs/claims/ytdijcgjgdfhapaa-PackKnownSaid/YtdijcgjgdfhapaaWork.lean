/- The chapter's examples ('works') come out as they should, in whatever memory. -/
import Derived.Test.YtdijcgjgdfhapaaHold
namespace Go.Proofs.Ytdijcgjgdfhapaa
open Go.RowKit
set_option linter.unusedVariables false

theorem below_alloc {W w : World} (h : Below W.heap.size W w) (o : Obj) : Below W.heap.size W (w.alloc o) := h.alloc h.size o
theorem WW.alloc {W w : World} {g m : Nat} {s : Bool × List Nat} (h : WW W w g m s) (o : Obj) : WW W (w.alloc o) g m s := h.later (new_below _ _)
theorem below_drewN {W w : World} {B : Nat} (h : Below B W w) (n : Nat) : Below B W (w.drewN n) := ⟨h.os, h.tape, h.output, h.size, h.block⟩
set_option maxHeartbeats 4000000 in
set_option maxRecDepth 100000 in
theorem works (W : World) : Calls Try.prog 20 #[] W fun e w' => e = .returned (.bool true) ∧ Below W.heap.size W w' := by
  have hstr : str [] = ByteArray.empty := by decide +kernel
  have HS := Lib.hid hstr
  clear hstr
  go_enter Try.func20, Try.ntmps20
  go_wp2_with fail
  refine (ww_made W 6 6 _ (Below.refl _ _) (by decide) (by decide) (by decide)).mono ?_
  rintro x w1 ⟨g, rfl, h1⟩
  go_wp2_with fail
  refine (ww_byte (false, [7]) 7 7 h1 (by decide) (by decide) (by decide) (by decide) (by decide)).mono ?_
  rintro x w2 ⟨rfl, h2⟩
  go_wp2_with fail
  refine (ww_text (false, [7, 2, 97, 98]) _ h2 (by decide) (by decide) (by decide) (by decide +kernel)).mono ?_
  rintro x w3 ⟨rfl, h3⟩
  go_wp2_with fail
  refine (ww_int (false, [7, 2, 97, 98, 1]) (-1) h3 (by decide) (by decide) (by decide) (by decide) (by decide +kernel)).mono ?_
  rintro x w4 ⟨rfl, h4⟩
  go_wp2_with fail
  refine (ww_done [7, 2, 97, 98, 1] 0 h4 (by decide) rfl rfl).mono ?_
  rintro x w5 ⟨r, rfl, ho, hb⟩
  have h5 := h4.later hb
  clear h1 h2 h3 h4 hb
  go_wp2_with fail
  refine (ww_len 5 h5 (by decide)).mono ?_
  rintro x w6 ⟨rfl, rfl⟩
  go_wp2_with fail
  refine (eq_yes r _ [7, 2, 97, 98, 1] [7, 2, 97, 98, 1] _ (ho.later (new_below _ _)).rd (rd_lit w5 [7, 2, 97, 98, 1] _ 5 rfl rfl (by decide) (by decide)) rfl).mono ?_
  rintro x w6 ⟨rfl, rfl⟩
  have h6 := h5.alloc (.cells #[.int .u8 7, .int .u8 2, .int .u8 97, .int .u8 98, .int .u8 1] 5)
  clear h5 ho
  go_wp2_with fail
  refine (ww_word (true, [7, 2, 97, 98, 1]) 1 1 h6 (by decide) (by decide) (by decide) (by decide) (by decide)).mono ?_
  rintro x w7 ⟨rfl, h7⟩
  clear h6
  go_wp2_with fail
  refine (ww_len 5 h7 (by decide)).mono ?_
  rintro x w8 ⟨rfl, rfl⟩
  go_wp2_with fail
  refine (ww_byte (true, [7, 2, 97, 98, 1]) 1 1 h7 (by decide) (by decide) (by decide) (by decide) (by decide)).mono ?_
  rintro x w8 ⟨rfl, h8⟩
  go_wp2_with fail
  refine (ww_done [] 5 h8 (by decide) rfl rfl).mono ?_
  rintro x w9 ⟨r2, rfl, ho2, hb9⟩
  obtain ⟨a2, c2, rfl, -⟩ := ho2.rd
  have b9 := up h8.below hb9
  clear h7 h8 ho2 hb9
  go_wp2_with fail
  refine (wp_new W _ [5, 3, 97] _ (below_alloc b9 _) (rd_lit w9 [5, 3, 97] _ 3 rfl rfl (by decide) (by decide)) (by decide)).mono ?_
  rintro x w10 ⟨g2, rfl, h10⟩
  clear b9
  go_wp2_with fail
  refine (wp_byte 1 0 5 h10 (by decide)).mono ?_
  rintro x w11 ⟨rfl, h11⟩
  go_wp2_with fail
  refine (wp_text 9 1 3 [] h11 (by decide) (by decide) (by decide)).mono ?_
  rintro x w12 ⟨rfl, h12⟩
  rw [HS.out]
  clear h10 h11
  go_wp2_with fail
  refine (err _ 3 _ h12.re).mono ?_
  rintro x w13 ⟨rfl, rfl⟩
  go_wp2_with fail
  refine (wp_at h12).mono ?_
  rintro x w13 ⟨rfl, rfl⟩
  go_wp2_with fail
  refine (p_byte_stuck _ 3 _ h12.re (by decide)).mono ?_
  rintro x w13 ⟨rfl, b13⟩
  have h13 := h12.later b13
  clear h12 b13
  go_wp2_with fail
  refine (wp_left 2 h13 (by decide)).mono ?_
  rintro x w14 ⟨n14, rfl, rfl⟩
  go_wp2_with fail
  refine (end_stuck _ 3 _ (h13.drewN n14).re (by decide)).mono ?_
  rintro x w14 ⟨n15, rfl, rfl⟩
  have b15 := below_drewN h13.below (n14 + n15)
  clear h13
  go_wp2_with fail
  refine (wp_new W _ [128, 0, 1] _ (below_alloc b15 _) (rd_lit (w13.drewN (n14 + n15)) [128, 0, 1] _ 3 rfl rfl (by decide) (by decide)) (by decide)).mono ?_
  rintro x w16 ⟨g3, rfl, h16⟩
  clear b15
  go_wp2_with fail
  refine (wp_var 0 10 0 h16 (by decide)).mono ?_
  rintro x w17 ⟨rfl, h17⟩
  clear h16
  go_wp2_with fail
  refine (fail_stuck _ 10 2 _ h17.re (by decide)).mono ?_
  rintro x w18 ⟨rfl, rfl⟩
  go_wp2_with fail
  refine (err _ 10 _ h17.re).mono ?_
  rintro x w18 ⟨rfl, rfl⟩
  have b18 := h17.below
  clear h17
  go_wp2_with fail
  refine (wp_new W _ [1, 2] _ (below_alloc b18 _) (rd_lit w17 [1, 2] _ 2 rfl rfl (by decide) (by decide)) (by decide)).mono ?_
  rintro x w19 ⟨g4, rfl, h19⟩
  clear b18
  go_wp2_with fail
  refine (wp_raw 1 1 0 [1] h19 (by decide) (by decide) (by decide)).mono ?_
  rintro x w20 ⟨v20, rfl, o20, h20⟩
  clear h19
  go_wp2_with fail
  refine (eq_yes v20 _ [1] [1] _ (o20.later (new_below _ _)).rd (rd_lit w20 [1] _ 1 rfl rfl (by decide) (by decide)) rfl).mono ?_
  rintro x w21 ⟨rfl, rfl⟩
  have h21 := h20.later (new_below w20 (.cells #[.int .u8 1] 5))
  clear h20 o20
  go_wp2_with fail
  refine (wp_end 30 h21 (by decide)).mono ?_
  rintro x w22 ⟨n22, rfl, rfl⟩
  have h22 := h21.drewN n22
  clear h21
  go_wp2_with fail
  refine (err _ 0 _ h22.re).mono ?_
  rintro x w23 ⟨rfl, rfl⟩
  go_wp2_with fail
  refine (wp_text 1 1 5 [] h22 (by decide) (by decide) (by decide)).mono ?_
  rintro x w24 ⟨rfl, h24⟩
  rw [HS.out]
  clear h22
  go_wp2_with fail
  refine (err _ 5 _ h24.re).mono ?_
  rintro x w25 ⟨rfl, rfl⟩
  go_wp2
  go_ret
  exact ⟨rfl, h24.below⟩
end Go.Proofs.Ytdijcgjgdfhapaa
