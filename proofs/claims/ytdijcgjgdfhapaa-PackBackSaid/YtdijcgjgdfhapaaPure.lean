/- Pieces one behind the other are found as they were; one that is cut is ErrTrunc: plain. -/
import Derived.Test.YtdijcgjgdfhapaaTakes
namespace Go.Proofs.Ytdijcgjgdfhapaa
open Go.RowKit
set_option linter.unusedVariables false

theorem decF_cut : ∀ g i n v j, g + i = 9 → j < (Leb.encF g v).length → Leb.decF i n ((Leb.encF g v).take j) = (0, 0, 3)
  | 0, i, n, v, j, hg, hj => by
    simp only [Leb.encF, List.length_cons, List.length_nil] at hj
    obtain rfl : j = 0 := by omega
    simp [Leb.decF]
  | g + 1, i, n, v, j, hg, hj => by
    rw [Leb.encF] at hj ⊢
    by_cases hv : v < 128
    · rw [if_pos hv] at hj ⊢
      simp only [List.length_cons, List.length_nil] at hj
      obtain rfl : j = 0 := by omega
      simp [Leb.decF]
    · rw [if_neg hv] at hj ⊢
      cases j with
      | zero => simp [Leb.decF]
      | succ j =>
        simp only [List.length_cons] at hj
        rw [List.take_succ_cons, Leb.decF, if_neg (by omega), if_neg (by omega), if_neg (by omega)]
        exact decF_cut g (i + 1) _ (v / 128) j (by omega) (by omega)
theorem dec_cut (n j : Nat) (hj : j < (Leb.enc n).length) : Leb.dec ((Leb.enc n).take j) = (0, 0, 3) := decF_cut 9 0 0 n j rfl hj
theorem bytes_eq (a b : ByteArray) (h : a = b) : (a.toList == b.toList) = true := by subst h; simp

/-- A whole piece is found as it was, whatever stands behind. -/
theorem takeF_full (k n : Int) (s : ByteArray) (t : List Nat) (n0 : 0 ≤ n) (n1 : n ≤ 18446744073709551615) : takeF k n s (pieceL k n s ++ t) = (true, (pieceL k n s).length, 0) := by
  have hc := clip40_size s
  have hz := wrap64_in n
  have hzr := zig_range (wrap64 n) hz.1 hz.2
  rcases six k with h | h | h | h | h | h
  · rw [show pieceL k n s = [(n % 256).toNat] by unfold pieceL; rw [if_pos h]]
    unfold takeF
    rw [if_pos h]
    have : fByte ([(n % 256).toNat] ++ t) = ((n % 256).toNat, 1, 0) := by unfold fByte; rw [if_neg (by simp)]; rfl
    rw [this]
    refine Prod.ext ?_ rfl
    simp
    omega
  · rw [show pieceL k n s = Leb.enc n.toNat by unfold pieceL; rw [if_neg (by omega), if_pos h]]
    unfold takeF
    rw [if_neg (by omega), if_pos h, Leb.dec_enc n.toNat t (by omega)]
    refine Prod.ext ?_ rfl
    simp
    omega
  · rw [show pieceL k n s = Leb.enc (zigN (wrap64 n)).toNat by unfold pieceL; rw [if_neg (by omega), if_neg (by omega), if_pos h]]
    unfold takeF
    rw [if_neg (by omega), if_neg (by omega), if_pos h, decI_zag, Leb.dec_enc _ t (by omega)]
    refine Prod.ext ?_ rfl
    have e : (((zigN (wrap64 n)).toNat : Nat) : Int) = zigN (wrap64 n) := by omega
    simp only [e, zag_zig]
    simp
  · rw [show pieceL k n s = Leb.enc (clip40 s).size ++ bl (clip40 s) by unfold pieceL; rw [if_neg (by omega), if_neg (by omega), if_neg (by omega), if_pos h]]
    unfold takeF
    rw [if_neg (by omega), if_neg (by omega), if_neg (by omega), if_pos h]
    have hd : Leb.dec (Leb.enc (clip40 s).size ++ bl (clip40 s) ++ t) = ((clip40 s).size, (Leb.enc (clip40 s).size).length, 0) := by rw [List.append_assoc]; exact Leb.dec_enc _ _ (by omega)
    have hf : fText 40 (Leb.enc (clip40 s).size ++ bl (clip40 s) ++ t) = (bl (clip40 s), (Leb.enc (clip40 s).size).length + (clip40 s).size, 0) := by
      unfold fText
      rw [hd]
      dsimp only
      rw [if_neg (by simp), if_neg (by omega), if_neg (by simp [bl_length])]
      refine Prod.ext ?_ rfl
      dsimp only
      rw [show (Leb.enc (clip40 s).size).length + (clip40 s).size = (Leb.enc (clip40 s).size ++ bl (clip40 s)).length by rw [List.length_append, bl_length], List.take_left, List.drop_left]
    rw [hf, List.length_append, bl_length]
    exact Prod.ext (bytes_eq _ _ (str_bl _)) rfl
  · rw [show pieceL k n s = bl (clip40 s) by unfold pieceL; rw [if_neg (by omega), if_neg (by omega), if_neg (by omega), if_neg (by omega), if_pos h]]
    unfold takeF
    rw [if_neg (by omega), if_neg (by omega), if_neg (by omega), if_neg (by omega), if_pos h]
    have hf : fRaw (clip40 s).size (bl (clip40 s) ++ t) = (bl (clip40 s), (clip40 s).size, 0) := by
      unfold fRaw
      rw [if_neg (by omega), if_neg (by rw [List.length_append, bl_length]; omega), Int.toNat_natCast]
      refine Prod.ext ?_ rfl
      dsimp only
      rw [← bl_length, List.take_left]
    rw [hf, bl_length]
    exact Prod.ext (bytes_eq _ _ (str_bl _)) rfl
  · rw [show pieceL k n s = wordL (n % 4294967296).toNat by unfold pieceL; rw [if_neg (by omega), if_neg (by omega), if_neg (by omega), if_neg (by omega), if_neg (by omega)]]
    unfold takeF
    rw [if_neg (by omega), if_neg (by omega), if_neg (by omega), if_neg (by omega), if_neg (by omega)]
    have hf : fWord (wordL (n % 4294967296).toNat ++ t) = ((n % 4294967296).toNat, 4, 0) := by
      unfold fWord
      rw [if_neg (by simp [wordL])]
      refine Prod.ext ?_ rfl
      simp [wordN, wordL]
      omega
    rw [hf]
    refine Prod.ext ?_ rfl
    simp
    omega
/-- A piece that is cut is ErrTrunc, and nothing is taken. -/
theorem takeF_cut (k n : Int) (s : ByteArray) (j : Nat) (n0 : 0 ≤ n) (n1 : n ≤ 18446744073709551615) (hj : j < (pieceL k n s).length) : (takeF k n s ((pieceL k n s).take j)).2 = (0, 3) := by
  have hc := clip40_size s
  rcases six k with h | h | h | h | h | h
  · rw [show pieceL k n s = [(n % 256).toNat] by unfold pieceL; rw [if_pos h]] at hj ⊢
    simp only [List.length_cons, List.length_nil] at hj
    obtain rfl : j = 0 := by omega
    unfold takeF
    rw [if_pos h]
    rfl
  · rw [show pieceL k n s = Leb.enc n.toNat by unfold pieceL; rw [if_neg (by omega), if_pos h]] at hj ⊢
    unfold takeF
    rw [if_neg (by omega), if_pos h, dec_cut _ _ hj]
  · rw [show pieceL k n s = Leb.enc (zigN (wrap64 n)).toNat by unfold pieceL; rw [if_neg (by omega), if_neg (by omega), if_pos h]] at hj ⊢
    unfold takeF
    rw [if_neg (by omega), if_neg (by omega), if_pos h, dec_cut _ _ hj]
  · rw [show pieceL k n s = Leb.enc (clip40 s).size ++ bl (clip40 s) by unfold pieceL; rw [if_neg (by omega), if_neg (by omega), if_neg (by omega), if_pos h]] at hj ⊢
    unfold takeF
    rw [if_neg (by omega), if_neg (by omega), if_neg (by omega), if_pos h]
    rw [List.length_append, bl_length] at hj
    rcases Nat.lt_or_ge j (Leb.enc (clip40 s).size).length with hlt | hge
    · have hd : Leb.dec ((Leb.enc (clip40 s).size ++ bl (clip40 s)).take j) = (0, 0, 3) := by rw [List.take_append_of_le_length (by omega)]; exact dec_cut _ _ hlt
      have hf : fText 40 ((Leb.enc (clip40 s).size ++ bl (clip40 s)).take j) = ([], 0, 3) := by
        unfold fText
        rw [hd]
        rfl
      rw [hf]
    · have ht : (Leb.enc (clip40 s).size ++ bl (clip40 s)).take j = Leb.enc (clip40 s).size ++ (bl (clip40 s)).take (j - (Leb.enc (clip40 s).size).length) := by rw [List.take_append, List.take_of_length_le hge]
      have hf : fText 40 ((Leb.enc (clip40 s).size ++ bl (clip40 s)).take j) = ([], 0, 3) := by
        unfold fText
        rw [ht, Leb.dec_enc _ _ (by omega)]
        dsimp only
        rw [if_neg (by simp), if_neg (by omega), if_pos (by rw [List.length_append, List.length_take, bl_length]; omega)]
      rw [hf]
  · rw [show pieceL k n s = bl (clip40 s) by unfold pieceL; rw [if_neg (by omega), if_neg (by omega), if_neg (by omega), if_neg (by omega), if_pos h]] at hj ⊢
    rw [bl_length] at hj
    unfold takeF
    rw [if_neg (by omega), if_neg (by omega), if_neg (by omega), if_neg (by omega), if_pos h]
    have hf : fRaw (clip40 s).size ((bl (clip40 s)).take j) = ([], 0, 3) := by
      unfold fRaw
      rw [if_neg (by omega), if_pos (by rw [List.length_take, bl_length]; omega)]
    rw [hf]
  · rw [show pieceL k n s = wordL (n % 4294967296).toNat by unfold pieceL; rw [if_neg (by omega), if_neg (by omega), if_neg (by omega), if_neg (by omega), if_neg (by omega)]] at hj ⊢
    simp only [wordL, List.length_cons, List.length_nil] at hj
    unfold takeF
    rw [if_neg (by omega), if_neg (by omega), if_neg (by omega), if_neg (by omega), if_neg (by omega)]
    have hf : fWord ((wordL (n % 4294967296).toNat).take j) = (0, 0, 3) := by
      unfold fWord
      rw [if_pos (by rw [List.length_take]; omega)]
    rw [hf]

/-- The bytes of the first k pieces. -/
def cat (l : List Pc) (k : Nat) : List Nat := (l.take k).flatMap Pc.bytes
theorem cat_zero (l : List Pc) : cat l 0 = [] := by simp [cat]
theorem cat_succ (l : List Pc) (k : Nat) (p : Pc) (h : l[k]? = some p) : cat l (k + 1) = cat l k ++ p.bytes := by
  have hk : k < l.length := (List.getElem?_eq_some_iff.1 h).1
  unfold cat
  rw [List.take_succ_eq_append_getElem hk, List.flatMap_append, (List.getElem?_eq_some_iff.1 h).2]
  simp
theorem cat_len (l : List Pc) : ∀ k, k ≤ l.length → (cat l k).length ≤ 50 * k
  | 0, _ => by simp [cat]
  | k + 1, h => by
    have h1 := cat_len l k (by omega)
    have h2 := cat_succ l k l[k] (List.getElem?_eq_getElem (by omega))
    have h3 := pieceL_len (l[k]).k (l[k]).n (l[k]).s
    rw [h2, List.length_append]
    unfold Pc.bytes at *
    omega
theorem cat_mono (l : List Pc) (k : Nat) : ∀ d, k + d ≤ l.length → ∃ t, cat l (k + d) = cat l k ++ t
  | 0, _ => ⟨[], by simp⟩
  | d + 1, h => by
    obtain ⟨t, ht⟩ := cat_mono l k d (by omega)
    refine ⟨t ++ (l[k + d]).bytes, ?_⟩
    rw [← Nat.add_assoc, cat_succ l (k + d) _ (List.getElem?_eq_getElem (by omega)), ht, List.append_assoc]
theorem cat_split (l : List Pc) (k K : Nat) (p : Pc) (hk : k < K) (hK : K ≤ l.length) (h : l[k]? = some p) : ∃ t, cat l K = cat l k ++ (p.bytes ++ t) := by
  obtain ⟨t, ht⟩ := cat_mono l (k + 1) (K - (k + 1)) (by omega)
  refine ⟨t, ?_⟩
  rw [show k + 1 + (K - (k + 1)) = K by omega] at ht
  rw [ht, cat_succ l k p h, List.append_assoc]
theorem stW_cat (m : Nat) (l : List Pc) (hm : 2000 ≤ m) : ∀ k, k ≤ 40 → k ≤ l.length → stW m l k = (false, cat l k)
  | 0, _, _ => by rw [stW_zero, cat_zero]
  | k + 1, h1, h2 => by
    have h3 := List.getElem?_eq_getElem (l := l) (i := k) (by omega)
    have h4 := cat_len l (k + 1) h2
    rw [cat_succ l k _ h3, List.length_append] at h4
    rw [stW_succ m l k _ h3, stW_cat m l hm k (by omega) (by omega), cat_succ l k _ h3]
    unfold puts
    rw [if_neg]
    simp
    omega
theorem wp_takes {W w : World} {g p : Nat} {l : List Nat} (k n : Int) (s : ByteArray) (b : Bool) (q : Nat) (e : Int) (h : WP W w g l p 0) (k0 : -9223372036854775808 ≤ k) (k1 : k ≤ 9223372036854775807) (n0 : 0 ≤ n) (n1 : n ≤ 18446744073709551615) (hs : s.size ≤ 9223372036854775807)
    (hf : ((takeF k n s (l.drop p)).1, p + (takeF k n s (l.drop p)).2.1, ((takeF k n s (l.drop p)).2.2 : Int)) = (b, q, e)) :
    Calls Try.prog 33 #[.pointer (some ⟨g, 0, none⟩), .agg #[.int .i64 k, .int .u64 n, .string s]] w fun x w' => x = .returned (.bool b) ∧ WP W w' g l q e := by
  injection hf with h1 h2
  injection h2 with h2 h3
  subst h1 h2 h3
  exact h.calls fun R P => takes R g p l k n s w P k0 k1 n0 n1 hs
end Go.Proofs.Ytdijcgjgdfhapaa
