/- Heads: what is written is read, and nothing shorter. -/
import Derived.Test.YtlcicpdnakmdnaaHeadD
namespace Go.Proofs.Ytlcicpdnakmdnaa
open Go.RowKit
namespace Head

theorem ofNat_toNat (n : Nat) (h : n < 256) : (UInt8.ofNat n).toNat = n := by rw [UInt8.toNat_ofNat']; exact Nat.mod_eq_of_lt h
theorem first_lt (c t : Nat) (b : Bool) (hc : c ≤ 3) (ht : t < 32) : first c t b < 256 := by unfold first; cases b <;> simp <;> omega
theorem first_t (c t : Nat) (b : Bool) (_hc : c ≤ 3) (ht : t < 32) : first c t b % 32 = t := by unfold first; cases b <;> simp <;> omega
theorem first_c (c t : Nat) (b : Bool) (_hc : c ≤ 3) (ht : t < 32) : first c t b / 64 = c := by unfold first; cases b <;> simp <;> omega
theorem first_b (c t : Nat) (b : Bool) (_hc : c ≤ 3) (ht : t < 32) : decide (first c t b / 32 % 2 = 1) = b := by unfold first; cases b <;> simp <;> omega
def digL (t : Nat) : List UInt8 := seg t 2 ++ seg t 1 ++ [UInt8.ofNat (t % 128)]
theorem digL_1 (t : Nat) (h : t < 128) : digL t = [UInt8.ofNat t] := by
  unfold digL seg
  rw [if_neg (by omega), if_neg (by omega), Nat.mod_eq_of_lt h]; rfl
theorem digL_2 (t : Nat) (h : 128 ≤ t) (h2 : t < 16384) : digL t = [UInt8.ofNat (128 + t / 128), UInt8.ofNat (t % 128)] := by
  unfold digL seg
  rw [if_neg (by omega), if_pos (by omega), show t / 2 ^ (7 * 1) % 128 = t / 128 from by omega]; rfl
theorem digL_3 (t : Nat) (h : 16384 ≤ t) (h2 : t ≤ 2097151) : digL t = [UInt8.ofNat (128 + t / 16384), UInt8.ofNat (128 + t / 128 % 128), UInt8.ofNat (t % 128)] := by
  unfold digL seg
  rw [if_pos (by omega), if_pos (by omega), show t / 2 ^ (7 * 2) % 128 = t / 16384 from by omega, show t / 2 ^ (7 * 1) % 128 = t / 128 % 128 from by omega]; rfl
theorem digR_L (t : Nat) (ht : t ≤ 2097151) (r : List UInt8) : digR (digL t ++ r) = some (t, (digL t).length) := by
  by_cases h1 : t < 128
  · rw [digL_1 t h1]
    have e := ofNat_toNat t (by omega)
    show digR (_ :: _) = _
    rw [digR_1 _ _ (by omega), e]; rfl
  · by_cases h2 : t < 16384
    · rw [digL_2 t (by omega) h2]
      have e1 := ofNat_toNat (128 + t / 128) (by omega)
      have e2 := ofNat_toNat (t % 128) (by omega)
      show digR (_ :: _ :: _) = _
      rw [digR_2 _ _ _ (by omega) (by omega), e1, e2]
      congr 2
      omega
    · rw [digL_3 t (by omega) ht]
      have e1 := ofNat_toNat (128 + t / 16384) (by omega)
      have e2 := ofNat_toNat (128 + t / 128 % 128) (by omega)
      have e3 := ofNat_toNat (t % 128) (by omega)
      show digR (_ :: _ :: _ :: _) = _
      rw [digR_3 _ _ _ _ (by omega) (by omega) (by omega), e1, e2, e3]
      congr 2
      omega
theorem digR_cut (t : Nat) (ht : t ≤ 2097151) (m : Nat) (hm : m < (digL t).length) : digR ((digL t).take m) = none := by
  by_cases h1 : t < 128
  · rw [digL_1 t h1] at hm ⊢
    obtain rfl : m = 0 := by simp at hm; omega
    rfl
  · by_cases h2 : t < 16384
    · rw [digL_2 t (by omega) h2] at hm ⊢
      have e1 := ofNat_toNat (128 + t / 128) (by omega)
      have hm2 : m = 0 ∨ m = 1 := by simp at hm; omega
      rcases hm2 with rfl | rfl
      · rfl
      · exact digR_1n _ (by omega)
    · rw [digL_3 t (by omega) ht] at hm ⊢
      have e1 := ofNat_toNat (128 + t / 16384) (by omega)
      have e2 := ofNat_toNat (128 + t / 128 % 128) (by omega)
      have hm2 : m = 0 ∨ m = 1 ∨ m = 2 := by simp at hm; omega
      rcases hm2 with rfl | rfl | rfl
      · rfl
      · exact digR_1n _ (by omega)
      · exact digR_2n _ _ (by omega) (by omega)
theorem tagL_long (c t : Nat) (b : Bool) (h : ¬ t < 31) : tagL c t b = UInt8.ofNat (first c 31 b) :: digL t := by unfold tagL; rw [if_neg h]; rfl
theorem tagR_L (c t : Nat) (b : Bool) (hc : c ≤ 3) (ht : t ≤ 2097151) (r : List UInt8) : tagR (tagL c t b ++ r) = some (c, t, b, (tagL c t b).length) := by
  by_cases h : t < 31
  · have e := ofNat_toNat _ (first_lt c t b hc (by omega))
    have e2 : tagL c t b = [UInt8.ofNat (first c t b)] := by unfold tagL; rw [if_pos h]
    rw [e2]
    show tagR (_ :: r) = _
    simp only [tagR, e, first_t c t b hc (by omega), first_c c t b hc (by omega), first_b c t b hc (by omega), h, if_true]
    rfl
  · have e := ofNat_toNat _ (first_lt c 31 b hc (by omega))
    have e2 := tagL_long c t b h
    have e3 := digR_L t ht r
    rw [e2]
    show tagR (_ :: (digL t ++ r)) = _
    simp only [tagR, e, first_t c 31 b hc (by omega), first_c c 31 b hc (by omega), first_b c 31 b hc (by omega), e3]
    rw [if_neg (by omega), if_pos (by rw [e2]; simp)]
    rfl
theorem tagR_cut (c t : Nat) (b : Bool) (hc : c ≤ 3) (ht : t ≤ 2097151) (m : Nat) (hm : m < (tagL c t b).length) : tagR ((tagL c t b).take m) = none := by
  by_cases h : t < 31
  · have e2 : tagL c t b = [UInt8.ofNat (first c t b)] := by unfold tagL; rw [if_pos h]
    rw [e2] at hm ⊢
    obtain rfl : m = 0 := by simp at hm; omega
    rfl
  · have e := ofNat_toNat _ (first_lt c 31 b hc (by omega))
    rw [tagL_long c t b h] at hm ⊢
    cases m with
    | zero => rfl
    | succ m =>
      have e3 := digR_cut t ht m (by simpa using hm)
      rw [List.take_succ_cons]
      simp only [tagR, e, first_t c 31 b hc (by omega), e3]
      rw [if_neg (by omega)]
theorem lenR_L (n : Nat) (hn : n ≤ 65535) (r : List UInt8) : lenR (lenL n ++ r) = (n, (lenL n).length, 0) := by
  by_cases h1 : n < 128
  · have e : lenL n = [UInt8.ofNat n] := by unfold lenL; rw [if_pos h1]
    have e1 := ofNat_toNat n (by omega)
    rw [e]
    show lenR (_ :: r) = _
    simp only [lenR, e1]
    rw [if_neg (by omega), if_pos h1]; rfl
  · by_cases h2 : n < 256
    · have e : lenL n = [129, UInt8.ofNat n] := by unfold lenL; rw [if_neg h1, if_pos h2]
      have e1 := ofNat_toNat n (by omega)
      rw [e]
      show lenR (129 :: UInt8.ofNat n :: r) = _
      have h129 : (129 : UInt8).toNat = 129 := rfl
      simp only [lenR, h129, e1]
      simp
      omega
    · have e : lenL n = [130, UInt8.ofNat (n / 256), UInt8.ofNat (n % 256)] := by unfold lenL; rw [if_neg h1, if_neg h2]
      have e1 := ofNat_toNat (n / 256) (by omega)
      have e2 := ofNat_toNat (n % 256) (by omega)
      rw [e]
      show lenR (130 :: UInt8.ofNat (n / 256) :: UInt8.ofNat (n % 256) :: r) = _
      have h130 : (130 : UInt8).toNat = 130 := rfl
      have e3 : 256 * (n / 256) + n % 256 = n := by omega
      simp only [lenR, h130, e1, e2, e3]
      simp
      omega
theorem lenR_cut (n : Nat) (_hn : n ≤ 65535) (m : Nat) (hm : m < (lenL n).length) : lenR ((lenL n).take m) = (0, 0, 5) := by
  by_cases h1 : n < 128
  · have e : lenL n = [UInt8.ofNat n] := by unfold lenL; rw [if_pos h1]
    rw [e] at hm ⊢
    obtain rfl : m = 0 := by simp at hm; omega
    rfl
  · by_cases h2 : n < 256
    · have e : lenL n = [129, UInt8.ofNat n] := by unfold lenL; rw [if_neg h1, if_pos h2]
      rw [e] at hm ⊢
      have hm2 : m = 0 ∨ m = 1 := by simp at hm; omega
      rcases hm2 with rfl | rfl <;> rfl
    · have e : lenL n = [130, UInt8.ofNat (n / 256), UInt8.ofNat (n % 256)] := by unfold lenL; rw [if_neg h1, if_neg h2]
      rw [e] at hm ⊢
      have hm2 : m = 0 ∨ m = 1 ∨ m = 2 := by simp at hm; omega
      rcases hm2 with rfl | rfl | rfl <;> rfl
theorem encL_len (c t : Nat) (b : Bool) (n : Nat) : (encL c t b n).length ≤ 7 ∧ 0 < (encL c t b n).length := by
  unfold encL tagL lenL seg
  simp only [List.length_append]
  constructor
  · split <;> (try split) <;> (try split) <;> (try split) <;> (try split) <;> simp
  · split <;> (try split) <;> (try split) <;> (try split) <;> (try split) <;> simp
theorem dec_enc (c t n : Nat) (b : Bool) (hc : c ≤ 3) (ht : t ≤ 2097151) (hn : n ≤ 65535) (r : List UInt8) : dec (encL c t b n ++ r) = (⟨c, t, b, n⟩, (encL c t b n).length, 0) := by
  unfold dec encL
  rw [List.append_assoc, tagR_L c t b hc ht]
  simp only [List.drop_left, lenR_L n hn r, if_true, List.length_append]
theorem dec_cut (c t n : Nat) (b : Bool) (hc : c ≤ 3) (ht : t ≤ 2097151) (hn : n ≤ 65535) (m : Nat) (hm : m < (encL c t b n).length) : dec ((encL c t b n).take m) = (none0, 0, 5) := by
  unfold dec encL at *
  rw [List.length_append] at hm
  by_cases h : m < (tagL c t b).length
  · rw [List.take_append_of_le_length (by omega), tagR_cut c t b hc ht m h]
  · rw [List.take_append, List.take_of_length_le (by omega), tagR_L c t b hc ht]
    simp only [List.drop_left, lenR_cut n hn _ (show m - (tagL c t b).length < (lenL n).length by omega)]
    rfl
/-- what was read is written so again -/
theorem enc_dec (l : List UInt8) (h : Hd) (k : Nat) (hd : dec l = (h, k, 0)) : h.c ≤ 3 ∧ h.t ≤ 2097151 ∧ h.n ≤ 65535 ∧ k ≤ l.length ∧ encL h.c h.t h.b h.n = l.take k := by
  unfold dec at hd
  cases ht : tagR l with
  | none => rw [ht] at hd; simp at hd
  | some q =>
    obtain ⟨c, t, b, j⟩ := q
    rw [ht] at hd
    obtain ⟨h1, h2, h3, h4, h5, h6⟩ := tagR_b _ _ _ _ _ ht
    obtain ⟨n, z, e, hr⟩ : ∃ n z e, lenR (l.drop j) = (n, z, e) := ⟨_, _, _, rfl⟩
    simp only [hr] at hd
    by_cases he : e = 0
    · subst he
      obtain ⟨g1, g2, g3, g4, g5⟩ := lenR_b _ _ _ hr
      rw [if_pos rfl] at hd
      cases hd
      rw [List.length_drop] at g4
      refine ⟨h1, h2, g1, by omega, ?_⟩
      show tagL c t b ++ lenL n = _
      rw [h6, g5, List.take_add]
    · rw [if_neg he] at hd
      cases hd
      exact absurd rfl he
theorem dec_bad (l : List UInt8) (h : Hd) (k e : Nat) (hd : dec l = (h, k, e)) (he : e ≠ 0) : h = none0 ∧ k = 0 := by
  unfold dec at hd
  cases ht : tagR l with
  | none => rw [ht] at hd; cases hd; exact ⟨rfl, rfl⟩
  | some q =>
    obtain ⟨c, t, b, j⟩ := q
    rw [ht] at hd
    obtain ⟨n, z, e2, hr⟩ : ∃ n z e, lenR (l.drop j) = (n, z, e) := ⟨_, _, _, rfl⟩
    simp only [hr] at hd
    by_cases h2 : e2 = 0
    · rw [if_pos h2] at hd
      cases hd
      exact absurd rfl he
    · rw [if_neg h2] at hd
      cases hd
      exact ⟨rfl, rfl⟩
end Head
end Go.Proofs.Ytlcicpdnakmdnaa
