/- Whole numbers as bytes: plain mathematics. -/
import Derived.Test.YtlcicpdnakmdnaaBase
import Derived.Test.YtlcicpdnakmdnaaStr
import Derived.Test.YtlcicpdnakmdnaaOct
import Derived.Test.YtlcicpdnakmdnaaOct3
import Derived.Test.YtlcicpdnakmdnaaRefOct
namespace Go.Proofs.Ytlcicpdnakmdnaa
open Go.RowKit
namespace Whole
open RefOct (low low_len)
open Oct (numN trimL)

def rightL : List UInt8 → Bool
  | [] => false
  | [_] => true
  | a :: b :: _ => !(decide (a.toNat = 0) && decide (b.toNat < 128)) && !(decide (a.toNat = 255) && decide (128 ≤ b.toNat))
/-- the number of k bytes, the first of which bears the sign -/
def sg (l : List UInt8) (k : Nat) : Int := (numN (l.take k) : Int) - if 128 ≤ (l.getD 0 0).toNat then 256 ^ k else 0
def sgn (l : List UInt8) : Int := sg l l.length
theorem sg_zero (l : List UInt8) : sg l 0 = if 128 ≤ (l.getD 0 0).toNat then -1 else 0 := by unfold sg; split <;> simp [numN]
theorem sg_succ (l : List UInt8) (k : Nat) (x : UInt8) (h : l[k]? = some x) : sg l (k + 1) = 256 * sg l k + (x.toNat : Int) := by
  have hk : k < l.length := (List.getElem?_eq_some_iff.1 h).1
  have hx : l[k] = x := (List.getElem?_eq_some_iff.1 h).2
  unfold sg
  rw [List.take_succ_eq_append_getElem hk, hx, Oct.numN_snoc]
  split
  · rw [Int.pow_succ]; omega
  · omega
theorem sg_one (l : List UInt8) (x : UInt8) (h : l[0]? = some x) : sg l 1 = if 128 ≤ x.toNat then (x.toNat : Int) - 256 else (x.toNat : Int) := by
  rw [sg_succ l 0 x h, sg_zero, show l.getD 0 0 = x from by unfold List.getD; rw [h]; rfl]
  split <;> omega
theorem sg_bd (l : List UInt8) (k : Nat) (h : k < l.length) : -(128 * 256 ^ k : Int) ≤ sg l (k + 1) ∧ sg l (k + 1) < 128 * 256 ^ k := by
  induction k with
  | zero =>
    have hx : l[0]? = some l[0] := List.getElem?_eq_getElem h
    have hb := l[0].toNat_lt
    rw [sg_one l _ hx]
    split <;> omega
  | succ k ih =>
    obtain ⟨h1, h2⟩ := ih (by omega)
    have hx : l[k + 1]? = some l[k + 1] := List.getElem?_eq_getElem h
    have hb := l[k + 1].toNat_lt
    rw [sg_succ l (k + 1) _ hx, Int.pow_succ]
    generalize (256 : Int) ^ k = P at *
    omega
theorem sg_small (l : List UInt8) (k : Nat) (h : k < l.length) (h7 : k ≤ 7) : -36028797018963968 ≤ sg l k ∧ sg l k ≤ 36028797018963967 := by
  cases k with
  | zero => rw [sg_zero]; split <;> omega
  | succ k =>
    obtain ⟨h1, h2⟩ := sg_bd l k (by omega)
    have h3 : (256 : Int) ^ k ≤ 256 ^ 6 := by
      have h4 : (256 : Nat) ^ k ≤ 256 ^ 6 := Nat.pow_le_pow_right (by decide) (by omega)
      have h5 : ((256 ^ k : Nat) : Int) ≤ ((256 ^ 6 : Nat) : Int) := by omega
      simpa using h5
    have h6 : (256 : Int) ^ 6 = 281474976710656 := by decide
    omega

/-- n fits into k bytes -/
def fits (n : Int) (k : Nat) : Prop := -(128 * 256 ^ (k - 1) : Int) ≤ n ∧ n < 128 * 256 ^ (k - 1)
/-- how many bytes a number takes -/
def wid (n : Int) : Nat := if -128 ≤ n ∧ n < 128 then 1 else if -32768 ≤ n ∧ n < 32768 then 2 else if -8388608 ≤ n ∧ n < 8388608 then 3 else if -2147483648 ≤ n ∧ n < 2147483648 then 4 else if -549755813888 ≤ n ∧ n < 549755813888 then 5
  else if -140737488355328 ≤ n ∧ n < 140737488355328 then 6 else if -36028797018963968 ≤ n ∧ n < 36028797018963968 then 7 else 8
theorem wid_bd (n : Int) : 1 ≤ wid n ∧ wid n ≤ 8 := by unfold wid; constructor <;> (repeat' split) <;> omega
theorem low_at (u : Int) (k : Nat) : low u (k + 1) = UInt8.ofNat (u / 2 ^ (8 * k) % 256).toNat :: low u k := rfl
theorem byte_at (u : Int) (k : Nat) : ((UInt8.ofNat (u / 2 ^ (8 * k) % 256).toNat).toNat : Int) = u / 2 ^ (8 * k) % 256 := by
  have h1 : 0 ≤ u / 2 ^ (8 * k) % 256 := Int.emod_nonneg _ (by decide)
  have h2 : u / 2 ^ (8 * k) % 256 < 256 := Int.emod_lt_of_pos _ (by decide)
  rw [UInt8.toNat_ofNat']
  omega

theorem right_wide (n u : Int) (hu : u = n % 18446744073709551616) (h1 : -9223372036854775808 ≤ n) (h2 : n ≤ 9223372036854775807) (j : Nat) (hj : 2 ≤ j) (hj8 : j ≤ 8) (hw : wid n ≤ j) : rightL (low u j) = false ↔ wid n < j := by
  obtain ⟨k, rfl⟩ : ∃ k, j = k + 2 := ⟨j - 2, by omega⟩
  rw [low_at, low_at]
  have b1 := byte_at u (k + 1)
  have b2 := byte_at u k
  show (!(decide ((UInt8.ofNat (u / 2 ^ (8 * (k + 1)) % 256).toNat).toNat = 0) && decide ((UInt8.ofNat (u / 2 ^ (8 * k) % 256).toNat).toNat < 128)) && !(decide ((UInt8.ofNat (u / 2 ^ (8 * (k + 1)) % 256).toNat).toNat = 255) && decide (128 ≤ (UInt8.ofNat (u / 2 ^ (8 * k) % 256).toNat).toNat))) = false ↔ _
  generalize (UInt8.ofNat (u / 2 ^ (8 * (k + 1)) % 256).toNat).toNat = A at *
  generalize (UInt8.ofNat (u / 2 ^ (8 * k) % 256).toNat).toNat = B at *
  have key : (!(decide (A = 0) && decide (B < 128)) && !(decide (A = 255) && decide (128 ≤ B))) = false ↔ (A = 0 ∧ B < 128) ∨ (A = 255 ∧ 128 ≤ B) := by
    by_cases c1 : A = 0 <;> by_cases c2 : B < 128 <;> by_cases c3 : A = 255 <;> by_cases c4 : 128 ≤ B <;> simp [c1, c2, c3, c4] <;> omega
  rw [key]
  rcases (show k = 0 ∨ k = 1 ∨ k = 2 ∨ k = 3 ∨ k = 4 ∨ k = 5 ∨ k = 6 by omega) with rfl | rfl | rfl | rfl | rfl | rfl | rfl <;>
  · simp only [Nat.zero_add, Nat.reduceAdd, Nat.reduceMul, Nat.mul_zero, Int.reducePow, Int.pow_zero, Int.ediv_one] at b1 b2
    unfold wid at hw ⊢
    repeat' split at hw
    all_goals first | (exfalso; omega) | skip
    all_goals simp only [*, if_true, if_false, true_and, and_self]
    all_goals omega
theorem eight {P : Nat → Prop} (j : Nat) (hj : 1 ≤ j) (hj8 : j ≤ 8) (h1 : P 1) (h2 : P 2) (h3 : P 3) (h4 : P 4) (h5 : P 5) (h6 : P 6) (h7 : P 7) (h8 : P 8) : P j := by
  rcases (show j = 1 ∨ j = 2 ∨ j = 3 ∨ j = 4 ∨ j = 5 ∨ j = 6 ∨ j = 7 ∨ j = 8 by omega) with rfl | rfl | rfl | rfl | rfl | rfl | rfl | rfl <;> assumption
theorem wid_le (n : Int) (j : Nat) (hj : 1 ≤ j) (hj8 : j ≤ 8) (hr : -9223372036854775808 ≤ n ∧ n ≤ 9223372036854775807) : wid n ≤ j ↔ fits n j := by
  refine eight (P := fun j => wid n ≤ j ↔ fits n j) j hj hj8 ?_ ?_ ?_ ?_ ?_ ?_ ?_ ?_ <;>
  · unfold fits wid
    simp only [Nat.reduceSub, Int.reducePow, Int.pow_zero, Int.mul_one, Int.reduceMul, Int.reduceNeg, Nat.sub_self]
    repeat' split
    all_goals omega
theorem fold_cons (l : List UInt8) : ∀ n : Nat, l.foldl (fun n c => n * 256 + c.toNat) n = n * 256 ^ l.length + numN l := by
  induction l with
  | nil => intro n; simp [numN]
  | cons c l ih =>
    intro n
    have h := ih c.toNat
    unfold numN
    simp only [List.foldl_cons, List.length_cons, Nat.zero_mul, Nat.zero_add]
    rw [ih (n * 256 + c.toNat), h, Nat.add_mul, Nat.mul_assoc, ← Nat.pow_succ', Nat.add_assoc]
theorem numN_cons (c : UInt8) (l : List UInt8) : numN (c :: l) = c.toNat * 256 ^ l.length + numN l := by
  have h := fold_cons l c.toNat
  unfold numN
  simp only [List.foldl_cons, Nat.zero_mul, Nat.zero_add]
  exact h
theorem pow256 (k : Nat) : (2 : Nat) ^ (8 * k) = 256 ^ k := by rw [Nat.pow_mul]
theorem byte_nat (U k : Nat) : (UInt8.ofNat ((U : Int) / 2 ^ (8 * k) % 256).toNat).toNat = U / 256 ^ k % 256 := by
  have h := byte_at (U : Int) k
  have h2 : ((U : Int) / 2 ^ (8 * k) % 256) = ((U / 2 ^ (8 * k) % 256 : Nat) : Int) := by
    rw [Int.natCast_emod, Int.natCast_ediv, Int.natCast_pow]; rfl
  have h4 : (UInt8.ofNat ((U : Int) / 2 ^ (8 * k) % 256).toNat).toNat = U / 2 ^ (8 * k) % 256 := Int.ofNat_inj.1 (h.trans h2)
  rw [h4, pow256]
theorem numN_low (U : Nat) (k : Nat) : numN (low (U : Int) k) = U % 256 ^ k := by
  induction k with
  | zero => simp [low, numN, Nat.mod_one]
  | succ k ih =>
    rw [low_at, numN_cons, ih, low_len, byte_nat, Nat.pow_succ, Nat.mod_mul, Nat.mul_comm]
    omega
theorem low_num (l : List UInt8) (t : Nat) : low (((numN l + t * 256 ^ l.length : Nat)) : Int) l.length = l := by
  induction l generalizing t with
  | nil => rfl
  | cons c l ih =>
    have hc := c.toNat_lt
    have hlt := Oct.numN_lt l l.length (Nat.le_refl _)
    have hpos : 0 < 256 ^ l.length := Nat.pow_pos (by decide)
    have he : numN (c :: l) + t * 256 ^ (c :: l).length = numN l + (c.toNat + 256 * t) * 256 ^ l.length := by
      rw [numN_cons, List.length_cons, Nat.pow_succ, Nat.add_mul]
      have : t * (256 ^ l.length * 256) = 256 * t * 256 ^ l.length := by rw [← Nat.mul_assoc, Nat.mul_comm, ← Nat.mul_assoc]
      omega
    rw [he, List.length_cons, low_at, ih (c.toNat + 256 * t)]
    congr 1
    apply UInt8.toNat_inj.1
    rw [byte_nat, Nat.add_mul_div_right _ _ hpos, Nat.div_eq_of_lt hlt]
    omega
theorem top_low (U k : Nat) : ((low (U : Int) (k + 1)).getD 0 0).toNat = U / 256 ^ k % 256 := by rw [low_at]; exact byte_nat U k

theorem sgn_low (n u : Int) (hu : u = n % 18446744073709551616) (j : Nat) (hj : 1 ≤ j) (hj8 : j ≤ 8) (hw : fits n j) : sgn (low u j) = n := by
  obtain ⟨U, rfl⟩ := Int.eq_ofNat_of_zero_le (show 0 ≤ u by omega)
  obtain ⟨k, rfl⟩ : ∃ k, j = k + 1 := ⟨j - 1, by omega⟩
  unfold sgn sg
  rw [low_len, List.take_of_length_le (by rw [low_len]; omega), numN_low, top_low]
  unfold fits at hw
  rcases (show k = 0 ∨ k = 1 ∨ k = 2 ∨ k = 3 ∨ k = 4 ∨ k = 5 ∨ k = 6 ∨ k = 7 by omega) with rfl | rfl | rfl | rfl | rfl | rfl | rfl | rfl <;>
  · simp only [Nat.zero_add, Nat.reduceAdd, Nat.reducePow, Nat.pow_zero, Nat.div_one, Nat.reduceSub, Int.reducePow, Int.pow_zero, Int.mul_one, Int.reduceMul, Int.reduceNeg, Nat.sub_self, Nat.add_sub_cancel] at hw ⊢
    split <;> omega
theorem sgn_fits (l : List UInt8) (h : 1 ≤ l.length) : fits (sgn l) l.length := by
  obtain ⟨k, hk⟩ : ∃ k, l.length = k + 1 := ⟨l.length - 1, by omega⟩
  unfold fits sgn
  rw [hk, Nat.add_sub_cancel]
  exact sg_bd l k (by omega)
theorem sgn_range (l : List UInt8) (h : 1 ≤ l.length) (h8 : l.length ≤ 8) : -9223372036854775808 ≤ sgn l ∧ sgn l ≤ 9223372036854775807 := by
  have hf := sgn_fits l h
  unfold fits at hf
  have h4 : (256 : Nat) ^ (l.length - 1) ≤ 256 ^ 7 := Nat.pow_le_pow_right (by decide) (by omega)
  have h5 : ((256 ^ (l.length - 1) : Nat) : Int) ≤ ((256 ^ 7 : Nat) : Int) := by omega
  rw [Int.natCast_pow] at h5
  have h6 : ((256 ^ 7 : Nat) : Int) = 72057594037927936 := by decide
  have h7 : ((256 : Nat) : Int) = 256 := rfl
  rw [h6, h7] at h5
  omega
/-- what is read has just its bytes -/
theorem low_sgn (l : List UInt8) (h : 1 ≤ l.length) (h8 : l.length ≤ 8) : low (sgn l % 18446744073709551616) l.length = l := by
  have hr := sgn_range l h h8
  have hlt := Oct.numN_lt l l.length (Nat.le_refl _)
  unfold sgn sg at *
  rw [List.take_of_length_le (Nat.le_refl _)] at *
  obtain ⟨c, hc⟩ : ∃ c, c = 8 - l.length := ⟨_, rfl⟩
  have hp : 256 ^ l.length * 256 ^ c = 18446744073709551616 := by rw [← Nat.pow_add, show l.length + c = 8 by omega]
  have hc1 : 1 ≤ 256 ^ c := Nat.pow_pos (by decide)
  by_cases hs : 128 ≤ (l.getD 0 0).toNat
  · rw [if_pos hs] at hr ⊢
    have h1 := low_num l (256 ^ c - 1)
    have he : ((numN l : Int) - 256 ^ l.length) % 18446744073709551616 = ((numN l + (256 ^ c - 1) * 256 ^ l.length : Nat) : Int) := by
      have h2 : (256 ^ c - 1) * 256 ^ l.length = 18446744073709551616 - 256 ^ l.length := by rw [Nat.sub_mul, Nat.mul_comm, hp, Nat.one_mul]
      have h3 : 256 ^ l.length ≤ 18446744073709551616 := by
        rw [← hp]
        exact Nat.le_mul_of_pos_right _ hc1
      rw [h2]
      have h4 : ((256 : Int) ^ l.length) = ((256 ^ l.length : Nat) : Int) := by rw [Int.natCast_pow]; rfl
      rw [h4]
      generalize 256 ^ l.length = P at *
      have hP : 0 < P := by omega
      omega
    rw [he]
    exact h1
  · rw [if_neg hs] at hr ⊢
    have h1 := low_num l 0
    rw [Nat.zero_mul, Nat.add_zero] at h1
    have he : ((numN l : Int) - 0) % 18446744073709551616 = (numN l : Int) := by omega
    rw [he]
    exact h1
theorem wid_sgn (l : List UInt8) (h : 1 ≤ l.length) (h8 : l.length ≤ 8) (hr : rightL l = true) : wid (sgn l) = l.length := by
  have hb := sgn_range l h h8
  have hle := (wid_le (sgn l) l.length h h8 hb).2 (sgn_fits l h)
  have h1 := (wid_bd (sgn l)).1
  by_cases h2 : 2 ≤ l.length
  · have h3 := right_wide (sgn l) _ rfl hb.1 hb.2 l.length h2 h8 hle
    rw [low_sgn l h h8, hr] at h3
    have h4 : ¬ wid (sgn l) < l.length := fun h5 => by have := h3.2 h5; cases this
    omega
  · omega
theorem right_low (n u : Int) (hu : u = n % 18446744073709551616) (hr : -9223372036854775808 ≤ n ∧ n ≤ 9223372036854775807) : rightL (low u (wid n)) = true := by
  obtain ⟨h1, h8⟩ := wid_bd n
  by_cases h2 : 2 ≤ wid n
  · have h3 := right_wide n u hu hr.1 hr.2 (wid n) h2 h8 (Nat.le_refl _)
    cases hc : rightL (low u (wid n)) with
    | true => rfl
    | false => exact absurd (h3.1 hc) (Nat.lt_irrefl _)
  · rw [show wid n = 1 by omega]; rfl
end Whole
end Go.Proofs.Ytlcicpdnakmdnaa
