/- Joined texts. -/
-- PACK: YtihpndfjcgodiaaUnnum YtihpndfjcgodiaaRefNum YtihpndfjcgodiaaRefNum2
import Derived.Test.YtihpndfjcgodiaaTw3
import Derived.Test.YtihpndfjcgodiaaTw1
import Derived.Test.YtihpndfjcgodiaaTw5
import Derived.Test.YtihpndfjcgodiaaTw22
import Derived.Test.YtihpndfjcgodiaaTw9
import Derived.Test.YtihpndfjcgodiaaTw13

/- The walk of digits.Unnum (NOT YET BUILT). -/
namespace Go.Proofs.Ytihpndfjcgodiaa
open Go.RowKit
namespace Dig

theorem fold_snoc (l : List UInt8) (c : UInt8) : (l ++ [c]).foldl step 0 = step (l.foldl step 0) c := by rw [List.foldl_append]; rfl
theorem wrap_bounds (a : Int) : -9223372036854775808 ≤ wrap64 a ∧ wrap64 a ≤ 9223372036854775807 := by unfold wrap64; omega
theorem step_bounds (n : Int) (c : UInt8) (h : -9223372036854775808 ≤ n ∧ n ≤ 9223372036854775807) : -9223372036854775808 ≤ step n c ∧ step n c ≤ 9223372036854775807 := by
  unfold step; split
  · exact wrap_bounds _
  · exact h

theorem fold_bounds (l : List UInt8) : ∀ q, -9223372036854775808 ≤ q ∧ q ≤ 9223372036854775807 → -9223372036854775808 ≤ l.foldl step q ∧ l.foldl step q ≤ 9223372036854775807 := by
  induction l with
  | nil => intro q h; exact h
  | cons c l ih => intro q h; exact ih _ (step_bounds q c h)
theorem unV_bounds (l : List UInt8) : -9223372036854775808 ≤ unV l ∧ unV l ≤ 9223372036854775807 := by
  unfold unV
  split
  · exact wrap_bounds _
  · exact fold_bounds l 0 (by omega)
end Dig
end Go.Proofs.Ytihpndfjcgodiaa

/- The reference's decimal texts: plain, Num, Dec, Undec, Unnum. -/
namespace Go.Proofs.Ytihpndfjcgodiaa
open Go.RowKit
namespace RefDig
open Dig

theorem digs_spec (f : Nat) : ∀ M : Nat, 1 ≤ f → M < 10 ^ f → 1 ≤ (digs f M).length ∧ (digs f M).length ≤ f ∧ M < 10 ^ (digs f M).length ∧ ((digs f M).length = 1 ∨ 10 ^ ((digs f M).length - 1) ≤ M) := by
  induction f with
  | zero => intro M h; omega
  | succ f ih =>
    intro M _ h2
    unfold digs
    by_cases hM : M < 10
    · rw [if_pos hM]; simp; omega
    · rw [if_neg hM]
      have hf : 1 ≤ f := by
        apply Classical.byContradiction
        intro h
        have : f = 0 := by omega
        subst this
        simp at h2
        omega
      obtain ⟨a, b, c, d⟩ := ih (M / 10) hf (by rw [Nat.pow_succ] at h2; omega)
      rw [List.length_append]
      obtain ⟨L, hL⟩ : ∃ L, L = (digs f (M / 10)).length := ⟨_, rfl⟩
      rw [← hL] at a b c d ⊢
      simp only [List.length_cons, List.length_nil, Nat.zero_add, Nat.add_sub_cancel]
      refine ⟨by omega, by omega, by rw [Nat.pow_succ]; omega, Or.inr ?_⟩
      rcases d with d | d
      · rw [d]; omega
      · obtain ⟨K, rfl⟩ : ∃ K, L = K + 1 := ⟨L - 1, by omega⟩
        rw [Nat.add_sub_cancel] at d
        rw [Nat.pow_succ]
        omega
theorem digs_eq (M L : Nat) (h1 : 1 ≤ L) (h2 : M < 10 ^ L) (h3 : L = 1 ∨ 10 ^ (L - 1) ≤ M) (hM : M ≤ 9223372036854775808) : digs 20 M = (List.range L).map fun i => UInt8.ofNat (dg M (L - 1 - i)).toNat :=
  digs_map 20 L M h1 (by
    rcases h3 with h3 | h3
    · omega
    · apply Classical.byContradiction
      intro hne
      have h5 : 10 ^ 20 ≤ 10 ^ (L - 1) := Nat.pow_le_pow_right (by decide) (by omega)
      have h6 : (9223372036854775808 : Nat) < 10 ^ 20 := by decide
      omega) h2 h3
theorem digs_fuel (f : Nat) : ∀ M : Nat, M < 10 ^ f → 1 ≤ f → digs f M = digs (f + 1) M := by
  induction f with
  | zero => intro M _ h; omega
  | succ f ih =>
    intro M h2 _
    show (if M < 10 then [UInt8.ofNat (48 + M)] else digs f (M / 10) ++ [UInt8.ofNat (48 + M % 10)]) = (if M < 10 then [UInt8.ofNat (48 + M)] else digs (f + 1) (M / 10) ++ [UInt8.ofNat (48 + M % 10)])
    by_cases hM : M < 10
    · rw [if_pos hM, if_pos hM]
    · rw [if_neg hM, if_neg hM, ih (M / 10) (by rw [Nat.pow_succ] at h2; omega) (by
        apply Classical.byContradiction
        intro h
        have : f = 0 := by omega
        subst this
        simp at h2
        omega)]
theorem digs_ten (M : Nat) (h : 10 ≤ M) (hM : M ≤ 9223372036854775808) : digs 20 M = digs 20 (M / 10) ++ digs 20 (M % 10) := by
  have h1 : digs 20 M = digs 19 (M / 10) ++ [UInt8.ofNat (48 + M % 10)] := by
    show (if M < 10 then [UInt8.ofNat (48 + M)] else digs 19 (M / 10) ++ [UInt8.ofNat (48 + M % 10)]) = _
    rw [if_neg (by omega)]
  have h2 : digs 20 (M % 10) = [UInt8.ofNat (48 + M % 10)] := by
    show (if M % 10 < 10 then [UInt8.ofNat (48 + M % 10)] else _) = _
    rw [if_pos (by omega)]
  rw [h1, h2, digs_fuel 19 (M / 10) (Nat.lt_of_le_of_lt (show M / 10 ≤ 922337203685477580 by omega) (by decide)) (by decide)]

/-- k digits of a number, from the right -/
def lowD (M k : Nat) : List UInt8 := (List.range k).map fun i => UInt8.ofNat (dg M (k - 1 - i)).toNat
theorem lowD_len (M k : Nat) : (lowD M k).length = k := by simp [lowD]
theorem lowD_succ (M k : Nat) : lowD M (k + 1) = UInt8.ofNat (48 + M / 10 ^ k % 10) :: lowD M k := by
  unfold lowD
  rw [List.range_succ_eq_map, List.map_cons, List.map_map]
  have h1 : (dg M (k + 1 - 1 - 0)).toNat = 48 + M / 10 ^ k % 10 := by unfold dg; rw [show k + 1 - 1 - 0 = k from by omega]; omega
  rw [h1]
  congr 1
  apply List.map_congr_left
  intro i _
  show UInt8.ofNat (dg M (k + 1 - 1 - (i + 1))).toNat = _
  rw [show k + 1 - 1 - (i + 1) = k - 1 - i from by omega]
theorem sign_dec (d : Nat) (h : d < 10) : sign d = UInt8.ofNat (48 + d) := by
  rcases (show d = 0 ∨ d = 1 ∨ d = 2 ∨ d = 3 ∨ d = 4 ∨ d = 5 ∨ d = 6 ∨ d = 7 ∨ d = 8 ∨ d = 9 by omega) with rfl | rfl | rfl | rfl | rfl | rfl | rfl | rfl | rfl | rfl <;> rfl

theorem wrap_neg (q : Nat) (_h : q ≤ 9223372036854775808) (_h2 : 1 ≤ q) : -((q : Int)) = -(q : Int) := rfl

theorem numD_digs (f : Nat) : ∀ M : Nat, M < 10 ^ f → numD (digs f M) = M ∧ (digs f M).all isD = true := by
  induction f with
  | zero => intro M h; simp at h; subst h; exact ⟨rfl, rfl⟩
  | succ f ih =>
    intro M h
    unfold digs
    have hb : ∀ d : Nat, d < 10 → (UInt8.ofNat (48 + d)).toNat = 48 + d := fun d hd => by rw [UInt8.toNat_ofNat']; omega
    have hi : ∀ d : Nat, d < 10 → isD (UInt8.ofNat (48 + d)) = true := fun d hd => by unfold isD; rw [hb d hd]; simp; omega
    by_cases hM : M < 10
    · rw [if_pos hM]
      refine ⟨?_, by rw [List.all_cons, hi M hM]; rfl⟩
      show 10 * 0 + ((UInt8.ofNat (48 + M)).toNat - 48) = M
      rw [hb M hM]; omega
    · rw [if_neg hM]
      obtain ⟨h1, h2⟩ := ih (M / 10) (by rw [Nat.pow_succ] at h; omega)
      refine ⟨?_, by rw [List.all_append, h2, List.all_cons, hi (M % 10) (by omega)]; rfl⟩
      rw [numD_snoc, h1, hb (M % 10) (by omega)]; omega
theorem fold_ge (m : List UInt8) : ∀ n : Nat, n ≤ m.foldl (fun n c => 10 * n + (c.toNat - 48)) n := by
  induction m with
  | nil => intro n; exact Nat.le_refl _
  | cons c m ih => intro n; exact Nat.le_trans (by omega) (ih (10 * n + (c.toNat - 48)))
theorem numD_app (l m : List UInt8) : numD l ≤ numD (l ++ m) := by
  unfold numD
  rw [List.foldl_append]
  exact fold_ge m _
theorem numD_take (l : List UInt8) (k : Nat) : numD (l.take k) ≤ numD l := by
  have h := numD_app (l.take k) (l.drop k)
  rwa [List.take_append_drop] at h

/-- a text of digits whose number's text it is -/
theorem pos_true (l : List UInt8) (hh : l.head? ≠ some 45) (h : numS (unV l) = l) : l.all isD = true ∧ (numD l : Int) = unV l := by
  have hb := unV_bounds l
  have hlt : (unV l).natAbs < 10 ^ 20 := Nat.lt_of_le_of_lt (show (unV l).natAbs ≤ 9223372036854775808 by omega) (by decide)
  obtain ⟨h1, h2⟩ := numD_digs 20 _ hlt
  by_cases hn : unV l < 0
  · exfalso
    unfold numS at h
    rw [if_pos hn] at h
    exact hh (by rw [← h]; rfl)
  · unfold numS at h
    rw [if_neg hn] at h
    rw [h] at h1 h2
    exact ⟨h2, by rw [h1]; omega⟩
theorem neg_true (l m : List UInt8) (hl : l = 45 :: m) (h : numS (unV l) = l) : m.all isD = true ∧ -(numD m : Int) = unV l := by
  have hb := unV_bounds l
  have hlt : (unV l).natAbs < 10 ^ 20 := Nat.lt_of_le_of_lt (show (unV l).natAbs ≤ 9223372036854775808 by omega) (by decide)
  obtain ⟨h1, h2⟩ := numD_digs 20 _ hlt
  by_cases hn : unV l < 0
  · unfold numS at h
    rw [if_pos hn] at h
    have h3 : digs 20 (unV l).natAbs = m := by rw [hl] at h ⊢; exact List.tail_eq_of_cons_eq h
    rw [h3] at h1 h2
    exact ⟨h2, by rw [h1]; omega⟩
  · exfalso
    unfold numS at h
    rw [if_neg hn] at h
    have h4 := (digs_head 20 (unV l).natAbs (by decide)).2
    rw [h, hl] at h4
    exact h4 rfl

end RefDig
end Go.Proofs.Ytihpndfjcgodiaa

/- The reference's Undec, Dec, Unnum. -/
namespace Go.Proofs.Ytihpndfjcgodiaa
open Go.RowKit
namespace RefDig
open Dig

theorem val_dig (c : Nat) (h : 48 ≤ c ∧ c ≤ 57) : val c = (c : Int) - 48 := by unfold val; rw [if_pos h]
theorem val_not (c : Nat) (h : ¬ (48 ≤ c ∧ c ≤ 57)) : val c < 0 ∨ 9 < val c := by unfold val; rw [if_neg h]; split <;> omega

theorem dec_same (n W : Nat) (hn : n ≤ 9223372036854775807) (h : (digs 20 n).length ≤ W) : bs (List.replicate (W - (digs 20 n).length) 48 ++ digs 20 n) = strOfNums ((List.range W).map fun i => dg n (W - 1 - i)) := by
  obtain ⟨a, b, c, d⟩ := digs_spec 20 n (by decide) (Nat.lt_of_le_of_lt hn (by decide))
  have he := digs_eq n _ a c d (by omega)
  obtain ⟨L, hL⟩ : ∃ L, L = (digs 20 n).length := ⟨_, rfl⟩
  rw [← hL] at a b c d he h ⊢
  apply ba_ext
  rw [list_bs, nums_list, List.map_map, he]
  apply List.ext_getElem?
  intro i
  by_cases hi : i < W - L
  · rw [List.getElem?_append_left (by simpa using hi)]
    have h1 : n / 10 ^ (W - 1 - i) = 0 := Nat.div_eq_of_lt (Nat.lt_of_lt_of_le c (Nat.pow_le_pow_right (by decide) (by omega)))
    have h2 : dg n (W - 1 - i) = 48 := by unfold dg; rw [h1]; rfl
    simp [hi, show i < W by omega, h2]
  · rw [List.getElem?_append_right (by simp; omega)]
    by_cases hw : i < W
    · simp [show i - (W - L) < L by omega, hw]
      rw [show L - 1 - (i - (W - L)) = W - 1 - i by omega]
    · rw [List.getElem?_eq_none (by simp; omega), List.getElem?_eq_none (by simp; omega)]

theorem dec_iff (n W : Nat) (hn : n ≤ 9223372036854775807) (hW : 1 ≤ W) : n < 10 ^ W ↔ (digs 20 n).length ≤ W := by
  obtain ⟨a, b, c, d⟩ := digs_spec 20 n (by decide) (Nat.lt_of_le_of_lt hn (by decide))
  constructor
  · intro h
    apply Classical.byContradiction
    intro h2
    rcases d with d | d
    · omega
    · have h3 : 10 ^ W ≤ 10 ^ ((digs 20 n).length - 1) := Nat.pow_le_pow_right (by decide) (by omega)
      omega
  · intro h
    exact Nat.lt_of_lt_of_le c (Nat.pow_le_pow_right (by decide) h)

end RefDig
end Go.Proofs.Ytihpndfjcgodiaa
