/- Joined texts. -/
-- PACK: YtjpjfdmcijleoaaDig YtjpjfdmcijleoaaDig2 YtjpjfdmcijleoaaNum YtjpjfdmcijleoaaDigB YtjpjfdmcijleoaaUnnum YtjpjfdmcijleoaaRefNum YtjpjfdmcijleoaaRefNum2 YtjpjfdmcijleoaaRefHead
import Derived.Test.YtjpjfdmcijleoaaTr3
import Derived.Test.YtjpjfdmcijleoaaTr19
import Derived.Test.YtjpjfdmcijleoaaTr2
import Derived.Deep.QuietTactic
import Derived.BigQuiet
import Derived.Laws.BytesArg
import Derived.Test.YtjpjfdmcijleoaaTr4
import Derived.Test.YtjpjfdmcijleoaaTr7
import Derived.Test.YtjpjfdmcijleoaaTr11
import Derived.Deep.RegionWith

/- The walks of package digits. -/
namespace Go.Proofs.Ytjpjfdmcijleoaa
open Go.RowKit
namespace Dig

end Dig
end Go.Proofs.Ytjpjfdmcijleoaa

/- The walks of package digits: decimal texts. -/
namespace Go.Proofs.Ytjpjfdmcijleoaa
open Go.RowKit
namespace Dig

def numD (l : List UInt8) : Nat := l.foldl (fun n c => 10 * n + (c.toNat - 48)) 0
def isD (c : UInt8) : Bool := decide (48 ≤ c.toNat) && decide (c.toNat ≤ 57)
theorem numD_snoc (l : List UInt8) (c : UInt8) : numD (l ++ [c]) = 10 * numD l + (c.toNat - 48) := by unfold numD; rw [List.foldl_append]; rfl
theorem numD_aux (l : List UInt8) (h : l.all isD = true) : ∀ n : Nat, l.foldl (fun n c => 10 * n + (c.toNat - 48)) n < (n + 1) * 10 ^ l.length := by
  induction l with
  | nil => intro n; simp
  | cons c l ih =>
    intro n
    rw [List.all_cons, Bool.and_eq_true] at h
    have h1 := ih h.2 (10 * n + (c.toNat - 48))
    have hc : c.toNat ≤ 57 := by have := h.1; unfold isD at this; simp at this; exact this.2
    simp only [List.foldl_cons, List.length_cons]
    refine Nat.lt_of_lt_of_le h1 ?_
    rw [Nat.pow_succ, Nat.mul_comm (10 ^ l.length) 10, ← Nat.mul_assoc]
    exact Nat.mul_le_mul_right _ (by omega)
theorem numD_lt (l : List UInt8) (k : Nat) (h : l.all isD = true) (hk : l.length ≤ k) : numD l < 10 ^ k := by
  have h1 := numD_aux l h 0
  rw [Nat.zero_add, Nat.one_mul] at h1
  exact Nat.lt_of_lt_of_le h1 (Nat.pow_le_pow_right (by decide) hk)
theorem take_snoc (s : ByteArray) (k : Nat) (h : k < s.size) : s.data.toList.take (k + 1) = s.data.toList.take k ++ [s[k]] := by
  rw [List.take_succ_eq_append_getElem (by simpa using h)]; rfl
theorem all_take (l : List UInt8) (k : Nat) (h : l.all isD = true) : (l.take k).all isD = true := by
  rw [List.all_eq_true] at *
  exact fun x hx => h x (List.mem_of_mem_take hx)

/-- digit number j from the right -/
def dg (n j : Nat) : Int := 48 + ((n / 10 ^ j % 10 : Nat) : Int)

end Dig
end Go.Proofs.Ytjpjfdmcijleoaa

/- The walk of digits.Num. -/
namespace Go.Proofs.Ytjpjfdmcijleoaa
open Go.RowKit
namespace Dig

theorem neg_mod (r : Int) (q : Nat) (h : r = -(q : Int)) : r.tmod 10 = -((q % 10 : Nat) : Int) := by
  rw [h, Int.neg_tmod, Int.tmod_eq_emod_of_nonneg (by omega)]; simp
theorem neg_div (r : Int) (q : Nat) (h : r = -(q : Int)) : r.tdiv 10 = -((q / 10 : Nat) : Int) := by
  rw [h, Int.neg_tdiv, Int.tdiv_eq_ediv_of_nonneg (by omega)]; simp

end Dig
end Go.Proofs.Ytjpjfdmcijleoaa

/- Digits there and back, in plain Lean: hexadecimal, decimal, numbers. -/
namespace Go.Proofs.Ytjpjfdmcijleoaa
open Go.RowKit
namespace Dig

theorem sv_all : (List.range 256).all (fun c => val c == -1 || (sign (val c).toNat).toNat == c && decide (0 ≤ val c)) = true := by decide +kernel
theorem sign_val (c : UInt8) (h : 0 ≤ val c.toNat) : sign (val c.toNat).toNat = c := by
  have h1 := List.all_eq_true.1 sv_all c.toNat (List.mem_range.2 c.toNat_lt)
  rw [Bool.or_eq_true, Bool.and_eq_true, beq_iff_eq, beq_iff_eq] at h1
  rcases h1 with h1 | h1
  · omega
  · exact UInt8.toNat_inj.1 h1.1
theorem getD_get (l : List UInt8) (i : Nat) (x : UInt8) (h : l[i]? = some x) : l.getD i 0 = x := by unfold List.getD; rw [h]; rfl
theorem hi_hex (l : List UInt8) (j : Nat) (hj : j < l.length) : hi (hexL l) j = (((l.getD j 0).toNat / 16 : Nat) : Int) ∧ lo (hexL l) j = (((l.getD j 0).toNat % 16 : Nat) : Int) := by
  have hc := (l.getD j 0).toNat_lt
  have h1 := hexL_get l (2 * j) (by omega)
  have h2 := hexL_get l (2 * j + 1) (by omega)
  rw [if_pos (by omega), show 2 * j / 2 = j from by omega] at h1
  rw [if_neg (by omega), show (2 * j + 1) / 2 = j from by omega] at h2
  unfold hi lo
  rw [getD_get _ _ _ h1, getD_get _ _ _ h2]
  exact ⟨val_sign _ _ (by omega) rfl, val_sign _ _ (by omega) rfl⟩
theorem ok_hex (l : List UInt8) : okN (hexL l) l.length = true := by
  unfold okN
  rw [List.all_eq_true]
  intro j hj
  obtain ⟨h1, h2⟩ := hi_hex l j (List.mem_range.1 hj)
  rw [h1, h2]
  simp
  omega
theorem pair_hex (l : List UInt8) : ((List.range l.length).map (pairV (hexL l))).map (fun n => UInt8.ofNat n.toNat) = l := by
  apply List.ext_getElem?
  intro i
  by_cases h : i < l.length
  · obtain ⟨h1, h2⟩ := hi_hex l i h
    have hg : l.getD i 0 = l[i] := by simp [List.getD, h]
    rw [hg] at h1 h2
    have hp : (pairV (hexL l) i).toNat = l[i].toNat := by unfold pairV; rw [h1, h2]; omega
    rw [List.map_map, List.getElem?_map, List.getElem?_range h, List.getElem?_eq_getElem h]
    show some (UInt8.ofNat (pairV (hexL l) i).toNat) = _
    rw [hp, UInt8.ofNat_toNat]
  · rw [List.getElem?_eq_none (by simp; omega), List.getElem?_eq_none (by omega)]
theorem hex_pair (t : List UInt8) (m : Nat) (hm : t.length = 2 * m) (h : okN t m = true) : hexL (((List.range m).map (pairV t)).map fun n => UInt8.ofNat n.toNat) = t := by
  have hl : (((List.range m).map (pairV t)).map fun n => UInt8.ofNat n.toNat).length = m := by simp
  apply List.ext_getElem?
  intro i
  by_cases hi2 : i < 2 * m
  · rw [hexL_get _ i (by rw [hl]; exact hi2)]
    have hj : i / 2 < m := by omega
    have hok := List.all_eq_true.1 h (i / 2) (List.mem_range.2 hj)
    rw [Bool.and_eq_true, decide_eq_true_eq, decide_eq_true_eq] at hok
    obtain ⟨o1, o2⟩ := hok
    have v1 := val_lt (t.getD (2 * (i / 2)) 0).toNat
    have v2 := val_lt (t.getD (2 * (i / 2) + 1) 0).toNat
    have hg : ((((List.range m).map (pairV t)).map fun n => UInt8.ofNat n.toNat).getD (i / 2) 0).toNat = (pairV t (i / 2)).toNat := by
      have h9 : (((List.range m).map (pairV t)).map fun n => UInt8.ofNat n.toNat)[i / 2]? = some (UInt8.ofNat (pairV t (i / 2)).toNat) := by simp [hj]
      rw [getD_get _ _ _ h9, UInt8.toNat_ofNat']
      unfold hi at o1
      unfold lo at o2
      unfold pairV hi lo
      omega
    rw [hg, List.getElem?_eq_getElem (by omega)]
    unfold hi at o1
    unfold lo at o2
    by_cases h0 : i % 2 = 0
    · rw [if_pos h0]
      have he : 2 * (i / 2) = i := by omega
      have hd : (pairV t (i / 2)).toNat / 16 = (val (t.getD (2 * (i / 2)) 0).toNat).toNat := by unfold pairV hi lo; omega
      rw [hd, sign_val _ o1, he]
      simp [List.getD, List.getElem?_eq_getElem (show i < t.length by omega)]
    · rw [if_neg h0]
      have he : 2 * (i / 2) + 1 = i := by omega
      have hd : (pairV t (i / 2)).toNat % 16 = (val (t.getD (2 * (i / 2) + 1) 0).toNat).toNat := by unfold pairV hi lo; omega
      rw [hd, sign_val _ o2, he]
      simp [List.getD, List.getElem?_eq_getElem (show i < t.length by omega)]
  · rw [List.getElem?_eq_none (by rw [hexL_len, hl]; omega), List.getElem?_eq_none (by omega)]

theorem dg_byte (n j : Nat) : (UInt8.ofNat (dg n j).toNat).toNat = 48 + n / 10 ^ j % 10 := by
  unfold dg
  have h : n / 10 ^ j % 10 < 10 := Nat.mod_lt _ (by decide)
  generalize n / 10 ^ j % 10 = q at h
  rw [UInt8.toNat_ofNat']
  omega
theorem numD_dec (W : Nat) : ∀ n : Nat, numD ((List.range W).map fun i => UInt8.ofNat (dg n (W - 1 - i)).toNat) = n % 10 ^ W := by
  induction W with
  | zero => intro n; simp [numD, Nat.mod_one]
  | succ W ih =>
    intro n
    rw [List.range_succ, List.map_append, List.map_cons, List.map_nil, numD_snoc, dg_byte]
    have hp : (List.range W).map (fun i => UInt8.ofNat (dg n (W + 1 - 1 - i)).toNat) = (List.range W).map (fun i => UInt8.ofNat (dg (n / 10) (W - 1 - i)).toNat) := by
      apply List.map_congr_left
      intro i hi
      have hi' := List.mem_range.1 hi
      unfold dg
      rw [Nat.div_div_eq_div_mul, Nat.mul_comm 10, ← Nat.pow_succ, show (W - 1 - i).succ = W + 1 - 1 - i from by omega]
    rw [hp, ih (n / 10), show W + 1 - 1 - W = 0 from by omega, Nat.pow_zero, Nat.div_one]
    have h1 : n % 10 ^ (W + 1) = 10 * (n / 10 % 10 ^ W) + n % 10 := by
      rw [Nat.pow_succ, Nat.mul_comm (10 ^ W) 10, Nat.mod_mul]
      omega
    rw [h1]
    omega
theorem isD_dec (W n : Nat) : ((List.range W).map fun i => UInt8.ofNat (dg n (W - 1 - i)).toNat).all isD = true := by
  rw [List.all_eq_true]
  intro x hx
  obtain ⟨i, _, rfl⟩ := List.mem_map.1 hx
  have h := dg_byte n (W - 1 - i)
  have h2 : n / 10 ^ (W - 1 - i) % 10 < 10 := Nat.mod_lt _ (by decide)
  unfold isD
  rw [h]
  simp
  omega
/-- a number's decimal digits -/
def digs : Nat → Nat → List UInt8
  | 0, _ => []
  | f+1, M => if M < 10 then [UInt8.ofNat (48 + M)] else digs f (M / 10) ++ [UInt8.ofNat (48 + M % 10)]
theorem digs_map (f : Nat) : ∀ (L M : Nat), 1 ≤ L → L ≤ f → M < 10 ^ L → (L = 1 ∨ 10 ^ (L - 1) ≤ M) → digs f M = (List.range L).map fun i => UInt8.ofNat (dg M (L - 1 - i)).toNat := by
  induction f with
  | zero => intro L M h1 h2; omega
  | succ f ih =>
    intro L M h1 h2 h3 h4
    unfold digs
    by_cases hM : M < 10
    · have hL : L = 1 := by
        rcases h4 with h | h
        · exact h
        · apply Classical.byContradiction
          intro hne
          have h6 : 10 ^ 1 ≤ 10 ^ (L - 1) := Nat.pow_le_pow_right (by decide) (by omega)
          omega
      subst hL
      rw [if_pos hM]
      have h5 : (dg M 0).toNat = 48 + M := by unfold dg; rw [Nat.pow_zero, Nat.div_one, Nat.mod_eq_of_lt hM]; omega
      show [UInt8.ofNat (48 + M)] = [UInt8.ofNat (dg M 0).toNat]
      rw [h5]
    · rw [if_neg hM]
      have hL : 2 ≤ L := by
        apply Classical.byContradiction
        intro hne
        have : L = 1 := by omega
        subst this
        omega
      obtain ⟨K, rfl⟩ : ∃ K, L = K + 1 := ⟨L - 1, by omega⟩
      rw [ih K (M / 10) (by omega) (by omega) (by rw [Nat.pow_succ] at h3; omega) (by
        rcases h4 with h | h
        · omega
        · by_cases hK : K = 1
          · exact Or.inl hK
          · right
            have h7 : 10 ^ (K - 1) * 10 = 10 ^ K := by rw [← Nat.pow_succ, show (K - 1).succ = K from by omega]
            simp at h
            rw [Nat.le_div_iff_mul_le (by decide), h7]; exact h)]
      rw [List.range_succ, List.map_append, List.map_cons, List.map_nil]
      congr 1
      · apply List.map_congr_left
        intro i hi
        have hi' := List.mem_range.1 hi
        unfold dg
        rw [Nat.div_div_eq_div_mul, Nat.mul_comm 10, ← Nat.pow_succ, show (K - 1 - i).succ = K + 1 - 1 - i from by omega]
      · unfold dg
        rw [show K + 1 - 1 - K = 0 from by omega, Nat.pow_zero, Nat.div_one]
        congr 2
def step (n : Int) (c : UInt8) : Int := if 48 ≤ c.toNat ∧ c.toNat ≤ 57 then wrap64 (10 * n - ((c.toNat : Int) - 48)) else n
theorem step_dig (n : Int) (d : Nat) (hd : d < 10) : step n (UInt8.ofNat (48 + d)) = wrap64 (10 * n - d) := by
  have h : (UInt8.ofNat (48 + d)).toNat = 48 + d := by rw [UInt8.toNat_ofNat']; omega
  unfold step
  rw [h, if_pos (by omega)]
  congr 1
  omega
theorem fold_digs (f : Nat) : ∀ M : Nat, M < 10 ^ f → M ≤ 9223372036854775808 → (digs f M).foldl step 0 = -(M : Int) := by
  induction f with
  | zero => intro M h _; simp at h; subst h; rfl
  | succ f ih =>
    intro M h1 h2
    unfold digs
    by_cases hM : M < 10
    · rw [if_pos hM]
      show step 0 (UInt8.ofNat (48 + M)) = _
      rw [step_dig 0 M hM, IntWalk.wrap64_in _ (by omega)]; omega
    · rw [if_neg hM, List.foldl_append, ih (M / 10) (by rw [Nat.pow_succ] at h1; omega) (by omega)]
      show step _ (UInt8.ofNat (48 + M % 10)) = _
      rw [step_dig _ _ (Nat.mod_lt _ (by decide)), IntWalk.wrap64_in _ (by omega)]; omega
/-- a number's text -/
def numS (n : Int) : List UInt8 := if n < 0 then 45 :: digs 20 n.natAbs else digs 20 n.natAbs
def unF (t : List UInt8) : Int := t.foldl step 0
def unV (t : List UInt8) : Int := if t ≠ [] ∧ t.head? ≠ some 45 then wrap64 (-(unF t)) else unF t
theorem digs_head (f M : Nat) (hf : 1 ≤ f) : digs f M ≠ [] ∧ (digs f M).head? ≠ some 45 := by
  induction f generalizing M with
  | zero => omega
  | succ f ih =>
    unfold digs
    by_cases hM : M < 10
    · rw [if_pos hM]
      refine ⟨by simp, ?_⟩
      intro h
      have h2 : UInt8.ofNat (48 + M) = 45 := by simpa using h
      have h3 := congrArg UInt8.toNat h2
      rw [UInt8.toNat_ofNat'] at h3
      have h4 : (45 : UInt8).toNat = 45 := rfl
      omega
    · rw [if_neg hM]
      refine ⟨by simp, ?_⟩
      by_cases hf : f = 0
      · subst hf
        intro h
        have h2 : UInt8.ofNat (48 + M % 10) = 45 := by simpa [digs] using h
        have h3 := congrArg UInt8.toNat h2
        rw [UInt8.toNat_ofNat'] at h3
        have h4 : (45 : UInt8).toNat = 45 := rfl
        omega
      · obtain ⟨h1, h2⟩ := ih (M / 10) (by omega)
        rw [List.head?_append]
        cases hd : digs f (M / 10) with
        | nil => exact absurd hd h1
        | cons x l => rw [hd] at h2; simpa using h2
theorem unV_numS (n : Int) (h : -9223372036854775808 ≤ n ∧ n ≤ 9223372036854775807) : unV (numS n) = n := by
  have hlt : n.natAbs < 10 ^ 20 := Nat.lt_of_le_of_lt (show n.natAbs ≤ 9223372036854775808 by omega) (by decide)
  unfold unV numS
  by_cases h0 : n < 0
  · rw [if_pos h0, if_neg (by simp)]
    have h1 : unF (45 :: digs 20 n.natAbs) = (digs 20 n.natAbs).foldl step 0 := by
      unfold unF
      show (digs 20 n.natAbs).foldl step (step 0 45) = _
      rfl
    rw [h1, fold_digs 20 _ hlt (by omega)]; omega
  · rw [if_neg h0, if_pos (digs_head 20 _ (by decide))]
    unfold unF
    rw [fold_digs 20 _ hlt (by omega), IntWalk.wrap64_in _ (by omega)]; omega

theorem wrap_sub (a b : Int) : wrap64 (wrap64 a - b) = wrap64 (a - b) := by unfold wrap64; omega
end Dig
end Go.Proofs.Ytjpjfdmcijleoaa

/- The walk of digits.Unnum (NOT YET BUILT). -/
namespace Go.Proofs.Ytjpjfdmcijleoaa
open Go.RowKit
namespace Dig

theorem fold_snoc (l : List UInt8) (c : UInt8) : (l ++ [c]).foldl step 0 = step (l.foldl step 0) c := by rw [List.foldl_append]; rfl
theorem wrap_bounds (a : Int) : -9223372036854775808 ≤ wrap64 a ∧ wrap64 a ≤ 9223372036854775807 := by unfold wrap64; omega
theorem step_bounds (n : Int) (c : UInt8) (h : -9223372036854775808 ≤ n ∧ n ≤ 9223372036854775807) : -9223372036854775808 ≤ step n c ∧ step n c ≤ 9223372036854775807 := by
  unfold step; split
  · exact wrap_bounds _
  · exact h

theorem fold_bounds (l : List UInt8) : ∀ q, -9223372036854775808 ≤ q ∧ q ≤ 9223372036854775807 → -9223372036854775808 ≤ l.foldl step q ∧ l.foldl step q ≤ 9223372036854775807 := by
  induction l with
  | nil => intro q h; exact h
  | cons c l ih => intro q h; exact ih _ (step_bounds q c h)
theorem unV_bounds (l : List UInt8) : -9223372036854775808 ≤ unV l ∧ unV l ≤ 9223372036854775807 := by
  unfold unV
  split
  · exact wrap_bounds _
  · exact fold_bounds l 0 (by omega)
end Dig
end Go.Proofs.Ytjpjfdmcijleoaa

/- The reference's decimal texts: plain, Num, Dec, Undec, Unnum. -/
namespace Go.Proofs.Ytjpjfdmcijleoaa
open Go.RowKit
namespace RefDig
open Dig

theorem digs_spec (f : Nat) : ∀ M : Nat, 1 ≤ f → M < 10 ^ f → 1 ≤ (digs f M).length ∧ (digs f M).length ≤ f ∧ M < 10 ^ (digs f M).length ∧ ((digs f M).length = 1 ∨ 10 ^ ((digs f M).length - 1) ≤ M) := by
  induction f with
  | zero => intro M h; omega
  | succ f ih =>
    intro M _ h2
    unfold digs
    by_cases hM : M < 10
    · rw [if_pos hM]; simp; omega
    · rw [if_neg hM]
      have hf : 1 ≤ f := by
        apply Classical.byContradiction
        intro h
        have : f = 0 := by omega
        subst this
        simp at h2
        omega
      obtain ⟨a, b, c, d⟩ := ih (M / 10) hf (by rw [Nat.pow_succ] at h2; omega)
      rw [List.length_append]
      obtain ⟨L, hL⟩ : ∃ L, L = (digs f (M / 10)).length := ⟨_, rfl⟩
      rw [← hL] at a b c d ⊢
      simp only [List.length_cons, List.length_nil, Nat.zero_add, Nat.add_sub_cancel]
      refine ⟨by omega, by omega, by rw [Nat.pow_succ]; omega, Or.inr ?_⟩
      rcases d with d | d
      · rw [d]; omega
      · obtain ⟨K, rfl⟩ : ∃ K, L = K + 1 := ⟨L - 1, by omega⟩
        rw [Nat.add_sub_cancel] at d
        rw [Nat.pow_succ]
        omega
theorem digs_eq (M L : Nat) (h1 : 1 ≤ L) (h2 : M < 10 ^ L) (h3 : L = 1 ∨ 10 ^ (L - 1) ≤ M) (hM : M ≤ 9223372036854775808) : digs 20 M = (List.range L).map fun i => UInt8.ofNat (dg M (L - 1 - i)).toNat :=
  digs_map 20 L M h1 (by
    rcases h3 with h3 | h3
    · omega
    · apply Classical.byContradiction
      intro hne
      have h5 : 10 ^ 20 ≤ 10 ^ (L - 1) := Nat.pow_le_pow_right (by decide) (by omega)
      have h6 : (9223372036854775808 : Nat) < 10 ^ 20 := by decide
      omega) h2 h3
theorem digs_fuel (f : Nat) : ∀ M : Nat, M < 10 ^ f → 1 ≤ f → digs f M = digs (f + 1) M := by
  induction f with
  | zero => intro M _ h; omega
  | succ f ih =>
    intro M h2 _
    show (if M < 10 then [UInt8.ofNat (48 + M)] else digs f (M / 10) ++ [UInt8.ofNat (48 + M % 10)]) = (if M < 10 then [UInt8.ofNat (48 + M)] else digs (f + 1) (M / 10) ++ [UInt8.ofNat (48 + M % 10)])
    by_cases hM : M < 10
    · rw [if_pos hM, if_pos hM]
    · rw [if_neg hM, if_neg hM, ih (M / 10) (by rw [Nat.pow_succ] at h2; omega) (by
        apply Classical.byContradiction
        intro h
        have : f = 0 := by omega
        subst this
        simp at h2
        omega)]
theorem digs_ten (M : Nat) (h : 10 ≤ M) (hM : M ≤ 9223372036854775808) : digs 20 M = digs 20 (M / 10) ++ digs 20 (M % 10) := by
  have h1 : digs 20 M = digs 19 (M / 10) ++ [UInt8.ofNat (48 + M % 10)] := by
    show (if M < 10 then [UInt8.ofNat (48 + M)] else digs 19 (M / 10) ++ [UInt8.ofNat (48 + M % 10)]) = _
    rw [if_neg (by omega)]
  have h2 : digs 20 (M % 10) = [UInt8.ofNat (48 + M % 10)] := by
    show (if M % 10 < 10 then [UInt8.ofNat (48 + M % 10)] else _) = _
    rw [if_pos (by omega)]
  rw [h1, h2, digs_fuel 19 (M / 10) (Nat.lt_of_le_of_lt (show M / 10 ≤ 922337203685477580 by omega) (by decide)) (by decide)]

/-- k digits of a number, from the right -/
def lowD (M k : Nat) : List UInt8 := (List.range k).map fun i => UInt8.ofNat (dg M (k - 1 - i)).toNat
theorem lowD_len (M k : Nat) : (lowD M k).length = k := by simp [lowD]
theorem lowD_succ (M k : Nat) : lowD M (k + 1) = UInt8.ofNat (48 + M / 10 ^ k % 10) :: lowD M k := by
  unfold lowD
  rw [List.range_succ_eq_map, List.map_cons, List.map_map]
  have h1 : (dg M (k + 1 - 1 - 0)).toNat = 48 + M / 10 ^ k % 10 := by unfold dg; rw [show k + 1 - 1 - 0 = k from by omega]; omega
  rw [h1]
  congr 1
  apply List.map_congr_left
  intro i _
  show UInt8.ofNat (dg M (k + 1 - 1 - (i + 1))).toNat = _
  rw [show k + 1 - 1 - (i + 1) = k - 1 - i from by omega]
theorem sign_dec (d : Nat) (h : d < 10) : sign d = UInt8.ofNat (48 + d) := by
  rcases (show d = 0 ∨ d = 1 ∨ d = 2 ∨ d = 3 ∨ d = 4 ∨ d = 5 ∨ d = 6 ∨ d = 7 ∨ d = 8 ∨ d = 9 by omega) with rfl | rfl | rfl | rfl | rfl | rfl | rfl | rfl | rfl | rfl <;> rfl

theorem wrap_neg (q : Nat) (_h : q ≤ 9223372036854775808) (_h2 : 1 ≤ q) : -((q : Int)) = -(q : Int) := rfl

theorem numD_digs (f : Nat) : ∀ M : Nat, M < 10 ^ f → numD (digs f M) = M ∧ (digs f M).all isD = true := by
  induction f with
  | zero => intro M h; simp at h; subst h; exact ⟨rfl, rfl⟩
  | succ f ih =>
    intro M h
    unfold digs
    have hb : ∀ d : Nat, d < 10 → (UInt8.ofNat (48 + d)).toNat = 48 + d := fun d hd => by rw [UInt8.toNat_ofNat']; omega
    have hi : ∀ d : Nat, d < 10 → isD (UInt8.ofNat (48 + d)) = true := fun d hd => by unfold isD; rw [hb d hd]; simp; omega
    by_cases hM : M < 10
    · rw [if_pos hM]
      refine ⟨?_, by rw [List.all_cons, hi M hM]; rfl⟩
      show 10 * 0 + ((UInt8.ofNat (48 + M)).toNat - 48) = M
      rw [hb M hM]; omega
    · rw [if_neg hM]
      obtain ⟨h1, h2⟩ := ih (M / 10) (by rw [Nat.pow_succ] at h; omega)
      refine ⟨?_, by rw [List.all_append, h2, List.all_cons, hi (M % 10) (by omega)]; rfl⟩
      rw [numD_snoc, h1, hb (M % 10) (by omega)]; omega
theorem fold_ge (m : List UInt8) : ∀ n : Nat, n ≤ m.foldl (fun n c => 10 * n + (c.toNat - 48)) n := by
  induction m with
  | nil => intro n; exact Nat.le_refl _
  | cons c m ih => intro n; exact Nat.le_trans (by omega) (ih (10 * n + (c.toNat - 48)))
theorem numD_app (l m : List UInt8) : numD l ≤ numD (l ++ m) := by
  unfold numD
  rw [List.foldl_append]
  exact fold_ge m _
theorem numD_take (l : List UInt8) (k : Nat) : numD (l.take k) ≤ numD l := by
  have h := numD_app (l.take k) (l.drop k)
  rwa [List.take_append_drop] at h

/-- a text of digits whose number's text it is -/
theorem pos_true (l : List UInt8) (hh : l.head? ≠ some 45) (h : numS (unV l) = l) : l.all isD = true ∧ (numD l : Int) = unV l := by
  have hb := unV_bounds l
  have hlt : (unV l).natAbs < 10 ^ 20 := Nat.lt_of_le_of_lt (show (unV l).natAbs ≤ 9223372036854775808 by omega) (by decide)
  obtain ⟨h1, h2⟩ := numD_digs 20 _ hlt
  by_cases hn : unV l < 0
  · exfalso
    unfold numS at h
    rw [if_pos hn] at h
    exact hh (by rw [← h]; rfl)
  · unfold numS at h
    rw [if_neg hn] at h
    rw [h] at h1 h2
    exact ⟨h2, by rw [h1]; omega⟩
theorem neg_true (l m : List UInt8) (hl : l = 45 :: m) (h : numS (unV l) = l) : m.all isD = true ∧ -(numD m : Int) = unV l := by
  have hb := unV_bounds l
  have hlt : (unV l).natAbs < 10 ^ 20 := Nat.lt_of_le_of_lt (show (unV l).natAbs ≤ 9223372036854775808 by omega) (by decide)
  obtain ⟨h1, h2⟩ := numD_digs 20 _ hlt
  by_cases hn : unV l < 0
  · unfold numS at h
    rw [if_pos hn] at h
    have h3 : digs 20 (unV l).natAbs = m := by rw [hl] at h ⊢; exact List.tail_eq_of_cons_eq h
    rw [h3] at h1 h2
    exact ⟨h2, by rw [h1]; omega⟩
  · exfalso
    unfold numS at h
    rw [if_neg hn] at h
    have h4 := (digs_head 20 (unV l).natAbs (by decide)).2
    rw [h, hl] at h4
    exact h4 rfl

end RefDig
end Go.Proofs.Ytjpjfdmcijleoaa

/- The reference's Undec, Dec, Unnum. -/
namespace Go.Proofs.Ytjpjfdmcijleoaa
open Go.RowKit
namespace RefDig
open Dig

theorem val_dig (c : Nat) (h : 48 ≤ c ∧ c ≤ 57) : val c = (c : Int) - 48 := by unfold val; rw [if_pos h]
theorem val_not (c : Nat) (h : ¬ (48 ≤ c ∧ c ≤ 57)) : val c < 0 ∨ 9 < val c := by unfold val; rw [if_neg h]; split <;> omega

theorem dec_same (n W : Nat) (hn : n ≤ 9223372036854775807) (h : (digs 20 n).length ≤ W) : bs (List.replicate (W - (digs 20 n).length) 48 ++ digs 20 n) = strOfNums ((List.range W).map fun i => dg n (W - 1 - i)) := by
  obtain ⟨a, b, c, d⟩ := digs_spec 20 n (by decide) (Nat.lt_of_le_of_lt hn (by decide))
  have he := digs_eq n _ a c d (by omega)
  obtain ⟨L, hL⟩ : ∃ L, L = (digs 20 n).length := ⟨_, rfl⟩
  rw [← hL] at a b c d he h ⊢
  apply ba_ext
  rw [list_bs, nums_list, List.map_map, he]
  apply List.ext_getElem?
  intro i
  by_cases hi : i < W - L
  · rw [List.getElem?_append_left (by simpa using hi)]
    have h1 : n / 10 ^ (W - 1 - i) = 0 := Nat.div_eq_of_lt (Nat.lt_of_lt_of_le c (Nat.pow_le_pow_right (by decide) (by omega)))
    have h2 : dg n (W - 1 - i) = 48 := by unfold dg; rw [h1]; rfl
    simp [hi, show i < W by omega, h2]
  · rw [List.getElem?_append_right (by simp; omega)]
    by_cases hw : i < W
    · simp [show i - (W - L) < L by omega, hw]
      rw [show L - 1 - (i - (W - L)) = W - 1 - i by omega]
    · rw [List.getElem?_eq_none (by simp; omega), List.getElem?_eq_none (by simp; omega)]

theorem dec_iff (n W : Nat) (hn : n ≤ 9223372036854775807) (hW : 1 ≤ W) : n < 10 ^ W ↔ (digs 20 n).length ≤ W := by
  obtain ⟨a, b, c, d⟩ := digs_spec 20 n (by decide) (Nat.lt_of_le_of_lt hn (by decide))
  constructor
  · intro h
    apply Classical.byContradiction
    intro h2
    rcases d with d | d
    · omega
    · have h3 : 10 ^ W ≤ 10 ^ ((digs 20 n).length - 1) := Nat.pow_le_pow_right (by decide) (by omega)
      omega
  · intro h
    exact Nat.lt_of_lt_of_le c (Nat.pow_le_pow_right (by decide) h)

end RefDig
end Go.Proofs.Ytjpjfdmcijleoaa

/- The reference of package head: what is written. -/
namespace Go.Proofs.Ytjpjfdmcijleoaa
open Go.RowKit
namespace RefHead
open Head

set_option maxRecDepth 100000 in
theorem conv_any (x : Int) (S : ByteArray) (hS : strOfNums [x] = S) : ∀ (W : World) (g : Nat), W.cell? ⟨g, 0, none⟩ = some (.int .u8 x) → ∀ dst, Try.prog.underlying dst = some .string → (convert 50 dst (.slice (some ⟨g, 0, none⟩) 1 1)).run Try.prog W = .ok (.string S) W := by
  subst hS
  intro W g hc
  refine run_convert_bytes_arg (P := Try.prog) W 50 5 Try.underlying50 Try.underlying5 g 0 1 1 [x] rfl fun i hi => ?_
  obtain rfl : i = 0 := by omega
  exact hc

set_option maxRecDepth 100000 in
set_option maxHeartbeats 2000000 in
theorem dig_mak (n : Nat) (hn : n ≤ 2097151) (X : ByteArray) (hX : X = bs (digL n)) : Mak 48 #[.int .i64 (n : Int)] (.string X) := by
  intro w
  have K0 := conv_any ((n : Int) % 128) (bs [UInt8.ofNat (n % 128)]) rfl
  have HX := Lib.hid hX
  clear hX
  go_enter Try.func48, Try.ntmps48
  go_wp2_with fail
  clear K0
  go_loopw [0, 3] (fun v s wr => ∃ (q : Nat) (L : List UInt8), v = .int .i64 (q : Int) ∧ s = .string (bs L) ∧ q ≤ 2097151 ∧ L.length ≤ 3 ∧ Hid (q = n / 128 ∧ L = [UInt8.ofNat (n % 128)] ∨ 128 ≤ n ∧ q = n / 16384 ∧ L = [UInt8.ofNat (128 + n / 128 % 128), UInt8.ofNat (n % 128)] ∨ 16384 ≤ n ∧ q = 0 ∧ L = [UInt8.ofNat (128 + n / 16384 % 128), UInt8.ofNat (128 + n / 128 % 128), UInt8.ofNat (n % 128)]) ∧ Hid (Since w wr)) (fun v _ _ => (intOf v).toNat)
  case atStart => exact ⟨n / 128, [UInt8.ofNat (n % 128)], by simp, rfl, by omega, by simp, Lib.hid (Or.inl ⟨rfl, rfl⟩), Lib.hid ((Since.refl w).alloc _)⟩
  case round =>
    obtain ⟨q, L, rfl, rfl, hq, hL, HC, HS⟩ := hrel
    by_cases h0 : q = 0
    · subst h0
      have hXL : X = bs L := by
        rw [HX.out]
        congr 1
        rcases HC.out with ⟨h1, h2⟩ | ⟨h1, h2, h3⟩ | ⟨h1, h2, h3⟩
        · rw [h2, digL_1 n (by omega), Nat.mod_eq_of_lt (by omega)]
        · rw [h3, digL_2 n h1 (by omega), show n / 128 % 128 = n / 128 from by omega]
        · rw [h3, digL_3 n h1 hn, show n / 16384 % 128 = n / 16384 from by omega]
      subst hXL
      go_wp2_with fail
      go_ret
      exact ⟨rfl, HS.out⟩
    · have hpos : 0 < q := by omega
      obtain ⟨d, hd⟩ : ∃ d : UInt8, d = UInt8.ofNat (128 + q % 128) := ⟨_, rfl⟩
      have K1 := conv_any (128 + (q : Int) % 128) (bs [d]) (by rw [hd]; rfl)
      have hcat : bs [d] ++ bs L = bs (d :: L) := by apply ba_ext; rw [app_list]; rfl
      have hsz : ¬ 9223372036854775807 < (bs [d]).size + (bs L).size := by rw [size_bs, size_bs]; simp; omega
      have hnext : q / 128 ≤ 2097151 ∧ (d :: L).length ≤ 3 ∧ (128 ≤ n ∧ q / 128 = n / 16384 ∧ d :: L = [UInt8.ofNat (128 + n / 128 % 128), UInt8.ofNat (n % 128)] ∨ 16384 ≤ n ∧ q / 128 = 0 ∧ d :: L = [UInt8.ofNat (128 + n / 16384 % 128), UInt8.ofNat (128 + n / 128 % 128), UInt8.ofNat (n % 128)]) := by
        rcases HC.out with ⟨h1, h2⟩ | ⟨h1, h2, h3⟩ | ⟨h1, h2, h3⟩
        · refine ⟨by omega, by rw [h2]; simp, Or.inl ⟨by omega, by omega, by rw [h2, hd, h1]⟩⟩
        · refine ⟨by omega, by rw [h3]; simp, Or.inr ⟨by omega, by omega, by rw [h3, hd, h2]⟩⟩
        · exact absurd h2 h0
      obtain ⟨n1, n2, n3⟩ := hnext
      have HN3 := Lib.hid n3
      clear n3 hd
      generalize hLL : bs (d :: L) = LL at hcat
      go_wp2_with fail
      go_roundw
      case rel => exact ⟨q / 128, d :: L, by simp, by rw [hLL], n1, n2, Lib.hid (Or.inr HN3.out), Lib.hid (HS.out.alloc _)⟩
      case measure => simp [intOf]; omega

set_option maxRecDepth 100000 in
set_option maxHeartbeats 2000000 in
theorem may_yes (c t n : Int) (b : Bool) (h : okH c t n) : Mak 47 #[.agg #[.int .i64 c, .int .i64 t, .bool b, .int .i64 n]] (.bool true) := by
  intro w
  obtain ⟨h1, h2, h3, h4, h5, h6⟩ := h
  have h2' : c < 4 := by omega
  go_enter Try.func47, Try.ntmps47
  go_wp2_with fail
  go_ret
  exact ⟨rfl, (Since.refl w).alloc _⟩
theorem ret_bool {b c : Bool} (h : b = c) : Ending.returned (.bool b) = Ending.returned (.bool c) := by rw [h]
set_option maxRecDepth 100000 in
set_option maxHeartbeats 4000000 in
theorem may_no (c t n : Int) (b : Bool) (h : ¬ okH c t n) : Mak 47 #[.agg #[.int .i64 c, .int .i64 t, .bool b, .int .i64 n]] (.bool false) := by
  intro w
  unfold okH at h
  go_enter Try.func47, Try.ntmps47
  go_wp2_with fail
  all_goals
    go_ret
    refine ⟨?_, (Since.refl w).alloc _⟩
    first
      | rfl
      | (refine ret_bool ?_; simp; omega)
      | (exfalso; omega)

set_option maxRecDepth 100000 in
set_option maxHeartbeats 2000000 in
theorem enc_no (c t n : Int) (b : Bool) (h : ¬ okH c t n) : Mak 36 #[.agg #[.int .i64 c, .int .i64 t, .bool b, .int .i64 n]] (.tuple #[.string ⟨#[]⟩, .int .i64 1]) := by
  intro w
  have c1 := may_no c t n b h
  have H0 := Lib.hid ((Since.refl w).alloc (.cells #[.int .i64 c, .int .i64 t, .bool b, .int .i64 n] 64))
  go_enter Try.func36, Try.ntmps36
  go_wp2_with fail
  refine (c1).calls H0.out ?_
  intro w1 h1
  have H1 := Lib.hid h1
  clear h1
  go_wp2_with fail
  go_ret2
  exact ⟨rfl, H1.out⟩

theorem low1 (n : Nat) (h : n < 256) : RefOct.low (n : Int) 1 = [UInt8.ofNat n] := by
  show [UInt8.ofNat ((n : Int) / 2 ^ (8 * 0) % 256).toNat] = _
  congr 2
  simp
  omega
theorem low2 (n : Nat) (h : n ≤ 65535) : RefOct.low (n : Int) 2 = [UInt8.ofNat (n / 256), UInt8.ofNat (n % 256)] := by
  show [UInt8.ofNat ((n : Int) / 2 ^ (8 * 1) % 256).toNat, UInt8.ofNat ((n : Int) / 2 ^ (8 * 0) % 256).toNat] = _
  have e1 : ((n : Int) / 2 ^ (8 * 1) % 256).toNat = n / 256 := by simp; omega
  have e2 : ((n : Int) / 2 ^ (8 * 0) % 256).toNat = n % 256 := by simp; omega
  rw [e1, e2]
theorem tagL_len (c t : Nat) (b : Bool) : (tagL c t b).length ≤ 4 := by
  unfold tagL
  split
  · simp
  · unfold seg; split <;> split <;> simp

set_option maxRecDepth 100000 in
set_option maxHeartbeats 8000000 in
theorem enc_st (c t n : Nat) (F : Int) (hF : 64 * (c : Int) + (if true then 32 else 0) = F) (hc : c ≤ 3) (ht : t < 31) (hn : n ≤ 65535) (c1 : Mak 47 #[.agg #[.int .i64 (c : Int), .int .i64 (t : Int), .bool true, .int .i64 (n : Int)]] (.bool true))
    (A : ByteArray) (hAs : A.size ≤ 4) (K1 : ∀ (W : World) (g : Nat), W.cell? ⟨g, 0, none⟩ = some (.int .u8 (F + t)) → ∀ dst, Try.prog.underlying dst = some .string → (convert 50 dst (.slice (some ⟨g, 0, none⟩) 1 1)).run Try.prog W = .ok (.string A) W) (X : ByteArray)
    (hX : n < 128 ∧ A ++ bs [UInt8.ofNat n] = X ∨ 128 ≤ n ∧ n < 256 ∧ A ++ ⟨#[129]⟩ ++ bs (RefOct.low (n : Int) 1) = X ∨ 256 ≤ n ∧ A ++ ⟨#[130]⟩ ++ bs (RefOct.low (n : Int) 2) = X) (w : World) :
    Calls Try.prog 36 #[.agg #[.int .i64 (c : Int), .int .i64 (t : Int), .bool true, .int .i64 (n : Int)]] w fun e w' => e = .returned (.tuple #[.string X, .int .i64 0]) ∧ Since w w' := by
  simp only [if_true] at hF
  have hF2 : 0 ≤ F ∧ F ≤ 224 := by omega
  obtain ⟨f1, f2⟩ := hF2
  rcases hX with ⟨h1, hX⟩ | ⟨h1, h2, hX⟩ | ⟨h1, hX⟩
  · have K2 := conv_any (n : Int) (bs [UInt8.ofNat n]) rfl
    have hz : (bs [UInt8.ofNat n]).size = 1 := rfl
    generalize bs [UInt8.ofNat n] = N at *
    have hsz : ¬ 9223372036854775807 < A.size + N.size := by omega
    go_enter Try.func36, Try.ntmps36
    go_wp2_with fail
    refine c1.calls0 ?_
    intro w1 h1
    obtain ⟨q0, q1, q2, q3⟩ := box4 (show Since (w.alloc (.cells #[.int .i64 (c : Int), .int .i64 (t : Int), .bool true, .int .i64 (n : Int)] 64)) w1 from h1)
    have hlt : w.heap.size < w1.heap.size := by have h9 := Below.size h1; simp at h9; omega
    have H1 : Hid (Since w w1) := Lib.hid (Since.step ((Since.refl w).alloc _) h1)
    clear h1
    go_wp2_with fail
    go_ret2
    exact ⟨rfl, by first | exact H1.out.alloc _ | exact (H1.out.alloc _).alloc _⟩
  · have c3 : Mak 49 #[.int .u64 (n : Int), .int .i64 1] (.string (bs (RefOct.low (n : Int) 1))) := fun w => RefOct.put_mid (n : Int) 1 w (by omega) (by omega) (by decide) (by decide)
    have hz : (bs (RefOct.low (n : Int) 1)).size = 1 := RefOct.low_len _ _
    generalize bs (RefOct.low (n : Int) 1) = N at *
    have hz2 : (A ++ ⟨#[129]⟩).size = A.size + 1 := by simp; rfl
    have hsz : ¬ 9223372036854775807 < A.size + (⟨#[129]⟩ : ByteArray).size := by rw [show (⟨#[129]⟩ : ByteArray).size = 1 from rfl]; omega
    have hsz2 : ¬ 9223372036854775807 < (A ++ ⟨#[129]⟩).size + N.size := by omega
    go_enter Try.func36, Try.ntmps36
    go_wp2_with fail
    refine c1.calls0 ?_
    intro w1 h1
    obtain ⟨q0, q1, q2, q3⟩ := box4 (show Since (w.alloc (.cells #[.int .i64 (c : Int), .int .i64 (t : Int), .bool true, .int .i64 (n : Int)] 64)) w1 from h1)
    have hlt : w.heap.size < w1.heap.size := by have h9 := Below.size h1; simp at h9; omega
    have H1 : Hid (Since w w1) := Lib.hid (Since.step ((Since.refl w).alloc _) h1)
    clear h1
    go_wp2_with fail
    refine c3.calls0 ?_
    intro w6 h6
    have H6 : Hid (Since w w6) := Lib.hid (Since.step (by first | exact H1.out | exact H1.out.alloc _) h6)
    clear h6
    go_wp2_with fail
    go_ret2
    exact ⟨rfl, H6.out⟩
  · have c3 : Mak 49 #[.int .u64 (n : Int), .int .i64 2] (.string (bs (RefOct.low (n : Int) 2))) := fun w => RefOct.put_mid (n : Int) 2 w (by omega) (by omega) (by decide) (by decide)
    have hz : (bs (RefOct.low (n : Int) 2)).size = 2 := RefOct.low_len _ _
    generalize bs (RefOct.low (n : Int) 2) = N at *
    have hz2 : (A ++ ⟨#[130]⟩).size = A.size + 1 := by simp; rfl
    have hsz : ¬ 9223372036854775807 < A.size + (⟨#[130]⟩ : ByteArray).size := by rw [show (⟨#[130]⟩ : ByteArray).size = 1 from rfl]; omega
    have hsz2 : ¬ 9223372036854775807 < (A ++ ⟨#[130]⟩).size + N.size := by omega
    go_enter Try.func36, Try.ntmps36
    go_wp2_with fail
    refine c1.calls0 ?_
    intro w1 h1
    obtain ⟨q0, q1, q2, q3⟩ := box4 (show Since (w.alloc (.cells #[.int .i64 (c : Int), .int .i64 (t : Int), .bool true, .int .i64 (n : Int)] 64)) w1 from h1)
    have hlt : w.heap.size < w1.heap.size := by have h9 := Below.size h1; simp at h9; omega
    have H1 : Hid (Since w w1) := Lib.hid (Since.step ((Since.refl w).alloc _) h1)
    clear h1
    go_wp2_with fail
    refine c3.calls0 ?_
    intro w6 h6
    have H6 : Hid (Since w w6) := Lib.hid (Since.step (by first | exact H1.out | exact H1.out.alloc _) h6)
    clear h6
    go_wp2_with fail
    go_ret2
    exact ⟨rfl, H6.out⟩

set_option maxRecDepth 100000 in
set_option maxHeartbeats 8000000 in
theorem enc_sf (c t n : Nat) (F : Int) (hF : 64 * (c : Int) + (if false then 32 else 0) = F) (hc : c ≤ 3) (ht : t < 31) (hn : n ≤ 65535) (c1 : Mak 47 #[.agg #[.int .i64 (c : Int), .int .i64 (t : Int), .bool false, .int .i64 (n : Int)]] (.bool true))
    (A : ByteArray) (hAs : A.size ≤ 4) (K1 : ∀ (W : World) (g : Nat), W.cell? ⟨g, 0, none⟩ = some (.int .u8 (F + t)) → ∀ dst, Try.prog.underlying dst = some .string → (convert 50 dst (.slice (some ⟨g, 0, none⟩) 1 1)).run Try.prog W = .ok (.string A) W) (X : ByteArray)
    (hX : n < 128 ∧ A ++ bs [UInt8.ofNat n] = X ∨ 128 ≤ n ∧ n < 256 ∧ A ++ ⟨#[129]⟩ ++ bs (RefOct.low (n : Int) 1) = X ∨ 256 ≤ n ∧ A ++ ⟨#[130]⟩ ++ bs (RefOct.low (n : Int) 2) = X) (w : World) :
    Calls Try.prog 36 #[.agg #[.int .i64 (c : Int), .int .i64 (t : Int), .bool false, .int .i64 (n : Int)]] w fun e w' => e = .returned (.tuple #[.string X, .int .i64 0]) ∧ Since w w' := by
  simp only [Bool.false_eq_true, if_false, Int.add_zero] at hF
  have hF2 : 0 ≤ F ∧ F ≤ 224 := by omega
  obtain ⟨f1, f2⟩ := hF2
  rcases hX with ⟨h1, hX⟩ | ⟨h1, h2, hX⟩ | ⟨h1, hX⟩
  · have K2 := conv_any (n : Int) (bs [UInt8.ofNat n]) rfl
    have hz : (bs [UInt8.ofNat n]).size = 1 := rfl
    generalize bs [UInt8.ofNat n] = N at *
    have hsz : ¬ 9223372036854775807 < A.size + N.size := by omega
    go_enter Try.func36, Try.ntmps36
    go_wp2_with fail
    refine c1.calls0 ?_
    intro w1 h1
    obtain ⟨q0, q1, q2, q3⟩ := box4 (show Since (w.alloc (.cells #[.int .i64 (c : Int), .int .i64 (t : Int), .bool false, .int .i64 (n : Int)] 64)) w1 from h1)
    have hlt : w.heap.size < w1.heap.size := by have h9 := Below.size h1; simp at h9; omega
    have H1 : Hid (Since w w1) := Lib.hid (Since.step ((Since.refl w).alloc _) h1)
    clear h1
    go_wp2_with fail
    go_ret2
    exact ⟨rfl, by first | exact H1.out.alloc _ | exact (H1.out.alloc _).alloc _⟩
  · have c3 : Mak 49 #[.int .u64 (n : Int), .int .i64 1] (.string (bs (RefOct.low (n : Int) 1))) := fun w => RefOct.put_mid (n : Int) 1 w (by omega) (by omega) (by decide) (by decide)
    have hz : (bs (RefOct.low (n : Int) 1)).size = 1 := RefOct.low_len _ _
    generalize bs (RefOct.low (n : Int) 1) = N at *
    have hz2 : (A ++ ⟨#[129]⟩).size = A.size + 1 := by simp; rfl
    have hsz : ¬ 9223372036854775807 < A.size + (⟨#[129]⟩ : ByteArray).size := by rw [show (⟨#[129]⟩ : ByteArray).size = 1 from rfl]; omega
    have hsz2 : ¬ 9223372036854775807 < (A ++ ⟨#[129]⟩).size + N.size := by omega
    go_enter Try.func36, Try.ntmps36
    go_wp2_with fail
    refine c1.calls0 ?_
    intro w1 h1
    obtain ⟨q0, q1, q2, q3⟩ := box4 (show Since (w.alloc (.cells #[.int .i64 (c : Int), .int .i64 (t : Int), .bool false, .int .i64 (n : Int)] 64)) w1 from h1)
    have hlt : w.heap.size < w1.heap.size := by have h9 := Below.size h1; simp at h9; omega
    have H1 : Hid (Since w w1) := Lib.hid (Since.step ((Since.refl w).alloc _) h1)
    clear h1
    go_wp2_with fail
    refine c3.calls0 ?_
    intro w6 h6
    have H6 : Hid (Since w w6) := Lib.hid (Since.step (by first | exact H1.out | exact H1.out.alloc _) h6)
    clear h6
    go_wp2_with fail
    go_ret2
    exact ⟨rfl, H6.out⟩
  · have c3 : Mak 49 #[.int .u64 (n : Int), .int .i64 2] (.string (bs (RefOct.low (n : Int) 2))) := fun w => RefOct.put_mid (n : Int) 2 w (by omega) (by omega) (by decide) (by decide)
    have hz : (bs (RefOct.low (n : Int) 2)).size = 2 := RefOct.low_len _ _
    generalize bs (RefOct.low (n : Int) 2) = N at *
    have hz2 : (A ++ ⟨#[130]⟩).size = A.size + 1 := by simp; rfl
    have hsz : ¬ 9223372036854775807 < A.size + (⟨#[130]⟩ : ByteArray).size := by rw [show (⟨#[130]⟩ : ByteArray).size = 1 from rfl]; omega
    have hsz2 : ¬ 9223372036854775807 < (A ++ ⟨#[130]⟩).size + N.size := by omega
    go_enter Try.func36, Try.ntmps36
    go_wp2_with fail
    refine c1.calls0 ?_
    intro w1 h1
    obtain ⟨q0, q1, q2, q3⟩ := box4 (show Since (w.alloc (.cells #[.int .i64 (c : Int), .int .i64 (t : Int), .bool false, .int .i64 (n : Int)] 64)) w1 from h1)
    have hlt : w.heap.size < w1.heap.size := by have h9 := Below.size h1; simp at h9; omega
    have H1 : Hid (Since w w1) := Lib.hid (Since.step ((Since.refl w).alloc _) h1)
    clear h1
    go_wp2_with fail
    refine c3.calls0 ?_
    intro w6 h6
    have H6 : Hid (Since w w6) := Lib.hid (Since.step (by first | exact H1.out | exact H1.out.alloc _) h6)
    clear h6
    go_wp2_with fail
    go_ret2
    exact ⟨rfl, H6.out⟩

end RefHead
end Go.Proofs.Ytjpjfdmcijleoaa
