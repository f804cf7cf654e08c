/- The awake of the laws of equal; what is told the other way round. -/
import Derived.Test.YtldipjlepofdgaaEq4
namespace Go.Proofs.Ytldipjlepofdgaa
open Go.RowKit
namespace Eql

theorem df_swap (a b : List UInt8) (i : Nat) : df a b i = df b a i := by
  unfold df
  by_cases h : i < a.length ∧ i < b.length
  · rw [if_pos h, if_pos ⟨h.2, h.1⟩, Nat.xor_comm]
  · rw [if_neg h, if_neg (fun h2 => h ⟨h2.2, h2.1⟩)]
theorem unl_swap (a b : List UInt8) (n : Nat) : unl a b n = unl b a n := by
  induction n with
  | zero => rfl
  | succ n ih =>
    show unl a b n + _ = unl b a n + _
    rw [ih, df_swap]
theorem fst_swap (a b : List UInt8) (n : Nat) : fst a b n = fst b a n := by
  induction n with
  | zero => rfl
  | succ n ih =>
    show (if _ then _ else _) = (if _ then _ else _)
    rw [ih, df_swap]
theorem unl_self (a : List UInt8) (n : Nat) (h : n ≤ a.length) : unl a a n = 0 := by
  induction n with
  | zero => rfl
  | succ n ih =>
    show unl a a n + _ = 0
    have hd : df a a n = 0 := by unfold df; rw [if_pos ⟨by omega, by omega⟩, Nat.xor_self]
    rw [ih (by omega), if_pos hd]
theorem unl_zero (a b : List UInt8) (n : Nat) (h : unl a b n = 0) : ∀ i, i < n → df a b i = 0 := by
  induction n with
  | zero => intro i hi; omega
  | succ n ih =>
    have h0 : unl a b n + (if df a b n = 0 then 0 else 1) = 0 := h
    intro i hi
    by_cases hin : i = n
    · subst hin
      apply Classical.byContradiction
      intro h3
      rw [if_neg h3] at h0
      omega
    · exact ih (by omega) i (by omega)
theorem unl_eq (a b : List UInt8) (h : unl a b (max a.length b.length) = 0) : a = b := by
  have h1 := unl_zero a b _ h
  have hl : a.length = b.length := by
    apply Classical.byContradiction
    intro hne
    have h2 := h1 (min a.length b.length) (by omega)
    unfold df at h2
    rw [if_neg (by omega)] at h2
    cases h2
  apply List.ext_getElem hl
  intro i ha hb
  have h2 := h1 i (by omega)
  unfold df at h2
  rw [if_pos ⟨ha, hb⟩] at h2
  have h3 : (a.getD i 0).toNat = (b.getD i 0).toNat := by
    have h4 : (a.getD i 0).toNat ^^^ (b.getD i 0).toNat ^^^ (b.getD i 0).toNat = (b.getD i 0).toNat := by rw [h2, Nat.zero_xor]
    rwa [Nat.xor_assoc, Nat.xor_self, Nat.xor_zero] at h4
  have h5 := UInt8.toNat_inj.1 h3
  simpa [List.getD, ha, hb] using h5

set_option maxRecDepth 100000 in
set_option maxHeartbeats 2000000 in
theorem awake_mak : Mak 47 #[] (.bool true) := by
  intro w
  have H0 := Lib.hid (Since.refl w)
  have c1 := scan_any ⟨#[97, 98, 99]⟩ ⟨#[97, 98, 100]⟩ (by decide) (by decide) 3 (by decide) false (by decide +kernel)
  have c2 := scan_any ⟨#[97, 98]⟩ ⟨#[97, 98]⟩ (by decide) (by decide) 2 (by decide) true (by decide +kernel)
  have c3 := unlike_any ⟨#[97, 98]⟩ ⟨#[97, 98, 99, 100]⟩ (by decide) (by decide) 2 (by decide +kernel)
  have c4 := first_any ⟨#[97, 98, 99]⟩ ⟨#[97, 98, 100]⟩ (by decide) (by decide) 2 (by decide +kernel)
  have c5 := pick_yes ⟨#[120]⟩ ⟨#[121]⟩ 1 rfl rfl (by decide)
  go_enter Try.func47, Try.ntmps47
  go_wp2_with fail
  refine (c1).calls H0.out ?_
  intro w1 h1
  have H1 := Lib.hid h1
  clear h1
  go_wp2_with fail
  refine (c2).calls H1.out ?_
  intro w2 h2
  have H2 := Lib.hid h2
  clear h2
  go_wp2_with fail
  refine (c3).calls H2.out ?_
  intro w3 h3
  have H3 := Lib.hid h3
  clear h3
  go_wp2_with fail
  refine (c4).calls H3.out ?_
  intro w4 h4
  have H4 := Lib.hid h4
  clear h4
  go_wp2_with fail
  refine (c5).calls H4.out ?_
  intro w5 h5
  have H5 := Lib.hid h5
  clear h5
  go_wp2_with fail
  go_ret
  exact ⟨rfl, H5.out⟩
end Eql
end Go.Proofs.Ytldipjlepofdgaa
